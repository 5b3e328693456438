import Derived.Test.YtmnohmhhmaeljaaDoorComp
import Derived.Test.YtmnohmhhmaeljaaDoorPkM
import Derived.Test.YtmnohmhhmaeljaaDoorPkK
import Derived.Test.YtmnohmhhmaeljaaDoorWords
import Derived.Test.YtmnohmhhmaeljaaDoorMix
import Derived.Test.YtmnohmhhmaeljaaDoorLowB
section
/-
  The document's rows of the order (layer 2).
-/
namespace Go.Proofs.YtmnohmhhmaeljaaDoor
open Go.ChangeShapes Go.WideShapes Go.ChangeAt Go.RowKit Go.Deep

def allocs (w : World) (l : List Obj) : World := l.foldl World.alloc w
theorem allocs_ext : ∀ (l : List Obj) (w : World), Ext w (allocs w l)
  | [], w => Ext.refl w
  | o :: l, w => ((Ext.refl w).alloc o).trans (allocs_ext l (w.alloc o))
theorem allocs_at : ∀ (l : List Obj) (w : World) (j : Nat) (o : Obj), l[j]? = some o → (allocs w l).heap[w.heap.size + j]? = some o
  | [], w, j, o, h => by simp at h
  | p :: l, w, 0, o, h => by
    simp at h
    subst h
    exact ((allocs_ext l (w.alloc p)).block w.heap.size (by rw [size_alloc]; omega)).trans (heap_alloc_new w p)
  | p :: l, w, j + 1, o, h => by
    have := allocs_at l (w.alloc p) j o (by simpa using h)
    rw [size_alloc] at this
    rw [show w.heap.size + (j + 1) = w.heap.size + 1 + j by omega]
    exact this
def rowI (k : Nat) : Array Value := ((List.range 16).map fun j => Value.int .i64 (pm k j : Int)).toArray
def rowsI (s : Nat) : Array Value := ((List.range 10).map fun k => Value.slice (some ⟨s + k, 0, none⟩) 16 16).toArray
/-- The order's rows, in blocks from s on, and the block that lists them. -/
def Rws (w : World) (s : Nat) : Prop := s + 10 < w.heap.size ∧ ∀ k, k < 10 → w.cell? ⟨s + 10, k, none⟩ = some (.slice (some ⟨s + k, 0, none⟩) 16 16) ∧ ∀ j, j < 16 → w.cell? ⟨s + k, j, none⟩ = some (.int .i64 (pm k j : Int))
def rowsO (s : Nat) : List Obj := ((List.range 10).map fun k => Obj.cells (rowI k) 3) ++ [Obj.cells (rowsI s) 215]
theorem rows_of (w : World) : Rws (allocs w (rowsO w.heap.size)) w.heap.size := by
  have hl : ∀ k, k < 10 → (rowsO w.heap.size)[k]? = some (Obj.cells (rowI k) 3) := fun k hk => by
    unfold rowsO
    rw [List.getElem?_append_left (by simp; omega)]
    simp [hk]
  have h10 : (rowsO w.heap.size)[10]? = some (Obj.cells (rowsI w.heap.size) 215) := by
    unfold rowsO
    rw [List.getElem?_append_right (by simp)]
    simp
  have hb := allocs_at _ w 10 _ h10
  refine ⟨heap_lt hb, fun k hk => ⟨?_, fun j hj => ?_⟩⟩
  · rw [cell_of_row _ _ _ _ _ (0, 0) hb]
    simp [rowsI, hk]
  · rw [cell_of_row _ _ _ _ _ (0, 0) (allocs_at _ w k _ (hl k hk))]
    simp [rowI, hj]
theorem Rws.ext {w w' : World} {s : Nat} (h : Rws w s) (e : Ext w w') : Rws w' s :=
  ⟨Nat.lt_of_lt_of_le h.1 e.size, fun k hk => ⟨(e.cell (p := ⟨s + 10, k, none⟩) h.1).trans (h.2 k hk).1, fun j hj => (e.cell (p := ⟨s + k, j, none⟩) (show s + k < _ by have := h.1; omega)).trans ((h.2 k hk).2 j hj)⟩⟩

set_option maxRecDepth 100000 in
set_option maxHeartbeats 1000000 in
theorem refRows_calls {w : World} :
    Calls Tryd.prog 141 #[] w fun e w' => ∃ s, e = .returned (.slice (some ⟨s + 10, 0, none⟩) 10 10) ∧ w.heap.size ≤ s ∧ Rws w' s ∧ Ext w w' := by
  go_enter Tryd.func141, Tryd.ntmps141
  go_wp2_with fail
  go_ret
  exact ⟨w.heap.size, rfl, Nat.le_refl _, rows_of w, allocs_ext (rowsO w.heap.size) w⟩
end Go.Proofs.YtmnohmhhmaeljaaDoor
end

section
/-
  The document's TURN.
-/
namespace Go.Proofs.YtmnohmhhmaeljaaDoor
open Go.ChangeShapes Go.WideShapes Go.ChangeAt Go.RowKit Go.Deep

set_option maxHeartbeats 1000000 in
theorem refTurn_calls {n x : Nat} {w : World} (hx : x < 4294967296) (h1 : 1 ≤ n) (h2 : n ≤ 31) :
    Calls Tryd.prog 143 #[.int .u32 (x : Int), .int .i64 (n : Int)] w fun e w' => e = .returned (.int .u32 (rotr n x : Int)) ∧ ∃ k, w' = w.drewN k := by
  have hs : ∃ s : Nat, 32 - n = s ∧ s ≤ 31 ∧ n = 32 - s ∧ 1 ≤ s := ⟨32 - n, rfl, by omega, by omega, by omega⟩
  obtain ⟨s, e1, e2, e3, e4⟩ := hs
  have hf := Lib.hid (rotr_int (n := n) (by omega) hx)
  rw [e1] at hf
  have hd : IntKind.i64.wrap (32 - (n : Int)) = (s : Int) := by rw [IntWalk.i64_in _ (by omega)]; omega
  have hor : ∀ a b, a < 4294967296 → b < 4294967296 → bits .or .u32 ((b : Nat) : Int) ((a : Nat) : Int) = bits .or .u32 ((a : Nat) : Int) ((b : Nat) : Int) := fun a b ha hb => by
    rw [u32_or_nat _ _ hb ha, u32_or_nat _ _ ha hb, Nat.or_comm]
  have HO := Lib.hid hor
  clear hor
  have q1 : Op.shift .shr .u32 (x : Int) .i64 (n : Int) = pure (.int .u32 ((x : Int) / 2 ^ n)) := by
    have := shift_shr .u32 .i64 (x : Int) (n : Int) (by omega) (by show (n : Int) ≤ 32; omega)
    rw [this]
    simp
  have q2 : Op.shift .shl .u32 (x : Int) .i64 (s : Int) = pure (.int .u32 ((x : Int) * 2 ^ s % 4294967296)) := by
    have := shift_shl .u32 .i64 (x : Int) (s : Int) (by omega) (by show (s : Int) ≤ 32; omega)
    rw [this, IntKind.wrap_u32]
    simp
  clear e1 e3
  go_enter Tryd.func143, Tryd.ntmps143
  go_wp2_with fail
  refine qgE [0, 1, 2, 3, 4, 5, 6, 7, 8] [] ?_
  repeat ((first | refine qR0 ?_ | refine qS ?_); go_frame)
  refine seq_done ?_
  go_wp2_with fail
  go_ret
  refine ⟨congrArg (fun v => Ending.returned (Value.int .u32 v)) (Eq.trans ?_ hf.out), 1, rfl⟩
  have p1 : (x : Int) / 2 ^ n = ((x / 2 ^ n : Nat) : Int) := by simp
  have p2 : (x : Int) * 2 ^ s % 4294967296 = ((x * 2 ^ s % 4294967296 : Nat) : Int) := by simp
  rw [p1, p2]
  exact HO.out (x * 2 ^ s % 4294967296) (x / 2 ^ n) (Nat.mod_lt _ (by decide)) (Nat.lt_of_le_of_lt (Nat.div_le_self _ _) hx)
end Go.Proofs.YtmnohmhhmaeljaaDoor
end

section
/-
  The document's MIX.
-/
namespace Go.Proofs.YtmnohmhhmaeljaaDoor
open Go.ChangeShapes Go.WideShapes Go.ChangeAt Go.RowKit Go.Deep

theorem putAdd_left (vs : List Nat) (a b x : Nat) : putAdd vs a b x = vs.set a (add32 (add32 (wd vs a) (wd vs b)) x) := by
  unfold putAdd add32
  congr 1
  omega

set_option maxRecDepth 100000 in
set_option maxHeartbeats 4000000 in
theorem refMix_calls {cap g a b c d x y : Nat} {vs : List Nat} {w : World} (h : Arr w g vs) (hl : vs.length = 16) (ha : a < 16) (hb : b < 16) (hc : c < 16) (hd : d < 16) (hx : x < 4294967296) (hy : y < 4294967296) :
    Calls Tryd.prog 142 #[.slice (some ⟨g, 0, none⟩) 16 cap, .int .i64 (a : Int), .int .i64 (b : Int), .int .i64 (c : Int), .int .i64 (d : Int), .int .u32 (x : Int), .int .u32 (y : Int)] w
      fun e w' => e = .returned (.tuple #[]) ∧ Arr w' g (mixL vs a b c d x y) ∧ w.grownBy w' (some g) := by
  have ha' : (a : Int) < 16 := by omega
  have hb' : (b : Int) < 16 := by omega
  have hc' : (c : Int) < 16 := by omega
  have hd' : (d : Int) < 16 := by omega
  go_enter Tryd.func142, Tryd.ntmps142
  go_wp2_with fail
  refine wp_gen (fun w1 => Arr w1 g vs ∧ w.grownBy w1 (some g)) ⟨h, gr_ext (Ext.refl _) _⟩ ?_
  rintro w0 ⟨A0, G0⟩
  have L0 := hl
  clear h
  obtain ⟨cp, fp, lp⟩ := A0.fct (i := a) (by omega)
  obtain ⟨cq, fq, lq⟩ := A0.fct (i := b) (by omega)
  have KEEP : Hid (∀ w', Ext w0 w' → w'.cell? ⟨g, a, none⟩ = some (.int .u32 (wd vs a : Int)) ∧ w'.cell? ⟨g, b, none⟩ = some (.int .u32 (wd vs b : Int))) := fun w' e => ⟨((A0.ext e).fct (by omega)).1, ((A0.ext e).fct (by omega)).1⟩
  have u1 : IntKind.u32.wrap ((wd vs a : Int) + (wd vs b : Int)) = (add32 (wd vs a) (wd vs b) : Int) := u32_add
  have u2 : IntKind.u32.wrap ((add32 (wd vs a) (wd vs b) : Int) + (x : Int)) = (add32 (add32 (wd vs a) (wd vs b)) x : Int) := u32_add
  refine qgZE 14 [0, 1, 2, 3, 4, 5, 6, 7, 8, 9, 10, 11, 12, 13, 14] [14] ?_
  repeat (refine qzR _ (fun w' e => KEEP.out w' ((Ext.refl _).drew.trans e)) ?_; go_frame)
  refine qzD fun K1 hK1 => ?_
  go_simp
  refine hK1.out _ _ (.inl rfl) ?_
  clear hK1 K1
  refine seqZ_done ?_
  go_wp2_with fail
  refine wp_gen (fun w1 => Arr w1 g (putAdd vs a b x) ∧ w.grownBy w1 (some g)) ⟨putAdd_left vs a b x ▸ (A0.set (by omega) (add32_lt _ _)).ext (Ext.refl _).drew, grown_set G0⟩ ?_
  rintro w1 ⟨A1, G1⟩
  have L1 : (putAdd vs a b x).length = 16 := (putAdd_len ..).trans L0
  clear A0 G0 L0 cp fp lp cq fq lq KEEP u1 u2
  generalize HV0 : putAdd vs a b x = v1 at A1 L1
  replace HV0 := Lib.hid HV0
  obtain ⟨cp, fp, lp⟩ := A1.fct (i := d) (by omega)
  obtain ⟨cq, fq, lq⟩ := A1.fct (i := a) (by omega)
  have KEEP : Hid (∀ w', Ext w1 w' → w'.cell? ⟨g, d, none⟩ = some (.int .u32 (wd v1 d : Int)) ∧ w'.cell? ⟨g, a, none⟩ = some (.int .u32 (wd v1 a : Int))) := fun w' e => ⟨((A1.ext e).fct (by omega)).1, ((A1.ext e).fct (by omega)).1⟩
  have u1 : bits .xor .u32 (wd v1 d : Int) (wd v1 a : Int) = ((wd v1 d ^^^ wd v1 a : Nat) : Int) := u32_xor_nat _ _ lp lq
  have HR := Lib.hid (fun w0 : World => @refTurn_calls 16 (wd v1 d ^^^ wd v1 a) w0 (xor_lt32 lp lq) (by omega) (by omega))
  refine qgZE 13 [0, 1, 2, 3, 4, 5, 6, 7, 8, 9, 10, 11, 12, 13] [11, 13] ?_
  repeat (refine qzR _ (fun w' e => KEEP.out w' ((Ext.refl _).drew.trans e)) ?_; go_frame)
  refine qzD fun K1 hK1 => ?_
  go_simp
  refine (HR.out _).mono ?_
  rintro e w1 ⟨rfl, k1, rfl⟩
  refine hK1.out _ _ (.inr ((Ext.refl _).drewN k1)) ?_
  clear hK1 K1
  try go_frame
  repeat (refine qzR _ (fun w' e => KEEP.out w' (((Ext.refl _).drew.drewN k1).trans e)) ?_; go_frame)
  refine qzD fun K1 hK1 => ?_
  go_simp
  refine hK1.out _ _ (.inl rfl) ?_
  clear hK1 K1
  refine seqZ_done ?_
  go_wp2_with fail
  refine wp_gen (fun w1 => Arr w1 g (putRot 16 v1 d a) ∧ w.grownBy w1 (some g)) ⟨(A1.ext ((Ext.refl _).drewN (1 + k1))).set (by omega) (rotr_lt (xor_lt32 lp lq)), gr_set (gr_trans G1 (gr_ext ((Ext.refl _).drewN (1 + k1)) _)) _ _⟩ ?_
  rintro w2 ⟨A2, G2⟩
  have L2 : (putRot 16 v1 d a).length = 16 := (putRot_len ..).trans L1
  clear A1 G1 L1 cp fp lp cq fq lq KEEP u1 HR
  generalize HV1 : putRot 16 v1 d a = v2 at A2 L2
  replace HV1 := Lib.hid HV1
  obtain ⟨cp, fp, lp⟩ := A2.fct (i := c) (by omega)
  obtain ⟨cq, fq, lq⟩ := A2.fct (i := d) (by omega)
  have KEEP : Hid (∀ w', Ext w2 w' → w'.cell? ⟨g, c, none⟩ = some (.int .u32 (wd v2 c : Int)) ∧ w'.cell? ⟨g, d, none⟩ = some (.int .u32 (wd v2 d : Int))) := fun w' e => ⟨((A2.ext e).fct (by omega)).1, ((A2.ext e).fct (by omega)).1⟩
  have u1 : IntKind.u32.wrap ((wd v2 c : Int) + (wd v2 d : Int)) = (add32 (wd v2 c) (wd v2 d) : Int) := u32_add
  refine qgZE 12 [0, 1, 2, 3, 4, 5, 6, 7, 8, 9, 10, 11, 12] [12] ?_
  repeat (refine qzR _ (fun w' e => KEEP.out w' ((Ext.refl _).drew.trans e)) ?_; go_frame)
  refine qzD fun K1 hK1 => ?_
  go_simp
  refine hK1.out _ _ (.inl rfl) ?_
  clear hK1 K1
  refine seqZ_done ?_
  go_wp2_with fail
  refine wp_gen (fun w1 => Arr w1 g (putSum v2 c d) ∧ w.grownBy w1 (some g)) ⟨(A2.set (by omega) (add32_lt _ _)).ext (Ext.refl _).drew, grown_set G2⟩ ?_
  rintro w3 ⟨A3, G3⟩
  have L3 : (putSum v2 c d).length = 16 := (putSum_len ..).trans L2
  clear A2 G2 L2 cp fp lp cq fq lq KEEP u1
  generalize HV2 : putSum v2 c d = v3 at A3 L3
  replace HV2 := Lib.hid HV2
  obtain ⟨cp, fp, lp⟩ := A3.fct (i := b) (by omega)
  obtain ⟨cq, fq, lq⟩ := A3.fct (i := c) (by omega)
  have KEEP : Hid (∀ w', Ext w3 w' → w'.cell? ⟨g, b, none⟩ = some (.int .u32 (wd v3 b : Int)) ∧ w'.cell? ⟨g, c, none⟩ = some (.int .u32 (wd v3 c : Int))) := fun w' e => ⟨((A3.ext e).fct (by omega)).1, ((A3.ext e).fct (by omega)).1⟩
  have u1 : bits .xor .u32 (wd v3 b : Int) (wd v3 c : Int) = ((wd v3 b ^^^ wd v3 c : Nat) : Int) := u32_xor_nat _ _ lp lq
  have HR := Lib.hid (fun w0 : World => @refTurn_calls 12 (wd v3 b ^^^ wd v3 c) w0 (xor_lt32 lp lq) (by omega) (by omega))
  refine qgZE 13 [0, 1, 2, 3, 4, 5, 6, 7, 8, 9, 10, 11, 12, 13] [11, 13] ?_
  repeat (refine qzR _ (fun w' e => KEEP.out w' ((Ext.refl _).drew.trans e)) ?_; go_frame)
  refine qzD fun K1 hK1 => ?_
  go_simp
  refine (HR.out _).mono ?_
  rintro e w1 ⟨rfl, k1, rfl⟩
  refine hK1.out _ _ (.inr ((Ext.refl _).drewN k1)) ?_
  clear hK1 K1
  try go_frame
  repeat (refine qzR _ (fun w' e => KEEP.out w' (((Ext.refl _).drew.drewN k1).trans e)) ?_; go_frame)
  refine qzD fun K1 hK1 => ?_
  go_simp
  refine hK1.out _ _ (.inl rfl) ?_
  clear hK1 K1
  refine seqZ_done ?_
  go_wp2_with fail
  refine wp_gen (fun w1 => Arr w1 g (putRot 12 v3 b c) ∧ w.grownBy w1 (some g)) ⟨(A3.ext ((Ext.refl _).drewN (1 + k1))).set (by omega) (rotr_lt (xor_lt32 lp lq)), gr_set (gr_trans G3 (gr_ext ((Ext.refl _).drewN (1 + k1)) _)) _ _⟩ ?_
  rintro w4 ⟨A4, G4⟩
  have L4 : (putRot 12 v3 b c).length = 16 := (putRot_len ..).trans L3
  clear A3 G3 L3 cp fp lp cq fq lq KEEP u1 HR
  generalize HV3 : putRot 12 v3 b c = v4 at A4 L4
  replace HV3 := Lib.hid HV3
  obtain ⟨cp, fp, lp⟩ := A4.fct (i := a) (by omega)
  obtain ⟨cq, fq, lq⟩ := A4.fct (i := b) (by omega)
  have KEEP : Hid (∀ w', Ext w4 w' → w'.cell? ⟨g, a, none⟩ = some (.int .u32 (wd v4 a : Int)) ∧ w'.cell? ⟨g, b, none⟩ = some (.int .u32 (wd v4 b : Int))) := fun w' e => ⟨((A4.ext e).fct (by omega)).1, ((A4.ext e).fct (by omega)).1⟩
  have u1 : IntKind.u32.wrap ((wd v4 a : Int) + (wd v4 b : Int)) = (add32 (wd v4 a) (wd v4 b) : Int) := u32_add
  have u2 : IntKind.u32.wrap ((add32 (wd v4 a) (wd v4 b) : Int) + (y : Int)) = (add32 (add32 (wd v4 a) (wd v4 b)) y : Int) := u32_add
  refine qgZE 14 [0, 1, 2, 3, 4, 5, 6, 7, 8, 9, 10, 11, 12, 13, 14] [14] ?_
  repeat (refine qzR _ (fun w' e => KEEP.out w' ((Ext.refl _).drew.trans e)) ?_; go_frame)
  refine qzD fun K1 hK1 => ?_
  go_simp
  refine hK1.out _ _ (.inl rfl) ?_
  clear hK1 K1
  refine seqZ_done ?_
  go_wp2_with fail
  refine wp_gen (fun w1 => Arr w1 g (putAdd v4 a b y) ∧ w.grownBy w1 (some g)) ⟨putAdd_left v4 a b y ▸ (A4.set (by omega) (add32_lt _ _)).ext (Ext.refl _).drew, grown_set G4⟩ ?_
  rintro w5 ⟨A5, G5⟩
  have L5 : (putAdd v4 a b y).length = 16 := (putAdd_len ..).trans L4
  clear A4 G4 L4 cp fp lp cq fq lq KEEP u1 u2
  generalize HV4 : putAdd v4 a b y = v5 at A5 L5
  replace HV4 := Lib.hid HV4
  obtain ⟨cp, fp, lp⟩ := A5.fct (i := d) (by omega)
  obtain ⟨cq, fq, lq⟩ := A5.fct (i := a) (by omega)
  have KEEP : Hid (∀ w', Ext w5 w' → w'.cell? ⟨g, d, none⟩ = some (.int .u32 (wd v5 d : Int)) ∧ w'.cell? ⟨g, a, none⟩ = some (.int .u32 (wd v5 a : Int))) := fun w' e => ⟨((A5.ext e).fct (by omega)).1, ((A5.ext e).fct (by omega)).1⟩
  have u1 : bits .xor .u32 (wd v5 d : Int) (wd v5 a : Int) = ((wd v5 d ^^^ wd v5 a : Nat) : Int) := u32_xor_nat _ _ lp lq
  have HR := Lib.hid (fun w0 : World => @refTurn_calls 8 (wd v5 d ^^^ wd v5 a) w0 (xor_lt32 lp lq) (by omega) (by omega))
  refine qgZE 13 [0, 1, 2, 3, 4, 5, 6, 7, 8, 9, 10, 11, 12, 13] [11, 13] ?_
  repeat (refine qzR _ (fun w' e => KEEP.out w' ((Ext.refl _).drew.trans e)) ?_; go_frame)
  refine qzD fun K1 hK1 => ?_
  go_simp
  refine (HR.out _).mono ?_
  rintro e w1 ⟨rfl, k1, rfl⟩
  refine hK1.out _ _ (.inr ((Ext.refl _).drewN k1)) ?_
  clear hK1 K1
  try go_frame
  repeat (refine qzR _ (fun w' e => KEEP.out w' (((Ext.refl _).drew.drewN k1).trans e)) ?_; go_frame)
  refine qzD fun K1 hK1 => ?_
  go_simp
  refine hK1.out _ _ (.inl rfl) ?_
  clear hK1 K1
  refine seqZ_done ?_
  go_wp2_with fail
  refine wp_gen (fun w1 => Arr w1 g (putRot 8 v5 d a) ∧ w.grownBy w1 (some g)) ⟨(A5.ext ((Ext.refl _).drewN (1 + k1))).set (by omega) (rotr_lt (xor_lt32 lp lq)), gr_set (gr_trans G5 (gr_ext ((Ext.refl _).drewN (1 + k1)) _)) _ _⟩ ?_
  rintro w6 ⟨A6, G6⟩
  have L6 : (putRot 8 v5 d a).length = 16 := (putRot_len ..).trans L5
  clear A5 G5 L5 cp fp lp cq fq lq KEEP u1 HR
  generalize HV5 : putRot 8 v5 d a = v6 at A6 L6
  replace HV5 := Lib.hid HV5
  obtain ⟨cp, fp, lp⟩ := A6.fct (i := c) (by omega)
  obtain ⟨cq, fq, lq⟩ := A6.fct (i := d) (by omega)
  have KEEP : Hid (∀ w', Ext w6 w' → w'.cell? ⟨g, c, none⟩ = some (.int .u32 (wd v6 c : Int)) ∧ w'.cell? ⟨g, d, none⟩ = some (.int .u32 (wd v6 d : Int))) := fun w' e => ⟨((A6.ext e).fct (by omega)).1, ((A6.ext e).fct (by omega)).1⟩
  have u1 : IntKind.u32.wrap ((wd v6 c : Int) + (wd v6 d : Int)) = (add32 (wd v6 c) (wd v6 d) : Int) := u32_add
  refine qgZE 12 [0, 1, 2, 3, 4, 5, 6, 7, 8, 9, 10, 11, 12] [12] ?_
  repeat (refine qzR _ (fun w' e => KEEP.out w' ((Ext.refl _).drew.trans e)) ?_; go_frame)
  refine qzD fun K1 hK1 => ?_
  go_simp
  refine hK1.out _ _ (.inl rfl) ?_
  clear hK1 K1
  refine seqZ_done ?_
  go_wp2_with fail
  refine wp_gen (fun w1 => Arr w1 g (putSum v6 c d) ∧ w.grownBy w1 (some g)) ⟨(A6.set (by omega) (add32_lt _ _)).ext (Ext.refl _).drew, grown_set G6⟩ ?_
  rintro w7 ⟨A7, G7⟩
  have L7 : (putSum v6 c d).length = 16 := (putSum_len ..).trans L6
  clear A6 G6 L6 cp fp lp cq fq lq KEEP u1
  generalize HV6 : putSum v6 c d = v7 at A7 L7
  replace HV6 := Lib.hid HV6
  obtain ⟨cp, fp, lp⟩ := A7.fct (i := b) (by omega)
  obtain ⟨cq, fq, lq⟩ := A7.fct (i := c) (by omega)
  have KEEP : Hid (∀ w', Ext w7 w' → w'.cell? ⟨g, b, none⟩ = some (.int .u32 (wd v7 b : Int)) ∧ w'.cell? ⟨g, c, none⟩ = some (.int .u32 (wd v7 c : Int))) := fun w' e => ⟨((A7.ext e).fct (by omega)).1, ((A7.ext e).fct (by omega)).1⟩
  have u1 : bits .xor .u32 (wd v7 b : Int) (wd v7 c : Int) = ((wd v7 b ^^^ wd v7 c : Nat) : Int) := u32_xor_nat _ _ lp lq
  have HR := Lib.hid (fun w0 : World => @refTurn_calls 7 (wd v7 b ^^^ wd v7 c) w0 (xor_lt32 lp lq) (by omega) (by omega))
  refine qgZE 13 [0, 1, 2, 3, 4, 5, 6, 7, 8, 9, 10, 11, 12, 13] [11, 13] ?_
  repeat (refine qzR _ (fun w' e => KEEP.out w' ((Ext.refl _).drew.trans e)) ?_; go_frame)
  refine qzD fun K1 hK1 => ?_
  go_simp
  refine (HR.out _).mono ?_
  rintro e w1 ⟨rfl, k1, rfl⟩
  refine hK1.out _ _ (.inr ((Ext.refl _).drewN k1)) ?_
  clear hK1 K1
  try go_frame
  repeat (refine qzR _ (fun w' e => KEEP.out w' (((Ext.refl _).drew.drewN k1).trans e)) ?_; go_frame)
  refine qzD fun K1 hK1 => ?_
  go_simp
  refine hK1.out _ _ (.inl rfl) ?_
  clear hK1 K1
  refine seqZ_done ?_
  go_wp2_with fail
  have HM : mixL vs a b c d x y = putRot 7 v7 b c := by
    unfold mixL
    rw [HV0.out, HV1.out, HV2.out, HV3.out, HV4.out, HV5.out, HV6.out]
  rw [HM]
  go_end0
  exact ⟨rfl, (A7.ext ((Ext.refl _).drewN (1 + k1))).set (by omega) (rotr_lt (xor_lt32 lp lq)), gr_set (gr_trans G7 (gr_ext ((Ext.refl _).drewN (1 + k1)) _)) _ _⟩
end Go.Proofs.YtmnohmhhmaeljaaDoor
end

section
/-
  The document's I: the first words.
-/
namespace Go.Proofs.YtmnohmhhmaeljaaDoor
open Go.ChangeShapes Go.WideShapes Go.ChangeAt Go.RowKit Go.Deep

set_option maxHeartbeats 1000000 in
theorem refFirst_calls {w : World} :
    Calls Tryd.prog 134 #[] w fun e w' => e = .returned (.slice (some ⟨w.heap.size, 0, none⟩) 8 8) ∧ Wr w' w.heap.size 169 initL ∧ Ext w w' := by
  go_enter Tryd.func134, Tryd.ntmps134
  go_wp2_with fail
  go_ret
  exact ⟨rfl, heap_alloc_new _ _, (Ext.refl _).alloc _⟩
end Go.Proofs.YtmnohmhhmaeljaaDoor
end

section
/-
  append on a row of the call's own, elements of one cell.
-/
namespace Go.Proofs.YtmnohmhhmaeljaaDoor
open Go.ChangeShapes Go.WideShapes Go.ChangeAt Go.RowKit Go.Deep

/-- 'append(v, s...)' on a row of the call's own, elements of one cell, the source nil or not. -/
theorem append_any {P : Program} {w : World} {B : Nat} {t e : TypeId} {z : Value} {bytes : Nat} (ht : P.underlying t = some (.slice e)) (hinfo : (P.info? e).map (fun i => (i.zero, i.size, i.bytes)) = some (some z, 1, bytes)) (hzs : z.cells.size = 1)
    {A A' : Option Addr} {n c m c' : Nat} {xs news : List Value} (ty : TypeId) (h : w.ownsRow B e 1 (.slice A n c) n xs) (hl : news.length = m) (hsrc : 0 < m → ∃ ad, A' = some ad ∧ ∀ j u, news[j]? = some u → w.cell? (ad.add j) = some u)
    (h1 : ∀ u ∈ news, u.oneCell' = true) (hm : (n + m) * bytes ≤ 140737488355328) (hn : n + m ≤ 140737488355328) (hB : B ≤ w.heap.size) :
    ∃ A'' c'' w', (Builtin.append_ #[t, t] ty #[.slice A n c, .slice A' m c']).run P w = .ok (.slice A'' (n + m) c'') w' ∧ w'.ownsRow B e 1 (.slice A'' (n + m) c'') (n + m) (xs ++ news) ∧ w.grownBy w' (Value.ownBlock (.slice A n c)) ∧
      (Value.ownBlock (.slice A'' (n + m) c'') = Value.ownBlock (.slice A n c) ∨ Value.ownBlock (.slice A'' (n + m) c'') = some w.heap.size) := by
  obtain ⟨i, hi, hz0, hz1, hz2⟩ := info_parts hinfo
  rcases A' with _ | a
  · have hm0 : m = 0 := by
      rcases Nat.eq_zero_or_pos m with h0 | h0
      · exact h0
      · obtain ⟨ad, e, _⟩ := hsrc h0
        cases e
    subst hm0
    have hy := List.eq_nil_of_length_eq_zero hl
    subst hy
    refine ⟨A, c, w, ?_, by simpa using h, ⟨rfl, rfl, rfl, Nat.le_refl _, fun _ _ _ => rfl⟩, .inl rfl⟩
    rcases h.2 with ⟨hv, hn⟩ | ⟨g, cap, cur, hv, _, _, hnc, _⟩
    · rw [hv]
      subst hn
      injection hv with q1 _ q3
      subst q1 q3
      simp [Builtin.append_, run_underlying ht, sizeOf, typeInfo, hi, Builtin.lenOf, Builtin.firstCells]
    · rw [hv]
      injection hv with q1 _ q3
      subst q1 q3
      simp [Builtin.append_, run_underlying ht, sizeOf, typeInfo, hi, Builtin.lenOf, Builtin.firstCells, hnc, storeCells]
  · have hsrc' : ∀ j u, news[j]? = some u → w.cell? (a.add j) = some u := fun j u hu => by
      have hj : j < news.length := (List.getElem?_eq_some_iff.1 hu).1
      obtain ⟨ad, e, hc⟩ := hsrc (by omega)
      injection e with e
      subst e
      exact hc j u hu
    obtain ⟨v', w', hrun, ho, hg, _, hown⟩ := run_append_own_at (P := P) w B t ty e i z 1 bytes ht hi hz0 hz1 hz2 hzs (by decide) (.slice A n c) n xs h a m c' news (by rw [hl, Nat.mul_one]) hsrc' h1 (by unfold maxLen; omega) hm hB
    rcases ho.2 with ⟨hv, hn0⟩ | ⟨g, cap, cur, hv, _⟩
    · subst hv
      refine ⟨none, 0, w', by rw [hrun, hn0], by rw [hn0] at ho ⊢; exact ho, hg, ?_⟩
      rcases hown with q | q
      · exact .inl q
      · exact .inr q
    · subst hv
      exact ⟨_, _, w', hrun, ho, hg, hown⟩
end Go.Proofs.YtmnohmhhmaeljaaDoor
end

section
/-
  A row of words of the call's own that is appended to.
-/
namespace Go.Proofs.YtmnohmhhmaeljaaDoor
open Go.ChangeShapes Go.WideShapes Go.ChangeAt Go.RowKit Go.Deep

theorem info32 : (Tryd.prog.info? 169).map (fun i => (i.zero, i.size, i.bytes)) = some (some (.int .u32 0), 1, 4) := by kernel_rfl
/-- The slice '.slice A n c' reads as the words vs (each cell; nil let in). -/
def Ws (w : World) (A : Option Addr) (n : Nat) (vs : List Nat) : Prop := vs.length = n ∧ (0 < n → ∃ b off, A = some ⟨b, off, none⟩ ∧ b < w.heap.size ∧ ∀ j, j < n → w.cell? ⟨b, off + j, none⟩ = some (.int .u32 (wd vs j : Int)))
theorem Ws.ext {w w' : World} {A : Option Addr} {n : Nat} {vs : List Nat} (h : Ws w A n vs) (e : Ext w w') : Ws w' A n vs := ⟨h.1, fun h0 => by
  obtain ⟨b, off, q, hb, hc⟩ := h.2 h0
  exact ⟨b, off, q, Nat.lt_of_lt_of_le hb e.size, fun j hj => (e.cell hb).trans (hc j hj)⟩⟩
/-- The slice is the call's own row of words. -/
def OwnW (B : Nat) (w : World) (A : Option Addr) (n c : Nat) (vs : List Nat) : Prop := w.ownsRow B 169 1 (.slice A n c) n (wcells vs)
section
variable {w w' : World} {B : Nat} {A : Option Addr} {n c : Nat} {vs : List Nat}
theorem OwnW.nil (B : Nat) (w : World) : OwnW B w none 0 0 [] := World.ownsRow_nil w B _ 1
theorem OwnW.empty (w : World) (B : Nat) (hB : B ≤ w.heap.size) : OwnW B (w.alloc (.cells #[] 169)) (some ⟨w.heap.size, 0, none⟩) 0 0 [] := World.ownsRow_lit (e := 169) (size := 1) w #[] 0 hB (Nat.zero_le _) rfl
theorem OwnW.len (h : OwnW B w A n c vs) : vs.length = n := by simpa [wcells] using h.1
theorem OwnW.ge (h : OwnW B w A n c vs) : ∀ g, Value.ownBlock (.slice A n c) = some g → B ≤ g := fun g hg => (World.ownsRow.lt h g hg).1
theorem OwnW.ext (h : OwnW B w A n c vs) (he : Ext w w') : OwnW B w' A n c vs := by
  refine ⟨h.1, ?_⟩
  rcases h.2 with h | ⟨g, cap, cur, hv, hb, hg, r⟩
  · exact .inl h
  · exact .inr ⟨g, cap, cur, hv, hb, (he.block g (heap_lt hg)).trans hg, r⟩
theorem OwnW.ws (h : OwnW B w A n c vs) : Ws w A n vs := by
  have hl := h.len
  refine ⟨hl, fun h0 => ?_⟩
  rcases h.2 with ⟨hv, hn⟩ | ⟨g, cap, cur, hv, hb, hg, hnc, hcm, hcs, htk⟩
  · omega
  · injection hv with h1 h2 h3
    subst h1 h3
    refine ⟨g, 0, rfl, heap_lt hg, fun j hj => ?_⟩
    rw [Nat.zero_add]
    have e : (wcells vs)[j]? = cur[j]? := by
      rw [← htk, List.getElem?_take, if_pos (by omega), Array.getElem?_toList]
    have e2 : (wcells vs)[j]? = some (.int .u32 (wd vs j : Int)) := by simp [wcells, wd, List.getD, show j < vs.length by omega]
    rw [e2] at e
    simp [World.cell?, hg, ← e]
end
theorem wp_append_ws {w : World} {o : Oper} {a : Act} {K : Act → World → Prop} {Q : Exit → Act → World → Prop} {B : Nat} {A A' : Option Addr} {n c m c' : Nat} {us vs : List Nat} {s x : Operand}
    (ho : o.op = .call { callee := .builtin .append, args := #[s, x], argTypes := #[197, 197] }) (hs : a.eval s = .slice A n c) (hx : a.eval x = .slice A' m c')
    (h : OwnW B w A n c us) (hr : Ws w A' m vs) (hm : n + m ≤ 1000000) (hB : B ≤ w.heap.size)
    (hK : ∀ A'' c'' w', OwnW B w' A'' (n + m) c'' (us ++ vs) → w.grownBy w' (Value.ownBlock (.slice A n c)) → Below B w w' → K (a.put o.dst (.slice A'' (n + m) c'')) w') : o.wp Tryd.prog a w K Q := by
  obtain ⟨A'', c'', w', hrun, h2, h3, h4⟩ := append_any (c' := c') Tryd.underlying197 info32 rfl o.type h (news := wcells vs) (m := m) (A' := A') (by rw [← hr.1]; simp [wcells]) (fun h0 => by
    obtain ⟨b, off, q, hb, hc⟩ := hr.2 h0
    refine ⟨⟨b, off, none⟩, q, fun j u hu => ?_⟩
    have hj : j < vs.length := by
      have := (List.getElem?_eq_some_iff.1 hu).1
      simpa [wcells] using this
    have e2 : (wcells vs)[j]? = some (.int .u32 (wd vs j : Int)) := by simp [wcells, wd, List.getD, hj]
    have hplain : (⟨b, off, none⟩ : Addr).add j = ⟨b, off + j, none⟩ := by unfold Addr.add; split <;> simp_all
    rw [hplain, hc j (by rw [← hr.1]; exact hj), ← e2, hu]) (fun u hu => by
    obtain ⟨x, _, rfl⟩ := List.mem_map.1 hu
    rfl) (by omega) (by omega) hB
  unfold Oper.wp execOp
  simp only [ho, resolve, invoke, builtin, Sem.run_bind, Sem.run_pure, Result.andThen_ok, List.map_toArray, List.map_cons, List.map_nil, hs, hx, hrun]
  refine hK A'' c'' w' ?_ h3 ((Below.refl B w).grown h3 hB h.ge)
  unfold OwnW
  have : wcells (us ++ vs) = wcells us ++ wcells vs := by simp [wcells]
  rw [this]
  exact h2
theorem wpList_append_ws {w : World} {ops : Array Oper} {rest : List Oper} {o : Oper} {a : Act} {Q : Exit → Act → World → Prop} (hgd : o.guard = none) {B : Nat} {A A' : Option Addr} {n c m c' : Nat} {us vs : List Nat} {s x : Operand}
    (ho : o.op = .call { callee := .builtin .append, args := #[s, x], argTypes := #[197, 197] }) (hs : a.eval s = .slice A n c) (hx : a.eval x = .slice A' m c')
    (h : OwnW B w A n c us) (hr : Ws w A' m vs) (hm : n + m ≤ 1000000) (hB : B ≤ w.heap.size)
    (hK : ∀ A'' c'' w', OwnW B w' A'' (n + m) c'' (us ++ vs) → w.grownBy w' (Value.ownBlock (.slice A n c)) → Below B w w' → wpList Tryd.prog ops Q rest (a.put o.dst (.slice A'' (n + m) c'')) w') : wpList Tryd.prog ops Q (o :: rest) a w :=
  wpList_plain hgd fun _ hK' => wp_append_ws ho hs hx h hr hm hB fun A'' c'' w' h2 h3 h4 => hK' _ _ (hK A'' c'' w' h2 h3 h4)
end Go.Proofs.YtmnohmhhmaeljaaDoor
end

section
/-
  More on rows of words of the call's own.
-/
namespace Go.Proofs.YtmnohmhhmaeljaaDoor
open Go.ChangeShapes Go.WideShapes Go.ChangeAt Go.RowKit Go.Deep

theorem Ws.one (w : World) (t : TypeId) (x : Nat) : Ws (w.alloc (.cells #[.int .u32 (x : Int)] t)) (some ⟨w.heap.size, 0, none⟩) 1 [x] := by
  refine ⟨rfl, fun _ => ⟨w.heap.size, 0, rfl, by rw [size_alloc]; omega, fun j hj => ?_⟩⟩
  obtain rfl : j = 0 := by omega
  rw [cell_of_row _ _ _ _ _ (0, 0) (heap_alloc_new _ _)]
  rfl
theorem OwnW.arr {B : Nat} {w : World} {A : Option Addr} {n c : Nat} {vs : List Nat} (h : OwnW B w A n c vs) (h0 : 0 < n) (hlt : ∀ i, i < n → wd vs i < 4294967296) : ∃ g, A = some ⟨g, 0, none⟩ ∧ B ≤ g ∧ Arr w g vs := by
  have hl := h.len
  rcases h.2 with ⟨hv, hn⟩ | ⟨g, cap, cur, hv, hb, hg, hnc, hcm, hcs, htk⟩
  · omega
  · injection hv with h1 h2 h3
    subst h1 h3
    refine ⟨g, rfl, hb, heap_lt hg, fun j hj => ⟨?_, frozen_of_row w g j cur _ hg, hlt j (by omega)⟩⟩
    have e : (wcells vs)[j]? = cur[j]? := by
      rw [← htk, List.getElem?_take, if_pos (by omega), Array.getElem?_toList]
    have e2 : (wcells vs)[j]? = some (.int .u32 (wd vs j : Int)) := by simp [wcells, wd, List.getD, hj]
    rw [e2] at e
    simp [World.cell?, hg, ← e]
theorem take_wd {vs : List Nat} {k : Nat} (h : k < vs.length) : vs.take k ++ [wd vs k] = vs.take (k + 1) := by
  rw [List.take_succ_eq_append_getElem h]
  simp [wd, List.getD, h]
theorem Ws.of_wr {w : World} {g n : Nat} {t : TypeId} {vs : List Nat} (h : Wr w g t vs) (hn : vs.length = n) : Ws w (some ⟨g, 0, none⟩) n vs :=
  ⟨hn, fun _ => ⟨g, 0, rfl, h.lt, fun j hj => by rw [Nat.zero_add]; exact h.cell (by omega)⟩⟩
end Go.Proofs.YtmnohmhhmaeljaaDoor
end

section
/-
  The document's OfLow.
-/
namespace Go.Proofs.YtmnohmhhmaeljaaDoor
open Go.ChangeShapes Go.WideShapes Go.ChangeAt Go.RowKit Go.Deep

theorem ofLowL_drop {xs : List UInt8} {k : Nat} (h : k < xs.length) : ofLowL (xs.drop k) = bt xs k + 256 * ofLowL (xs.drop (k + 1)) := by
  rw [List.drop_eq_getElem_cons h, ofLowL]
  simp [bt, List.getD, h]
def ofLowFrom (xs : List UInt8) (m k : Nat) : Nat := ofLowL ((xs.take m).drop k)
theorem ofLowFrom_step {xs : List UInt8} {m k : Nat} (hk : k < m) (hm : m ≤ xs.length) : ofLowFrom xs m k = bt xs k + 256 * ofLowFrom xs m (k + 1) := by
  unfold ofLowFrom
  rw [ofLowL_drop (by rw [List.length_take]; omega), bt_take hk]
theorem ofLowFrom_lt {xs : List UInt8} {m k : Nat} (hm : m ≤ xs.length) (h8 : m ≤ 8) (hk : 1 ≤ k) : ofLowFrom xs m k < 72057594037927936 := by
  unfold ofLowFrom
  refine Nat.lt_of_lt_of_le (ofLowL_lt _) (Nat.pow_le_pow_right (by omega) (show _ ≤ 7 from ?_))
  rw [List.length_drop, List.length_take]
  omega

set_option maxHeartbeats 400000 in
theorem refOfLow_calls {A : Option Addr} {n c : Nat} {m : Nat} {xs : List UInt8} {w : World} (h : Bs w A n c xs) (hm8 : m ≤ 8) (hmn : m ≤ n) (hM : (if (8 : Int) < (n : Int) then 8 else (n : Int)) = (m : Int)) :
    Calls Tryd.prog 140 #[.slice A n c] w fun e w' => e = .returned (.int .u64 (ofLowL (xs.take m) : Int)) ∧ w' = w := by
  have h1 := h.le
  have h2 := h.cap
  have hz : ofLowFrom xs m m = 0 := by unfold ofLowFrom; rw [List.drop_of_length_le (by rw [List.length_take]; omega)]; rfl
  have hz' := Lib.hid hz
  clear hz
  go_enter Tryd.func140, Tryd.ntmps140
  go_wp2
  clear hM
  go_loop [3, 4] (fun x i => ∃ k : Nat, k ≤ m ∧ i = .int .i64 ((k : Int) - 1) ∧ x = .int .u64 (ofLowFrom xs m k : Int)) (fun _ i => (intOf i + 1).toNat)
  case atStart => exact ⟨m, Nat.le_refl _, rfl, by rw [hz'.out]; rfl⟩
  case round =>
    obtain ⟨k, hk, rfl, rfl⟩ := hrel
    rcases Nat.eq_zero_or_pos k with rfl | hpos
    · go_wp2
      go_ret
      exact ⟨ret_int (by unfold ofLowFrom; rw [List.drop_zero]), rfl⟩
    · obtain ⟨j, rfl⟩ : ∃ j, k = j + 1 := ⟨k - 1, by omega⟩
      obtain ⟨b, off, rfl, hb, hc⟩ := h.pos (by omega)
      have g1 := hc j (by omega)
      have hbt := bt_lt xs j
      have hlt2 := ofLowFrom_lt (xs := xs) (m := m) (k := j + 1) (by rw [h.len]; omega) hm8 (by omega)
      have hst : Hid ((ofLowFrom xs m (j + 1) : Int) * 256 + (bt xs j : Int) = (ofLowFrom xs m j : Int)) := by
        unfold Hid
        rw [ofLowFrom_step (show j < m by omega) (by rw [h.len]; omega)]
        omega
      clear hc
      go_wp2
      exact ⟨⟨j, by omega, rfl, congrArg (Value.int .u64) hst.out⟩, by simp [intOf]⟩
end Go.Proofs.YtmnohmhhmaeljaaDoor
end
