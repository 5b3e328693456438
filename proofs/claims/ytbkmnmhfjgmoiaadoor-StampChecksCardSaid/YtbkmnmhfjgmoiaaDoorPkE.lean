import Derived.Test.YtbkmnmhfjgmoiaaDoorCheck16
import Derived.Test.YtbkmnmhfjgmoiaaDoorComp
import Derived.Test.YtbkmnmhfjgmoiaaDoorMx
section
/-
  palfreylaw16.awake.
-/
namespace Go.Proofs.YtbkmnmhfjgmoiaaDoor
open Go.ChangeShapes Go.WideShapes Go.ChangeAt Go.RowKit Go.Deep Go.Maps
set_option maxRecDepth 100000

def kB16 (x : Nat) : List UInt8 := UInt8.ofNat x :: List.replicate 31 0
theorem kB16_len (x : Nat) : (kB16 x).length = 32 := rfl
theorem key_b1 : Tryd.prog.built 23 [(0, .int .u8 1)] = some (cellsOf (kB16 1)).toArray := by kernel_rfl
theorem key_b4 : Tryd.prog.built 23 [(0, .int .u8 4)] = some (cellsOf (kB16 4)).toArray := by kernel_rfl
theorem env_b4 : Tryd.prog.built 29 [(0, .int .i64 2), (1, .int .i64 3), (2, .agg (cellsOf (kB16 4)).toArray)] = some (evC 2 3 (kB16 4) (List.replicate 32 0) 0 0 none 0 0).toArray := by kernel_rfl
theorem Told.ext {w w' W : World} {g mb q n ticks : Nat} {root : List UInt8} (h : Told w g mb q root ticks n w') (x : Ext W w) (hb : W.heap.size ≤ mb) : Ext W w' := Below.trans x ⟨h.2.os, h.2.tape, h.2.output, h.2.size, fun i hi => h.2.block i (Nat.lt_of_lt_of_le hi x.size) (fun z => by have := Option.some.inj z; omega)⟩
theorem mk_awake : (mkS (kB16 1) 5 2 3 (kB16 4) 7).ep = 1 ∧ mkE 2 3 7 = 0 ∧ chkE (kB16 1) 5 (mkS (kB16 1) 5 2 3 (kB16 4) 7) 57 = 0 ∧ chkE (kB16 1) 5 (mkS (kB16 1) 5 2 3 (kB16 4) 7) 58 = 5 := by
  obtain ⟨_, M1⟩ := mk_facts (root := kB16 1) (ticks := 5) (f := 2) (t := 3) (cm := kB16 4) (now := 7)
  obtain ⟨e1, e2⟩ := M1 rfl
  obtain ⟨_, _, _, C1⟩ := chk_facts (root := kB16 1) (ticks := 5) (s := mkS (kB16 1) 5 2 3 (kB16 4) 7) (now := 57)
  obtain ⟨_, _, _, C2⟩ := chk_facts (root := kB16 1) (ticks := 5) (s := mkS (kB16 1) 5 2 3 (kB16 4) 7) (now := 58)
  rw [e1] at C1 C2 ⊢
  refine ⟨rfl, e2, ?_, ?_⟩
  · rw [C1 rfl rfl rfl]; rfl
  · rw [C2 rfl rfl rfl]; rfl
set_option maxHeartbeats 8000000 in
theorem awake16_calls {w : World} {tg : TypeId × Nat × Nat} (hG : Gl w tg) :
    Calls Tryd.prog 8 #[] w fun e w' => e = .returned (.bool true) ∧ Ext w w' := by
  obtain ⟨a1, a2, a3, a4⟩ := mk_awake
  have NW : Hid (∀ W : World, Calls Tryd.prog 9 #[.agg (cellsOf (kB16 1)).toArray, .int .i64 5] W fun e w' => ∃ (g b q : Nat), e = .returned (.tuple #[.pointer (some ⟨g, 0, none⟩), .int .i64 0]) ∧ (W.heap.size ≤ g ∧ W.heap.size ≤ b ∧ W.heap.size ≤ q) ∧ SR w' g b q (kB16 1) 5 [] ∧ Ext W w') := fun W => snew16_ok (n := 5) rfl (by omega) (by omega)
  have ST : Hid (∀ (W : World) (g b q : Nat), SR W g b q (kB16 1) 5 [] → Gl W tg → Calls Tryd.prog 10 #[.pointer (some ⟨g, 0, none⟩), .agg (evC 2 3 (kB16 4) (List.replicate 32 0) 0 0 none 0 0).toArray, .int .i64 7] W fun e w' => e = .returned (.tuple #[.agg (mkS (kB16 1) 5 2 3 (kB16 4) 7).C.toArray, .int .i64 0]) ∧ Told W g b q (kB16 1) 5 0 w') := fun W g b q h k => by
    have := stamp16_calls h (Nat.zero_le _) (by omega) (by omega) (f := 2) (t := 3) (pp := 0) (nn := 0) (now := 7) (cm := kB16 4) (pk := List.replicate 32 0) (A := none) (m := 0) (c := 0) rfl rfl k
    rw [a2] at this
    exact this
  have ok := mkS_ok (kB16 1) 5 2 3 7 (kB16_len 4)
  have CK : Hid (∀ (W : World) (g b q : Nat) (E : List (Value × Value)) (z : Int), SR W g b q (kB16 1) 5 E → E.length ≤ 1000000 → Gl W tg → Calls Tryd.prog 12 #[.pointer (some ⟨g, 0, none⟩), .agg (mkS (kB16 1) 5 2 3 (kB16 4) 7).C.toArray, .int .i64 z] W fun e w' => e = .returned (.int .i64 (chkE (kB16 1) 5 (mkS (kB16 1) 5 2 3 (kB16 4) 7) z)) ∧ Told W g b q (kB16 1) 5 E.length w') := fun W g b q E z h hE k => check16_calls h hE (by omega) (by omega) ok k
  obtain ⟨SS, hSS⟩ : ∃ s, s = mkS (kB16 1) 5 2 3 (kB16 4) 7 := ⟨_, rfl⟩
  rw [← hSS] at a1 a3 a4 ok ST CK
  have C7 : Hid (∀ (W : World) (g b q : Nat) (E : List (Value × Value)), SR W g b q (kB16 1) 5 E → E.length ≤ 1000000 → Gl W tg → Calls Tryd.prog 12 #[.pointer (some ⟨g, 0, none⟩), .agg SS.C.toArray, .int .i64 57] W fun e w' => e = .returned (.int .i64 0) ∧ Told W g b q (kB16 1) 5 E.length w') := fun W g b q E h hE k => by
    have := CK.out W g b q E 57 h hE k
    rw [a3] at this
    exact this
  have C8 : Hid (∀ (W : World) (g b q : Nat) (E : List (Value × Value)), SR W g b q (kB16 1) 5 E → E.length ≤ 1000000 → Gl W tg → Calls Tryd.prog 12 #[.pointer (some ⟨g, 0, none⟩), .agg SS.C.toArray, .int .i64 58] W fun e w' => e = .returned (.int .i64 5) ∧ Told W g b q (kB16 1) 5 E.length w') := fun W g b q E h hE k => by
    have := CK.out W g b q E 58 h hE k
    rw [a4] at this
    exact this
  clear CK hSS a2 a3 a4
  have L_S := Sm.C_len ok
  have O_S : SS.C.toArray.all (·.oneCell') = true := one_cells SS.one
  have s0 : Hid (SS.C[0]? = some (.int .i64 1)) := by show some (Value.int .i64 SS.ep) = _; rw [a1]
  generalize SS.C = SC at *
  have S_S : SC.toArray.size = 68 := by rw [List.size_toArray, L_S]
  clear a1 ok L_S
  have hal := stamp_alloc16
  have L_Z := Sm.C_len zSm_ok
  generalize zSm.C = ZS at *
  have S_Z : ZS.toArray.size = 68 := by rw [List.size_toArray, L_Z]
  clear L_Z
  have kb1 := Lib.hid key_b1
  have kb4 := Lib.hid key_b4
  have eb4 := Lib.hid env_b4
  generalize (evC 2 3 (kB16 4) (List.replicate 32 0) 0 0 none 0 0).toArray = EV at *
  generalize (cellsOf (kB16 1)).toArray = K1 at *
  generalize (cellsOf (kB16 4)).toArray = K4 at *
  generalize kB16 1 = rt at *
  go_enter Tryd.func8, Tryd.ntmps8
  go_wp2_with (first | (refine wpList_build_as rfl _ _ rfl K1 (by simp only [List.map_toArray, List.map_cons, List.map_nil]; exact kb1.out) ?_; simp only [Act.put, List.setIfInBounds_toArray, List.set_cons_zero, List.set_cons_succ]))
  refine (NW.out _).mono ?_
  rintro e w1 ⟨g, b, q, rfl, ⟨_, hb, _⟩, s1, x1⟩
  have G1 := hG.kept x1 hG.lt
  have T1 := Lib.hid (ST.out w1 g b q s1 G1)
  have GE : Hid (∀ s, w1.grownBy s (some b) → Gl s tg) := fun s x => G1.grown s1.mp x
  replace x1 := Lib.hid x1
  clear NW ST s1 G1 hG kb1
  go_wp2_with (first
    | (refine wpList_build_as rfl _ _ rfl K4 (by simp only [List.map_toArray, List.map_cons, List.map_nil]; exact kb4.out) ?_; simp only [Act.put, List.setIfInBounds_toArray, List.set_cons_zero, List.set_cons_succ])
    | (refine wpList_build_as rfl _ _ rfl EV (by simp only [List.map_toArray, List.map_cons, List.map_nil]; exact eb4.out) ?_; simp only [Act.put, List.setIfInBounds_toArray, List.set_cons_zero, List.set_cons_succ]))
  refine T1.out.mono ?_
  rintro e w2 ⟨rfl, ⟨E2, s2, e2⟩, gr2⟩
  have B2 : Hid (Cb ((w2.alloc (.cells ZS.toArray 36)).setRow w2.heap.size SC.toArray) w2.heap.size 36 SC ∧ Ext w2 ((w2.alloc (.cells ZS.toArray 36)).setRow w2.heap.size SC.toArray)) := ⟨Cb.set (Cb.new _ _ _), Ext.newRow _ _ _⟩
  have wb : b < w2.heap.size := s2.mp.lt
  replace s2 := Lib.hid s2
  replace gr2 := Lib.hid gr2
  clear T1 kb4 eb4
  go_upto_region 5 with (refine wpList_store_row rfl 36 _ _ rfl w2.heap.size SC.toArray rfl rfl 36 ZS.toArray (heap_alloc_new _ _) (by rw [S_S]; rfl) (by rw [S_S, S_Z]) O_S ?_; simp only [Act.put])
  refine wp_gen (fun W => Cb W w2.heap.size 36 SC ∧ Ext w2 W) B2.out ?_
  generalize w2.heap.size = r at *
  clear B2
  rintro w3 ⟨k3, x3⟩
  have f0 := k3.cell s0.out
  have gr3 : Hid (w1.grownBy w3 (some b)) := grown_trans' gr2.out (grown_ofE16 x3)
  have K7 := Lib.hid (C7.out w3 g b q E2 (s2.out.ext x3) (by have : E2.length ≤ 0 + 1 := e2; omega) (GE.out w3 gr3.out))
  replace k3 := Lib.hid k3
  clear C7 s2 gr2 x3 s0
  go_wp2_with (first | ((with_reducible refine wpList_load_rowW (o := ⟨some 32, _, _, _, _, _⟩) ?_ 36 _ rfl r ?_ 36 SC.toArray (0, 0) _ ?_ Tryd.underlying36 ?_ ?_ ?_); (· rfl); (· rfl); (· exact k3.out); (· rfl); (· rw [S_S]; rfl); simp only [Act.put, List.setIfInBounds_toArray, List.set_cons_zero, List.set_cons_succ]))
  refine K7.out.mono ?_
  rintro e w4 ⟨rfl, ⟨E4, s4, e4⟩, gr4⟩
  have gr5 : Hid (w1.grownBy w4 (some b)) := grown_trans' gr3.out gr4
  have k4 : Hid (Cb w4 r 36 SC) := (gr4.block _ k3.out.lt (fun z => by have := Option.some.inj z; omega)).trans k3.out
  have K8 := Lib.hid (C8.out w4 g b q E4 s4 (by have : E2.length ≤ 0 + 1 := e2; omega) (GE.out w4 gr5.out))
  clear K7 C8 s4 gr4 gr3 k3 f0
  go_wp2_with (first | ((with_reducible refine wpList_load_rowW (o := ⟨some 38, _, _, _, _, _⟩) ?_ 36 _ rfl r ?_ 36 SC.toArray (0, 0) _ ?_ Tryd.underlying36 ?_ ?_ ?_); (· rfl); (· rfl); (· exact k4.out); (· rfl); (· rw [S_S]; rfl); simp only [Act.put, List.setIfInBounds_toArray, List.set_cons_zero, List.set_cons_succ]))
  refine K8.out.mono ?_
  rintro e w5 ⟨rfl, ⟨E6, s6, e6⟩, gr6⟩
  have F : Hid (Ext w w5) := by
    have g7 := grown_trans' gr5.out gr6
    exact Below.trans x1.out ⟨g7.os, g7.tape, g7.output, g7.size, fun i hi => g7.block i (Nat.lt_of_lt_of_le hi x1.out.size) (fun z => by have := Option.some.inj z; omega)⟩
  clear K8 gr5 gr6 s6 k4 GE x1
  go_wp2_with fail
  go_ret
  exact ⟨rfl, F.out⟩
end Go.Proofs.YtbkmnmhfjgmoiaaDoor
end

section
/-
  The document's rows of the order (layer 2).
-/
namespace Go.Proofs.YtbkmnmhfjgmoiaaDoor
open Go.ChangeShapes Go.WideShapes Go.ChangeAt Go.RowKit Go.Deep

def allocs (w : World) (l : List Obj) : World := l.foldl World.alloc w
theorem allocs_ext : ∀ (l : List Obj) (w : World), Ext w (allocs w l)
  | [], w => Ext.refl w
  | o :: l, w => ((Ext.refl w).alloc o).trans (allocs_ext l (w.alloc o))
theorem allocs_at : ∀ (l : List Obj) (w : World) (j : Nat) (o : Obj), l[j]? = some o → (allocs w l).heap[w.heap.size + j]? = some o
  | [], w, j, o, h => by simp at h
  | p :: l, w, 0, o, h => by
    simp at h
    subst h
    exact ((allocs_ext l (w.alloc p)).block w.heap.size (by rw [size_alloc]; omega)).trans (heap_alloc_new w p)
  | p :: l, w, j + 1, o, h => by
    have := allocs_at l (w.alloc p) j o (by simpa using h)
    rw [size_alloc] at this
    rw [show w.heap.size + (j + 1) = w.heap.size + 1 + j by omega]
    exact this
def rowI (k : Nat) : Array Value := ((List.range 16).map fun j => Value.int .i64 (pm k j : Int)).toArray
def rowsI (s : Nat) : Array Value := ((List.range 10).map fun k => Value.slice (some ⟨s + k, 0, none⟩) 16 16).toArray
/-- The order's rows, in blocks from s on, and the block that lists them. -/
def Rws (w : World) (s : Nat) : Prop := s + 10 < w.heap.size ∧ ∀ k, k < 10 → w.cell? ⟨s + 10, k, none⟩ = some (.slice (some ⟨s + k, 0, none⟩) 16 16) ∧ ∀ j, j < 16 → w.cell? ⟨s + k, j, none⟩ = some (.int .i64 (pm k j : Int))
def rowsO (s : Nat) : List Obj := ((List.range 10).map fun k => Obj.cells (rowI k) 3) ++ [Obj.cells (rowsI s) 41]
theorem rows_of (w : World) : Rws (allocs w (rowsO w.heap.size)) w.heap.size := by
  have hl : ∀ k, k < 10 → (rowsO w.heap.size)[k]? = some (Obj.cells (rowI k) 3) := fun k hk => by
    unfold rowsO
    rw [List.getElem?_append_left (by simp; omega)]
    simp [hk]
  have h10 : (rowsO w.heap.size)[10]? = some (Obj.cells (rowsI w.heap.size) 41) := by
    unfold rowsO
    rw [List.getElem?_append_right (by simp)]
    simp
  have hb := allocs_at _ w 10 _ h10
  refine ⟨heap_lt hb, fun k hk => ⟨?_, fun j hj => ?_⟩⟩
  · rw [cell_of_row _ _ _ _ _ (0, 0) hb]
    simp [rowsI, hk]
  · rw [cell_of_row _ _ _ _ _ (0, 0) (allocs_at _ w k _ (hl k hk))]
    simp [rowI, hj]
theorem Rws.ext {w w' : World} {s : Nat} (h : Rws w s) (e : Ext w w') : Rws w' s :=
  ⟨Nat.lt_of_lt_of_le h.1 e.size, fun k hk => ⟨(e.cell (p := ⟨s + 10, k, none⟩) h.1).trans (h.2 k hk).1, fun j hj => (e.cell (p := ⟨s + k, j, none⟩) (show s + k < _ by have := h.1; omega)).trans ((h.2 k hk).2 j hj)⟩⟩

set_option maxRecDepth 100000 in
set_option maxHeartbeats 1000000 in
theorem refRows_calls {w : World} :
    Calls Tryd.prog 55 #[] w fun e w' => ∃ s, e = .returned (.slice (some ⟨s + 10, 0, none⟩) 10 10) ∧ w.heap.size ≤ s ∧ Rws w' s ∧ Ext w w' := by
  go_enter Tryd.func55, Tryd.ntmps55
  go_wp2_with fail
  go_ret
  exact ⟨w.heap.size, rfl, Nat.le_refl _, rows_of w, allocs_ext (rowsO w.heap.size) w⟩
end Go.Proofs.YtbkmnmhfjgmoiaaDoor
end

section
/-
  The document's TURN.
-/
namespace Go.Proofs.YtbkmnmhfjgmoiaaDoor
open Go.ChangeShapes Go.WideShapes Go.ChangeAt Go.RowKit Go.Deep

set_option maxHeartbeats 1000000 in
theorem refTurn_calls {n x : Nat} {w : World} (hx : x < 4294967296) (h1 : 1 ≤ n) (h2 : n ≤ 31) :
    Calls Tryd.prog 57 #[.int .u32 (x : Int), .int .i64 (n : Int)] w fun e w' => e = .returned (.int .u32 (rotr n x : Int)) ∧ ∃ k, w' = w.drewN k := by
  have hs : ∃ s : Nat, 32 - n = s ∧ s ≤ 31 ∧ n = 32 - s ∧ 1 ≤ s := ⟨32 - n, rfl, by omega, by omega, by omega⟩
  obtain ⟨s, e1, e2, e3, e4⟩ := hs
  have hf := Lib.hid (rotr_int (n := n) (by omega) hx)
  rw [e1] at hf
  have hd : IntKind.i64.wrap (32 - (n : Int)) = (s : Int) := by rw [IntWalk.i64_in _ (by omega)]; omega
  have hor : ∀ a b, a < 4294967296 → b < 4294967296 → bits .or .u32 ((b : Nat) : Int) ((a : Nat) : Int) = bits .or .u32 ((a : Nat) : Int) ((b : Nat) : Int) := fun a b ha hb => by
    rw [u32_or_nat _ _ hb ha, u32_or_nat _ _ ha hb, Nat.or_comm]
  have HO := Lib.hid hor
  clear hor
  have q1 : Op.shift .shr .u32 (x : Int) .i64 (n : Int) = pure (.int .u32 ((x : Int) / 2 ^ n)) := by
    have := shift_shr .u32 .i64 (x : Int) (n : Int) (by omega) (by show (n : Int) ≤ 32; omega)
    rw [this]
    simp
  have q2 : Op.shift .shl .u32 (x : Int) .i64 (s : Int) = pure (.int .u32 ((x : Int) * 2 ^ s % 4294967296)) := by
    have := shift_shl .u32 .i64 (x : Int) (s : Int) (by omega) (by show (s : Int) ≤ 32; omega)
    rw [this, IntKind.wrap_u32]
    simp
  clear e1 e3
  go_enter Tryd.func57, Tryd.ntmps57
  go_wp2_with fail
  refine wp_region_seq (R := Ext) Ext.refl (fun _ _ _ => Ext.trans) [0, 1, 2, 3, 4, 5, 6, 7, 8] [] [(0, 6, 2), (0, 7, 4), (3, 8, 192), (0, 9, 2), (0, 10, 4), (16, 11, 1024), (40, 12, 2560), (68, 13, 4352), (255, 5, 8192)] (by kernel_rfl) (by kernel_rfl) (by kernel_rfl) rfl (by kernel_rfl) (by kernel_rfl) (fun _ _ d _ _ h => by cases d <;> exact h) ?_
  repeat (first | (refine seq_read (fun _ => True) (fun _ _ => trivial) _ (v := ?_) rfl rfl (by rfl) ?_ ?_; rotate_left; (· intro w' hF; go_simp; (try with_reducible rfl)); simp only [Act.put, List.setIfInBounds_toArray, List.set_cons_zero, List.set_cons_succ]) | (refine seq_skip _ rfl rfl (by rfl) ?_; simp only [Act.put, List.setIfInBounds_toArray, List.set_cons_zero, List.set_cons_succ]))
  refine seq_done ?_
  go_wp2_with fail
  go_ret
  refine ⟨congrArg (fun v => Ending.returned (Value.int .u32 v)) (Eq.trans ?_ hf.out), 1, rfl⟩
  have p1 : (x : Int) / 2 ^ n = ((x / 2 ^ n : Nat) : Int) := by simp
  have p2 : (x : Int) * 2 ^ s % 4294967296 = ((x * 2 ^ s % 4294967296 : Nat) : Int) := by simp
  rw [p1, p2]
  exact HO.out (x * 2 ^ s % 4294967296) (x / 2 ^ n) (Nat.mod_lt _ (by decide)) (Nat.lt_of_le_of_lt (Nat.div_le_self _ _) hx)
end Go.Proofs.YtbkmnmhfjgmoiaaDoor
end
