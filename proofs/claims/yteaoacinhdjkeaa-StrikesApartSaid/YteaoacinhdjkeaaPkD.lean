import Derived.Test.YteaoacinhdjkeaaPkE
import Derived.Test.YteaoacinhdjkeaaDkS
import Derived.Test.YteaoacinhdjkeaaPkI
section
/-
  palfreylaw22.awake.
-/
namespace Go.Proofs.Yteaoacinhdjkeaa
open Go.ChangeShapes Go.WideShapes Go.ChangeAt Go.RowKit Go.Deep Go.Maps
set_option maxRecDepth 100000

theorem Bs.ot22 {p : Nat → Prop} {w s : World} {A : Option Addr} {n c : Nat} {xs : List UInt8} (h : Bs w A n c xs) (k : Ot p w s) (hp : ∀ a, A = some a → 0 < n → ¬ p a.block) : Bs s A n c xs :=
  ⟨h.1, h.2.1, h.2.2.1, fun h0 => by
    obtain ⟨b, off, rfl, hb, hc⟩ := h.2.2.2 h0
    exact ⟨b, off, rfl, Nat.lt_of_lt_of_le hb k.size, fun j hj => (World.cell?_of_block (k.same hb (show ¬ p b from hp _ rfl h0))).trans (hc j hj)⟩⟩
theorem Bs.nil22 (w : World) : Bs w none 0 0 [] := ⟨rfl, Nat.le_refl _, Nat.zero_le _, fun h => absurd h (Nat.lt_irrefl _)⟩
/-- A new disk's blocks lie below what is made behind it. -/
theorem pd_lt {w : World} {dg r mb : Nat} {d : Ds} (h : DK w dg r mb d) : ∀ i, Pd22 dg r mb i → i < w.heap.size := fun i q => by
  rcases q with q | q | q
  · rw [q]; exact h.cb.lt
  · rw [q]; exact h.row.lt
  · rw [q]; exact h.mp.lt
/-- A journal and its disk, all made since w. -/
structure JN (w W : World) (g dg r mb : Nat) (d : Ds) (B : Nat) (R : Nat → Prop) (D : Option Addr) (c : Nat) (L : List (List UInt8)) : Prop where
  jk : JS B R W g dg D c L
  dk : DK W dg r mb d
  rR : R r
  rw : ∀ i, R i → i < W.heap.size
  wB : w.heap.size ≤ B
  wd : w.heap.size ≤ dg
  wr : w.heap.size ≤ r
  wm : w.heap.size ≤ mb
  ex : Ext w W
theorem JN.ext {w W W' : World} {g dg r mb : Nat} {d : Ds} {B : Nat} {R : Nat → Prop} {D : Option Addr} {c : Nat} {L : List (List UInt8)} (h : JN w W g dg r mb d B R D c L) (x : Ext W W') : JN w W' g dg r mb d B R D c L := ⟨h.jk.ext x, h.dk.ext x, h.rR, fun i q => Nat.lt_of_lt_of_le (h.rw i q) x.size, h.wB, h.wd, h.wr, h.wm, h.ex.trans x⟩
theorem JN.append {w W : World} {g dg r mb : Nat} {d : Ds} {B : Nat} {R : Nat → Prop} {D : Option Addr} {c : Nat} {L : List (List UInt8)} (h : JN w W g dg r mb d B R D c L) {A : Option Addr} {n c' : Nat} {xs : List UInt8} (hL : L.length ≤ 64) (hM : ∀ s, Ot (Pd22 dg r mb) W s → Bs s A n c' xs) (hn : n ≤ 1000000) :
    Calls Try.prog 16 #[.pointer (some ⟨g, 0, none⟩), .slice A n c'] W fun e W' => e = .returned (.int .i64 (d.jE L.length xs)) ∧ ∃ mb' D' c2, JN w W' g dg r mb' (d.jD L.length xs) B R D' c2 (d.jL L xs) ∧ Ot (Pj22 g dg r mb (Value.ownBlock (.slice D L.length c))) W W' ∧
      (Value.ownBlock (.slice D' (d.jL L xs).length c2) = Value.ownBlock (.slice D L.length c) ∨ ∃ i, Value.ownBlock (.slice D' (d.jL L xs).length c2) = some i ∧ W.heap.size ≤ i) := by
  refine (jappend_calls h.jk h.dk h.rR h.rw (Nat.le_of_lt (Nat.lt_of_le_of_lt h.jk.2.2 h.jk.1.lt)) hL hM hn).mono ?_
  rintro e W' ⟨he, mb', D', c2, dk, jk, ot, hmb, ho⟩
  have hwm : w.heap.size ≤ mb' := by
    rcases hmb with q | q
    · rw [q]; exact h.wm
    · exact Nat.le_trans h.ex.size q
  refine ⟨he, mb', D', c2, ⟨jk, dk, h.rR, fun i q => Nat.lt_of_lt_of_le (h.rw i q) ot.size, h.wB, h.wd, h.wr, hwm, Ot.ext h.ex ot fun i q => ?_⟩, ot, ho⟩
  have h1 := h.wd
  have h2 := h.wr
  have h3 := h.wm
  have h4 := h.wB
  have h5 := h.jk.2.2
  rcases q with q | q | q | q | q
  · omega
  · omega
  · omega
  · omega
  · have := (h.jk.2.1.ge _ q).1; omega
/-- What Open hands back. -/
theorem JN.opened {w w1 : World} {dg r mb : Nat} {d : Ds} (h : DK w1 dg r mb d) (x : Ext w w1) (wd : w.heap.size ≤ dg) (wr : w.heap.size ≤ r) (wm : w.heap.size ≤ mb) :
    Calls Try.prog 14 #[.pointer (some ⟨dg, 0, none⟩)] w1 fun e w' => ∃ g D c, e = .returned (.tuple #[.pointer (some ⟨g, 0, none⟩), .int .i64 0]) ∧ JN w w' g dg r mb d w1.heap.size (fun i => i < w1.heap.size) D c d.recs ∧ Ext w1 w' := by
  refine (jopen_calls h h.ok.most (read_len22 h.ok)).mono ?_
  rintro e w' ⟨g, D, c, he, jk, x'⟩
  exact ⟨g, D, c, he, ⟨jk.toS (fun _ q => q), h.ext x', h.row.lt, fun i q => Nat.lt_of_lt_of_le q x'.size, x.size, wd, wr, wm, x.trans x'⟩, x'⟩
set_option maxHeartbeats 4000000 in
theorem awake22_calls {w : World} : Calls Try.prog 11 #[] w fun e w' => e = .returned (.bool true) ∧ Ext w w' := by
  have hcv := conv_const
  have ND := Lib.hid (dnew_ok (w := w) (n := 1) (by omega) (by omega))
  go_enter Try.func11, Try.ntmps11
  go_wp2_with fail
  refine ND.out.mono ?_
  rintro e w1 ⟨dg, r, mb, rfl, q1, q2, q3, dk1, x1⟩
  have H0 : Hd22 (newD 1) 1 [] := Hd22.new (by omega)
  have OP := Lib.hid (JN.opened dk1 x1 q1 q2 q3)
  rw [H0.recs (by omega)] at OP
  replace H0 := Lib.hid H0
  clear ND dk1 x1 q1 q2 q3
  go_wp2_with fail
  refine OP.out.mono ?_
  rintro e w2 ⟨g, D, c, rfl, j2, _⟩
  have x2a : Ext w2 (w2.alloc (.cells #[.int .u8 97, .int .u8 98] 5 (2, 3))) := (Ext.refl w2).alloc _
  obtain ⟨s1, s2, s3⟩ := H0.out.step (xs := [97, 98]) (by decide)
  rw [if_neg (by decide)] at s1 s3
  have AP := JN.append (xs := [97, 98]) (A := some ⟨w2.heap.size, 0, none⟩) (n := 2) (c' := 2) (j2.ext x2a) (by simp) (fun s k => (Bs.of_list (xs := [97, 98]) rfl (heap_alloc_new w2 (.cells #[.int .u8 97, .int .u8 98] 5 (2, 3))) ⟨rfl, by decide⟩).ot22 k (fun a ha _ q => by
    injection ha with ha
    subst ha
    have := pd_lt j2.dk _ q
    simp only at this
    omega)) (by omega)
  rw [s1] at AP
  rw [s3] at AP s2
  replace AP := Lib.hid AP
  replace s2 := Lib.hid s2
  generalize (newD 1).jD ([] : List (List UInt8)).length [97, 98] = d1 at *
  clear OP s1 s3 x2a j2 H0
  go_wp2_with fail
  refine AP.out.mono ?_
  rintro e w3 ⟨rfl, mb3, D3, c3, j3, _⟩
  obtain ⟨s1, s4, s3⟩ := s2.out.step (xs := []) (by decide)
  rw [if_pos (by decide)] at s1 s3
  have AP2 := JN.append (xs := []) (A := none) (n := 0) (c' := 0) j3 (by simp) (fun s k => Bs.nil22 s) (by omega)
  rw [s1] at AP2
  rw [s3] at AP2 s4
  replace AP2 := Lib.hid AP2
  replace s4 := Lib.hid s4
  generalize d1.jD (([] : List (List UInt8)) ++ [[97, 98]]).length [] = d2 at *
  clear AP s1 s3 j3 s2 hcv
  go_wp2_with fail
  refine AP2.out.mono ?_
  rintro e w4 ⟨rfl, mb4, D4, c4, j4, _⟩
  have OP := Lib.hid (JN.opened j4.dk j4.ex j4.wd j4.wr j4.wm)
  rw [s4.out.recs (by omega)] at OP
  clear AP2 s4 j4
  go_wp2_with fail
  refine OP.out.mono ?_
  rintro e w5 ⟨k, D5, c5, rfl, j5, _⟩
  replace j5 := Lib.hid j5
  clear OP
  go_wp2_with fail
  refine (jopen_none (w := w5)).mono ?_
  rintro e w6 ⟨rfl, rfl⟩
  have AL := Lib.hid (lall_calls j5.out.jk (by decide) (by decide))
  have x5 := Lib.hid j5.out.ex
  clear j5
  go_wp2_with fail
  refine AL.out.mono ?_
  rintro e w7 ⟨D7, c7, rfl, o7, x7⟩
  have x07 := Lib.hid (x5.out.trans x7)
  obtain ⟨b, off, rfl, hb, hcell⟩ := o7.rw.pos (by decide)
  obtain ⟨A1, n1, c1, hc1, hb1⟩ := hcell 0 (by decide)
  have hcv : (convert 37 9 (.slice A1 n1 c1)).run Try.prog w7 = .ok (.string ⟨#[97, 98]⟩) w7 := conv_bs hb1
  rw [Nat.add_zero] at hc1
  clear AL o7 x7 x5 hcell hb1
  go_wp2_with fail
  go_ret
  exact ⟨rfl, x07.out⟩
end Go.Proofs.Yteaoacinhdjkeaa
end

section
/-
  disk.Pending.
-/
namespace Go.Proofs.Yteaoacinhdjkeaa
open Go.ChangeShapes Go.WideShapes Go.ChangeAt Go.RowKit Go.Deep Go.Maps
set_option maxRecDepth 100000

/-- The sectors below k that are not sure, rising. -/
def Ds.pend (d : Ds) (k : Nat) : List Nat := (List.range k).filter fun i => (d.N i).isSome
theorem pend_succ (d : Ds) (k : Nat) : d.pend (k + 1) = d.pend k ++ (if (d.N k).isSome then [k] else []) := by
  unfold Ds.pend
  rw [List.range_succ, List.filter_append]
  congr 1
  simp only [List.filter_cons, List.filter_nil]
theorem pend_len (d : Ds) (k : Nat) : (d.pend k).length ≤ k := by
  have := List.length_filter_le (fun i => (d.N i).isSome) (List.range k)
  rw [List.length_range] at this
  exact this
def iC (L : List Nat) : List (List Value) := L.map fun (n : Nat) => [Value.int .i64 (n : Int)]
theorem infoI21 : (Try.prog.info? 3).map (fun i => (i.zero, i.size, i.bytes)) = some (some (.int .i64 0), 1, 8) := by kernel_rfl
set_option maxHeartbeats 4000000 in
theorem dpending_calls {w : World} {g r mb : Nat} {d : Ds} (h : DK w g r mb d) :
    Calls Try.prog 49 #[.pointer (some ⟨g, 0, none⟩)] w fun e w' => ∃ A c, e = .returned (.slice A (d.pend d.S.length).length c) ∧ OwnC w.heap.size w' 3 1 A (d.pend d.S.length).length c (iC (d.pend d.S.length)) ∧ Ext w w' := by
  have hm := h.ok.most
  have hal := sector_alloc
  have C0 : Hid (∀ s, Ext w s → s.cell? ⟨g, 0, none⟩ = some (.slice (some ⟨r, 0, none⟩) d.S.length d.S.length) ∧ s.cell? ⟨g, 1, none⟩ = some (.map (some mb))) := fun s e => ⟨(h.ext e).cb.cell rfl, (h.ext e).cb.cell rfl⟩
  have LK : Hid (∀ s (n : Nat), Ext w s → n < d.S.length → (Instr.lookup 84 (.map (some mb)) (.int .i64 (n : Int)) true).run Try.prog s = .ok (.tuple #[.agg (cellsOf ((d.N n).getD (List.replicate 64 0))).toArray, .bool (d.N n).isSome]) s) := fun s n e q2 => (h.ext e).look q2
  have OW : Hid (OwnC w.heap.size w 3 1 none 0 0 (iC (d.pend 0))) := Lib.hid (OwnC.nil _ _ _ _)
  have c0 := (C0.out w (Ext.refl w)).1
  have NL := Lib.hid h.ok.nl
  clear h
  go_enter Try.func49, Try.ntmps49
  go_wp2_with fail
  go_loopw [3, 12] (fun sv iv wr => ∃ (k c : Nat) (A : Option Addr), iv = .int .i64 (k : Int) ∧ k ≤ d.S.length ∧ sv = .slice A (d.pend k).length c ∧ OwnC w.heap.size wr 3 1 A (d.pend k).length c (iC (d.pend k)) ∧ Ext w wr) (fun _ iv _ => ((d.S.length : Int) - intOf iv).toNat)
  case atStart => exact ⟨0, 0, none, rfl, Nat.zero_le _, rfl, OW.out, Ext.refl w⟩
  case round =>
    obtain ⟨k, c, A, rfl, hk, rfl, ow, xr⟩ := hrel
    clear OW c0
    by_cases hlt : k < d.S.length
    · have u1 : decide ((k : Int) < (d.S.length : Int)) = true := decide_eq_true (by omega)
      have ad : IntKind.i64.wrap ((k : Int) + 1) = (k : Int) + 1 := IntWalk.i64_in _ (by omega)
      have hme : Hid (((d.S.length : Int) - ((k : Int) + 1)).toNat < ((d.S.length : Int) - (k : Int)).toNat) := by unfold Hid; omega
      have LK1 := LK.out wr k xr hlt
      have c1 := (C0.out wr xr).2
      obtain ⟨xs, hxs⟩ : ∃ q, q = (d.N k).getD (List.replicate 64 0) := ⟨_, rfl⟩
      have L_xs : xs.length = 64 := by
        rw [hxs]
        cases q : d.N k
        · rfl
        · exact (NL.out _ _ q).1
      have PS := Lib.hid (pend_succ d k)
      obtain ⟨is, his⟩ : ∃ q, q = (d.N k).isSome := ⟨_, rfl⟩
      rw [← hxs, ← his] at LK1
      rw [← his] at PS
      clear hxs his
      have S_xs : (cellsOf xs).toArray.size = 64 := by simp [cellsOf_len, L_xs]
      have O_xs := one_cells (one_mem xs)
      have S_Z : zS64.toArray.size = 64 := by rw [List.size_toArray, zS64_len]
      generalize zS64 = ZL at *
      have K1 : Hid (OwnC w.heap.size ((wr.alloc (.cells ZL.toArray 45)).setRow wr.heap.size (cellsOf xs).toArray) 3 1 A (d.pend k).length c (iC (d.pend k)) ∧ Ext w ((wr.alloc (.cells ZL.toArray 45)).setRow wr.heap.size (cellsOf xs).toArray)) := ⟨ow.ext (Ext.newRow _ _ _), xr.trans (Ext.newRow _ _ _)⟩
      have pl := pend_len d k
      clear ow xr
      go_upto_region 6 with (first
        | (refine wpList_lookup_mp rfl _ _ rfl rfl rfl LK1 ?_; go_frame)
        | (refine wpList_store_row rfl 45 _ _ rfl wr.heap.size (cellsOf xs).toArray rfl rfl 45 ZL.toArray (heap_alloc_new _ _) (by rw [S_xs]; rfl) (by rw [S_xs, S_Z]) O_xs ?_; simp only [Act.put]))
      refine wp_gen (fun W => OwnC w.heap.size W 3 1 A (d.pend k).length c (iC (d.pend k)) ∧ Ext w W) K1.out ?_
      generalize wr.heap.size = r9 at *
      clear K1 LK1 c1 wr
      rintro w2 ⟨ow, x2⟩
      cases is with
      | false =>
        have F := Lib.hid (show d.pend (k + 1) = d.pend k from by rw [PS.out]; simp)
        replace ow := Lib.hid ow
        replace x2 := Lib.hid x2
        go_wp2_with fail
        go_round
        case rel => exact ⟨k + 1, c, A, rfl, hlt, by rw [F.out], by rw [F.out]; exact ow.out, x2.out⟩
        case measure => exact hme.out
      | true =>
        have F := Lib.hid (show d.pend (k + 1) = d.pend k ++ [k] from by rw [PS.out]; simp)
        have hzs : (Value.int .i64 0).cells.size = 1 := rfl
        have n1 : Hid ((w2.alloc (.cells #[.int .i64 (k : Int)] 3)).heap[w2.heap.size]? = some (.cells [Value.int .i64 (k : Int)].toArray 3 (0, 0))) := heap_alloc_new _ _
        have o2 := Lib.hid (ow.ext ((Ext.refl w2).alloc (.cells #[.int .i64 (k : Int)] 3)))
        have X2 := Lib.hid (x2.alloc (.cells #[.int .i64 (k : Int)] 3))
        have z2 : Hid (w.heap.size ≤ (w2.alloc (.cells #[.int .i64 (k : Int)] 3)).heap.size) := X2.out.size
        have C_1 : [Value.int .i64 (k : Int)].length = 1 := rfl
        have one1 : ∀ u ∈ [Value.int .i64 (k : Int)], u.oneCell' = true := fun u hu => by rw [List.mem_singleton.1 hu]; rfl
        clear ow x2 PS
        go_wp2_with (at_builtin; (with_reducible refine wpList_append_c rfl Try.underlying73 infoI21 hzs (by omega) (by omega) (x := .tmp 25) (y := .tmp 27) rfl rfl rfl o2.out n1.out C_1 one1 (by omega) z2.out ?_); intro A3 c3 w3 o3 g3 b3; replace o3 := Lib.hid o3; replace g3 := Lib.hid g3; replace b3 := Lib.hid b3; go_frame)
        go_round
        case rel => exact ⟨k + 1, c3, A3, rfl, hlt, by rw [F.out, List.length_append]; rfl, by rw [F.out, List.length_append, iC, List.map_append]; exact o3.out, Below.trans X2.out b3.out⟩
        case measure => exact hme.out
    · obtain rfl : k = d.S.length := by omega
      have u1 : decide ((d.S.length : Int) < (d.S.length : Int)) = false := decide_eq_false (by omega)
      replace ow := Lib.hid ow
      replace xr := Lib.hid xr
      go_wp2_with fail
      go_ret
      exact ⟨A, c, rfl, ow.out, xr.out⟩
end Go.Proofs.Yteaoacinhdjkeaa
end

section
/-
  Slices whose elements have several cells: read. No conditions.
-/
namespace Go.Proofs.Yteaoacinhdjkeaa
open Go.ChangeShapes Go.WideShapes Go.ChangeAt Go.RowKit Go.Deep
set_option maxRecDepth 100000

/-- The slice reads as elements with the cells of K, s each. -/
def Cs (w : World) (s : Nat) (A : Option Addr) (n c : Nat) (K : List (List Value)) : Prop :=
  (K.length = n ∧ (∀ x ∈ K, x.length = s)) ∧ (n ≤ c ∧ c ≤ maxLen) ∧ (0 < n → ∃ b off, A = some ⟨b, off, none⟩ ∧ b < w.heap.size ∧ ∀ q v, K.flatten[q]? = some v → w.cell? ⟨b, off + q, none⟩ = some v)
section
variable {w w' : World} {s : Nat} {A : Option Addr} {n c : Nat} {K : List (List Value)}
theorem Cs.ext (h : Cs w s A n c K) (e : Ext w w') : Cs w' s A n c K := ⟨h.1, h.2.1, fun h0 => by
  obtain ⟨b, off, hA, hb, hc⟩ := h.2.2 h0
  exact ⟨b, off, hA, Nat.lt_of_lt_of_le hb e.size, fun q v hq => (e.cell hb).trans (hc q v hq)⟩⟩
theorem flatten_len {α : Type} {s : Nat} : ∀ {L : List (List α)}, (∀ x ∈ L, x.length = s) → L.flatten.length = L.length * s
  | [], _ => by simp
  | x :: L, h => by
    rw [List.flatten_cons, List.length_append, h x (List.mem_cons_self ..), flatten_len fun y hy => h y (List.mem_cons_of_mem _ hy), List.length_cons, Nat.add_mul]
    omega
theorem OwnC.cs {B : Nat} {e : TypeId} (h : OwnC B w e s A n c K) : Cs w s A n c K := by
  refine ⟨⟨h.2.2, h.2.1⟩, h.cap, fun h0 => ?_⟩
  obtain ⟨b, hA, hb, _, hc⟩ := h.cells h0
  exact ⟨b, 0, hA, hb, fun q v hq => by rw [Nat.zero_add]; exact hc q v hq⟩
/-- Cell i of element j. -/
theorem Cs.at (h : Cs w s A n c K) {j : Nat} (hj : j < n) : ∃ b off, A = some ⟨b, off, none⟩ ∧ b < w.heap.size ∧ ∀ i v, (K.getD j [])[i]? = some v → w.cell? ⟨b, off + j * s + i, none⟩ = some v := by
  obtain ⟨b, off, hA, hb, hc⟩ := h.2.2 (by omega)
  refine ⟨b, off, hA, hb, fun i v hi => ?_⟩
  have hl : (K.getD j []).length = s := by
    have q : j < K.length := by rw [h.1.1]; exact hj
    rw [List.getD_eq_getElem?_getD, List.getElem?_eq_getElem q]
    exact h.1.2 _ (List.getElem_mem q)
  have his : i < s := by rw [← hl]; exact (List.getElem?_eq_some_iff.1 hi).1
  rw [Nat.add_assoc]
  exact hc _ _ ((flat_at h.1.2 (by rw [h.1.1]; exact hj) his).trans hi)
theorem Cs.take (h : Cs w s A n c K) {k : Nat} (hk : k ≤ n) : Cs w s A k c (K.take k) := by
  have h2 := h.2.1
  refine ⟨⟨by rw [List.length_take, h.1.1]; omega, fun x hx => h.1.2 x (List.mem_of_mem_take hx)⟩, ⟨by omega, h2.2⟩, fun h0 => ?_⟩
  obtain ⟨b, off, hA, hb, hc⟩ := h.2.2 (by omega)
  refine ⟨b, off, hA, hb, fun q v hq => hc q v ?_⟩
  have e : K.flatten = (K.take k).flatten ++ (K.drop k).flatten := by rw [← List.flatten_append, List.take_append_drop]
  rw [e, List.getElem?_append_left (List.getElem?_eq_some_iff.1 hq).1]
  exact hq
end
end Go.Proofs.Yteaoacinhdjkeaa
end
