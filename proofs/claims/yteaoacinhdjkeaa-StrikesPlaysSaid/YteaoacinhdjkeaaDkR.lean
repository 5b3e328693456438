/-
  disk.Read.
-/
import Derived.Test.YteaoacinhdjkeaaDkL
namespace Go.Proofs.Yteaoacinhdjkeaa
open Go.ChangeShapes Go.WideShapes Go.ChangeAt Go.RowKit Go.Deep Go.Maps
set_option maxRecDepth 100000

def Ds.read (d : Ds) (i : Int) : List UInt8 := if 0 ≤ i ∧ i < (d.S.length : Int) then (d.N i.toNat).getD (d.S.getD i.toNat []) else List.replicate 64 0
def Ds.readE (d : Ds) (i : Int) : Int := if 0 ≤ i ∧ i < (d.S.length : Int) then 0 else 1
set_option maxHeartbeats 4000000 in
theorem dread_calls {w : World} {g r mb : Nat} {d : Ds} (h : DK w g r mb d) {i : Int} :
    Calls Try.prog 43 #[.pointer (some ⟨g, 0, none⟩), .int .i64 i] w fun e w' => e = .returned (.tuple #[.agg (cellsOf (d.read i)).toArray, .int .i64 (d.readE i)]) ∧ Ext w w' := by
  have HS : Hid (∀ s, Ext w s → Calls Try.prog 51 #[.pointer (some ⟨g, 0, none⟩), .int .i64 i] s fun e w' => e = .returned (.bool (decide (0 ≤ i ∧ i < (d.S.length : Int)))) ∧ Ext s w') := fun s e => dhas_calls (h.ext e)
  have LK : Hid (∀ s (n : Nat), Ext w s → i = (n : Int) → n < d.S.length → (Instr.lookup 84 (.map (some mb)) (.int .i64 i) true).run Try.prog s = .ok (.tuple #[.agg (cellsOf ((d.N n).getD (List.replicate 64 0))).toArray, .bool (d.N n).isSome]) s) := fun s n e q q2 => by rw [q]; exact (h.ext e).look q2
  have KZ0 : Try.prog.built 45 [] = some zS64.toArray := by kernel_rfl
  have KZ := Lib.hid KZ0
  clear KZ0
  have hal := sector_alloc
  have S_Z : zS64.toArray.size = 64 := by rw [List.size_toArray, zS64_len]
  have O_Z := one_cells (one_mem (List.replicate 64 0))
  have R0 : Hid (¬ (0 ≤ i ∧ i < (d.S.length : Int)) → (cellsOf (d.read i)).toArray = zS64.toArray ∧ d.readE i = 1) := fun q => by unfold Ds.read Ds.readE; rw [if_neg q, if_neg q]; exact ⟨rfl, rfl⟩
  have R1 : Hid ((0 ≤ i ∧ i < (d.S.length : Int)) → d.read i = (d.N i.toNat).getD (d.S.getD i.toNat []) ∧ d.readE i = 0) := fun q => by unfold Ds.read Ds.readE; rw [if_pos q, if_pos q]; exact ⟨rfl, rfl⟩
  have C0 : Hid (∀ s, Ext w s → s.cell? ⟨g, 0, none⟩ = some (.slice (some ⟨r, 0, none⟩) d.S.length d.S.length) ∧ s.cell? ⟨g, 1, none⟩ = some (.map (some mb)) ∧ Cb s r 45 (d.S.map cellsOf).flatten) := fun s e => ⟨(h.ext e).cb.cell rfl, (h.ext e).cb.cell rfl, (h.ext e).row⟩
  change zS64.toArray.all (·.oneCell') = true at O_Z
  generalize zS64 = ZL at *
  have ok := h.ok
  have glt := h.cb.lt
  have rlt := h.row.lt
  clear h
  obtain ⟨hi, hhi⟩ : ∃ q, q = decide (0 ≤ i ∧ i < (d.S.length : Int)) := ⟨_, rfl⟩
  rw [← hhi] at HS
  replace hhi := Lib.hid hhi
  have HI : Hid ((hi = true → 0 ≤ i ∧ i < (d.S.length : Int)) ∧ (hi = false → ¬ (0 ≤ i ∧ i < (d.S.length : Int)))) := ⟨fun q => of_decide_eq_true (hhi.out.symm.trans q), fun q => of_decide_eq_false (hhi.out.symm.trans q)⟩
  clear hhi
  obtain ⟨r4, hr4⟩ : ∃ q, q = w.heap.size := ⟨_, rfl⟩
  have B0 : Hid (Cb (w.alloc (.cells ZL.toArray 45)) r4 45 ZL ∧ Ext w (w.alloc (.cells ZL.toArray 45))) := by rw [hr4]; exact ⟨Cb.new _ _ _, (Ext.refl w).alloc _⟩
  replace hr4 := Lib.hid hr4
  go_enter Try.func43, Try.ntmps43
  go_upto_region 1 with fail
  refine wp_gen (fun W => Cb W r4 45 ZL ∧ Ext w W) B0.out ?_
  rw [← hr4.out]
  have wr4 : w.heap.size ≤ r4 := Nat.le_of_eq hr4.out.symm
  clear B0 hr4
  rintro w0 ⟨k4, x0⟩
  have HS0 := Lib.hid (HS.out _ x0)
  replace k4 := Lib.hid k4
  replace x0 := Lib.hid x0
  clear HS
  go_wp2_with fail
  refine HS0.out.mono ?_
  rintro e w1 ⟨rfl, x1⟩
  have k41 := k4.out.ext x1
  have X1 := x0.out.trans x1
  clear HS0 k4 x0 x1
  cases hi with
  | false =>
    obtain ⟨e1, e2⟩ := R0.out (HI.out.2 rfl)
    have F : Hid (Ext w (w1.setRow r4 ZL.toArray) ∧ d.readE i = 1 ∧ (cellsOf (d.read i)).toArray = ZL.toArray) := ⟨below_setRow X1 (by omega) _, e2, e1⟩
    clear R0 R1 LK C0 HI e1 e2
    go_wp2_with (first
      | (refine wpList_build_as rfl _ _ rfl ZL.toArray (by simp only [List.map_toArray, List.map_nil]; exact KZ.out) ?_; go_frame)
      | (refine wpList_store_row rfl 45 _ _ rfl r4 ZL.toArray rfl rfl 45 ZL.toArray k41 (by rw [S_Z]; rfl) rfl O_Z ?_; simp only [Act.put]))
    (try simp only [Exit.inBlock, Exit.then])
    refine bodyPost_ret (results_row_tmp rfl _ _ r4 45 ZL.toArray (0, 0) _ _ rfl rfl (setRow_heap _ _ _ _ _ _ k41) rfl rfl (by rw [S_Z]; rfl)) rfl ?_
    exact ⟨by rw [F.out.2.1, F.out.2.2]; rfl, F.out.1⟩
  | true =>
    have hin := HI.out.1 rfl
    obtain ⟨n, rfl⟩ : ∃ n : Nat, i = (n : Int) := ⟨i.toNat, by omega⟩
    rw [Int.toNat_natCast] at R1
    obtain ⟨e1, e2⟩ := R1.out hin
    have hn : n < d.S.length := by omega
    have E1 := Lib.hid e1
    have E2' := Lib.hid e2
    clear R0 R1 HI KZ hin e1 e2
    have LK1 : Hid (∀ s, Ext w s → (Instr.lookup 84 (.map (some mb)) (.int .i64 (n : Int)) true).run Try.prog s = .ok (.tuple #[.agg (cellsOf ((d.N n).getD (List.replicate 64 0))).toArray, .bool (d.N n).isSome]) s) := fun s e => LK.out s n e rfl hn
    clear LK
    obtain ⟨xs, hxs⟩ : ∃ q, q = (d.N n).getD (List.replicate 64 0) := ⟨_, rfl⟩
    have L_xs : xs.length = 64 := by
      rw [hxs]
      cases q : d.N n
      · rfl
      · exact (ok.nl _ _ q).1
    obtain ⟨is, his⟩ : ∃ q, q = (d.N n).isSome := ⟨_, rfl⟩
    rw [← hxs, ← his] at LK1
    have E3 : Hid ((is = true → d.read n = xs) ∧ (is = false → d.read n = d.S.getD n [])) := by
      refine ⟨fun q => ?_, fun q => ?_⟩
      · rw [E1.out, hxs]
        rw [his] at q
        cases q2 : d.N n
        · rw [q2] at q; cases q
        · rfl
      · rw [E1.out]
        rw [his] at q
        cases q2 : d.N n
        · rfl
        · rw [q2] at q; cases q
    clear E1 hxs his
    have S_xs : (cellsOf xs).toArray.size = 64 := by simp [cellsOf_len, L_xs]
    have O_xs := one_cells (one_mem xs)
    have l4 := k41.lt
    have c1 := (C0.out _ X1).2.1
    have K1 : Hid (Cb ((w1.alloc (.cells ZL.toArray 45)).setRow w1.heap.size (cellsOf xs).toArray) r4 45 ZL ∧ Cb ((w1.alloc (.cells ZL.toArray 45)).setRow w1.heap.size (cellsOf xs).toArray) w1.heap.size 45 (cellsOf xs) ∧ Ext w ((w1.alloc (.cells ZL.toArray 45)).setRow w1.heap.size (cellsOf xs).toArray)) :=
      ⟨k41.ext (Ext.newRow _ _ _), (Cb.new w1 _ ZL).set, X1.trans (Ext.newRow _ _ _)⟩
    have LK2 := LK1.out _ X1
    clear k41 X1 LK1
    go_upto_region 4 with (first
      | (refine wpList_lookup_mp rfl _ _ rfl rfl rfl LK2 ?_; go_frame)
      | (refine wpList_store_row rfl 45 _ _ rfl w1.heap.size (cellsOf xs).toArray rfl rfl 45 ZL.toArray (heap_alloc_new _ _) (by rw [S_xs]; rfl) (by rw [S_xs, S_Z]) O_xs ?_; simp only [Act.put]))
    refine wp_gen (fun W => Cb W r4 45 ZL ∧ Cb W w1.heap.size 45 (cellsOf xs) ∧ Ext w W) K1.out ?_
    generalize w1.heap.size = r9 at *
    clear K1 LK2 c1 w1
    rintro w2 ⟨k4, k9, x2⟩
    have l4 := k4.lt
    cases is with
    | true =>
      have F : Hid (Ext w (w2.setRow r4 (cellsOf xs).toArray) ∧ d.readE n = 0 ∧ d.read n = xs) := ⟨below_setRow x2 (by omega) _, E2'.out, E3.out.1 rfl⟩
      clear C0 E3 E2'
      go_wp2_with (first
        | ((with_reducible refine wpList_load_rowW (o := ⟨some 23, _, _, _, _, _⟩) ?_ 45 _ rfl r9 ?_ 45 (cellsOf xs).toArray (0, 0) _ ?_ Try.underlying45 ?_ ?_ ?_); (· rfl); (· rfl); (· exact k9); (· rfl); (· rw [S_xs]; rfl); go_frame)
        | (refine wpList_store_row rfl 45 _ _ rfl r4 (cellsOf xs).toArray rfl rfl 45 ZL.toArray k4 (by rw [S_xs]; rfl) (by rw [S_xs, S_Z]) O_xs ?_; simp only [Act.put]))
      (try simp only [Exit.inBlock, Exit.then])
      refine bodyPost_ret (results_row_tmp rfl _ _ r4 45 (cellsOf xs).toArray (0, 0) _ _ rfl rfl (setRow_heap _ _ _ _ _ _ k4) rfl rfl (by rw [S_xs]; rfl)) rfl ?_
      exact ⟨by rw [F.out.2.1, F.out.2.2]; rfl, F.out.1⟩
    | false =>
      obtain ⟨c0, c1, cr⟩ := C0.out _ x2
      clear C0
      obtain ⟨ys, hys⟩ : ∃ q, q = d.S.getD n [] := ⟨_, rfl⟩
      have L_ys : ys.length = 64 := by rw [hys, List.getD_eq_getElem?_getD, List.getElem?_eq_getElem hn, Option.getD_some]; exact ok.sl _ (List.getElem_mem hn)
      have Y9 : Hid (∀ j v, (cellsOf ys)[j]? = some v → w2.cell? ⟨r, n * 64 + j, none⟩ = some v) := fun j v hv => by
        have hj : j < 64 := by
          have := (List.getElem?_eq_some_iff.1 hv).1
          rw [cellsOf_len, L_ys] at this
          exact this
        refine cr.cell ?_
        have q := flat_at (L := d.S.map cellsOf) (s := 64) (fun x hx => by
          obtain ⟨y, hy, rfl⟩ := List.mem_map.1 hx
          rw [cellsOf_len]; exact ok.sl _ hy) (j := n) (i := j) (by rw [List.length_map]; exact hn) hj
        rw [q, List.getD_eq_getElem?_getD, List.getElem?_map, List.getElem?_eq_getElem hn, Option.map_some, Option.getD_some]
        rw [hys, List.getD_eq_getElem?_getD, List.getElem?_eq_getElem hn, Option.getD_some] at hv
        exact hv
      have C_ys : (cellsOf ys).length = 64 := by rw [cellsOf_len, L_ys]
      have S_ys : (cellsOf ys).toArray.size = 64 := by rw [List.size_toArray, C_ys]
      have O_ys := one_cells (one_mem ys)
      have u1 : (0 : Int) ≤ (n : Int) := by omega
      have u2 : (n : Int) < (d.S.length : Int) := by omega
      have F : Hid (Ext w (w2.setRow r4 (cellsOf ys).toArray) ∧ d.readE n = 0 ∧ d.read n = ys) := ⟨below_setRow x2 (by omega) _, E2'.out, by rw [hys]; exact E3.out.2 rfl⟩
      clear E3 E2' hys cr k9 ok
      go_wp2_with (first
        | ((with_reducible refine wpList_load_mid (o := ⟨some 30, _, _, _, _, _⟩) (ty := 45) (g := r) (off := n * 64) (ys := cellsOf ys) ?_ rfl ?_ ?_ Try.underlying45 ?_ ?_ ?_); (· rfl); (· rfl); (· exact Y9.out); (· rfl); (· rw [C_ys]; rfl); go_frame)
        | (refine wpList_store_row rfl 45 _ _ rfl r4 (cellsOf ys).toArray rfl rfl 45 ZL.toArray k4 (by rw [S_ys]; rfl) (by rw [S_ys, S_Z]) O_ys ?_; simp only [Act.put]))
      (try simp only [Exit.inBlock, Exit.then])
      refine bodyPost_ret (results_row_tmp rfl _ _ r4 45 (cellsOf ys).toArray (0, 0) _ _ rfl rfl (setRow_heap _ _ _ _ _ _ k4) rfl rfl (by rw [S_ys]; rfl)) rfl ?_
      exact ⟨by rw [F.out.2.1, F.out.2.2]; rfl, F.out.1⟩
end Go.Proofs.Yteaoacinhdjkeaa
