/-
  disk.Pending.
-/
import Derived.Test.YtonjialkfbbhpaaDkS
namespace Go.Proofs.Ytonjialkfbbhpaa
open Go.ChangeShapes Go.WideShapes Go.ChangeAt Go.RowKit Go.Deep Go.Maps
set_option maxRecDepth 100000

/-- The sectors below k that are not sure, rising. -/
def Ds.pend (d : Ds) (k : Nat) : List Nat := (List.range k).filter fun i => (d.N i).isSome
theorem pend_succ (d : Ds) (k : Nat) : d.pend (k + 1) = d.pend k ++ (if (d.N k).isSome then [k] else []) := by
  unfold Ds.pend
  rw [List.range_succ, List.filter_append]
  congr 1
  simp only [List.filter_cons, List.filter_nil]
theorem pend_len (d : Ds) (k : Nat) : (d.pend k).length ≤ k := by
  have := List.length_filter_le (fun i => (d.N i).isSome) (List.range k)
  rw [List.length_range] at this
  exact this
def iC (L : List Nat) : List (List Value) := L.map fun (n : Nat) => [Value.int .i64 (n : Int)]
theorem infoI21 : (Try.prog.info? 3).map (fun i => (i.zero, i.size, i.bytes)) = some (some (.int .i64 0), 1, 8) := by kernel_rfl
set_option maxHeartbeats 4000000 in
theorem dpending_calls {w : World} {g r mb : Nat} {d : Ds} (h : DK w g r mb d) :
    Calls Try.prog 35 #[.pointer (some ⟨g, 0, none⟩)] w fun e w' => ∃ A c, e = .returned (.slice A (d.pend d.S.length).length c) ∧ OwnC w.heap.size w' 3 1 A (d.pend d.S.length).length c (iC (d.pend d.S.length)) ∧ Ext w w' := by
  have hm := h.ok.most
  have hal := sector_alloc
  have C0 : Hid (∀ s, Ext w s → s.cell? ⟨g, 0, none⟩ = some (.slice (some ⟨r, 0, none⟩) d.S.length d.S.length) ∧ s.cell? ⟨g, 1, none⟩ = some (.map (some mb))) := fun s e => ⟨(h.ext e).cb.cell rfl, (h.ext e).cb.cell rfl⟩
  have LK : Hid (∀ s (n : Nat), Ext w s → n < d.S.length → (Instr.lookup 91 (.map (some mb)) (.int .i64 (n : Int)) true).run Try.prog s = .ok (.tuple #[.agg (cellsOf ((d.N n).getD (List.replicate 64 0))).toArray, .bool (d.N n).isSome]) s) := fun s n e q2 => (h.ext e).look q2
  have OW : Hid (OwnC w.heap.size w 3 1 none 0 0 (iC (d.pend 0))) := Lib.hid (OwnC.nil _ _ _ _)
  have c0 := (C0.out w (Ext.refl w)).1
  have NL := Lib.hid h.ok.nl
  clear h
  go_enter Try.func35, Try.ntmps35
  go_wp2_with fail
  go_loopw [3, 12] (fun sv iv wr => ∃ (k c : Nat) (A : Option Addr), iv = .int .i64 (k : Int) ∧ k ≤ d.S.length ∧ sv = .slice A (d.pend k).length c ∧ OwnC w.heap.size wr 3 1 A (d.pend k).length c (iC (d.pend k)) ∧ Ext w wr) (fun _ iv _ => ((d.S.length : Int) - intOf iv).toNat)
  case atStart => exact ⟨0, 0, none, rfl, Nat.zero_le _, rfl, OW.out, Ext.refl w⟩
  case round =>
    obtain ⟨k, c, A, rfl, hk, rfl, ow, xr⟩ := hrel
    clear OW c0
    by_cases hlt : k < d.S.length
    · have u1 : decide ((k : Int) < (d.S.length : Int)) = true := decide_eq_true (by omega)
      have ad : IntKind.i64.wrap ((k : Int) + 1) = (k : Int) + 1 := IntWalk.i64_in _ (by omega)
      have hme : Hid (((d.S.length : Int) - ((k : Int) + 1)).toNat < ((d.S.length : Int) - (k : Int)).toNat) := by unfold Hid; omega
      have LK1 := LK.out wr k xr hlt
      have c1 := (C0.out wr xr).2
      obtain ⟨xs, hxs⟩ : ∃ q, q = (d.N k).getD (List.replicate 64 0) := ⟨_, rfl⟩
      have L_xs : xs.length = 64 := by
        rw [hxs]
        cases q : d.N k
        · rfl
        · exact (NL.out _ _ q).1
      have PS := Lib.hid (pend_succ d k)
      obtain ⟨is, his⟩ : ∃ q, q = (d.N k).isSome := ⟨_, rfl⟩
      rw [← hxs, ← his] at LK1
      rw [← his] at PS
      clear hxs his
      have S_xs : (cellsOf xs).toArray.size = 64 := by simp [cellsOf_len, L_xs]
      have O_xs := one_cells (one_mem xs)
      have S_Z : zS64.toArray.size = 64 := by rw [List.size_toArray, zS64_len]
      generalize zS64 = ZL at *
      have K1 : Hid (OwnC w.heap.size ((wr.alloc (.cells ZL.toArray 58)).setRow wr.heap.size (cellsOf xs).toArray) 3 1 A (d.pend k).length c (iC (d.pend k)) ∧ Ext w ((wr.alloc (.cells ZL.toArray 58)).setRow wr.heap.size (cellsOf xs).toArray)) := ⟨ow.ext (Ext.newRow _ _ _), xr.trans (Ext.newRow _ _ _)⟩
      have pl := pend_len d k
      clear ow xr
      go_upto_region 6 with (first
        | (refine wpList_lookup_mp rfl _ _ rfl rfl rfl LK1 ?_; simp only [Act.put, List.setIfInBounds_toArray, List.set_cons_zero, List.set_cons_succ])
        | (refine wpList_store_row rfl 58 _ _ rfl wr.heap.size (cellsOf xs).toArray rfl rfl 58 ZL.toArray (heap_alloc_new _ _) (by rw [S_xs]; rfl) (by rw [S_xs, S_Z]) O_xs ?_; simp only [Act.put]))
      refine wp_gen (fun W => OwnC w.heap.size W 3 1 A (d.pend k).length c (iC (d.pend k)) ∧ Ext w W) K1.out ?_
      generalize wr.heap.size = r9 at *
      clear K1 LK1 c1 wr
      rintro w2 ⟨ow, x2⟩
      cases is with
      | false =>
        have F := Lib.hid (show d.pend (k + 1) = d.pend k from by rw [PS.out]; simp)
        replace ow := Lib.hid ow
        replace x2 := Lib.hid x2
        go_wp2_with fail
        go_round
        case rel => exact ⟨k + 1, c, A, rfl, hlt, by rw [F.out], by rw [F.out]; exact ow.out, x2.out⟩
        case measure => exact hme.out
      | true =>
        have F := Lib.hid (show d.pend (k + 1) = d.pend k ++ [k] from by rw [PS.out]; simp)
        have hzs : (Value.int .i64 0).cells.size = 1 := rfl
        have n1 : Hid ((w2.alloc (.cells #[.int .i64 (k : Int)] 3)).heap[w2.heap.size]? = some (.cells [Value.int .i64 (k : Int)].toArray 3 (0, 0))) := heap_alloc_new _ _
        have o2 := Lib.hid (ow.ext ((Ext.refl w2).alloc (.cells #[.int .i64 (k : Int)] 3)))
        have X2 := Lib.hid (x2.alloc (.cells #[.int .i64 (k : Int)] 3))
        have z2 : Hid (w.heap.size ≤ (w2.alloc (.cells #[.int .i64 (k : Int)] 3)).heap.size) := X2.out.size
        have C_1 : [Value.int .i64 (k : Int)].length = 1 := rfl
        have one1 : ∀ u ∈ [Value.int .i64 (k : Int)], u.oneCell' = true := fun u hu => by rw [List.mem_singleton.1 hu]; rfl
        clear ow x2 PS
        go_wp2_with (at_builtin; (with_reducible refine wpList_append_c rfl Try.underlying70 infoI21 hzs (by omega) (by omega) (x := .tmp 25) (y := .tmp 27) rfl rfl rfl o2.out n1.out C_1 one1 (by omega) z2.out ?_); intro A3 c3 w3 o3 g3 b3; replace o3 := Lib.hid o3; replace g3 := Lib.hid g3; replace b3 := Lib.hid b3; simp only [Act.put, List.setIfInBounds_toArray, List.set_cons_zero, List.set_cons_succ])
        go_round
        case rel => exact ⟨k + 1, c3, A3, rfl, hlt, by rw [F.out, List.length_append]; rfl, by rw [F.out, List.length_append, iC, List.map_append]; exact o3.out, Below.trans X2.out b3.out⟩
        case measure => exact hme.out
    · obtain rfl : k = d.S.length := by omega
      have u1 : decide ((d.S.length : Int) < (d.S.length : Int)) = false := decide_eq_false (by omega)
      replace ow := Lib.hid ow
      replace xr := Lib.hid xr
      go_wp2_with fail
      go_ret
      exact ⟨A, c, rfl, ow.out, xr.out⟩
end Go.Proofs.Ytonjialkfbbhpaa
