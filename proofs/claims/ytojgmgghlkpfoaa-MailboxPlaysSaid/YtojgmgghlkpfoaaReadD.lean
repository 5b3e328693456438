/-
  head.Read's deferred closure.
-/
import Derived.Test.YtojgmgghlkpfoaaReadH
namespace Go.Proofs.Ytojgmgghlkpfoaa
open Go.ChangeShapes Go.WideShapes Go.ChangeAt Go.RowKit Go.Deep
set_option maxRecDepth 100000

theorem catch_idle {p q : Addr} {w : World} :
    CallsD Try.prog 34 #[.pointer (some p), .pointer (some q)] .returning w fun e u' w' => e = .returned (.tuple #[]) ∧ u' = .returning ∧ Ext w w' := by
  refine callsD_of_wpS Try.func34 rfl fun c₀ cs hu => ?_
  apply wpS_seq
  apply wpS_region
  simp [wpOpsS, go_sem, recoverD, hu, Try.ntmps34, Exit.thenS]
  refine wpS_of_wp ?_
  go_wp2_with fail
  cases c₀
  simp_all [bodyPostS, results, Try.results34]
  first | exact Ext.refl _ | skip
set_option maxHeartbeats 1000000 in
theorem catch_fault {p q : Nat} {w : World} {z : Int} {hd : List Value} {v : Value} (h1 : Cb w p 25 hd) (h2 : Cb w q 28 [v]) (hne : p ≠ q) (lh : hd.length = 34) :
    CallsD Try.prog 34 #[.pointer (some ⟨p, 0, none⟩), .pointer (some ⟨q, 0, none⟩)] (.panicking [faultE z]) w fun e u' w' => e = .returned (.tuple #[]) ∧ u' = .panicking [{ faultE z with recovered := true }] ∧ Cb w' p 25 (hdC (List.replicate 32 0) 0 0) ∧ Cb w' q 28 [.int .i64 z] ∧ ∀ B, B ≤ p → B ≤ q → Below B w w' := by
  have hbz : Try.prog.built 25 [] = some (hdC (List.replicate 32 0) 0 0).toArray := by kernel_rfl
  have L_hz : (hdC (List.replicate 32 0) 0 0).length = 34 := hdC_len rfl 0 0
  have O_hz : Hid ((hdC (List.replicate 32 0) 0 0).toArray.all (·.oneCell') = true) := by unfold Hid; decide +kernel
  replace hbz := Lib.hid hbz
  generalize hdC (List.replicate 32 0) 0 0 = hz at *
  have S_hz : hz.toArray.size = 34 := by rw [List.size_toArray, L_hz]
  have S_hd : hd.toArray.size = 34 := by rw [List.size_toArray, lh]
  have EO := Lib.hid (errnoOf_calls (w := w) (n := z))
  replace h1 := Lib.hid h1
  replace h2 := Lib.hid h2
  refine callsD_of_wpS Try.func34 rfl fun c₀ cs hu => ?_
  apply wpS_seq
  apply wpS_region
  simp [wpOpsS, go_sem, recoverD, hu, faultE, Try.ntmps34, Exit.thenS]
  rw [show (#[Value.pointer (some ⟨p, 0, none⟩), Value.pointer (some ⟨q, 0, none⟩)] ++ ((Array.replicate 7 undef).setIfInBounds 1 (Value.iface 28 (.int .i64 z))).setIfInBounds 0 (Value.iface 28 (.int .i64 z))) = #[Value.pointer (some ⟨p, 0, none⟩), Value.pointer (some ⟨q, 0, none⟩), Value.iface 28 (.int .i64 z), Value.iface 28 (.int .i64 z), undef, undef, undef, undef, undef] from rfl]
  refine wpS_of_wp ?_
  go_wp2_with (refine wpList_build_as rfl _ _ rfl hz.toArray (by simp only [List.map_toArray, List.map_nil]; exact hbz.out) ?_; simp only [Act.put, List.setIfInBounds_toArray, List.set_cons_zero, List.set_cons_succ])
  refine EO.out.mono ?_
  rintro e w1 ⟨rfl, e1⟩
  have k1 := Lib.hid (h1.out.ext e1)
  have q1 := (h2.out.ext e1).row (r := p) (C := hz.toArray) (fun q_ => hne q_.symm)
  have c1 := q1.cell (j := 0) rfl
  have z1 := q1.frozen 0
  have f1 : Hid (Cb ((w1.setRow p hz.toArray).setCell ⟨q, 0, none⟩ (.int .i64 z)) p 25 hz ∧ Cb ((w1.setRow p hz.toArray).setCell ⟨q, 0, none⟩ (.int .i64 z)) q 28 [.int .i64 z]) :=
    ⟨(grown_setCell8.block p (by simpa using heap_lt k1.out) (fun q_ => hne (Option.some.inj q_))).trans (setRow_heap _ _ _ _ _ _ k1.out), q1.setCell⟩
  have f2 : Hid (∀ B, B ≤ p → B ≤ q → Below B w ((w1.setRow p hz.toArray).setCell ⟨q, 0, none⟩ (.int .i64 z))) := fun B hp hq => Below.setCell (below_setRow (e1.mono (Nat.le_of_lt (Nat.lt_of_le_of_lt hp (heap_lt h1.out)))) hp _) hq _
  clear EO e1 h1 h2 q1
  go_wp2_with (refine wpList_store_row rfl 25 _ _ rfl p hz.toArray rfl rfl 25 hd.toArray k1.out (by rw [S_hz]; rfl) (by rw [S_hz, S_hd]) O_hz.out ?_; simp only [Act.put])
  have F : Hid (Cb ((w1.setRow p hz.toArray).setCell ⟨q, 0, none⟩ (.int .i64 z)) p 25 hz ∧ Cb ((w1.setRow p hz.toArray).setCell ⟨q, 0, none⟩ (.int .i64 z)) q 28 [.int .i64 z] ∧ ∀ B, B ≤ p → B ≤ q → Below B w ((w1.setRow p hz.toArray).setCell ⟨q, 0, none⟩ (.int .i64 z))) := ⟨f1.out.1, f1.out.2, f2.out⟩
  clear f1 f2 c1 z1
  generalize (w1.setRow p hz.toArray).setCell ⟨q, 0, none⟩ (.int .i64 z) = WF at *
  simp [bodyPostS, results, Try.results34]
  exact F.out
end Go.Proofs.Ytojgmgghlkpfoaa
