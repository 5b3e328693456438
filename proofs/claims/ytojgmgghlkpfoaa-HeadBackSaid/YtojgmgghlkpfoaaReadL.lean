/-
  head.Read of more than 40 bytes.
-/
import Derived.Test.YtojgmgghlkpfoaaReadS
namespace Go.Proofs.Ytojgmgghlkpfoaa
open Go.ChangeShapes Go.WideShapes Go.ChangeAt Go.RowKit Go.Deep
set_option maxRecDepth 100000

set_option maxHeartbeats 2000000 in
theorem read_long {w : World} {n c : Nat} {A : Option Addr} {xs : List UInt8} (hb : Bs w A n c xs) (hk : 40 < n) :
    Calls Try.prog 15 #[.slice A n c] w fun e w' => e = .returned (.tuple #[.agg (hdC (List.replicate 32 0) 0 0).toArray, .int .i64 2]) ∧ Ext w w' := by
  have hmf : ∀ (fn : Fn) (first cap : Array Value) (w : World), (Instr.makeFunc fn first cap).run Try.prog w = .ok (.func fn first cap) w := fun _ _ _ _ => rfl
  have HS := Lib.hid (fun (W : World) (g : Nat) (h : Cb W g 73 [.slice A n c]) (e : Ext w W) => head_ok h (hb.ext e) (by omega))
  have EB := Lib.hid (fun (W : World) (g : Nat) (A' : Option Addr) (h : Cb W g 73 [.slice A' (n - 40) (c - 40)]) => end_bad h (by omega))
  have CF := Lib.hid (fun (W : World) (p q : Nat) (hd : List Value) (v : Value) (h1 : Cb W p 25 hd) (h2 : Cb W q 28 [v]) (hne : p ≠ q) (lh : hd.length = 34) => catch_fault (z := 2) h1 h2 hne lh)
  have hal := head_alloc
  have L_hz : (hdC (List.replicate 32 0) 0 0).length = 34 := hdC_len rfl 0 0
  have L_hr : (hdC (xs.take 32) (numN (xs.drop 32) 4 : Int) (numN (xs.drop 36) 4 : Int)).length = 34 := hdC_len (by rw [List.length_take, hb.1]; omega) _ _
  have O_hr : Hid ((hdC (xs.take 32) (numN (xs.drop 32) 4 : Int) (numN (xs.drop 36) 4 : Int)).toArray.all (·.oneCell') = true) := one_cells fun v hv => by
    rcases List.mem_append.1 hv with q | q
    · exact one_mem _ v q
    · simp at q; rcases q with rfl | rfl <;> rfl
  clear hb
  generalize hdC (List.replicate 32 0) 0 0 = hz at *
  generalize hdC (xs.take 32) (numN (xs.drop 32) 4 : Int) (numN (xs.drop 36) 4 : Int) = hr at *
  have S_hz : hz.toArray.size = 34 := by rw [List.size_toArray, L_hz]
  have S_hr : hr.toArray.size = 34 := by rw [List.size_toArray, L_hr]
  go_enter_defers Try.func15, Try.ntmps15
  have Z0 : Hid (Cb (((w.alloc (Obj.cells hz.toArray 25)).alloc (Obj.cells #[Value.int .i64 0] 28)).alloc (Obj.cells #[Value.slice A n c] 73)) w.heap.size 25 hz ∧ Cb (((w.alloc (Obj.cells hz.toArray 25)).alloc (Obj.cells #[Value.int .i64 0] 28)).alloc (Obj.cells #[Value.slice A n c] 73)) (w.heap.size + 1) 28 [.int .i64 0] ∧ Cb (((w.alloc (Obj.cells hz.toArray 25)).alloc (Obj.cells #[Value.int .i64 0] 28)).alloc (Obj.cells #[Value.slice A n c] 73)) (w.heap.size + 1 + 1) 73 [.slice A n c] ∧ Ext w (((w.alloc (Obj.cells hz.toArray 25)).alloc (Obj.cells #[Value.int .i64 0] 28)).alloc (Obj.cells #[Value.slice A n c] 73))) := ⟨heap_alloc30 _ _ _ _, heap_alloc31 _ _ _ _, heap_alloc32 _ _ _ _, (((Ext.refl w).alloc _).alloc _).alloc _⟩
  go_wp2_with fail
  refine (HS.out _ _ Z0.out.2.2.1 Z0.out.2.2.2).mono ?_
  rintro e w1 ⟨rfl, A', c1, _, g1, _⟩
  have k0 : Hid (Cb w1 w.heap.size 25 hz) := (g1.block _ (heap_lt Z0.out.1) (fun q => by have := Option.some.inj q; omega)).trans Z0.out.1
  have k1 : Hid (Cb w1 (w.heap.size + 1) 28 [.int .i64 0]) := (g1.block _ (heap_lt Z0.out.2.1) (fun q => by have := Option.some.inj q; omega)).trans Z0.out.2.1
  have x1 : Hid (Ext w w1) := Below.trans Z0.out.2.2.2 ⟨g1.os, g1.tape, g1.output, g1.size, fun i hi => g1.block i (Nat.lt_of_lt_of_le hi Z0.out.2.2.2.size) (fun q => by have := Option.some.inj q; omega)⟩
  have c2 := c1.row (r := w.heap.size) (C := hr.toArray) (by omega)
  have EC := Lib.hid (EB.out _ _ _ c2)
  have k2 : Hid (Cb (w1.setRow w.heap.size hr.toArray) w.heap.size 25 hr) := k0.out.set
  have k3 := Lib.hid (k1.out.row (r := w.heap.size) (C := hr.toArray) (by omega))
  have x2 := Lib.hid (below_setRow x1.out (Nat.le_refl _) hr.toArray)
  clear Z0 HS g1 c1 c2 EB
  go_wp2_with (refine wpList_store_row rfl 25 _ _ rfl w.heap.size hr.toArray rfl rfl 25 hz.toArray k0.out (by rw [S_hr]; rfl) (by rw [S_hr, S_hz]) O_hr.out ?_; simp only [Act.put, List.setIfInBounds_toArray, List.set_cons_zero, List.set_cons_succ])
  refine EC.out.mono ?_
  rintro e w2 ⟨rfl, e2⟩
  have CC := Lib.hid (CF.out w2 w.heap.size (w.heap.size + 1) hr (.int .i64 0) (k2.out.ext e2) (k3.out.ext e2) (by omega) L_hr)
  have x3 := Lib.hid (Ext.trans (show Ext w (w1.setRow w.heap.size hr.toArray) from x2.out) e2)
  clear CF EC k0 k1 k2 k3 x1 x2 e2
  refine leaves_cons (f := 34) (args := #[.pointer (some ⟨w.heap.size, 0, none⟩), .pointer (some ⟨w.heap.size + 1, 0, none⟩)]) (by simp) (by simp [go_sem]) ?_
  refine CC.out.mono ?_
  rintro e u' w3 ⟨rfl, rfl, k4, k5, y3⟩
  have FE : Ext w w3 := Below.trans x3.out (y3 _ (Nat.le_refl _) (by omega))
  exact ⟨_, results_rd rfl rfl k4 k5 L_hz, rfl, FE⟩
end Go.Proofs.Ytojgmgghlkpfoaa
