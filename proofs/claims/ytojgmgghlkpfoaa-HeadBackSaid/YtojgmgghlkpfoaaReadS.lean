/-
  head.Read of bytes that end too early.
-/
import Derived.Test.YtojgmgghlkpfoaaReadD
namespace Go.Proofs.Ytojgmgghlkpfoaa
open Go.ChangeShapes Go.WideShapes Go.ChangeAt Go.RowKit Go.Deep
set_option maxRecDepth 100000

theorem head_short {w : World} {g n c : Nat} {A : Option Addr} (h : Cb w g 73 [.slice A n c]) (hk : n < 40) : Calls Try.prog 36 #[.pointer (some ⟨g, 0, none⟩)] w fun e w' => e = .panicked [faultE 3] ∧ Ext w w' := by
  have TK : Hid (∀ (W : World), Ext w W → Calls Try.prog 45 #[.pointer (some ⟨g, 0, none⟩), .int .i64 40] W fun e w' => e = .panicked [faultE 3] ∧ Ext W w') := fun W e => take_short (k := 40) (h.ext e) hk (by omega)
  have hal := head_alloc
  generalize hdC (List.replicate 32 0) 0 0 = hz at *
  clear h
  go_enter Try.func36, Try.ntmps36
  go_upto_region 1 with fail
  refine wp_gen (fun W => Ext w W) ((Ext.refl w).alloc _) ?_
  intro w0 x0
  have TK0 := Lib.hid (TK.out w0 x0)
  clear TK
  go_wp2_with fail
  refine TK0.out.mono ?_
  rintro e w1 ⟨rfl, e1⟩
  exact ⟨rfl, rfl, x0.trans e1⟩
theorem results_rd {tmps : Array Value} {w : World} {p q : Nat} {hz : List Value} {z : Int} (hp : tmps.getD 2 undef = .pointer (some ⟨p, 0, none⟩)) (hq : tmps.getD 3 undef = .pointer (some ⟨q, 0, none⟩)) (k2 : Cb w p 25 hz) (k3 : Cb w q 28 [.int .i64 z]) (lh : hz.length = 34) :
    (results Try.f15 tmps).run Try.prog w = .ok (.tuple #[.agg hz.toArray, .int .i64 z]) w := by
  have S_hz : hz.toArray.size = 34 := by rw [List.size_toArray, lh]
  have l1 := run_loadVar_row w p 25 25 hz.toArray (0, 0) _ k2 Try.underlying25 rfl (by rw [S_hz]; rfl)
  have c3 := k3.cell (j := 0) rfl
  have l2 : (loadVar 28 ⟨q, 0, none⟩).run Try.prog w = .ok (.int .i64 z) w := by go_simp
  have hp' : tmps[2]?.getD undef = .pointer (some ⟨p, 0, none⟩) := by simpa using hp
  have hq' : tmps[3]?.getD undef = .pointer (some ⟨q, 0, none⟩) := by simpa using hq
  simp [results, Try.results15, hp', hq', asAddr, l1, l2, Sem.run_bind, Result.andThen]
set_option maxHeartbeats 2000000 in
theorem read_short {w : World} {n c : Nat} {A : Option Addr} (hk : n < 40) :
    Calls Try.prog 15 #[.slice A n c] w fun e w' => e = .returned (.tuple #[.agg (hdC (List.replicate 32 0) 0 0).toArray, .int .i64 3]) ∧ Ext w w' := by
  have hmf : ∀ (fn : Fn) (first cap : Array Value) (w : World), (Instr.makeFunc fn first cap).run Try.prog w = .ok (.func fn first cap) w := fun _ _ _ _ => rfl
  have HS := Lib.hid (fun (W : World) (g : Nat) (h : Cb W g 73 [.slice A n c]) => head_short h hk)
  have CF := Lib.hid (fun (W : World) (p q : Nat) (hd : List Value) (v : Value) (h1 : Cb W p 25 hd) (h2 : Cb W q 28 [v]) (hne : p ≠ q) (lh : hd.length = 34) => catch_fault (z := 3) h1 h2 hne lh)
  have hal := head_alloc
  have L_hz : (hdC (List.replicate 32 0) 0 0).length = 34 := hdC_len rfl 0 0
  generalize hdC (List.replicate 32 0) 0 0 = hz at *
  go_enter_defers Try.func15, Try.ntmps15
  have Z0 : Hid (Cb (((w.alloc (Obj.cells hz.toArray 25)).alloc (Obj.cells #[Value.int .i64 0] 28)).alloc (Obj.cells #[Value.slice A n c] 73)) w.heap.size 25 hz ∧ Cb (((w.alloc (Obj.cells hz.toArray 25)).alloc (Obj.cells #[Value.int .i64 0] 28)).alloc (Obj.cells #[Value.slice A n c] 73)) (w.heap.size + 1) 28 [.int .i64 0] ∧ Cb (((w.alloc (Obj.cells hz.toArray 25)).alloc (Obj.cells #[Value.int .i64 0] 28)).alloc (Obj.cells #[Value.slice A n c] 73)) (w.heap.size + 1 + 1) 73 [.slice A n c] ∧ Ext w (((w.alloc (Obj.cells hz.toArray 25)).alloc (Obj.cells #[Value.int .i64 0] 28)).alloc (Obj.cells #[Value.slice A n c] 73))) := ⟨heap_alloc30 _ _ _ _, heap_alloc31 _ _ _ _, heap_alloc32 _ _ _ _, (((Ext.refl w).alloc _).alloc _).alloc _⟩
  go_wp2_with fail
  refine (HS.out _ _ Z0.out.2.2.1).mono ?_
  rintro e w1 ⟨rfl, e1⟩
  have k0 := Lib.hid (Z0.out.1.ext e1)
  have k1 := Lib.hid (Z0.out.2.1.ext e1)
  have x1 := Lib.hid (Z0.out.2.2.2.trans e1)
  clear Z0 HS e1
  have CC := Lib.hid (CF.out w1 w.heap.size (w.heap.size + 1) hz (.int .i64 0) k0.out k1.out (by omega) L_hz)
  clear CF
  refine leaves_cons (f := 34) (args := #[.pointer (some ⟨w.heap.size, 0, none⟩), .pointer (some ⟨w.heap.size + 1, 0, none⟩)]) (by simp) (by simp [go_sem]) ?_
  refine CC.out.mono ?_
  rintro e u' w2 ⟨rfl, rfl, k2, k3, x2⟩
  have FE : Ext w w2 := Below.trans x1.out (x2 _ (Nat.le_refl _) (by omega))
  exact ⟨_, results_rd rfl rfl k2 k3 L_hz, rfl, FE⟩
end Go.Proofs.Ytojgmgghlkpfoaa
