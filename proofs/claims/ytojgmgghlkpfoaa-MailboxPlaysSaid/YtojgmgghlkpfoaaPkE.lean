import Derived.Test.YtojgmgghlkpfoaaReadD
section
/-
  head.Read of bytes that end too early.
-/
namespace Go.Proofs.Ytojgmgghlkpfoaa
open Go.ChangeShapes Go.WideShapes Go.ChangeAt Go.RowKit Go.Deep
set_option maxRecDepth 100000

theorem head_short {w : World} {g n c : Nat} {A : Option Addr} (h : Cb w g 73 [.slice A n c]) (hk : n < 40) : Calls Try.prog 36 #[.pointer (some ⟨g, 0, none⟩)] w fun e w' => e = .panicked [faultE 3] ∧ Ext w w' := by
  have TK : Hid (∀ (W : World), Ext w W → Calls Try.prog 45 #[.pointer (some ⟨g, 0, none⟩), .int .i64 40] W fun e w' => e = .panicked [faultE 3] ∧ Ext W w') := fun W e => take_short (k := 40) (h.ext e) hk (by omega)
  have hal := head_alloc
  generalize hdC (List.replicate 32 0) 0 0 = hz at *
  clear h
  go_enter Try.func36, Try.ntmps36
  go_upto_region 1 with fail
  refine wp_gen (fun W => Ext w W) ((Ext.refl w).alloc _) ?_
  intro w0 x0
  have TK0 := Lib.hid (TK.out w0 x0)
  clear TK
  go_wp2_with fail
  refine TK0.out.mono ?_
  rintro e w1 ⟨rfl, e1⟩
  exact ⟨rfl, rfl, x0.trans e1⟩
theorem results_rd {tmps : Array Value} {w : World} {p q : Nat} {hz : List Value} {z : Int} (hp : tmps.getD 2 undef = .pointer (some ⟨p, 0, none⟩)) (hq : tmps.getD 3 undef = .pointer (some ⟨q, 0, none⟩)) (k2 : Cb w p 25 hz) (k3 : Cb w q 28 [.int .i64 z]) (lh : hz.length = 34) :
    (results Try.f15 tmps).run Try.prog w = .ok (.tuple #[.agg hz.toArray, .int .i64 z]) w := by
  have S_hz : hz.toArray.size = 34 := by rw [List.size_toArray, lh]
  have l1 := run_loadVar_row w p 25 25 hz.toArray (0, 0) _ k2 Try.underlying25 rfl (by rw [S_hz]; rfl)
  have c3 := k3.cell (j := 0) rfl
  have l2 : (loadVar 28 ⟨q, 0, none⟩).run Try.prog w = .ok (.int .i64 z) w := by go_simp
  have hp' : tmps[2]?.getD undef = .pointer (some ⟨p, 0, none⟩) := by simpa using hp
  have hq' : tmps[3]?.getD undef = .pointer (some ⟨q, 0, none⟩) := by simpa using hq
  simp [results, Try.results15, hp', hq', asAddr, l1, l2, Sem.run_bind, Result.andThen]
set_option maxHeartbeats 2000000 in
theorem read_short {w : World} {n c : Nat} {A : Option Addr} (hk : n < 40) :
    Calls Try.prog 15 #[.slice A n c] w fun e w' => e = .returned (.tuple #[.agg (hdC (List.replicate 32 0) 0 0).toArray, .int .i64 3]) ∧ Ext w w' := by
  have hmf : ∀ (fn : Fn) (first cap : Array Value) (w : World), (Instr.makeFunc fn first cap).run Try.prog w = .ok (.func fn first cap) w := fun _ _ _ _ => rfl
  have HS := Lib.hid (fun (W : World) (g : Nat) (h : Cb W g 73 [.slice A n c]) => head_short h hk)
  have CF := Lib.hid (fun (W : World) (p q : Nat) (hd : List Value) (v : Value) (h1 : Cb W p 25 hd) (h2 : Cb W q 28 [v]) (hne : p ≠ q) (lh : hd.length = 34) => catch_fault (z := 3) h1 h2 hne lh)
  have hal := head_alloc
  have L_hz : (hdC (List.replicate 32 0) 0 0).length = 34 := hdC_len rfl 0 0
  generalize hdC (List.replicate 32 0) 0 0 = hz at *
  go_enter_defers Try.func15, Try.ntmps15
  have Z0 : Hid (Cb (((w.alloc (Obj.cells hz.toArray 25)).alloc (Obj.cells #[Value.int .i64 0] 28)).alloc (Obj.cells #[Value.slice A n c] 73)) w.heap.size 25 hz ∧ Cb (((w.alloc (Obj.cells hz.toArray 25)).alloc (Obj.cells #[Value.int .i64 0] 28)).alloc (Obj.cells #[Value.slice A n c] 73)) (w.heap.size + 1) 28 [.int .i64 0] ∧ Cb (((w.alloc (Obj.cells hz.toArray 25)).alloc (Obj.cells #[Value.int .i64 0] 28)).alloc (Obj.cells #[Value.slice A n c] 73)) (w.heap.size + 1 + 1) 73 [.slice A n c] ∧ Ext w (((w.alloc (Obj.cells hz.toArray 25)).alloc (Obj.cells #[Value.int .i64 0] 28)).alloc (Obj.cells #[Value.slice A n c] 73))) := ⟨heap_alloc30 _ _ _ _, heap_alloc31 _ _ _ _, heap_alloc32 _ _ _ _, (((Ext.refl w).alloc _).alloc _).alloc _⟩
  go_wp2_with fail
  refine (HS.out _ _ Z0.out.2.2.1).mono ?_
  rintro e w1 ⟨rfl, e1⟩
  have k0 := Lib.hid (Z0.out.1.ext e1)
  have k1 := Lib.hid (Z0.out.2.1.ext e1)
  have x1 := Lib.hid (Z0.out.2.2.2.trans e1)
  clear Z0 HS e1
  have CC := Lib.hid (CF.out w1 w.heap.size (w.heap.size + 1) hz (.int .i64 0) k0.out k1.out (by omega) L_hz)
  clear CF
  refine leaves_cons (f := 34) (args := #[.pointer (some ⟨w.heap.size, 0, none⟩), .pointer (some ⟨w.heap.size + 1, 0, none⟩)]) (by simp) (by simp [go_sem]) ?_
  refine CC.out.mono ?_
  rintro e u' w2 ⟨rfl, rfl, k2, k3, x2⟩
  have FE : Ext w w2 := Below.trans x1.out (x2 _ (Nat.le_refl _) (by omega))
  exact ⟨_, results_rd rfl rfl k2 k3 L_hz, rfl, FE⟩
end Go.Proofs.Ytojgmgghlkpfoaa
end

section
/-
  head.Read of more than 40 bytes.
-/
namespace Go.Proofs.Ytojgmgghlkpfoaa
open Go.ChangeShapes Go.WideShapes Go.ChangeAt Go.RowKit Go.Deep
set_option maxRecDepth 100000

set_option maxHeartbeats 2000000 in
theorem read_long {w : World} {n c : Nat} {A : Option Addr} {xs : List UInt8} (hb : Bs w A n c xs) (hk : 40 < n) :
    Calls Try.prog 15 #[.slice A n c] w fun e w' => e = .returned (.tuple #[.agg (hdC (List.replicate 32 0) 0 0).toArray, .int .i64 2]) ∧ Ext w w' := by
  have hmf : ∀ (fn : Fn) (first cap : Array Value) (w : World), (Instr.makeFunc fn first cap).run Try.prog w = .ok (.func fn first cap) w := fun _ _ _ _ => rfl
  have HS := Lib.hid (fun (W : World) (g : Nat) (h : Cb W g 73 [.slice A n c]) (e : Ext w W) => head_ok h (hb.ext e) (by omega))
  have EB := Lib.hid (fun (W : World) (g : Nat) (A' : Option Addr) (h : Cb W g 73 [.slice A' (n - 40) (c - 40)]) => end_bad h (by omega))
  have CF := Lib.hid (fun (W : World) (p q : Nat) (hd : List Value) (v : Value) (h1 : Cb W p 25 hd) (h2 : Cb W q 28 [v]) (hne : p ≠ q) (lh : hd.length = 34) => catch_fault (z := 2) h1 h2 hne lh)
  have hal := head_alloc
  have L_hz : (hdC (List.replicate 32 0) 0 0).length = 34 := hdC_len rfl 0 0
  have L_hr : (hdC (xs.take 32) (numN (xs.drop 32) 4 : Int) (numN (xs.drop 36) 4 : Int)).length = 34 := hdC_len (by rw [List.length_take, hb.1]; omega) _ _
  have O_hr : Hid ((hdC (xs.take 32) (numN (xs.drop 32) 4 : Int) (numN (xs.drop 36) 4 : Int)).toArray.all (·.oneCell') = true) := one_cells fun v hv => by
    rcases List.mem_append.1 hv with q | q
    · exact one_mem _ v q
    · simp at q; rcases q with rfl | rfl <;> rfl
  clear hb
  generalize hdC (List.replicate 32 0) 0 0 = hz at *
  generalize hdC (xs.take 32) (numN (xs.drop 32) 4 : Int) (numN (xs.drop 36) 4 : Int) = hr at *
  have S_hz : hz.toArray.size = 34 := by rw [List.size_toArray, L_hz]
  have S_hr : hr.toArray.size = 34 := by rw [List.size_toArray, L_hr]
  go_enter_defers Try.func15, Try.ntmps15
  have Z0 : Hid (Cb (((w.alloc (Obj.cells hz.toArray 25)).alloc (Obj.cells #[Value.int .i64 0] 28)).alloc (Obj.cells #[Value.slice A n c] 73)) w.heap.size 25 hz ∧ Cb (((w.alloc (Obj.cells hz.toArray 25)).alloc (Obj.cells #[Value.int .i64 0] 28)).alloc (Obj.cells #[Value.slice A n c] 73)) (w.heap.size + 1) 28 [.int .i64 0] ∧ Cb (((w.alloc (Obj.cells hz.toArray 25)).alloc (Obj.cells #[Value.int .i64 0] 28)).alloc (Obj.cells #[Value.slice A n c] 73)) (w.heap.size + 1 + 1) 73 [.slice A n c] ∧ Ext w (((w.alloc (Obj.cells hz.toArray 25)).alloc (Obj.cells #[Value.int .i64 0] 28)).alloc (Obj.cells #[Value.slice A n c] 73))) := ⟨heap_alloc30 _ _ _ _, heap_alloc31 _ _ _ _, heap_alloc32 _ _ _ _, (((Ext.refl w).alloc _).alloc _).alloc _⟩
  go_wp2_with fail
  refine (HS.out _ _ Z0.out.2.2.1 Z0.out.2.2.2).mono ?_
  rintro e w1 ⟨rfl, A', c1, _, g1, _⟩
  have k0 : Hid (Cb w1 w.heap.size 25 hz) := (g1.block _ (heap_lt Z0.out.1) (fun q => by have := Option.some.inj q; omega)).trans Z0.out.1
  have k1 : Hid (Cb w1 (w.heap.size + 1) 28 [.int .i64 0]) := (g1.block _ (heap_lt Z0.out.2.1) (fun q => by have := Option.some.inj q; omega)).trans Z0.out.2.1
  have x1 : Hid (Ext w w1) := Below.trans Z0.out.2.2.2 ⟨g1.os, g1.tape, g1.output, g1.size, fun i hi => g1.block i (Nat.lt_of_lt_of_le hi Z0.out.2.2.2.size) (fun q => by have := Option.some.inj q; omega)⟩
  have c2 := c1.row (r := w.heap.size) (C := hr.toArray) (by omega)
  have EC := Lib.hid (EB.out _ _ _ c2)
  have k2 : Hid (Cb (w1.setRow w.heap.size hr.toArray) w.heap.size 25 hr) := k0.out.set
  have k3 := Lib.hid (k1.out.row (r := w.heap.size) (C := hr.toArray) (by omega))
  have x2 := Lib.hid (below_setRow x1.out (Nat.le_refl _) hr.toArray)
  clear Z0 HS g1 c1 c2 EB
  go_wp2_with (refine wpList_store_row rfl 25 _ _ rfl w.heap.size hr.toArray rfl rfl 25 hz.toArray k0.out (by rw [S_hr]; rfl) (by rw [S_hr, S_hz]) O_hr.out ?_; simp only [Act.put, List.setIfInBounds_toArray, List.set_cons_zero, List.set_cons_succ])
  refine EC.out.mono ?_
  rintro e w2 ⟨rfl, e2⟩
  have CC := Lib.hid (CF.out w2 w.heap.size (w.heap.size + 1) hr (.int .i64 0) (k2.out.ext e2) (k3.out.ext e2) (by omega) L_hr)
  have x3 := Lib.hid (Ext.trans (show Ext w (w1.setRow w.heap.size hr.toArray) from x2.out) e2)
  clear CF EC k0 k1 k2 k3 x1 x2 e2
  refine leaves_cons (f := 34) (args := #[.pointer (some ⟨w.heap.size, 0, none⟩), .pointer (some ⟨w.heap.size + 1, 0, none⟩)]) (by simp) (by simp [go_sem]) ?_
  refine CC.out.mono ?_
  rintro e u' w3 ⟨rfl, rfl, k4, k5, y3⟩
  have FE : Ext w w3 := Below.trans x3.out (y3 _ (Nat.le_refl _) (by omega))
  exact ⟨_, results_rd rfl rfl k4 k5 L_hz, rfl, FE⟩
end Go.Proofs.Ytojgmgghlkpfoaa
end

section
/-
  head.Read of 40 bytes.
-/
namespace Go.Proofs.Ytojgmgghlkpfoaa
open Go.ChangeShapes Go.WideShapes Go.ChangeAt Go.RowKit Go.Deep
set_option maxRecDepth 100000

set_option maxHeartbeats 2000000 in
theorem read_form {w : World} {c : Nat} {A : Option Addr} {xs : List UInt8} (hb : Bs w A 40 c xs) (hf : okH (numN (xs.drop 32) 4 : Int) (numN (xs.drop 36) 4 : Int) = false) :
    Calls Try.prog 15 #[.slice A 40 c] w fun e w' => e = .returned (.tuple #[.agg (hdC (List.replicate 32 0) 0 0).toArray, .int .i64 2]) ∧ Ext w w' := by
  have hmf : ∀ (fn : Fn) (first cap : Array Value) (w : World), (Instr.makeFunc fn first cap).run Try.prog w = .ok (.func fn first cap) w := fun _ _ _ _ => rfl
  have HS := Lib.hid (fun (W : World) (g : Nat) (h : Cb W g 73 [.slice A 40 c]) (e : Ext w W) => head_ok h (hb.ext e) (Nat.le_refl _))
  have EB := Lib.hid (fun (W : World) (g : Nat) (A' : Option Addr) (h : Cb W g 73 [.slice A' (40 - 40) (c - 40)]) => end_ok h)
  have VH := Lib.hid (fun (W : World) => validHead_calls (w := W) (pk := xs.take 32) (p := (numN (xs.drop 32) 4 : Int)) (n := (numN (xs.drop 36) 4 : Int)) (by rw [List.length_take, hb.1]; rfl))
  have DB := Lib.hid (fun (W : World) => demand_bad (w := W))
  rw [hf] at VH
  have CF := Lib.hid (fun (W : World) (p q : Nat) (hd : List Value) (v : Value) (h1 : Cb W p 25 hd) (h2 : Cb W q 28 [v]) (hne : p ≠ q) (lh : hd.length = 34) => catch_fault (z := 2) h1 h2 hne lh)
  have hal := head_alloc
  have L_hz : (hdC (List.replicate 32 0) 0 0).length = 34 := hdC_len rfl 0 0
  have L_hr : (hdC (xs.take 32) (numN (xs.drop 32) 4 : Int) (numN (xs.drop 36) 4 : Int)).length = 34 := hdC_len (by rw [List.length_take, hb.1]; rfl) _ _
  have O_hr : Hid ((hdC (xs.take 32) (numN (xs.drop 32) 4 : Int) (numN (xs.drop 36) 4 : Int)).toArray.all (·.oneCell') = true) := one_cells fun v hv => by
    rcases List.mem_append.1 hv with q | q
    · exact one_mem _ v q
    · simp at q; rcases q with rfl | rfl <;> rfl
  clear hb hf
  generalize hdC (List.replicate 32 0) 0 0 = hz at *
  generalize hdC (xs.take 32) (numN (xs.drop 32) 4 : Int) (numN (xs.drop 36) 4 : Int) = hr at *
  have S_hz : hz.toArray.size = 34 := by rw [List.size_toArray, L_hz]
  have S_hr : hr.toArray.size = 34 := by rw [List.size_toArray, L_hr]
  go_enter_defers Try.func15, Try.ntmps15
  have Z0 : Hid (Cb (((w.alloc (Obj.cells hz.toArray 25)).alloc (Obj.cells #[Value.int .i64 0] 28)).alloc (Obj.cells #[Value.slice A 40 c] 73)) w.heap.size 25 hz ∧ Cb (((w.alloc (Obj.cells hz.toArray 25)).alloc (Obj.cells #[Value.int .i64 0] 28)).alloc (Obj.cells #[Value.slice A 40 c] 73)) (w.heap.size + 1) 28 [.int .i64 0] ∧ Cb (((w.alloc (Obj.cells hz.toArray 25)).alloc (Obj.cells #[Value.int .i64 0] 28)).alloc (Obj.cells #[Value.slice A 40 c] 73)) (w.heap.size + 1 + 1) 73 [.slice A 40 c] ∧ Ext w (((w.alloc (Obj.cells hz.toArray 25)).alloc (Obj.cells #[Value.int .i64 0] 28)).alloc (Obj.cells #[Value.slice A 40 c] 73))) := ⟨heap_alloc30 _ _ _ _, heap_alloc31 _ _ _ _, heap_alloc32 _ _ _ _, (((Ext.refl w).alloc _).alloc _).alloc _⟩
  go_wp2_with fail
  refine (HS.out _ _ Z0.out.2.2.1 Z0.out.2.2.2).mono ?_
  rintro e w1 ⟨rfl, A', c1, _, g1, _⟩
  have k0 : Hid (Cb w1 w.heap.size 25 hz) := (g1.block _ (heap_lt Z0.out.1) (fun q => by have := Option.some.inj q; omega)).trans Z0.out.1
  have k1 : Hid (Cb w1 (w.heap.size + 1) 28 [.int .i64 0]) := (g1.block _ (heap_lt Z0.out.2.1) (fun q => by have := Option.some.inj q; omega)).trans Z0.out.2.1
  have x1 : Hid (Ext w w1) := Below.trans Z0.out.2.2.2 ⟨g1.os, g1.tape, g1.output, g1.size, fun i hi => g1.block i (Nat.lt_of_lt_of_le hi Z0.out.2.2.2.size) (fun q => by have := Option.some.inj q; omega)⟩
  have c2 := c1.row (r := w.heap.size) (C := hr.toArray) (by omega)
  have EC := Lib.hid (EB.out _ _ _ c2)
  have k2 : Hid (Cb (w1.setRow w.heap.size hr.toArray) w.heap.size 25 hr) := k0.out.set
  have k3 := Lib.hid (k1.out.row (r := w.heap.size) (C := hr.toArray) (by omega))
  have x2 := Lib.hid (below_setRow x1.out (Nat.le_refl _) hr.toArray)
  clear Z0 HS g1 c1 c2 EB
  go_wp2_with (refine wpList_store_row rfl 25 _ _ rfl w.heap.size hr.toArray rfl rfl 25 hz.toArray k0.out (by rw [S_hr]; rfl) (by rw [S_hr, S_hz]) O_hr.out ?_; simp only [Act.put, List.setIfInBounds_toArray, List.set_cons_zero, List.set_cons_succ])
  refine EC.out.mono ?_
  rintro e w2 ⟨rfl, e2⟩
  have k4 := Lib.hid (k2.out.ext e2)
  have k5 := Lib.hid (k3.out.ext e2)
  have x3 : Hid (Ext w w2) := Ext.trans (show Ext w (w1.setRow w.heap.size hr.toArray) from x2.out) e2
  clear EC k0 k1 k2 k3 x1 x2 e2
  go_wp2_with (refine wpList_load_row rfl 25 _ rfl w.heap.size rfl 25 hr.toArray (0, 0) _ k4.out rfl rfl (by rw [S_hr]; rfl) ?_; simp only [Act.put, List.setIfInBounds_toArray, List.set_cons_zero, List.set_cons_succ])
  refine (VH.out _).mono ?_
  rintro e w4 ⟨rfl, e4⟩
  have k6 := Lib.hid (k4.out.ext e4)
  have k7 := Lib.hid (k5.out.ext e4)
  have x5 := Lib.hid (x3.out.trans e4)
  clear k4 k5 x3 e4 VH
  go_wp2_with fail
  refine (DB.out _).mono ?_
  rintro e w5 ⟨rfl, e5⟩
  have CC := Lib.hid (CF.out w5 w.heap.size (w.heap.size + 1) hr (.int .i64 0) (k6.out.ext e5) (k7.out.ext e5) (by omega) L_hr)
  have x3 := Lib.hid (x5.out.trans e5)
  clear CF DB k6 k7 x5 e5
  refine leaves_cons (f := 34) (args := #[.pointer (some ⟨w.heap.size, 0, none⟩), .pointer (some ⟨w.heap.size + 1, 0, none⟩)]) (by simp) (by simp [go_sem]) ?_
  refine CC.out.mono ?_
  rintro e u' w3 ⟨rfl, rfl, k8, k9, y3⟩
  have FE : Ext w w3 := Below.trans x3.out (y3 _ (Nat.le_refl _) (by omega))
  exact ⟨_, results_rd rfl rfl k8 k9 L_hz, rfl, FE⟩
end Go.Proofs.Ytojgmgghlkpfoaa
end

section
/-
  head.Read of the bytes of a head.
-/
namespace Go.Proofs.Ytojgmgghlkpfoaa
open Go.ChangeShapes Go.WideShapes Go.ChangeAt Go.RowKit Go.Deep
set_option maxRecDepth 100000

set_option maxHeartbeats 2000000 in
theorem read_ok {w : World} {c : Nat} {A : Option Addr} {xs : List UInt8} (hb : Bs w A 40 c xs) (hf : okH (numN (xs.drop 32) 4 : Int) (numN (xs.drop 36) 4 : Int) = true) :
    Calls Try.prog 15 #[.slice A 40 c] w fun e w' => e = .returned (.tuple #[.agg (hdC (xs.take 32) (numN (xs.drop 32) 4 : Int) (numN (xs.drop 36) 4 : Int)).toArray, .int .i64 0]) ∧ Ext w w' := by
  have hmf : ∀ (fn : Fn) (first cap : Array Value) (w : World), (Instr.makeFunc fn first cap).run Try.prog w = .ok (.func fn first cap) w := fun _ _ _ _ => rfl
  have HS := Lib.hid (fun (W : World) (g : Nat) (h : Cb W g 73 [.slice A 40 c]) (e : Ext w W) => head_ok h (hb.ext e) (Nat.le_refl _))
  have EB := Lib.hid (fun (W : World) (g : Nat) (A' : Option Addr) (h : Cb W g 73 [.slice A' (40 - 40) (c - 40)]) => end_ok h)
  have VH := Lib.hid (fun (W : World) => validHead_calls (w := W) (pk := xs.take 32) (p := (numN (xs.drop 32) 4 : Int)) (n := (numN (xs.drop 36) 4 : Int)) (by rw [List.length_take, hb.1]; rfl))
  have DB := Lib.hid (fun (W : World) => demand_ok (w := W))
  rw [hf] at VH
  have CI := Lib.hid (fun (W : World) (p q : Addr) => catch_idle (p := p) (q := q) (w := W))
  have hal := head_alloc
  have L_hz : (hdC (List.replicate 32 0) 0 0).length = 34 := hdC_len rfl 0 0
  have L_hr : (hdC (xs.take 32) (numN (xs.drop 32) 4 : Int) (numN (xs.drop 36) 4 : Int)).length = 34 := hdC_len (by rw [List.length_take, hb.1]; rfl) _ _
  have O_hr : Hid ((hdC (xs.take 32) (numN (xs.drop 32) 4 : Int) (numN (xs.drop 36) 4 : Int)).toArray.all (·.oneCell') = true) := one_cells fun v hv => by
    rcases List.mem_append.1 hv with q | q
    · exact one_mem _ v q
    · simp at q; rcases q with rfl | rfl <;> rfl
  clear hb hf
  generalize hdC (List.replicate 32 0) 0 0 = hz at *
  generalize hdC (xs.take 32) (numN (xs.drop 32) 4 : Int) (numN (xs.drop 36) 4 : Int) = hr at *
  have S_hz : hz.toArray.size = 34 := by rw [List.size_toArray, L_hz]
  have S_hr : hr.toArray.size = 34 := by rw [List.size_toArray, L_hr]
  go_enter_defers Try.func15, Try.ntmps15
  have Z0 : Hid (Cb (((w.alloc (Obj.cells hz.toArray 25)).alloc (Obj.cells #[Value.int .i64 0] 28)).alloc (Obj.cells #[Value.slice A 40 c] 73)) w.heap.size 25 hz ∧ Cb (((w.alloc (Obj.cells hz.toArray 25)).alloc (Obj.cells #[Value.int .i64 0] 28)).alloc (Obj.cells #[Value.slice A 40 c] 73)) (w.heap.size + 1) 28 [.int .i64 0] ∧ Cb (((w.alloc (Obj.cells hz.toArray 25)).alloc (Obj.cells #[Value.int .i64 0] 28)).alloc (Obj.cells #[Value.slice A 40 c] 73)) (w.heap.size + 1 + 1) 73 [.slice A 40 c] ∧ Ext w (((w.alloc (Obj.cells hz.toArray 25)).alloc (Obj.cells #[Value.int .i64 0] 28)).alloc (Obj.cells #[Value.slice A 40 c] 73))) := ⟨heap_alloc30 _ _ _ _, heap_alloc31 _ _ _ _, heap_alloc32 _ _ _ _, (((Ext.refl w).alloc _).alloc _).alloc _⟩
  go_wp2_with fail
  refine (HS.out _ _ Z0.out.2.2.1 Z0.out.2.2.2).mono ?_
  rintro e w1 ⟨rfl, A', c1, _, g1, _⟩
  have k0 : Hid (Cb w1 w.heap.size 25 hz) := (g1.block _ (heap_lt Z0.out.1) (fun q => by have := Option.some.inj q; omega)).trans Z0.out.1
  have k1 : Hid (Cb w1 (w.heap.size + 1) 28 [.int .i64 0]) := (g1.block _ (heap_lt Z0.out.2.1) (fun q => by have := Option.some.inj q; omega)).trans Z0.out.2.1
  have x1 : Hid (Ext w w1) := Below.trans Z0.out.2.2.2 ⟨g1.os, g1.tape, g1.output, g1.size, fun i hi => g1.block i (Nat.lt_of_lt_of_le hi Z0.out.2.2.2.size) (fun q => by have := Option.some.inj q; omega)⟩
  have c2 := c1.row (r := w.heap.size) (C := hr.toArray) (by omega)
  have EC := Lib.hid (EB.out _ _ _ c2)
  have k2 : Hid (Cb (w1.setRow w.heap.size hr.toArray) w.heap.size 25 hr) := k0.out.set
  have k3 := Lib.hid (k1.out.row (r := w.heap.size) (C := hr.toArray) (by omega))
  have x2 := Lib.hid (below_setRow x1.out (Nat.le_refl _) hr.toArray)
  clear Z0 HS g1 c1 c2 EB
  go_wp2_with (refine wpList_store_row rfl 25 _ _ rfl w.heap.size hr.toArray rfl rfl 25 hz.toArray k0.out (by rw [S_hr]; rfl) (by rw [S_hr, S_hz]) O_hr.out ?_; simp only [Act.put, List.setIfInBounds_toArray, List.set_cons_zero, List.set_cons_succ])
  refine EC.out.mono ?_
  rintro e w2 ⟨rfl, e2⟩
  have k4 := Lib.hid (k2.out.ext e2)
  have k5 := Lib.hid (k3.out.ext e2)
  have x3 : Hid (Ext w w2) := Ext.trans (show Ext w (w1.setRow w.heap.size hr.toArray) from x2.out) e2
  clear EC k0 k1 k2 k3 x1 x2 e2
  go_wp2_with (refine wpList_load_row rfl 25 _ rfl w.heap.size rfl 25 hr.toArray (0, 0) _ k4.out rfl rfl (by rw [S_hr]; rfl) ?_; simp only [Act.put, List.setIfInBounds_toArray, List.set_cons_zero, List.set_cons_succ])
  refine (VH.out _).mono ?_
  rintro e w4 ⟨rfl, e4⟩
  have k6 := Lib.hid (k4.out.ext e4)
  have k7 := Lib.hid (k5.out.ext e4)
  have x5 := Lib.hid (x3.out.trans e4)
  clear k4 k5 x3 e4 VH
  go_wp2_with fail
  refine (DB.out _).mono ?_
  rintro e w5 ⟨rfl, e5⟩
  have k8 := Lib.hid (k6.out.ext e5)
  have k9 := k7.out.ext e5
  have x3 := Lib.hid (x5.out.trans e5)
  have q9 := k9.row (r := w.heap.size) (C := hr.toArray) (by omega)
  have c9 := q9.cell (j := 0) rfl
  have z9 := q9.frozen 0
  have F1 : Hid (Cb ((w5.setRow w.heap.size hr.toArray).setCell ⟨w.heap.size + 1, 0, none⟩ (.int .i64 0)) w.heap.size 25 hr) := (grown_setCell8.block w.heap.size (by simpa using heap_lt k8.out) (fun q_ => by have := Option.some.inj q_; omega)).trans (setRow_heap _ _ _ _ _ _ k8.out)
  have F2 : Hid (Cb ((w5.setRow w.heap.size hr.toArray).setCell ⟨w.heap.size + 1, 0, none⟩ (.int .i64 0)) (w.heap.size + 1) 28 [.int .i64 0]) := q9.setCell
  have F3 : Hid (Ext w ((w5.setRow w.heap.size hr.toArray).setCell ⟨w.heap.size + 1, 0, none⟩ (.int .i64 0))) := Below.setCell (below_setRow x3.out (Nat.le_refl _) _) (Nat.le_succ _) _
  clear DB k6 k7 x5 e5 k9 q9 x3
  go_wp2_with (first
    | (refine wpList_load_row rfl 25 _ rfl w.heap.size rfl 25 hr.toArray (0, 0) _ k8.out rfl rfl (by rw [S_hr]; rfl) ?_; simp only [Act.put, List.setIfInBounds_toArray, List.set_cons_zero, List.set_cons_succ])
    | (refine wpList_store_row rfl 25 _ _ rfl w.heap.size hr.toArray rfl rfl 25 hr.toArray k8.out (by rw [S_hr]; rfl) rfl O_hr.out ?_; simp only [Act.put, List.setIfInBounds_toArray, List.set_cons_zero, List.set_cons_succ]))
  clear c9 z9 k8
  generalize (w5.setRow w.heap.size hr.toArray).setCell ⟨w.heap.size + 1, 0, none⟩ (.int .i64 0) = WF at *
  refine leaves_cons (f := 34) (args := #[.pointer (some ⟨w.heap.size, 0, none⟩), .pointer (some ⟨w.heap.size + 1, 0, none⟩)]) (by simp) (by simp [go_sem]) ?_
  refine (CI.out _ _ _).mono ?_
  rintro e u' w6 ⟨rfl, rfl, e6⟩
  exact ⟨_, results_rd rfl rfl (F1.out.ext e6) (F2.out.ext e6) L_hr, rfl, F3.out.trans e6⟩
end Go.Proofs.Ytojgmgghlkpfoaa
end
