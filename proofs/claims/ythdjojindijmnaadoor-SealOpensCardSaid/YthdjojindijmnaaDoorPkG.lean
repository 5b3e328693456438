import Derived.Test.YthdjojindijmnaaDoorOpen
import Derived.Test.YthdjojindijmnaaDoorPkJ
import Derived.Test.YthdjojindijmnaaDoorPkL
import Derived.Deep.AppendSrc
import Derived.Deep.Upon
import Derived.Test.YthdjojindijmnaaDoorQu
section
/-
  Layer 5 in closed form: what is closed opens. No conditions.
-/
namespace Go.Proofs.YthdjojindijmnaaDoor
open Go.ChangeShapes Go.WideShapes Go.ChangeAt Go.RowKit Go.Deep

theorem turn_turn {ks ns : List UInt8} {n : Nat} {bs : List UInt8} : turnL ks ns n (turnL ks ns n bs) = bs := by
  refine list_bt (by rw [turnL_len, turnL_len]) fun j hj => ?_
  rw [turnL_len, turnL_len] at hj
  rw [bt_turnL (by rw [turnL_len]; exact hj), bt_turnL hj, Nat.xor_assoc, Nat.xor_self, Nat.xor_zero]
theorem sealT_twice (ks bs : List UInt8) : sealT ks (sealT ks bs) = bs := turn_turn
theorem sealL_take {ks bs ts : List UInt8} {n : Nat} (h : ts.length = n) : (sealL ks bs ts).take n = sealT ks ts := by
  unfold sealL
  exact List.take_left' (by rw [sealT_len]; exact h)
theorem sealL_drop {ks bs ts : List UInt8} {n : Nat} (h : ts.length = n) : (sealL ks bs ts).drop n = sealM ks bs (sealT ks ts) := by
  unfold sealL
  exact List.drop_left' (by rw [sealT_len]; exact h)
/-- What is closed is opened as it was. -/
theorem open_back {A B : Option Addr} {n c m d q : Nat} {ks bs ts : List UInt8} {w : World} (hk : ks.length = 32) (h : Bs w A n c bs) (h' : Bs w B m d (sealL ks bs ts)) (hq : ts.length = q) (hn : n ≤ 1000000) (hm : m ≤ 1000000) {tg : TypeId × Nat × Nat} (hG : Gl w tg) :
    Calls Tryd.prog 23 #[.agg (cellsOf ks).toArray, .slice A n c, .slice B m d] w (RetBsE ts 0 w) := by
  have hl := h'.len
  rw [sealL_len] at hl
  have := open_main (b := false) (q := q) hk h h' (by omega) hn hm (by rw [sealL_take hq, sealL_drop hq]; simp) hG
  rw [sealL_take hq, sealT_twice] at this
  exact this
/-- What is opened with other bytes beside it is not. -/
theorem open_not {A B : Option Addr} {n c m d q : Nat} {ks bs cs : List UInt8} {w : World} (hk : ks.length = 32) (h : Bs w A n c bs) (h' : Bs w B m d cs) (hq : m = q + 32) (hne : decide (sealM ks bs (cs.take q) = cs.drop q) = false) (hn : n ≤ 1000000) (hm : m ≤ 1000000) {tg : TypeId × Nat × Nat} (hG : Gl w tg) :
    Calls Tryd.prog 23 #[.agg (cellsOf ks).toArray, .slice A n c, .slice B m d] w (RetBsE [] 4 w) :=
  open_main (b := true) (q := q) hk h h' hq hn hm (by rw [hne]; rfl) hG
end Go.Proofs.YthdjojindijmnaaDoor
end

section
/-
  The key 1, 0, 0 .. No conditions.
-/
namespace Go.Proofs.YthdjojindijmnaaDoor
open Go.ChangeShapes Go.WideShapes Go.ChangeAt Go.RowKit Go.Deep

def key1 : List UInt8 := 1 :: List.replicate 31 0
def key1C : Array Value := #[Value.int .u8 1, Value.int .u8 0, Value.int .u8 0, Value.int .u8 0, Value.int .u8 0, Value.int .u8 0, Value.int .u8 0, Value.int .u8 0, Value.int .u8 0, Value.int .u8 0, Value.int .u8 0, Value.int .u8 0, Value.int .u8 0, Value.int .u8 0, Value.int .u8 0, Value.int .u8 0, Value.int .u8 0, Value.int .u8 0, Value.int .u8 0, Value.int .u8 0, Value.int .u8 0, Value.int .u8 0, Value.int .u8 0, Value.int .u8 0, Value.int .u8 0, Value.int .u8 0, Value.int .u8 0, Value.int .u8 0, Value.int .u8 0, Value.int .u8 0, Value.int .u8 0, Value.int .u8 0]
theorem key1_cells : (cellsOf key1).toArray = key1C := by kernel_rfl
theorem key1_built : Tryd.prog.built 23 [(0, .int .u8 1)] = some (cellsOf key1).toArray := by kernel_rfl
end Go.Proofs.YthdjojindijmnaaDoor
end

section
/-
  The law's awake (layer 5).
-/
namespace Go.Proofs.YthdjojindijmnaaDoor
open Go.ChangeShapes Go.WideShapes Go.ChangeAt Go.RowKit Go.Deep
set_option maxRecDepth 100000

def heL : List UInt8 := [104, 101, 108, 108, 111]
theorem not_beside : decide (sealM key1 [] (sealT key1 heL) = sealM key1 [120] (sealT key1 heL)) = false := by decide +kernel
theorem conv_const5 (w : World) (o : Obj) (C : Array Value) (n c : Nat) : (convert 34 34 (.slice (some ⟨w.heap.size + 1, 0, none⟩) n c)).run Tryd.prog ((w.alloc o).alloc (.cells C 5)) = .ok (.slice (some ⟨w.heap.size + 1, 0, none⟩) n c) ((w.alloc o).alloc (.cells C 5 (C.size, C.size + 1))) := by
  have := conv_const (w.alloc o) C n c
  rwa [size_alloc] at this
theorem lit_two (W : World) : Bs ((W.alloc (Obj.cells #[.int .u8 120] 5 (1, 2))).alloc (Obj.cells #[.int .u8 104, .int .u8 101, .int .u8 108, .int .u8 108, .int .u8 111] 5 (5, 6))) (some ⟨W.heap.size, 0, none⟩) 1 1 [120] ∧ Bs ((W.alloc (Obj.cells #[.int .u8 120] 5 (1, 2))).alloc (Obj.cells #[.int .u8 104, .int .u8 101, .int .u8 108, .int .u8 108, .int .u8 111] 5 (5, 6))) (some ⟨W.heap.size + 1, 0, none⟩) 5 5 heL ∧ Ext W ((W.alloc (Obj.cells #[.int .u8 120] 5 (1, 2))).alloc (Obj.cells #[.int .u8 104, .int .u8 101, .int .u8 108, .int .u8 108, .int .u8 111] 5 (5, 6))) :=
  ⟨Bs.of_list rfl (heap_alloc1 _ _ _) ⟨rfl, by omega⟩, Bs.of_list rfl (heap_alloc2 _ _ _) ⟨rfl, by omega⟩, ((Ext.refl W).alloc _).alloc _⟩

set_option maxHeartbeats 1000000 in
theorem awake5_calls {w : World} {tg : TypeId × Nat × Nat} (hG : Gl w tg) : Calls Tryd.prog 21 #[] w fun e w' => e = .returned (.bool true) ∧ Ext w w' := by
  have hcv := conv_const
  have hcv1 := conv_const5
  have hb1 := key1_built
  have hne := Lib.hid not_beside
  have KL : key1.length = 32 := by decide
  have CLOSE : Hid (∀ (W : World), Ext w W → Calls Tryd.prog 22 #[.agg (cellsOf key1).toArray, .slice (some ⟨W.heap.size, 0, none⟩) 1 1, .slice (some ⟨W.heap.size + 1, 0, none⟩) 5 5] ((W.alloc (Obj.cells #[.int .u8 120] 5 (1, 2))).alloc (Obj.cells #[.int .u8 104, .int .u8 101, .int .u8 108, .int .u8 108, .int .u8 111] 5 (5, 6))) (RetOwn (sealL key1 [120] heL) ((W.alloc (Obj.cells #[.int .u8 120] 5 (1, 2))).alloc (Obj.cells #[.int .u8 104, .int .u8 101, .int .u8 108, .int .u8 108, .int .u8 111] 5 (5, 6))))) := fun W e => close_calls KL (lit_two W).1 (lit_two W).2.1 (by omega) (by omega) (hG.kept (e.trans (lit_two W).2.2) hG.lt)
  have OPEN : Hid (∀ (W : World) (A : Option Addr) (c : Nat), Ext w W → Bs W A 37 c (sealL key1 [120] heL) → Calls Tryd.prog 23 #[.agg (cellsOf key1).toArray, .slice (some ⟨W.heap.size, 0, none⟩) 1 1, .slice A 37 c] (W.alloc (Obj.cells #[.int .u8 120] 5 (1, 2))) (RetBsE heL 0 (W.alloc (Obj.cells #[.int .u8 120] 5 (1, 2))))) := fun W A c e b => open_back KL (Bs.of_list (xs := [120]) rfl (heap_alloc_new _ _) ⟨rfl, by omega⟩) (b.ext ((Ext.refl W).alloc _)) (q := 5) rfl (by omega) (by omega) (hG.kept (e.alloc _) hG.lt)
  have OPNIL : Hid (∀ (W : World) (A : Option Addr) (c : Nat), Ext w W → Bs W A 37 c (sealL key1 [120] heL) → Calls Tryd.prog 23 #[.agg (cellsOf key1).toArray, .slice none 0 0, .slice A 37 c] W (RetBsE [] 4 W)) := fun W A c e b => open_not KL (Bs.nil W) b (q := 5) rfl (by rw [sealL_take (n := 5) rfl, sealL_drop (n := 5) rfl]; exact hne.out) (by omega) (by omega) (hG.kept e hG.lt)
  have SL := sealL_len key1 [120] heL
  clear hG hne
  generalize sealL key1 [120] heL = C at *
  generalize key1 = K1 at *
  go_enter Tryd.func21, Tryd.ntmps21
  go_wp2_with (refine wpList_build_as rfl _ _ rfl (cellsOf K1).toArray (by simp only [List.map_toArray, List.map_cons, List.map_nil]; exact hb1) ?_; simp only [Act.put, List.setIfInBounds_toArray, List.set_cons_zero, List.set_cons_succ])
  refine (CLOSE.out w (Ext.refl w)).mono ?_
  rintro e w1 ⟨A1, n1, c1, rfl, o1, e1⟩
  obtain rfl : n1 = 37 := by rw [← o1.len, SL]; rfl
  have x1 : Hid (Ext w w1) := (lit_two w).2.2.trans e1
  have b1 := Lib.hid o1.bs
  clear CLOSE e1 o1
  go_wp2_with (refine wpList_build_as rfl _ _ rfl (cellsOf K1).toArray (by simp only [List.map_toArray, List.map_cons, List.map_nil]; exact hb1) ?_; simp only [Act.put, List.setIfInBounds_toArray, List.set_cons_zero, List.set_cons_succ])
  refine (OPEN.out w1 A1 c1 x1.out b1.out).mono ?_
  rintro e w2 ⟨A2, n2, c2, rfl, b2, e2⟩
  obtain rfl : n2 = 5 := by rw [← b2.len]; rfl
  have y2 : Ext w1 w2 := ((Ext.refl w1).alloc _).trans e2
  have x2 : Hid (Ext w w2) := x1.out.trans y2
  replace b1 := Lib.hid (b1.out.ext y2)
  replace b2 := Lib.hid b2
  clear OPEN e2 y2 x1
  go_wp2_with (refine wpList_build_as rfl _ _ rfl (cellsOf K1).toArray (by simp only [List.map_toArray, List.map_cons, List.map_nil]; exact hb1) ?_; simp only [Act.put, List.setIfInBounds_toArray, List.set_cons_zero, List.set_cons_succ])
  refine (OPNIL.out w2 A1 c1 x2.out b1.out).mono ?_
  rintro e w3 ⟨A3, n3, c3, rfl, b3, e3⟩
  have x3 : Hid (Ext w w3) := x2.out.trans e3
  have hcb : (convert 34 9 (.slice A2 5 c2)).run Tryd.prog w3 = .ok (.string ⟨#[104, 101, 108, 108, 111]⟩) w3 := conv_bs (b2.out.ext e3)
  clear OPNIL e3 b1 b2 x2
  go_wp2_with fail
  go_ret
  exact ⟨rfl, x3.out⟩
end Go.Proofs.YthdjojindijmnaaDoor
end

section
/-
  append onto an empty literal: nothing old turns.
-/
namespace Go.Proofs.YthdjojindijmnaaDoor
open Go.ChangeShapes Go.WideShapes Go.ChangeAt Go.RowKit Go.Deep
set_option maxRecDepth 100000

theorem append_empty {w : World} {a : Addr} {A' : Option Addr} {m c' : Nat} {ys : List UInt8} (ty : TypeId) (hr : Bs w A' m c' ys) (hm : m ≤ 100000000) :
    ∃ A'' c'' w', (Builtin.append_ #[34, 34] ty #[.slice (some a) 0 0, .slice A' m c']).run Tryd.prog w = .ok (.slice A'' m c'') w' ∧ Bs w' A'' m c'' ys ∧ Ext w w' := by
  obtain ⟨i, hi, hz0, hz1, hz2⟩ := info_parts info8
  rcases Nat.eq_zero_or_pos m with h0 | h0
  · subst h0
    have hy := hr.zero
    subst hy
    have hsrc : Src Tryd.prog i.size 34 (.slice A' 0 c') 0 [] w := by
      rcases A' with _ | a'
      · exact Src.ofNil w Tryd.underlying34 c'
      · exact Src.ofSlice w Tryd.underlying34 a' 0 c' [] (by simp) (fun j u hu => by simp at hu) (fun u hu => by simp at hu)
    exact ⟨some a, 0, w, run_append_nothing w 34 34 ty 5 i Tryd.underlying34 hi (some a) 0 0 (Nat.le_refl _) _ hsrc, ⟨rfl, Nat.le_refl _, Nat.zero_le _, fun h => absurd h (by omega)⟩, Ext.refl w⟩
  · obtain ⟨b, off, rfl, hb, hc⟩ := hr.pos h0
    have hl := hr.len
    have hrun := run_append_grow (P := Tryd.prog) w 34 ty 5 i (.int .u8 0) Tryd.underlying34 hi hz0 a 0 0 [] (by simp) (fun j v hv => by simp at hv) ⟨b, off, none⟩ m c' (ys.map u8v) (by rw [List.length_map, hl, hz1, Nat.mul_one]) (fun j u hu => by
        have hj : j < ys.length := by
          rcases Nat.lt_or_ge j ys.length with h | h
          · exact h
          · simp [h] at hu
        have hplain : (⟨b, off, none⟩ : Addr).add j = ⟨b, off + j, none⟩ := by unfold Addr.add; split <;> simp_all
        rw [hplain, hc j (by omega), ← u8v_bt hj, hu]) (by omega) (by omega) (by rw [hz2]; simp [Builtin.nextslicecap]; split <;> omega)
    rw [Nat.zero_add] at hrun
    refine ⟨_, _, _, hrun, ⟨hl, grownCap_ge w m 0 5, grownCap_le_maxLen w m 0 5 (by unfold maxLen; omega), fun _ => ⟨w.heap.size, 0, rfl, by simp [World.alloc], fun j hj => ?_⟩⟩, ((Ext.refl w).drew).alloc _⟩
    have hn := heap_alloc_new w.drew (.cells (([] : List Value).toArray ++ (ys.map u8v).toArray ++ Builtin.zeroCells (Value.int .u8 0).cells (grownCap w m 0 5 - m)) 5)
    refine (cell_of_row _ _ (0 + j) _ _ (0, 0) hn).trans ?_
    rw [Nat.zero_add]
    rw [Array.getElem?_append_left (by simp; omega)]
    simp only [List.append_toArray, List.nil_append, List.getElem?_toArray]
    exact u8v_bt (by omega)

theorem wp_append_empty {w : World} {o : Oper} {a : Act} {K : Act → World → Prop} {Q : Exit → Act → World → Prop} {p : Addr} {A' : Option Addr} {m c' : Nat} {ys : List UInt8} {s x : Operand}
    (ho : o.op = .call { callee := .builtin .append, args := #[s, x], argTypes := #[34, 34] }) (hs : a.eval s = .slice (some p) 0 0) (hx : a.eval x = .slice A' m c')
    (hr : Bs w A' m c' ys) (hm : m ≤ 100000000)
    (hK : ∀ A'' c'' w', Bs w' A'' m c'' ys → Ext w w' → K (a.put o.dst (.slice A'' m c'')) w') : o.wp Tryd.prog a w K Q := by
  obtain ⟨A'', c'', w', hrun, h2, h3⟩ := append_empty (a := p) o.type hr hm
  unfold Oper.wp execOp
  simp only [ho, resolve, invoke, builtin, Sem.run_bind, Sem.run_pure, Result.andThen_ok, List.map_toArray, List.map_cons, List.map_nil, hs, hx, hrun]
  exact hK A'' c'' w' h2 h3
end Go.Proofs.YthdjojindijmnaaDoor
end

section
/-
  The document's LEFT.
-/
namespace Go.Proofs.YthdjojindijmnaaDoor
open Go.ChangeShapes Go.WideShapes Go.ChangeAt Go.RowKit Go.Deep

set_option maxHeartbeats 1000000 in
theorem refLeft_calls {n x s : Nat} {w : World} (hx : x < 4294967296) (e1 : 32 - n = s) (h1 : 1 ≤ n) (h2 : n ≤ 31) :
    Calls Tryd.prog 77 #[.int .u32 (x : Int), .int .i64 (s : Int)] w fun e w' => e = .returned (.int .u32 (rotr n x : Int)) ∧ ∃ k, w' = w.drewN k := by
  have e2 : s ≤ 31 := by omega
  have e4 : 1 ≤ s := by omega
  have hf := Lib.hid (rotr_int (n := n) (by omega) hx)
  rw [e1] at hf
  have hd : IntKind.i64.wrap (32 - (s : Int)) = (n : Int) := by rw [IntWalk.i64_in _ (by omega)]; omega
  have q1 : Op.shift .shr .u32 (x : Int) .i64 (n : Int) = pure (.int .u32 ((x : Int) / 2 ^ n)) := by
    have := shift_shr .u32 .i64 (x : Int) (n : Int) (by omega) (by show (n : Int) ≤ 32; omega)
    rw [this]
    simp
  have q2 : Op.shift .shl .u32 (x : Int) .i64 (s : Int) = pure (.int .u32 ((x : Int) * 2 ^ s % 4294967296)) := by
    have := shift_shl .u32 .i64 (x : Int) (s : Int) (by omega) (by show (s : Int) ≤ 32; omega)
    rw [this, IntKind.wrap_u32]
    simp
  clear e1
  go_enter Tryd.func77, Tryd.ntmps77
  go_wp2_with fail
  refine wp_region_seq (R := Ext) Ext.refl (fun _ _ _ => Ext.trans) [0, 1, 2, 3, 4, 5, 6, 7, 8] [] [(0, 6, 2), (0, 7, 4), (3, 8, 192), (0, 9, 2), (0, 10, 4), (16, 11, 1024), (40, 12, 2560), (68, 13, 4352), (255, 5, 8192)] (by kernel_rfl) (by kernel_rfl) (by kernel_rfl) rfl (by kernel_rfl) (by kernel_rfl) (fun _ _ d _ _ h => by cases d <;> exact h) ?_
  repeat (first | (refine seq_read (fun _ => True) (fun _ _ => trivial) _ (v := ?_) rfl rfl (by rfl) ?_ ?_; rotate_left; (· intro w' hF; go_simp; (try with_reducible rfl)); simp only [Act.put, List.setIfInBounds_toArray, List.set_cons_zero, List.set_cons_succ]) | (refine seq_skip _ rfl rfl (by rfl) ?_; simp only [Act.put, List.setIfInBounds_toArray, List.set_cons_zero, List.set_cons_succ]))
  refine seq_done ?_
  go_wp2_with fail
  go_ret
  exact ⟨congrArg (fun v => Ending.returned (Value.int .u32 v)) hf.out, 1, rfl⟩
end Go.Proofs.YthdjojindijmnaaDoor
end
