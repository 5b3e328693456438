import Derived.Test.YtojgmgghlkpfoaaHeadV
import Derived.Test.YtojgmgghlkpfoaaPkJ
import Derived.Deep.AppendSrc
import Derived.Deep.Upon
import Derived.Test.YtojgmgghlkpfoaaFillS
section
/-
  head.Bytes.
-/
namespace Go.Proofs.Ytojgmgghlkpfoaa
open Go.ChangeShapes Go.WideShapes Go.ChangeAt Go.RowKit Go.Deep
set_option maxRecDepth 100000

def high4 (n : Nat) : List UInt8 := (lowL n 4).reverse
theorem high4_len (n : Nat) : (high4 n).length = 4 := by rw [high4, List.length_reverse, lowL_len]
def headL (pk : List UInt8) (p n : Nat) : List UInt8 := (pk ++ high4 p) ++ high4 n
theorem headL_len {pk : List UInt8} (h : pk.length = 32) (p n : Nat) : (headL pk p n).length = 40 := by simp [headL, high4_len, h]
/-- A part of a block that holds bytes reads as them. -/
theorem Cb.bs {w : World} {g : Nat} {T : TypeId} {L : List Value} (h : Cb w g T L) {p q : List Value} {xs : List UInt8} {off n : Nat} (hL : L = p ++ (cellsOf xs ++ q)) (hp : p.length = off) (hn : xs.length = n) (hm : n ≤ 1000000) : Bs w (some ⟨g, off, none⟩) n n xs :=
  ⟨hn, Nat.le_refl _, by unfold maxLen; omega, fun _ => ⟨g, off, rfl, h.lt, fun j hj => h.mid hL hp j _ (cellsOf_get (by omega))⟩⟩
theorem hd_cells {pk : List UInt8} (lp : pk.length = 32) (p n : Int) : hdC pk p n = [] ++ (cellsOf pk ++ [.int .i64 p, .int .i64 n]) ∧ (hdC pk p n)[32]? = some (.int .i64 p) ∧ (hdC pk p n)[33]? = some (.int .i64 n) := by
  refine ⟨by simp [hdC], ?_, ?_⟩
  · unfold hdC; rw [List.getElem?_append_right (by rw [cellsOf_len, lp]; omega)]; simp [cellsOf_len, lp]
  · unfold hdC; rw [List.getElem?_append_right (by rw [cellsOf_len, lp]; omega)]; simp [cellsOf_len, lp]
set_option maxHeartbeats 2000000 in
theorem headBytes_bad {w : World} {pk : List UInt8} {p n : Int} (lp : pk.length = 32) (hb : okH p n = false) : Calls Try.prog 13 #[.agg (hdC pk p n).toArray] w fun e w' => e = .returned (.tuple #[.slice none 0 0, .int .i64 1]) ∧ Ext w w' := by
  have VH := Lib.hid (fun (W : World) => validHead_calls (w := W) (p := p) (n := n) lp)
  rw [hb] at VH
  have L_hd := hdC_len lp p n
  generalize hdC pk p n = hd at *
  have S_hd : hd.toArray.size = 34 := by rw [List.size_toArray, L_hd]
  have B0 : Hid (Cb (w.alloc (Obj.cells hd.toArray 25)) w.heap.size 25 hd ∧ Ext w (w.alloc (Obj.cells hd.toArray 25))) := ⟨Cb.new _ _ _, (Ext.refl w).alloc _⟩
  go_enter Try.func13, Try.ntmps13
  go_upto_region 1 with fail
  refine wp_gen (fun W => Cb W w.heap.size 25 hd ∧ Ext w W) B0.out ?_
  clear B0
  rintro w0 ⟨k0, x0⟩
  replace k0 := Lib.hid k0
  replace x0 := Lib.hid x0
  go_wp2_with (refine wpList_load_row rfl 25 _ rfl w.heap.size rfl 25 hd.toArray (0, 0) _ k0.out rfl rfl (by rw [S_hd]; rfl) ?_; simp only [Act.put, List.setIfInBounds_toArray, List.set_cons_zero, List.set_cons_succ])
  refine (VH.out _).mono ?_
  rintro e w1 ⟨rfl, e1⟩
  go_wp2_with fail
  go_ret2
  exact ⟨rfl, x0.out.trans e1⟩
set_option maxHeartbeats 4000000 in
theorem headBytes_ok {w : World} {pk : List UInt8} {p n : Nat} (lp : pk.length = 32) (hp : p ≤ 1000000) (hn : n ≤ 1000000) : Calls Try.prog 13 #[.agg (hdC pk (p : Int) (n : Int)).toArray] w (RetBsE (headL pk p n) 0 w) := by
  have hb : okH (p : Int) (n : Int) = true := by
    unfold okH upB
    rw [decide_eq_true (show (0 : Int) ≤ (p : Int) by omega), decide_eq_true (show (p : Int) ≤ 1000000 by omega), decide_eq_true (show (0 : Int) ≤ (n : Int) by omega), decide_eq_true (show (n : Int) ≤ 1000000 by omega)]
    rfl
  have VH := Lib.hid (fun (W : World) => validHead_calls (w := W) (p := (p : Int)) (n := (n : Int)) lp)
  rw [hb] at VH
  have HP : Hid (∀ W, Calls Try.prog 31 #[.int .u64 (p : Int), .int .i64 4] W (RetBs (high4 p) W)) := fun W => high_calls (by omega) (by omega) (by omega) (by omega) rfl
  have HN : Hid (∀ W, Calls Try.prog 31 #[.int .u64 (n : Int), .int .i64 4] W (RetBs (high4 n) W)) := fun W => high_calls (by omega) (by omega) (by omega) (by omega) rfl
  have u1 : IntKind.u64.wrap (p : Int) = (p : Int) := IntWalk.u64_in _ (by omega)
  have u2 : IntKind.u64.wrap (n : Int) = (n : Int) := IntWalk.u64_in _ (by omega)
  obtain ⟨c0, c32, c33⟩ := hd_cells lp (p : Int) (n : Int)
  have L_hd := hdC_len lp (p : Int) (n : Int)
  have hR : Hid ((pk ++ high4 p) ++ high4 n = headL pk p n) := rfl
  replace c0 := Lib.hid (fun _ : Unit => c0)
  replace c32 := Lib.hid c32
  replace c33 := Lib.hid c33
  generalize headL pk p n = hl at *
  generalize hdC pk (p : Int) (n : Int) = hd at *
  have lP := high4_len p
  have lN := high4_len n
  generalize high4 p = hp4 at *
  generalize high4 n = hn4 at *
  clear hb hp hn
  have S_hd : hd.toArray.size = 34 := by rw [List.size_toArray, L_hd]
  obtain ⟨r, hr⟩ : ∃ r, r = w.heap.size := ⟨_, rfl⟩
  have B0 : Hid (Cb (w.alloc (Obj.cells hd.toArray 25)) r 25 hd ∧ Ext w (w.alloc (Obj.cells hd.toArray 25))) := by rw [hr]; exact ⟨Cb.new _ _ _, (Ext.refl w).alloc _⟩
  go_enter Try.func13, Try.ntmps13
  go_upto_region 1 with fail
  refine wp_gen (fun W => Cb W r 25 hd ∧ Ext w W) B0.out ?_
  rw [← hr]
  have wr : w.heap.size ≤ r := Nat.le_of_eq hr.symm
  clear B0
  replace hr := Lib.hid hr
  rintro w0 ⟨k0, x0⟩
  replace k0 := Lib.hid k0
  replace x0 := Lib.hid x0
  go_wp2_with (refine wpList_load_row rfl 25 _ rfl r rfl 25 hd.toArray (0, 0) _ k0.out rfl rfl (by rw [S_hd]; rfl) ?_; simp only [Act.put, List.setIfInBounds_toArray, List.set_cons_zero, List.set_cons_succ])
  refine (VH.out _).mono ?_
  rintro e w1 ⟨rfl, e1⟩
  have k1 := Lib.hid (k0.out.ext e1)
  have x1 := Lib.hid (x0.out.trans e1)
  have r1 : r + 1 ≤ w1.heap.size := (k0.out.ext e1).lt
  have b1 := Lib.hid (k1.out.bs (c0.out ()) rfl lp (by omega))
  clear k0 x0 e1 VH
  go_upto_region 4 with (at_builtin; (with_reducible refine wpList_append_bs rfl (B := r + 1) (s := .const (.slice none 0 0)) (x := .tmp 9) rfl rfl rfl (Own.nil _ _) b1.out (by omega) r1 ?_); intro A2 c2 w2 o2 g2 b2; simp only [Nat.zero_add, List.nil_append] at o2 ⊢; replace o2 := Lib.hid o2; clear g2; replace b2 := Lib.hid b2; simp only [Act.put, List.setIfInBounds_toArray, List.set_cons_zero, List.set_cons_succ])
  refine wp_gen (fun W => Own (r + 1) W A2 32 c2 pk ∧ Cb W r 25 hd ∧ Ext w W) ⟨o2.out, k1.out.kept b2.out (by omega), Below.trans x1.out (b2.out.mono (by omega))⟩ ?_
  clear o2 b2 b1 k1 x1 r1
  rintro w3 ⟨o3, k3, x3⟩
  have b3 := k3.cell c32.out
  replace o3 := Lib.hid o3
  replace k3 := Lib.hid k3
  replace x3 := Lib.hid x3
  go_wp2_with fail
  refine (HP.out _).mono ?_
  rintro e w4 ⟨A4, n4, c4, rfl, b4, e4⟩
  obtain rfl : n4 = 4 := by rw [← b4.len, lP]
  have o4 := Lib.hid (o3.out.ext e4)
  have k4 := Lib.hid (k3.out.ext e4)
  have x4 := Lib.hid (x3.out.trans e4)
  have r4 : r + 1 ≤ w4.heap.size := (k3.out.ext e4).lt
  replace b4 := Lib.hid b4
  clear b3 o3 k3 x3 e4 HP
  go_upto_region 5 with (at_builtin; (with_reducible refine wpList_append_bs rfl (B := r + 1) (s := .tmp 11) (x := .tmp 15) rfl rfl rfl o4.out b4.out (by omega) r4 ?_); intro A5 c5 w5 o5 g5 b5; replace o5 := Lib.hid o5; clear g5; replace b5 := Lib.hid b5; simp only [Act.put, List.setIfInBounds_toArray, List.set_cons_zero, List.set_cons_succ])
  refine wp_gen (fun W => Own (r + 1) W A5 (32 + 4) c5 (pk ++ hp4) ∧ Cb W r 25 hd ∧ Ext w W) ⟨o5.out, k4.out.kept b5.out (by omega), Below.trans x4.out (b5.out.mono (by omega))⟩ ?_
  clear o5 b5 o4 b4 k4 x4 r4
  rintro w6 ⟨o6, k6, x6⟩
  have b6 := k6.cell c33.out
  replace o6 := Lib.hid o6
  replace k6 := Lib.hid k6
  replace x6 := Lib.hid x6
  go_wp2_with fail
  refine (HN.out _).mono ?_
  rintro e w7 ⟨A7, n7, c7, rfl, b7, e7⟩
  obtain rfl : n7 = 4 := by rw [← b7.len, lN]
  have o7 := Lib.hid (o6.out.ext e7)
  have x7 := Lib.hid (x6.out.trans e7)
  have r7 : r + 1 ≤ w7.heap.size := (k6.out.ext e7).lt
  replace b7 := Lib.hid b7
  clear b6 o6 k6 x6 e7 HN
  go_wp2_with (at_builtin; (with_reducible refine wpList_append_bs rfl (B := r + 1) (s := .tmp 17) (x := .tmp 21) rfl rfl rfl o7.out b7.out (by omega) r7 ?_); intro A8 c8 w8 o8 g8 b8; replace o8 := Lib.hid o8; clear g8; replace b8 := Lib.hid b8; simp only [Act.put, List.setIfInBounds_toArray, List.set_cons_zero, List.set_cons_succ])
  go_ret2
  exact ⟨A8, _, c8, rfl, by rw [← hR.out]; exact o8.out.bs, Below.trans x7.out (b8.out.mono (by omega))⟩
end Go.Proofs.Ytojgmgghlkpfoaa
end

section
/-
  head.validEnvelope; an envelope's cells.
-/
namespace Go.Proofs.Ytojgmgghlkpfoaa
open Go.ChangeShapes Go.WideShapes Go.ChangeAt Go.RowKit Go.Deep
set_option maxRecDepth 100000

/-- the cells of an envelope -/
def evC (f t : Int) (cm pk : List UInt8) (p n : Int) (A : Option Addr) (m c : Nat) : List Value := [.int .i64 f, .int .i64 t] ++ (cellsOf cm ++ (hdC pk p n ++ [.slice A m c]))
theorem evC_len {cm pk : List UInt8} (hc : cm.length = 32) (hk : pk.length = 32) (f t p n : Int) (A : Option Addr) (m c : Nat) : (evC f t cm pk p n A m c).length = 69 := by simp [evC, hdC_len hk, cellsOf_len, hc]
def okE (f t p n : Int) (m : Nat) : Bool := upB f 7 && (upB t 7 && (okH p n && decide ((m : Int) ≤ 600)))
theorem ev_cells {cm pk : List UInt8} (hc : cm.length = 32) (hk : pk.length = 32) (f t p n : Int) (A : Option Addr) (m c : Nat) :
    (evC f t cm pk p n A m c)[0]? = some (.int .i64 f) ∧ (evC f t cm pk p n A m c)[1]? = some (.int .i64 t) ∧ (evC f t cm pk p n A m c)[68]? = some (.slice A m c) ∧
    evC f t cm pk p n A m c = ([.int .i64 f, .int .i64 t] ++ cellsOf cm) ++ (hdC pk p n ++ [.slice A m c]) ∧ evC f t cm pk p n A m c = [.int .i64 f, .int .i64 t] ++ (cellsOf cm ++ (hdC pk p n ++ [.slice A m c])) := by
  refine ⟨rfl, rfl, ?_, by simp [evC], rfl⟩
  unfold evC
  rw [List.getElem?_append_right (by simp), List.getElem?_append_right (by simp [cellsOf_len, hc]), List.getElem?_append_right (by simp [cellsOf_len, hc, hdC_len hk])]
  simp [cellsOf_len, hc, hdC_len hk]
set_option maxHeartbeats 4000000 in
theorem validEnvelope_calls {w : World} {f t p n : Int} {cm pk : List UInt8} {A : Option Addr} {m c : Nat} (hc : cm.length = 32) (hk : pk.length = 32) (hm : m ≤ 9223372036854775807) : Calls Try.prog 40 #[.agg (evC f t cm pk p n A m c).toArray] w fun e w' => e = .returned (.bool (okE f t p n m)) ∧ Ext w w' := by
  have UP : Hid (∀ (W : World) (z : Int), Calls Try.prog 49 #[.int .i64 z, .int .i64 7] W fun e w' => e = .returned (.bool (upB z 7)) ∧ Ext W w') := fun W z => upTo_calls
  have VH := Lib.hid (fun (W : World) => validHead_calls (w := W) (p := p) (n := n) hk)
  obtain ⟨c0, c1, c68, ch, c5⟩ := ev_cells hc hk f t p n A m c
  clear c5
  replace c0 := Lib.hid c0
  replace c1 := Lib.hid c1
  replace c68 := Lib.hid c68
  replace ch := Lib.hid (fun _ : Unit => ch)
  have hR : Hid (okE f t p n m = (upB f 7 && (upB t 7 && (okH p n && decide ((m : Int) ≤ 600))))) := rfl
  have L_h := hdC_len hk p n
  have l2 : ([Value.int .i64 f, .int .i64 t] ++ cellsOf cm).length = 34 := by simp [cellsOf_len, hc]
  generalize okE f t p n m = ok at *
  generalize evC f t cm pk p n A m c = ev at *
  generalize hdC pk p n = hd at *
  have H34 : Hid (∀ (W : World) (g : Nat) T, Cb W g T ev → ∀ j v, hd[j]? = some v → W.cell? ⟨g, 34 + j, none⟩ = some v) := fun W g T k => k.mid (ch.out ()) l2
  clear ch
  have B0 : Hid (Cb (w.alloc (Obj.cells ev.toArray 35)) w.heap.size 35 ev ∧ Ext w (w.alloc (Obj.cells ev.toArray 35))) := ⟨Cb.new _ _ _, (Ext.refl w).alloc _⟩
  go_enter Try.func40, Try.ntmps40
  go_upto_region 1 with fail
  refine wp_gen (fun W => Cb W w.heap.size 35 ev ∧ Ext w W) B0.out ?_
  clear B0
  rintro w0 ⟨k0, x0⟩
  have b0 := k0.cell c0.out
  replace k0 := Lib.hid k0
  replace x0 := Lib.hid x0
  go_wp2_with fail
  refine (UP.out _ _).mono ?_
  rintro e w1 ⟨rfl, e1⟩
  have k1 := Lib.hid (k0.out.ext e1)
  have b1 := k1.out.cell c1.out
  have x1 := Lib.hid (x0.out.trans e1)
  clear b0 k0 x0 e1
  rcases hf : upB f 7 with _ | _
  · have hR2 : Hid (ok = false) := by unfold Hid; rw [hR.out, hf]; rfl
    clear b1 hR hf
    go_wp2_with fail
    go_ret
    exact ⟨by rw [hR2.out]; rfl, x1.out⟩
  replace hf := Lib.hid hf
  go_wp2_with fail
  refine (UP.out _ _).mono ?_
  rintro e w2 ⟨rfl, e2⟩
  have k2 := Lib.hid (k1.out.ext e2)
  have b2 := Lib.hid (H34.out _ _ _ k2.out)
  have x2 := Lib.hid (x1.out.trans e2)
  clear b1 k1 x1 e2
  rcases ht : upB t 7 with _ | _
  · have hR2 : Hid (ok = false) := by unfold Hid; rw [hR.out, ht, hf.out]; rfl
    clear b2 hR ht hf
    go_wp2_with fail
    go_ret
    exact ⟨by rw [hR2.out]; rfl, x2.out⟩
  replace ht := Lib.hid ht
  go_wp2_with (refine wpList_load_mid rfl (g := w.heap.size) (off := 34) (ys := hd) rfl rfl b2.out rfl rfl (by rw [L_h]; rfl) ?_; simp only [Act.put, List.setIfInBounds_toArray, List.set_cons_zero, List.set_cons_succ])
  refine (VH.out _).mono ?_
  rintro e w3 ⟨rfl, e3⟩
  have k3 := Lib.hid (k2.out.ext e3)
  have b3 := k3.out.cell c68.out
  have x3 := Lib.hid (x2.out.trans e3)
  clear b2 k2 x2 e3
  rcases ho : okH p n with _ | _
  · have hR2 : Hid (ok = false) := by unfold Hid; rw [hR.out, ht.out, hf.out, ho]; rfl
    clear b3 hR ht hf ho
    go_wp2_with fail
    go_ret
    exact ⟨by rw [hR2.out]; rfl, x3.out⟩
  have hR2 : Hid (ok = decide ((m : Int) ≤ 600)) := by unfold Hid; rw [hR.out, ht.out, hf.out, ho]; rfl
  clear hR ht hf ho
  go_wp2_with fail
  go_ret
  exact ⟨by rw [hR2.out]; rfl, x3.out⟩
end Go.Proofs.Ytojgmgghlkpfoaa
end

section
/-
  append onto an empty literal: nothing old turns.
-/
namespace Go.Proofs.Ytojgmgghlkpfoaa
open Go.ChangeShapes Go.WideShapes Go.ChangeAt Go.RowKit Go.Deep
set_option maxRecDepth 100000

theorem append_empty {w : World} {a : Addr} {A' : Option Addr} {m c' : Nat} {ys : List UInt8} (ty : TypeId) (hr : Bs w A' m c' ys) (hm : m ≤ 100000000) :
    ∃ A'' c'' w', (Builtin.append_ #[26, 26] ty #[.slice (some a) 0 0, .slice A' m c']).run Try.prog w = .ok (.slice A'' m c'') w' ∧ Bs w' A'' m c'' ys ∧ Ext w w' ∧ (0 < m → ∀ q, A'' = some q → q.block = w.heap.size) := by
  obtain ⟨i, hi, hz0, hz1, hz2⟩ := info_parts info8
  rcases Nat.eq_zero_or_pos m with h0 | h0
  · subst h0
    have hy := hr.zero
    subst hy
    have hsrc : Src Try.prog i.size 26 (.slice A' 0 c') 0 [] w := by
      rcases A' with _ | a'
      · exact Src.ofNil w Try.underlying26 c'
      · exact Src.ofSlice w Try.underlying26 a' 0 c' [] (by simp) (fun j u hu => by simp at hu) (fun u hu => by simp at hu)
    exact ⟨some a, 0, w, run_append_nothing w 26 26 ty 5 i Try.underlying26 hi (some a) 0 0 (Nat.le_refl _) _ hsrc, ⟨rfl, Nat.le_refl _, Nat.zero_le _, fun h => absurd h (by omega)⟩, Ext.refl w, fun h => absurd h (by omega)⟩
  · obtain ⟨b, off, rfl, hb, hc⟩ := hr.pos h0
    have hl := hr.len
    have hrun := run_append_grow (P := Try.prog) w 26 ty 5 i (.int .u8 0) Try.underlying26 hi hz0 a 0 0 [] (by simp) (fun j v hv => by simp at hv) ⟨b, off, none⟩ m c' (ys.map u8v) (by rw [List.length_map, hl, hz1, Nat.mul_one]) (fun j u hu => by
        have hj : j < ys.length := by
          rcases Nat.lt_or_ge j ys.length with h | h
          · exact h
          · simp [h] at hu
        have hplain : (⟨b, off, none⟩ : Addr).add j = ⟨b, off + j, none⟩ := by unfold Addr.add; split <;> simp_all
        rw [hplain, hc j (by omega), ← u8v_bt hj, hu]) (by omega) (by omega) (by rw [hz2]; simp [Builtin.nextslicecap]; split <;> omega)
    rw [Nat.zero_add] at hrun
    refine ⟨_, _, _, hrun, ⟨hl, grownCap_ge w m 0 5, grownCap_le_maxLen w m 0 5 (by unfold maxLen; omega), fun _ => ⟨w.heap.size, 0, rfl, by simp [World.alloc], fun j hj => ?_⟩⟩, ((Ext.refl w).drew).alloc _, fun _ q hq => by cases hq; rfl⟩
    have hn := heap_alloc_new w.drew (.cells (([] : List Value).toArray ++ (ys.map u8v).toArray ++ Builtin.zeroCells (Value.int .u8 0).cells (grownCap w m 0 5 - m)) 5)
    refine (cell_of_row _ _ (0 + j) _ _ (0, 0) hn).trans ?_
    rw [Nat.zero_add]
    rw [Array.getElem?_append_left (by simp; omega)]
    simp only [List.append_toArray, List.nil_append, List.getElem?_toArray]
    exact u8v_bt (by omega)

theorem wp_append_empty {w : World} {o : Oper} {a : Act} {K : Act → World → Prop} {Q : Exit → Act → World → Prop} {p : Addr} {A' : Option Addr} {m c' : Nat} {ys : List UInt8} {s x : Operand}
    (ho : o.op = .call { callee := .builtin .append, args := #[s, x], argTypes := #[26, 26] }) (hs : a.eval s = .slice (some p) 0 0) (hx : a.eval x = .slice A' m c')
    (hr : Bs w A' m c' ys) (hm : m ≤ 100000000)
    (hK : ∀ A'' c'' w', Bs w' A'' m c'' ys → Ext w w' → K (a.put o.dst (.slice A'' m c'')) w') : o.wp Try.prog a w K Q := by
  obtain ⟨A'', c'', w', hrun, h2, h3, _⟩ := append_empty (a := p) o.type hr hm
  unfold Oper.wp execOp
  simp only [ho, resolve, invoke, builtin, Sem.run_bind, Sem.run_pure, Result.andThen_ok, List.map_toArray, List.map_cons, List.map_nil, hs, hx, hrun]
  exact hK A'' c'' w' h2 h3
theorem wpList_append_emptyN {w : World} {ops : Array Oper} {rest : List Oper} {o : Oper} {a : Act} {Q : Exit → Act → World → Prop} (hgd : o.guard = none) {p : Addr} {A' : Option Addr} {m c' : Nat} {ys : List UInt8} {s x : Operand}
    (ho : o.op = .call { callee := .builtin .append, args := #[s, x], argTypes := #[26, 26] }) (hs : a.eval s = .slice (some p) 0 0) (hx : a.eval x = .slice A' m c')
    (hr : Bs w A' m c' ys) (hm : m ≤ 100000000)
    (hK : ∀ A'' c'' w', Bs w' A'' m c'' ys → Ext w w' → (0 < m → ∀ q, A'' = some q → q.block = w.heap.size) → wpList Try.prog ops Q rest (a.put o.dst (.slice A'' m c'')) w') : wpList Try.prog ops Q (o :: rest) a w :=
  wpList_plain hgd fun K hK' => by
    obtain ⟨A'', c'', w', hrun, h2, h3, h4⟩ := append_empty (a := p) o.type hr hm
    unfold Oper.wp execOp
    simp only [ho, resolve, invoke, builtin, Sem.run_bind, Sem.run_pure, Result.andThen_ok, List.map_toArray, List.map_cons, List.map_nil, hs, hx, hrun]
    exact hK' _ _ (hK A'' c'' w' h2 h3 h4)
end Go.Proofs.Ytojgmgghlkpfoaa
end

section
/-
  append onto an empty literal: the new block is one of bytes.
-/
namespace Go.Proofs.Ytojgmgghlkpfoaa
open Go.ChangeShapes Go.WideShapes Go.ChangeAt Go.RowKit Go.Deep
set_option maxRecDepth 100000

/-- A slice that reads as bytes, in a block of bytes. -/
def BsT (w : World) (A : Option Addr) (n c : Nat) (xs : List UInt8) : Prop := Bs w A n c xs ∧ (0 < n → ∀ q, A = some q → ∃ cs, w.heap[q.block]? = some (.cells cs 5 (0, 0)))
theorem BsT.ext {w w' : World} {A : Option Addr} {n c : Nat} {xs : List UInt8} (h : BsT w A n c xs) (e : Ext w w') : BsT w' A n c xs :=
  ⟨h.1.ext e, fun h0 q hq => by
    obtain ⟨cs, hc⟩ := h.2 h0 q hq
    exact ⟨cs, (e.block _ (heap_lt hc)).trans hc⟩⟩
theorem BsT.row {w : World} {A : Option Addr} {n c g : Nat} {xs : List UInt8} {T : TypeId} {L : List Value} {C : Array Value} (h : BsT w A n c xs) (k : Cb w g T L) (ht : T ≠ 5) : BsT (w.setRow g C) A n c xs := by
  have hne : 0 < n → ∀ q, A = some q → q.block ≠ g := fun h0 q hq e => by
    obtain ⟨cs, hc⟩ := h.2 h0 q hq
    rw [e, k] at hc
    injection hc with hc
    injection hc with _ hc
    exact ht hc
  refine ⟨⟨h.1.1, h.1.2.1, h.1.2.2.1, fun h0 => ?_⟩, fun h0 q hq => ?_⟩
  · obtain ⟨b, off, hA, hb, hc⟩ := h.1.2.2.2 h0
    refine ⟨b, off, hA, by simpa using hb, fun j hj => ?_⟩
    rw [← hc j hj]
    simp only [World.cell?, setRow_other _ _ _ _ (hne h0 _ hA)]
  · obtain ⟨cs, hc⟩ := h.2 h0 q hq
    exact ⟨cs, (setRow_other _ _ _ _ (hne h0 q hq)).trans hc⟩
theorem append_emptyT {w : World} {a : Addr} {A' : Option Addr} {m c' : Nat} {ys : List UInt8} (ty : TypeId) (hr : Bs w A' m c' ys) (hm : m ≤ 100000000) :
    ∃ A'' c'' w', (Builtin.append_ #[26, 26] ty #[.slice (some a) 0 0, .slice A' m c']).run Try.prog w = .ok (.slice A'' m c'') w' ∧ Bs w' A'' m c'' ys ∧ Ext w w' ∧ (0 < m → ∀ q, A'' = some q → ∃ cs, w'.heap[q.block]? = some (.cells cs 5 (0, 0))) := by
  obtain ⟨i, hi, hz0, hz1, hz2⟩ := info_parts info8
  rcases Nat.eq_zero_or_pos m with h0 | h0
  · subst h0
    have hy := hr.zero
    subst hy
    have hsrc : Src Try.prog i.size 26 (.slice A' 0 c') 0 [] w := by
      rcases A' with _ | a'
      · exact Src.ofNil w Try.underlying26 c'
      · exact Src.ofSlice w Try.underlying26 a' 0 c' [] (by simp) (fun j u hu => by simp at hu) (fun u hu => by simp at hu)
    exact ⟨some a, 0, w, run_append_nothing w 26 26 ty 5 i Try.underlying26 hi (some a) 0 0 (Nat.le_refl _) _ hsrc, ⟨rfl, Nat.le_refl _, Nat.zero_le _, fun h => absurd h (by omega)⟩, Ext.refl w, fun h => absurd h (by omega)⟩
  · obtain ⟨b, off, rfl, hb, hc⟩ := hr.pos h0
    have hl := hr.len
    have hrun := run_append_grow (P := Try.prog) w 26 ty 5 i (.int .u8 0) Try.underlying26 hi hz0 a 0 0 [] (by simp) (fun j v hv => by simp at hv) ⟨b, off, none⟩ m c' (ys.map u8v) (by rw [List.length_map, hl, hz1, Nat.mul_one]) (fun j u hu => by
        have hj : j < ys.length := by
          rcases Nat.lt_or_ge j ys.length with h | h
          · exact h
          · simp [h] at hu
        have hplain : (⟨b, off, none⟩ : Addr).add j = ⟨b, off + j, none⟩ := by unfold Addr.add; split <;> simp_all
        rw [hplain, hc j (by omega), ← u8v_bt hj, hu]) (by omega) (by omega) (by rw [hz2]; simp [Builtin.nextslicecap]; split <;> omega)
    rw [Nat.zero_add] at hrun
    refine ⟨_, _, _, hrun, ⟨hl, grownCap_ge w m 0 5, grownCap_le_maxLen w m 0 5 (by unfold maxLen; omega), fun _ => ⟨w.heap.size, 0, rfl, by simp [World.alloc], fun j hj => ?_⟩⟩, ((Ext.refl w).drew).alloc _, fun _ q hq => by cases hq; exact ⟨_, heap_alloc_new _ _⟩⟩
    have hn := heap_alloc_new w.drew (.cells (([] : List Value).toArray ++ (ys.map u8v).toArray ++ Builtin.zeroCells (Value.int .u8 0).cells (grownCap w m 0 5 - m)) 5)
    refine (cell_of_row _ _ (0 + j) _ _ (0, 0) hn).trans ?_
    rw [Nat.zero_add]
    rw [Array.getElem?_append_left (by simp; omega)]
    simp only [List.append_toArray, List.nil_append, List.getElem?_toArray]
    exact u8v_bt (by omega)

theorem wp_append_emptyT {w : World} {o : Oper} {a : Act} {K : Act → World → Prop} {Q : Exit → Act → World → Prop} {p : Addr} {A' : Option Addr} {m c' : Nat} {ys : List UInt8} {s x : Operand}
    (ho : o.op = .call { callee := .builtin .append, args := #[s, x], argTypes := #[26, 26] }) (hs : a.eval s = .slice (some p) 0 0) (hx : a.eval x = .slice A' m c')
    (hr : Bs w A' m c' ys) (hm : m ≤ 100000000)
    (hK : ∀ A'' c'' w', BsT w' A'' m c'' ys → Ext w w' → K (a.put o.dst (.slice A'' m c'')) w') : o.wp Try.prog a w K Q := by
  obtain ⟨A'', c'', w', hrun, h2, h3, h4⟩ := append_emptyT (a := p) o.type hr hm
  unfold Oper.wp execOp
  simp only [ho, resolve, invoke, builtin, Sem.run_bind, Sem.run_pure, Result.andThen_ok, List.map_toArray, List.map_cons, List.map_nil, hs, hx, hrun]
  exact hK A'' c'' w' ⟨h2, h4⟩ h3
end Go.Proofs.Ytojgmgghlkpfoaa
end
