import Derived.Test.YtbnjmmefnjoofaaDoorPkP
import Derived.Test.YtbnjmmefnjoofaaDoorSame12
import Derived.Test.YtbnjmmefnjoofaaDoorPkB
import Derived.Test.YtbnjmmefnjoofaaDoorRack
import Derived.Test.YtbnjmmefnjoofaaDoorDo20
import Derived.Test.YtbnjmmefnjoofaaDoorPkM
import Derived.Lib.LaidTab
import Derived.Test.YtbnjmmefnjoofaaDoorKeyEq
section
/-
  A stamp equals itself: what mailboxes want of it.
-/
end

section
/-
  palfreylaw20.mails: lists with the same data.
-/
namespace Go.Proofs.YtbnjmmefnjoofaaDoor
open Go.ChangeShapes Go.WideShapes Go.ChangeAt Go.RowKit Go.Deep
set_option maxRecDepth 100000

theorem Wm.c_ev (x : Wm) (q : Nat) (v : Value) (h : x.ev[q]? = some v) : x.C[1 + q]? = some v := by
  show ([Value.int .i64 x.d.id] ++ (x.ev ++ x.d.stm))[1 + q]? = some v
  rw [List.getElem?_append_right (by simp), List.length_singleton, Nat.add_sub_cancel_left, List.getElem?_append_left (List.getElem?_eq_some_iff.1 h).1, h]
theorem Wm.c_st {x : Wm} (hx : x.d.ok) (q : Nat) (v : Value) (h : x.d.stm[q]? = some v) : x.C[70 + q]? = some v := by
  show ([Value.int .i64 x.d.id] ++ (x.ev ++ x.d.stm))[70 + q]? = some v
  rw [List.getElem?_append_right (by simp; omega), List.getElem?_append_right (by rw [x.ev_len hx]; simp), x.ev_len hx, List.length_singleton, show 70 + q - 1 - 69 = q by omega, h]
set_option maxHeartbeats 8000000 in
theorem mails20_calls {w : World} {L R : List Wm} {A A' : Option Addr} {n n' c c' : Nat} (hl : Cs w 138 A n c (L.map Wm.C)) (hr : Cs w 138 A' n' c' (R.map Wm.C)) (bl : ∀ x ∈ L, x.d.ok ∧ Bs w x.A x.d.body.length x.c x.d.body) (br : ∀ x ∈ R, x.d.ok ∧ Bs w x.A x.d.body.length x.c x.d.body) (he : L.map (·.d) = R.map (·.d)) (hn : n ≤ 1000) :
    Calls Tryd.prog 16 #[.slice A n c, .slice A' n' c'] w fun e w' => e = .returned (.bool true) ∧ Ext w w' := by
  have lL : L.length = n := by have := hl.1.1; rwa [List.length_map] at this
  have lR : R.length = n' := by have := hr.1.1; rwa [List.length_map] at this
  obtain rfl : n' = n := by rw [← lL, ← lR, ← List.length_map (f := fun x : Wm => x.d), ← he, List.length_map]
  have q1 := hl.2.1
  have q2 := hr.2.1
  have q3 : n' ≤ 9223372036854775807 := by omega
  replace hl := Lib.hid hl
  replace hr := Lib.hid hr
  replace bl := Lib.hid bl
  replace br := Lib.hid br
  replace he := Lib.hid he
  go_enter Tryd.func16, Tryd.ntmps16
  go_wp2_with fail
  go_loopw [5] (fun v wr => ∃ k : Nat, k ≤ n' ∧ v = .int .i64 (k : Int) ∧ Ext w wr) (fun v _ => n' - (intOf v).toNat)
  case atStart => exact ⟨0, Nat.zero_le _, rfl, Ext.refl w⟩
  case round =>
    obtain ⟨k, hkn, rfl, xk⟩ := hrel
    by_cases hlt : k < n'
    · obtain ⟨b, off, rfl, hb, hc⟩ := (hl.out.ext xk).at hlt
      obtain ⟨b', off', rfl, hb', hc'⟩ := (hr.out.ext xk).at hlt
      obtain ⟨x, hx⟩ : ∃ x, x = L[k]'(by omega) := ⟨_, rfl⟩
      obtain ⟨y, hy⟩ : ∃ y, y = R[k]'(by omega) := ⟨_, rfl⟩
      have e1 : (L.map Wm.C).getD k [] = x.C := by rw [hx, List.getD_eq_getElem?_getD, List.getElem?_map, List.getElem?_eq_getElem (by omega)]; rfl
      have e2 : (R.map Wm.C).getD k [] = y.C := by rw [hy, List.getD_eq_getElem?_getD, List.getElem?_map, List.getElem?_eq_getElem (by omega)]; rfl
      have hxy : y.d = x.d := by
        have := congrArg (fun l => l[k]?) he.out
        simp only [List.getElem?_map, List.getElem?_eq_getElem (show k < L.length by omega), List.getElem?_eq_getElem (show k < R.length by omega), Option.map_some, ← hx, ← hy] at this
        exact (Option.some.inj this).symm
      obtain ⟨ox, bx⟩ := bl.out x (by rw [hx]; exact List.getElem_mem _)
      obtain ⟨_, byy⟩ := br.out y (by rw [hy]; exact List.getElem_mem _)
      rw [e1] at hc
      rw [e2] at hc'
      obtain ⟨yd, yA, yc⟩ := y
      obtain rfl : yd = x.d := hxy
      clear hx hy e1 e2
      have SM : Hid (∀ W, Ext wr W → Calls Tryd.prog 27 #[.agg x.ev.toArray, .agg (⟨x.d, yA, yc⟩ : Wm).ev.toArray] W fun e w' => e = .returned (.bool true) ∧ Ext W w') := fun W e => by
        have := same12_calls (w := W) (f := x.d.f) (f' := x.d.f) (t := x.d.t) (t' := x.d.t) (p := x.d.p) (p' := x.d.p) (n := x.d.n) (n' := x.d.n) ox.1.1 ox.1.2 ox.1.1 ox.1.2 (bx.ext (xk.trans e)) (byy.ext (xk.trans e))
        rw [sameE_refl] at this
        exact this
      have M1 : Hid (∀ s, Ext wr s → ∀ q v, x.ev[q]? = some v → s.cell? ⟨b, off + k * 138 + 1 + q, none⟩ = some v) := fun s e q v h => (e.cell hb).trans (by rw [Nat.add_assoc]; exact hc _ _ (x.c_ev q v h))
      have M2 : Hid (∀ s, Ext wr s → ∀ q v, (⟨x.d, yA, yc⟩ : Wm).ev[q]? = some v → s.cell? ⟨b', off' + k * 138 + 1 + q, none⟩ = some v) := fun s e q v h => (e.cell hb').trans (by rw [Nat.add_assoc]; exact hc' _ _ (Wm.c_ev _ q v h))
      have M3 : Hid (∀ s, Ext wr s → ∀ q v, x.d.stm[q]? = some v → s.cell? ⟨b, off + k * 138 + 70 + q, none⟩ = some v) := fun s e q v h => (e.cell hb).trans (by rw [Nat.add_assoc]; exact hc _ _ (x.c_st ox q v h))
      have M4 : Hid (∀ s, Ext wr s → ∀ q v, x.d.stm[q]? = some v → s.cell? ⟨b', off' + k * 138 + 70 + q, none⟩ = some v) := fun s e q v h => (e.cell hb').trans (by rw [Nat.add_assoc]; exact hc' _ _ (Wm.c_st (x := ⟨x.d, yA, yc⟩) ox q v h))
      have I1 : Hid (∀ s, Ext wr s → s.cell? ⟨b, off + k * 138, none⟩ = some (.int .i64 x.d.id) ∧ s.cell? ⟨b', off' + k * 138, none⟩ = some (.int .i64 x.d.id)) := fun s e => ⟨(e.cell hb).trans (hc 0 _ x.c0), (e.cell hb').trans (hc' 0 _ (Wm.c0 _))⟩
      have L_x := x.ev_len ox
      have L_y := Wm.ev_len (x := ⟨x.d, yA, yc⟩) ox
      have L_s := x.d.stm_len ox
      have STF : Hid (∃ ep f t tm cm tg, x.d.stm = stC ep f t tm cm tg ∧ cm.length = 32 ∧ tg.length = 32) := ⟨_, _, _, _, _, _, rfl, ox.2.1.1, ox.2.1.2⟩
      clear hc hc' ox bx byy
      generalize (⟨x.d, yA, yc⟩ : Wm).ev = EY at *
      generalize x.ev = EX at *
      generalize x.d.stm = ST at *
      generalize x.d.id = ix at *
      replace xk := Lib.hid xk
      clear he bl br
      go_upto_region 6 with fail
      refine qgE [0, 1, 2, 3, 4, 5, 6, 7, 8, 9, 10, 11] [10] ?_
      repeat ((first | refine qR0 ?_ | refine qS ?_); go_frame)
      refine qV rfl (fun w' => ∀ q_ v, EX[q_]? = some v → w'.cell? ⟨b, (off + k * 138 + 1) + q_, none⟩ = some v) (fun w' e => M1.out w' (Ext.trans (Ext.refl _).drew e)) (.agg EX.toArray) (fun w' hF => exec_load_mid rfl rfl hF rfl rfl (by rw [L_x]; rfl)) ?_
      go_frame
      repeat ((first | refine qR0 ?_ | refine qS ?_); go_frame)
      refine qV rfl (fun w' => ∀ q_ v, EY[q_]? = some v → w'.cell? ⟨b', (off' + k * 138 + 1) + q_, none⟩ = some v) (fun w' e => M2.out w' (Ext.trans (Ext.refl _).drew e)) (.agg EY.toArray) (fun w' hF => exec_load_mid rfl rfl hF rfl rfl (by rw [L_y]; rfl)) ?_
      go_frame
      have S0 : Hid (Ext wr wr.drew) := (Ext.refl wr).drew
      generalize wr.drew = W at *
      refine qD fun K hK => ?_
      go_simp
      refine (SM.out W S0.out).mono ?_
      rintro e w1 ⟨rfl, x1⟩
      refine hK.out _ _ x1 ?_
      clear hK K
      try go_frame
      have S1 : Hid (Ext wr w1) := S0.out.trans x1
      clear S0 x1 SM M1 M2
      repeat ((first | refine qR0 ?_ | refine qS ?_); go_frame)
      refine seq_done ?_
      go_upto_region 7 with fail
      refine qgE [0, 1, 2, 3, 4, 5, 6, 7, 8, 9, 10, 11, 12, 13, 14, 15, 16, 17, 18, 19, 20, 21, 22, 23, 24, 25, 26, 27] [] ?_
      repeat ((first | refine qR _ (fun w' e => I1.out w' (S1.out.trans (Ext.trans (Ext.refl _).drew e))) ?_ | refine qS ?_); go_frame)
      refine qV rfl (fun w' => ∀ q_ v, ST[q_]? = some v → w'.cell? ⟨b, (off + k * 138 + 70) + q_, none⟩ = some v) (fun w' e => M3.out w' (S1.out.trans (Ext.trans (Ext.refl _).drew e))) (.agg ST.toArray) (fun w' hF => exec_load_mid rfl rfl hF rfl rfl (by rw [L_s]; rfl)) ?_
      go_frame
      repeat ((first | refine qR0 ?_ | refine qS ?_); go_frame)
      refine qV rfl (fun w' => ∀ q_ v, ST[q_]? = some v → w'.cell? ⟨b', (off' + k * 138 + 70) + q_, none⟩ = some v) (fun w' e => M4.out w' (S1.out.trans (Ext.trans (Ext.refl _).drew e))) (.agg ST.toArray) (fun w' hF => exec_load_mid rfl rfl hF rfl rfl (by rw [L_s]; rfl)) ?_
      go_frame
      refine qV rfl (fun _ => True) (fun _ _ => trivial) (.bool false) (fun w' _ => exec_neq_stamp STF.out rfl rfl rfl) ?_
      go_frame
      repeat ((first | refine qR0 ?_ | refine qS ?_); go_frame)
      refine seq_done ?_
      have S2 : Hid (Ext w w1.drew) := xk.out.trans (S1.out.trans (Ext.refl _).drew)
      clear M3 M4 I1 S1 STF
      go_wp2_with fail
      go_round
      case rel => exact ⟨k + 1, by omega, by go_num, S2.out⟩
      case measure => simp [intOf]; omega
    · obtain rfl : k = n' := by omega
      go_wp2_with fail
      go_ret
      exact ⟨rfl, xk⟩
end Go.Proofs.YtbnjmmefnjoofaaDoor
end

section
/-
  What waits, on both sides.
-/
namespace Go.Proofs.YtbnjmmefnjoofaaDoor
open Go.ChangeShapes Go.WideShapes Go.ChangeAt Go.RowKit Go.Deep Go.Maps
set_option maxRecDepth 100000

/-- What the document's Mails then yields, and that both are the same. -/
def Mm (g' : Nat) (n er : Int) (A : Option Addr) (m c : Nat) (W1 : World) : Prop :=
  Calls Tryd.prog 15 #[.pointer (some ⟨g', 0, none⟩), .int .i64 n] W1 fun e w2 => ∃ (A' : Option Addr) (m' c' : Nat), e = .returned (.tuple #[.slice A' m' c', .int .i64 er]) ∧ w2 = W1 ∧ ∀ s, Ext W1 s → Calls Tryd.prog 16 #[.slice A m c, .slice A' m' c'] s fun e w3 => e = .returned (.bool true) ∧ Ext s w3
theorem cs_none (s : Nat) (W : World) : Cs W s none 0 0 [] := ⟨⟨rfl, fun x hx => by cases hx⟩, ⟨Nat.le_refl _, Nat.zero_le _⟩, fun h => absurd h (by omega)⟩
theorem PR.mails {w W : World} {g g' ticks N : Nat} {root : List UInt8} {f : Nat → Option Ac} {h : Nat → Option Ra} (p : PR w W g g' root ticks f h N) {n : Int} (hn : In64 n) :
    ∃ er : Int, Calls Tryd.prog 14 #[.pointer (some ⟨g, 0, none⟩), .int .i64 n] W fun e w1 => ∃ (A : Option Addr) (m c : Nat), e = .returned (.tuple #[.slice A m c, .int .i64 er]) ∧ Ext W w1 ∧ ∀ W1, Ext w1 W1 → Mm g' n er A m c W1 := by
  rcases hf : Go.Proofs.YtbnjmmefnjoofaaDoor.fd f n with _ | j
  · refine ⟨7, (mails_no p.ry hn.1 hn.2 hf).mono ?_⟩
    rintro e w1 ⟨rfl, rfl⟩
    refine ⟨none, 0, 0, rfl, Ext.refl _, fun W1 x => (rwmails_no (p.rd.ext x) hn.1 hn.2 ((p.fd n).trans hf)).mono ?_⟩
    rintro e w2 ⟨rfl, rfl⟩
    exact ⟨none, 0, 0, rfl, rfl, fun s x2 => mails20_calls (L := []) (R := []) (cs_none _ _) (cs_none _ _) (fun x hx => by cases hx) (fun x hx => by cases hx) rfl (by omega)⟩
  · obtain ⟨rfl, j8, a, ha⟩ := fd_some hf
    obtain ⟨b, hb, t⟩ := p.sd.at ha
    refine ⟨0, (mails_ok p.ry ha j8).mono ?_⟩
    rintro e w1 ⟨q, L', rfl, _, kq, hd, hL, x1⟩
    have l8 : a.L.length ≤ 8 := by
      obtain ⟨s, mb, q, own, EE, r⟩ := p.ry
      exact (r.ac j a ha).le.1
    have lL : L'.length = a.L.length := by rw [← List.length_map (f := fun x : Wm => x.d), hd, List.length_map]
    refine ⟨_, _, _, rfl, x1, fun W1 x => (rwmails_ok (p.rd.ext (x1.trans x)) hb j8).mono ?_⟩
    rintro e w2 ⟨A', m', c', rfl, cs, hR, rfl⟩
    refine ⟨A', m', c', rfl, rfl, fun s x2 => ?_⟩
    have kq2 := kq.ext (x.trans x2)
    refine mails20_calls (L := L') (R := b.L) ⟨⟨by rw [List.length_map, lL], fun y hy => ?_⟩, ⟨Nat.le_refl _, by unfold maxLen; omega⟩, fun _ => ⟨q, 0, rfl, kq2.lt, fun i v hv => by rw [Nat.zero_add]; exact kq2.cell hv⟩⟩ (cs.ext x2) (fun y hy => ⟨(hL y hy).1, (hL y hy).2.1.ext (x.trans x2)⟩) (fun y hy => ⟨(hR y hy).1, (hR y hy).2.1.ext x2⟩) (hd.trans t.L) (by omega)
    obtain ⟨z, hz, rfl⟩ := List.mem_map.1 hy
    exact Wm.C_len (hL z hz).1
end Go.Proofs.YtbnjmmefnjoofaaDoor
end

section
/-
  Envelopes of one byte, sent among a law's accounts.
-/
namespace Go.Proofs.YtbnjmmefnjoofaaDoor
open Go.ChangeShapes Go.WideShapes Go.ChangeAt Go.RowKit Go.Deep Go.Maps
set_option maxRecDepth 100000

/-- An envelope of one byte. -/
def xvL (f t : Nat) (x : UInt8) : List UInt8 := enX (f : Int) (t : Int) zk zk 0 0 [x]
def xvC (f t : Nat) (A : Option Addr) : List Value := evC (f : Int) (t : Int) zk zk 0 0 A 1 1
theorem xv_built1 (A : Option Addr) : Tryd.prog.built 37 [(0, .int .i64 1), (1, .int .i64 2), (4, .slice A 1 1)] = some (xvC 1 2 A).toArray := by kernel_rfl
theorem xv_built0 (A : Option Addr) : Tryd.prog.built 37 [(0, .int .i64 0), (1, .int .i64 1), (4, .slice A 1 1)] = some (xvC 0 1 A).toArray := by kernel_rfl
theorem xvC_len (f t : Nat) (A : Option Addr) : (xvC f t A).length = 69 := evC_len zk_len zk_len _ _ _ _ _ _ _
theorem xvC_one (f t : Nat) (A : Option Addr) : (xvC f t A).toArray.all (·.oneCell') = true := one_cells one_ev
def zE : List Value := evC 0 0 zk zk 0 0 none 0 0
theorem zE_len : zE.length = 69 := evC_len zk_len zk_len _ _ _ _ _ _ _
theorem env_alloc20 (w : World) : (zeroValue 37).run Tryd.prog w = .ok (.agg zE.toArray) w := by kernel_rfl
theorem xv_ok {f t : Nat} (hf : f ≤ 7) (ht : t ≤ 7) : okE (f : Int) (t : Int) 0 0 1 = true := by
  unfold okE okH upB
  simp only [Bool.and_eq_true, decide_eq_true_eq]
  omega
theorem xv_tag {f t : Nat} (hf : f ≤ 7) (ht : t ≤ 7) (lk : List UInt8) (x : UInt8) : tgL lk (f : Int) (t : Int) zk zk 0 0 [x] = macL lk (xvL f t x) ∧ enE (f : Int) (t : Int) 0 0 1 = 0 := tgE_facts.1 (xv_ok hf ht)
theorem xtag_calls {w : World} {n f t : Nat} (hf : f ≤ 7) (ht : t ≤ 7) {x : UInt8} {A : Option Addr} (hb : Bs w A 1 1 [x]) {tg : TypeId × Nat × Nat} (hG : Gl w tg) : Calls Tryd.prog 23 #[.agg (cellsOf (linkL (n : Int))).toArray, .agg (xvC f t A).toArray] w fun e w' => e = .returned (.tuple #[.agg (cellsOf (macL (linkL (n : Int)) (xvL f t x))).toArray, .int .i64 0]) ∧ Ext w w' := by
  have := tag20_calls (lk := linkL (n : Int)) (kyL_len (n : Int) 77) (f := (f : Int)) (t := (t : Int)) (p := 0) (n := 0) zk_len zk_len hb hG
  rw [(xv_tag hf ht _ _).1, (xv_tag hf ht [] 0).2] at this
  exact this
theorem aw20_mac : macL (linkL ((1 : Nat) : Int)) (xvL 1 2 120) ≠ zk := by decide +kernel
theorem BsB.boxed8 {B : Nat} (w : World) (x : UInt8) (v : Int) (hv : v = (x.toNat : Int)) (fr : Nat × Nat) : BsB B (w.alloc (.cells #[.int .u8 v] 5 fr)) (some ⟨w.heap.size, 0, none⟩) 1 1 [x] := ⟨Bs.of_list (xs := [x]) (by rw [hv]; rfl) (heap_alloc_new _ _) ⟨rfl, by omega⟩, fun _ q hq => by
  injection hq with hq
  subst hq
  exact .inr ⟨_, _, heap_alloc_new _ _⟩⟩
/-- What a Send among accounts of the law does. -/
def StepS (f f' : Nat → Option Ac) (i j : Nat) (a b : Ac) (root : List UInt8) (tag : List UInt8) (x : UInt8) (now : Int) (s : Sm) (er : Int) : Prop :=
  (macL (linkL (i : Int)) (xvL i j x) ≠ tag ∧ er = 4 ∧ f' = f) ∨
  (macL (linkL (i : Int)) (xvL i j x) = tag ∧ a.out = true ∧ er = 11 ∧ f' = f) ∨
  (macL (linkL (i : Int)) (xvL i j x) = tag ∧ a.out = false ∧ 8 ≤ b.L.length ∧ er = 8 ∧ f' = f) ∨
  (macL (linkL (i : Int)) (xvL i j x) = tag ∧ a.out = false ∧ b.L.length < 8 ∧ ∃ et t' k' : Int, bkTake 5 10 a.t a.k now = (et, t', k') ∧ er = et ∧
    ((et ≠ 0 ∧ f' = upd f i (some { a with t := t', k := k' })) ∨
     (et = 0 ∧ s = mkS root 5 (i : Int) (j : Int) zk now ∧ ∃ A' c', f' = upd (upd f i (some { a with t := t', k := k' })) j (some { b with L := b.L ++ [⟨(mlOf (i : Int) (j : Int) zk zk 0 0 [x] s).as (b.last + 1), A', c'⟩], last := b.last + 1 }))))
theorem send_std {w : World} {B g N : Nat} {root : List UInt8} {f : Nat → Option Ac} (h : RY B w g root 5 f N) (hB : B ≤ w.heap.size) (hN : N ≤ 100000) {i j : Nat} {a b : Ac} (ha : f i = some a) (hl : a.lk = linkL (i : Int)) (hb : f j = some b) (i8 : i < 8) (j8 : j < 8) (hij : i ≠ j) {x : UInt8} {A : Option Addr} (hA : BsB B w A 1 1 [x]) {tag : List UInt8} (ht : tag.length = 32) {now : Int} (n0 : 0 ≤ now) (n1 : now ≤ 1000000) {tg : TypeId × Nat × Nat} (hG : Gl w tg) (hgB : 0 < B) :
    Calls Tryd.prog 25 #[.pointer (some ⟨g, 0, none⟩), .agg (xvC i j A).toArray, .agg (cellsOf tag).toArray, .int .i64 now] w fun e w' => ∃ (s : Sm) (er : Int) (f' : Nat → Option Ac), e = .returned (.tuple #[.agg s.C.toArray, .int .i64 er]) ∧ s.ok ∧ RY B w' g root 5 f' (N + 1) ∧ Tm B tagY w w' ∧ StepS f f' i j a b root tag x now s er := by
  refine (send_calls (fr := (i : Int)) (tw := (j : Int)) (p := 0) (n := 0) (now := now) h hB hN zk_len zk_len ht hA (by omega) (by omega) (by omega) (by omega) (by omega) (by omega) hG hgB).mono ?_
  rintro e w' ⟨p1, p2⟩
  rw [xv_ok (by omega) (by omega)] at p1 p2
  have E := adE_in (tg := tag) (X := enX (i : Int) (j : Int) zk zk 0 0 [x]) (now := now) (ok := true) rfl (by omega) ha i8 hb j8
  rw [hl] at E
  have EX : Ext w w' → Tm B tagY w w' := Tm.of_ext
  by_cases hm : macL (linkL (i : Int)) (xvL i j x) = tag
  · rw [if_pos (show macL (linkL (i : Int)) (enX (i : Int) (j : Int) zk zk 0 0 [x]) = tag from hm)] at E
    rcases ho : a.out with _ | _
    · rw [ho] at E
      replace E : adE f true (i : Int) (j : Int) (enX (i : Int) (j : Int) zk zk 0 0 [x]) tag now = if 8 ≤ b.L.length then 8 else 0 := E
      by_cases h8 : 8 ≤ b.L.length
      · rw [if_pos h8] at E
        obtain ⟨q1, q2⟩ := p1 (by rw [E]; decide)
        rw [E] at q1
        exact ⟨zSm, 8, f, q1, zSm_ok, (h.ext q2).more (Nat.le_succ N), EX q2, .inr (.inr (.inl ⟨hm, ho, h8, rfl, rfl⟩))⟩
      · rw [if_neg h8] at E
        obtain ⟨et, t', k', hbt⟩ : ∃ et t' k', bkTake 5 10 a.t a.k now = (et, t', k') := ⟨_, _, _, rfl⟩
        obtain ⟨q1, q2⟩ := p2 E i j a b rfl rfl ha hb et t' k' hbt
        by_cases het : et = 0
        · obtain ⟨z1, ⟨A', c', z2⟩, z3⟩ := q2 het
          exact ⟨_, 0, _, z1, mkS_ok _ _ _ _ _ zk_len, z2, z3, .inr (.inr (.inr ⟨hm, ho, by omega, et, t', k', hbt, het.symm, .inr ⟨het, rfl, A', c', rfl⟩⟩))⟩
        · obtain ⟨z1, z2, z3⟩ := q1 het
          exact ⟨zSm, et, _, z1, zSm_ok, z2.more (Nat.le_succ N), z3, .inr (.inr (.inr ⟨hm, ho, by omega, et, t', k', hbt, rfl, .inl ⟨het, rfl⟩⟩))⟩
    · rw [ho] at E
      replace E : adE f true (i : Int) (j : Int) (enX (i : Int) (j : Int) zk zk 0 0 [x]) tag now = 11 := E
      obtain ⟨q1, q2⟩ := p1 (by rw [E]; decide)
      rw [E] at q1
      exact ⟨zSm, 11, f, q1, zSm_ok, (h.ext q2).more (Nat.le_succ N), EX q2, .inr (.inl ⟨hm, ho, rfl, rfl⟩)⟩
  · rw [if_neg (show ¬ macL (linkL (i : Int)) (enX (i : Int) (j : Int) zk zk 0 0 [x]) = tag from hm)] at E
    obtain ⟨q1, q2⟩ := p1 (by rw [E]; decide)
    rw [E] at q1
    exact ⟨zSm, 4, f, q1, zSm_ok, (h.ext q2).more (Nat.le_succ N), EX q2, .inl ⟨hm, rfl, rfl⟩⟩
end Go.Proofs.YtbnjmmefnjoofaaDoor
end

section
/-
  palfreylaw20.awake (written by gen20aw.py).
-/
namespace Go.Proofs.YtbnjmmefnjoofaaDoor
open Go.ChangeShapes Go.WideShapes Go.ChangeAt Go.RowKit Go.Deep Go.Maps
set_option maxRecDepth 100000

def kyOne : List UInt8 := [1] ++ List.replicate 31 0
theorem kyOne_built : Tryd.prog.built 23 [(0, .int .u8 1)] = some (cellsOf kyOne).toArray := by kernel_rfl
theorem aw_take : bkTake 5 10 0 5 7 = (0, 7, 4) := by decide
set_option maxHeartbeats 8000000 in
theorem awake20_calls {w : World} {tg : TypeId × Nat × Nat} (hG : Gl w tg) : Calls Tryd.prog 10 #[] w fun e w' => e = .returned (.bool true) ∧ Ext w w' := by
  have hcv := conv_const
  have BG := Lib.hid (fun (W : World) (x : w.heap.size ≤ W.heap.size) => begun20_calls (root := kyOne) (w := W) rfl x)
  have BK := Lib.hid kyOne_built
  have gB : Hid (0 < w.heap.size) := hG.lt
  have GE : Hid (∀ W, Ext w W → Gl W tg) := fun W e => hG.kept e hG.lt
  have LK : Hid (∀ W : World, Calls Tryd.prog 18 #[.int .i64 1] W fun e w' => e = .returned (.agg (cellsOf (linkL ((1 : Nat) : Int))).toArray) ∧ Ext W w') := fun W => link_calls (n := 1)
  have hne := Lib.hid (fun _ : Unit => aw20_mac)
  obtain ⟨tag, htag⟩ : ∃ tag, tag = macL (linkL ((1 : Nat) : Int)) (xvL 1 2 120) := ⟨_, rfl⟩
  rw [← htag] at hne
  have L_tag : tag.length = 32 := by rw [htag]; exact macL_len _ _
  have TGc : Hid (∀ u A, Gl u tg → Bs u A 1 1 [120] → Calls Tryd.prog 23 #[.agg (cellsOf (linkL ((1 : Nat) : Int))).toArray, .agg (xvC 1 2 A).toArray] u fun e w' => e = .returned (.tuple #[.agg (cellsOf tag).toArray, .int .i64 0]) ∧ Ext u w') := fun u A hg hb => by rw [htag]; exact xtag_calls (by omega) (by omega) hb hg
  replace htag := Lib.hid (fun _ : Unit => htag)
  have S_tag : (cellsOf tag).toArray.size = 32 := by simp [cellsOf_len, L_tag]
  have O_tag := cellsOf_one tag
  have hkz : Hid (Tryd.prog.built 23 [] = some (cellsOf zk).toArray) := by have := zeros32_built; rw [← zeros32_cells] at this; exact this
  have hal := key_alloc16
  have S_Z := zeros32_size
  generalize zeros32 = Z at *
  have halE := env_alloc20
  have L_zE := zE_len
  generalize zE = ZE at *
  have S_ZE : ZE.toArray.size = 69 := by rw [List.size_toArray, L_zE]
  have BE := Lib.hid (fun A => xv_built1 A)
  have halS := stamp_alloc16
  have L_ZS := Sm.C_len zSm_ok
  generalize zSm.C = ZS at *
  have S_ZS : ZS.toArray.size = 68 := by rw [List.size_toArray, L_ZS]
  generalize linkL ((1 : Nat) : Int) = lk at LK TGc
  have L_K : kyOne.length = 32 := rfl
  generalize hk1 : kyOne = kone at *
  replace hk1 := Lib.hid (fun _ : Unit => hk1)
  go_enter Tryd.func10, Tryd.ntmps10
  go_wp2_with (first
    | (refine wpList_build_as rfl _ _ rfl (cellsOf kone).toArray (by simp only [List.map_toArray, List.map_cons, List.map_nil]; exact BK.out) ?_; go_frame))
  refine (BG.out w (Nat.le_refl _)).mono ?_
  rintro e w1 ⟨g, f, rfl, r1, bg, hg, x1⟩
  have szb := x1.size
  have EBL : Hid (BsB w.heap.size (w1.alloc (.cells #[.int .u8 120] 5 (1, 2))) (some ⟨w1.heap.size, 0, none⟩) 1 1 [120]) := BsB.boxed8 w1 120 120 rfl (1, 2)
  have XB : Hid (Ext w1 (w1.alloc (.cells #[.int .u8 120] 5 (1, 2)))) := (Ext.refl _).alloc _
  have BEc := Lib.hid (BE.out (some ⟨w1.heap.size, 0, none⟩))
  have L_ev := xvC_len 1 2 (some ⟨w1.heap.size, 0, none⟩)
  have O_ev := xvC_one 1 2 (some ⟨w1.heap.size, 0, none⟩)
  obtain ⟨AA, hAA⟩ : ∃ AA : Option Addr, AA = some ⟨w1.heap.size, 0, none⟩ := ⟨_, rfl⟩
  obtain ⟨ev, hev⟩ : ∃ ev, ev = xvC 1 2 AA := ⟨_, rfl⟩
  rw [← hAA] at EBL BEc L_ev O_ev
  rw [← hev] at BEc L_ev O_ev
  have S_ev : ev.toArray.size = 69 := by rw [List.size_toArray, L_ev]
  replace hev := Lib.hid (fun _ : Unit => hev)
  rw [hAA] at BEc
  obtain ⟨r, hr⟩ : ∃ r, r = w1.heap.size + 1 := ⟨_, rfl⟩
  have sU : (w1.alloc (.cells #[.int .u8 120] 5 (1, 2))).heap.size = r := by rw [hr]; simp
  have k0 : ((w1.alloc (.cells #[.int .u8 120] 5 (1, 2))).alloc (.cells ZE.toArray 37)).heap[r]? = some (.cells ZE.toArray 37 (0, 0)) := by rw [← sU]; exact heap_alloc_new _ _
  have W0 : Hid (Cb (((w1.alloc (.cells #[.int .u8 120] 5 (1, 2))).alloc (.cells ZE.toArray 37)).setRow r ev.toArray) r 37 ev ∧ BsB w.heap.size (((w1.alloc (.cells #[.int .u8 120] 5 (1, 2))).alloc (.cells ZE.toArray 37)).setRow r ev.toArray) AA 1 1 [120] ∧ Ext w1 (((w1.alloc (.cells #[.int .u8 120] 5 (1, 2))).alloc (.cells ZE.toArray 37)).setRow r ev.toArray)) := by
    have x : Ext (w1.alloc (.cells #[.int .u8 120] 5 (1, 2))) (((w1.alloc (.cells #[.int .u8 120] 5 (1, 2))).alloc (.cells ZE.toArray 37)).setRow r ev.toArray) := below_setRow ((Ext.refl _).alloc _) (by rw [sU]; exact Nat.le_refl _) _
    exact ⟨setRow_heap _ _ _ _ _ _ k0, EBL.out.ext x, XB.out.trans x⟩
  replace hAA := Lib.hid (fun _ : Unit => hAA)
  replace r1 := Lib.hid r1
  replace bg := Lib.hid bg
  replace x1 := Lib.hid x1
  clear XB EBL BG BK
  have sU' := hr
  replace hr := Lib.hid (fun _ : Unit => hr)
  go_upto_region 5 with (first
    | (refine wpList_build_as rfl _ _ rfl ev.toArray (by simp only [List.map_toArray, List.map_cons, List.map_nil]; exact BEc.out) ?_; go_frame)
    | (refine wpList_store_row rfl 37 _ _ rfl r ev.toArray (by rw [sU']; rfl) rfl 37 ZE.toArray k0 (by rw [S_ev]; rfl) (by rw [S_ev, S_ZE]) O_ev ?_; simp only [Act.put]))
  refine wp_gen (fun W => Cb W r 37 ev ∧ BsB w.heap.size W AA 1 1 [120] ∧ Ext w1 W) W0.out ?_
  rw [← hr.out ()]
  clear W0 k0 sU sU' BEc BE O_ev hr
  rintro w2 ⟨k2, b2, x2⟩
  have X2 : Hid (Ext w w2) := x1.out.trans x2
  have ry2 : Hid (RY w.heap.size w2 g kone 5 f 0) := r1.out.ext x2
  have ENV : Hid (∀ u, Ext w2 u → Cb u r 37 ev) := fun u x => k2.ext x
  have TG : Hid (∀ u, Ext w2 u → Calls Tryd.prog 23 #[.agg (cellsOf lk).toArray, .agg ev.toArray] u fun e w' => e = .returned (.tuple #[.agg (cellsOf tag).toArray, .int .i64 0]) ∧ Ext u w') := fun u x => by
    rw [hev.out ()]
    exact TGc.out u AA (GE.out u (X2.out.trans x)) (b2.ext x).1
  replace b2 := Lib.hid b2
  clear k2 x2 x1 r1 TGc
  go_cut [3, 4] (fun sP sE wx => ∃ gT : Nat, sP = .pointer (some ⟨gT, 0, none⟩) ∧ sE = .int .i64 0 ∧ Ext w2 wx ∧ Ky wx gT tag ∧ w2.heap.size ≤ gT)
  case first =>
    refine qgT (R := Below w2.heap.size) (Below.refl _) (fun _ _ _ => Below.trans) (.rd 1 (.alt 0 (.alt 2 (.rd 3 (.rd 4 (.rd 5 (.alt 6 (.alt 7 (.rd 8 .nil) .stop) .stop)))) (.alt 6 (.alt 2 (.rd 3 (.rd 4 (.rd 5 (.alt 7 (.rd 8 .nil) .stop)))) .stop) .stop)) (.alt 6 (.alt 0 (.alt 2 (.rd 3 (.rd 4 (.rd 5 (.alt 7 (.rd 8 .nil) .stop)))) .stop) .stop) .stop))) 9 ?_
    refine qtV rfl (fun w' => w'.heap[r]? = some (.cells ev.toArray 37 (0, 0))) (fun w' e => ENV.out w' (Ext.trans (Ext.refl _).drew e)) (.agg ev.toArray) (fun w' hF => exec_load_row rfl rfl hF rfl rfl (by rw [S_ev]; rfl)) ?_
    go_frame
    repeat ((first | refine qtR0 ?_ | refine qtS ?_); go_frame)
    have SE : Hid (Ext w2 w2.drew) := (Ext.refl w2).drew
    generalize w2.drew = WC at *
    repeat' (first
      | exact seqT_stop
      | (refine seqT_do (i := 0) _ rfl ?_ ?_ (fun K1 hK1 => ?_)
         (· rfl)
         rotate_left
         go_simp
         refine (LK.out _).mono ?_
         rintro e0 WC ⟨rfl, e⟩
         refine hK1.out _ _ (e.mono SE.out.size) ?_
         clear hK1 K1
         (try replace hL := Lib.hid ((e.block _ (heap_lt hL.out)).trans hL.out))
         replace SE := Lib.hid (SE.out.trans e)
         clear e
         (try go_frame)
         repeat ((first | refine qtR0 ?_ | refine qtS ?_); go_frame)
         skip)
      | (refine seqT_do (i := 2) _ rfl ?_ ?_ (fun K1 hK1 => ?_)
         (· rfl)
         rotate_left
         go_simp
         refine (TG.out _ SE.out).mono ?_
         rintro e0 WC ⟨rfl, e⟩
         refine hK1.out _ _ (e.mono SE.out.size) ?_
         clear hK1 K1
         (try replace hL := Lib.hid ((e.block _ (heap_lt hL.out)).trans hL.out))
         replace SE := Lib.hid (SE.out.trans e)
         clear e
         (try go_frame)
         repeat ((first | refine qtR0 ?_ | refine qtS ?_); go_frame)
         skip)
      | (refine seqT_do (i := 6) _ rfl ?_ ?_ (fun K1 hK1 => ?_)
         (· rfl)
         rotate_left
         go_simp
         have e : Ext WC (WC.alloc (Obj.cells Z 23)) := (Ext.refl WC).alloc _
         obtain ⟨gT, hgT⟩ : ∃ g, g = WC.heap.size := ⟨_, rfl⟩
         have hL := Lib.hid (heap_alloc_new WC (Obj.cells Z 23))
         rw [← hgT] at hL ⊢
         have zl : w2.heap.size ≤ gT := by rw [hgT]; exact SE.out.size
         refine hK1.out _ (WC.alloc (Obj.cells Z 23)) (e.mono SE.out.size) ?_
         clear hK1 K1
         replace SE := Lib.hid (SE.out.trans e)
         clear e
         replace hgT := Lib.hid hgT
         generalize WC.alloc (Obj.cells Z 23) = WC at *
         (try go_frame)
         repeat ((first | refine qtR0 ?_ | refine qtS ?_); go_frame)
         skip)
      | (refine seqT_do (i := 7) _ rfl ?_ ?_ (fun K1 hK1 => ?_)
         (· rfl)
         rotate_left
         refine wp_store_row _ _ _ rfl gT (cellsOf tag).toArray rfl rfl 23 Z hL.out (by rw [S_tag]; rfl) (by rw [S_tag]; exact S_Z) O_tag ?_
         refine hK1.out _ _ (below_setRow (Below.refl _ _) zl _) ?_
         clear hK1 K1
         replace SE : Hid (Ext w2 (WC.setRow gT (cellsOf tag).toArray)) := below_setRow SE.out zl _
         replace hL : Hid (Ky (WC.setRow gT (cellsOf tag).toArray) gT tag) := ⟨setRow_heap _ _ _ _ _ _ hL.out, L_tag⟩
         generalize WC.setRow gT (cellsOf tag).toArray = WC at *
         (try simp only [Act.put])
         repeat ((first | refine qtR0 ?_ | refine qtS ?_); go_frame)
         skip)
      | (refine seqT_done ?_
         go_wp2_with fail
         go_meet
         exact ⟨gT, rfl, rfl, SE.out, hL.out, zl⟩))
  case rest =>
    obtain ⟨gT, rfl, rfl, x3, kT, zT⟩ := hcut
    have X3 : Hid (Ext w wc) := X2.out.trans x3
    have ry3 : Hid (RY w.heap.size wc g kone 5 f 0) := ry2.out.ext x3
    have k3 := ENV.out wc x3
    have kT1 := kT.1
    obtain ⟨a, ha, na⟩ := bg.out.1 1 (by omega)
    obtain ⟨b, hb, nb⟩ := bg.out.1 2 (by omega)
    have SN := Lib.hid (send_std ry3.out X3.out.size (by omega) (i := 1) (j := 2) ha na.1 hb (by omega) (by omega) (by omega) (b2.out.ext x3) L_tag (now := 7) (by omega) (by omega) (GE.out wc X3.out) gB.out)
    rw [← hev.out ()] at SN
    have b3 : Hid (BsB w.heap.size wc AA 1 1 [120]) := b2.out.ext x3
    have k3e := Lib.hid k3
    clear b2 ry2 X2 LK TG ENV x3 kT zT bg
    go_wp2_with (first | ((with_reducible refine wpList_load_rowW (o := ⟨some 26, _, _, _, _, _⟩) ?_ 37 _ rfl r ?_ 37 ev.toArray (0, 0) _ ?_ Tryd.underlying37 ?_ ?_ ?_); (· rfl); (· rfl); (· exact k3); (· rfl); (· rw [S_ev]; rfl); go_frame) | ((with_reducible refine wpList_load_rowW (o := ⟨some 27, _, _, _, _, _⟩) ?_ 23 _ rfl gT ?_ 23 (cellsOf tag).toArray (0, 0) _ ?_ Tryd.underlying23 ?_ ?_ ?_); (· rfl); (· rfl); (· exact kT1); (· rfl); (· rw [S_tag]; rfl); go_frame))
    refine SN.out.mono ?_
    rintro e w4 ⟨s, er, f4, rfl, sok, r4, t4, st⟩
    obtain ⟨her, hf4⟩ : er = 0 ∧ ∃ (a' b' : Ac), f4 1 = some a' ∧ a'.lk = linkL ((1 : Nat) : Int) ∧ f4 2 = some b' ∧ b'.L.length = 1 ∧ a'.out = false ∧ s.tm = 7 := by
      rcases st with ⟨q, _⟩ | ⟨_, q, _⟩ | ⟨_, _, q, _⟩ | ⟨_, _, _, et, t', k', q1, q2, q3⟩
      · exact absurd (htag.out ()).symm q
      · rw [na.2.2.2.2.1] at q; cases q
      · rw [nb.2.2.2.2.2.1] at q; simp at q
      · rw [na.2.2.2.2.2.2.2.1, na.2.2.2.2.2.2.2.2, aw_take] at q1
        injection q1 with q4 q5
        subst q4
        rcases q3 with ⟨q, _⟩ | ⟨_, qs, A', c', q⟩
        · exact absurd rfl q
        · have e1 : f4 1 = some { a with t := t', k := k' } := by rw [q, upd_other _ _ (by omega), upd_same]
          have e2 := (congrFun q 2).trans (upd_same _ _ _)
          exact ⟨q2, _, _, e1, na.1, e2, by show (b.L ++ [_]).length = 1; rw [nb.2.2.2.2.2.1]; rfl, na.2.2.2.2.1, by rw [qs]; rfl⟩
    subst her
    obtain ⟨a', b', ha', la', hb', lb', oa', hsm⟩ := hf4
    have X4 : Hid (Ext w w4) := Tm.ext X3.out t4
    have k4 : Hid (Cb w4 r 37 ev) := t4.cb k3 rfl
    have b4 : Hid (BsB w.heap.size w4 AA 1 1 [120]) := b3.out.tm t4
    have L_s := Sm.C_len sok
    have O_s := one_cells s.one
    have c_tm : s.C[3]? = some (.int .i64 7) := by show some (Value.int .i64 s.tm) = _; rw [hsm]
    generalize s.C = SC at *
    have S_s : SC.toArray.size = 68 := by rw [List.size_toArray, L_s]
    have kS : (w4.alloc (.cells ZS.toArray 67)).heap[w4.heap.size]? = some (.cells ZS.toArray 67 (0, 0)) := heap_alloc_new _ _
    have W5 : Hid (Cb ((w4.alloc (.cells ZS.toArray 67)).setRow w4.heap.size SC.toArray) w4.heap.size 67 SC ∧ Ext w4 ((w4.alloc (.cells ZS.toArray 67)).setRow w4.heap.size SC.toArray)) := ⟨setRow_heap _ _ _ _ _ _ kS, Ext.newRow _ _ _⟩
    replace r4 := Lib.hid r4
    clear SN
    go_upto_region 7 with (first
      | (refine wpList_store_row rfl 67 _ _ rfl w4.heap.size SC.toArray rfl rfl 67 ZS.toArray kS (by rw [S_s]; rfl) (by rw [S_s, S_ZS]) O_s ?_; simp only [Act.put]))
    refine wp_gen (fun W => Cb W w4.heap.size 67 SC ∧ Ext w4 W) W5.out ?_
    have gs4 : w.heap.size ≤ w4.heap.size := X4.out.size
    obtain ⟨gS, hgS⟩ : ∃ x, x = w4.heap.size := ⟨_, rfl⟩
    rw [← hgS] at gs4 ⊢
    clear W5 kS hgS
    rintro w5 ⟨kS, x5⟩
    have X5 : Hid (Ext w w5) := X4.out.trans x5
    have ML := Lib.hid (mails_ok (r4.out.ext x5) hb' (by omega))
    rw [lb'] at ML
    have r5 := Lib.hid (r4.out.ext x5)
    have k5 := Lib.hid (k4.out.ext x5)
    have b5 := Lib.hid (b4.out.ext x5)
    replace kS := Lib.hid kS
    clear x5 X4 k4 b4 r4
    go_wp2_with fail
    refine ML.out.mono ?_
    rintro e w6 ⟨q, L', rfl, _, _, _, _, x6⟩
    have X6 : Hid (Ext w w6) := X5.out.trans x6
    have k6 := k5.out.ext x6
    have kS6 := Lib.hid (kS.out.ext x6)
    have SN := Lib.hid (send_std (r5.out.ext x6) X6.out.size (by omega) (i := 1) (j := 2) ha' la' hb' (by omega) (by omega) (by omega) (b5.out.ext x6) (tag := zk) rfl (now := 7) (by omega) (by omega) (GE.out w6 X6.out) gB.out)
    rw [← hev.out ()] at SN
    clear ML r5 k5 b5 kS X5 x6
    have HNE : Hid (∀ f' s er, StepS f4 f' 1 2 a' b' kone zk 120 7 s er → er = 4) := fun f' s er st => by
      rcases st with ⟨_, q, _⟩ | ⟨q, _⟩ | ⟨q, _⟩ | ⟨q, _⟩
      · exact q
      · exact absurd ((htag.out ()).trans q) (hne.out ())
      · exact absurd ((htag.out ()).trans q) (hne.out ())
      · exact absurd ((htag.out ()).trans q) (hne.out ())
    go_wp2_with (first
      | ((with_reducible refine wpList_load_rowW (o := ⟨some 38, _, _, _, _, _⟩) ?_ 37 _ rfl r ?_ 37 ev.toArray (0, 0) _ ?_ Tryd.underlying37 ?_ ?_ ?_); (· rfl); (· rfl); (· exact k6); (· rfl); (· rw [S_ev]; rfl); go_frame)
      | (refine wpList_build_as rfl _ _ rfl (cellsOf zk).toArray (by simp only [List.map_toArray, List.map_nil]; exact hkz.out) ?_; go_frame))
    refine SN.out.mono ?_
    rintro e w7 ⟨s7, er, f7, rfl, sok7, r7, t7, st7⟩
    obtain rfl := HNE.out _ _ _ st7
    have X7 : Hid (Ext w w7) := Tm.ext X6.out t7
    have kS7 : Hid (Cb w7 gS 67 SC) := t7.cb kS6.out rfl
    have L_s7 := Sm.C_len sok7
    have O_s7 := one_cells s7.one
    generalize s7.C = SC7 at *
    have S_s7 : SC7.toArray.size = 68 := by rw [List.size_toArray, L_s7]
    have kQ : (w7.alloc (.cells ZS.toArray 67)).heap[w7.heap.size]? = some (.cells ZS.toArray 67 (0, 0)) := heap_alloc_new _ _
    have xq : Ext w7 ((w7.alloc (.cells ZS.toArray 67)).setRow w7.heap.size SC7.toArray) := Ext.newRow _ _ _
    have cT := (kS7.out.ext xq).cell c_tm
    have X8 : Hid (Ext w ((w7.alloc (.cells ZS.toArray 67)).setRow w7.heap.size SC7.toArray)) := X7.out.trans xq
    clear SN HNE r7 t7 st7 xq X7 kS7 k6 kS6
    go_wp2_with (first
      | (refine wpList_store_row rfl 67 _ _ rfl w7.heap.size SC7.toArray rfl rfl 67 ZS.toArray kQ (by rw [S_s7]; rfl) (by rw [S_s7, S_ZS]) O_s7 ?_; simp only [Act.put]))
    go_ret
    exact ⟨rfl, X8.out⟩
end Go.Proofs.YtbnjmmefnjoofaaDoor
end

section
/-
  The law RelayPlays.
-/
namespace Go.Proofs.YtbnjmmefnjoofaaDoor
open Go.ChangeShapes Go.WideShapes Go.ChangeAt Go.RowKit Go.Deep Go.Maps
set_option maxRecDepth 100000

theorem RW.lo {B B' g ticks N : Nat} {w : World} {root : List UInt8} {h : Nat → Option Ra} (k : RW B' w g root ticks h N) (hB : B ≤ B') : RW B w g root ticks h N := by
  obtain ⟨own, k⟩ := k
  exact ⟨own, k.cb, k.lr, k.ti, k.ac, Nat.le_trans hB k.lo, fun i j q => Nat.le_trans hB (k.ow i j q)⟩
theorem RY.lo {B B' g ticks N : Nat} {w : World} {root : List UInt8} {f : Nat → Option Ac} (k : RY B' w g root ticks f N) (hB : B ≤ B') : RY B w g root ticks f N := by
  obtain ⟨s, mb, q, own, EE, k⟩ := k
  exact ⟨s, mb, q, own, EE, k.cb, k.sr, k.en, k.ti, k.ac, ⟨Nat.le_trans hB k.lo.1, Nat.le_trans hB k.lo.2⟩, fun i j q => Nat.le_trans hB (k.ow i j q)⟩
set_option maxHeartbeats 32000000 in
theorem plays20_calls {w : World} {root : List UInt8} (lr : root.length = 32) {z : Int} {LO : List O20} {A : Option Addr} {len cap : Nat} (hl : Cs w 106 A len cap (LO.map O20.C)) (ol : ∀ o ∈ LO, o.ok w) {tg : TypeId × Nat × Nat} (hG : Gl w tg) :
    Calls Tryd.prog 3 #[.agg (cellsOf root).toArray, .int .i64 z, .slice A len cap] w fun e w' => e = .returned (.bool true) ∧ Ext w w' := by
  have AW : Hid (∀ V, Ext w V → Calls Tryd.prog 10 #[] V fun e w' => e = .returned (.bool true) ∧ Ext V w') := fun V x => awake20_calls (hG.kept x hG.lt)
  have OA := Lib.hid (fun i (hi : i < len) => o20_all hl ol hi)
  have hal1 := o20_alloc
  have ZOL : (⟨0, 0, 0, 0, 0, 0, List.replicate 32 0, List.replicate 32 0, 0, 0, none, 0, [], List.replicate 32 0, none, 0, 0, []⟩ : O20).C.length = 106 := rfl
  have q1 := hl.2.1
  have q2 : cap ≤ 9223372036854775807 := by have := q1.2; unfold maxLen at this; omega
  generalize (⟨0, 0, 0, 0, 0, 0, List.replicate 32 0, List.replicate 32 0, 0, 0, none, 0, [], List.replicate 32 0, none, 0, 0, []⟩ : O20).C = ZO at *
  have S_ZO : ZO.toArray.size = 106 := by rw [List.size_toArray, ZOL]
  have S_r : (cellsOf root).toArray.size = 32 := by simp [cellsOf_len, lr]
  have HG := Lib.hid hG
  have RB : Hid ((w.alloc (.cells (cellsOf root).toArray 23)).heap[w.heap.size]? = some (.cells (cellsOf root).toArray 23 (0, 0)) ∧ Ext w (w.alloc (.cells (cellsOf root).toArray 23))) := ⟨heap_alloc_new _ _, (Ext.refl w).alloc _⟩
  clear hl ol hG
  by_cases hm : z < 1 ∨ 1000000 < z
  · have NB := Lib.hid (fun (W : World) => rnew_bad (w := W) lr hm)
    have DB := Lib.hid (fun (W : World) => rwnew_bad (w := W) (root := root) hm)
    go_enter Tryd.func3, Tryd.ntmps3
    go_upto_region 1 with fail
    refine wp_gen (fun W => W.heap[w.heap.size]? = some (.cells (cellsOf root).toArray 23 (0, 0)) ∧ Ext w W) RB.out ?_
    clear RB
    rintro w0 ⟨k0, x0⟩
    have AW := Lib.hid (AW.out w0 x0)
    replace x0 := Lib.hid x0
    clear hm OA
    go_wp2_with fail
    refine AW.out.mono ?_
    rintro e w1 ⟨rfl, x1⟩
    have k1 := (x1.block _ (heap_lt k0)).trans k0
    have X1 : Hid (Ext w w1) := x0.out.trans x1
    clear AW x0 x1 k0
    go_wp2_with (first | ((with_reducible refine wpList_load_rowW (o := ⟨some 22, _, _, _, _, _⟩) ?_ 23 _ rfl w.heap.size ?_ 23 (cellsOf root).toArray (0, 0) _ ?_ Tryd.underlying23 ?_ ?_ ?_); (· rfl); (· rfl); (· exact k1); (· rfl); (· rw [S_r]; rfl); go_frame))
    refine (NB.out w1).mono ?_
    rintro e w2 ⟨rfl, x2⟩
    have k2 := (x2.block _ (heap_lt k1)).trans k1
    have X2 : Hid (Ext w w2) := X1.out.trans x2
    clear NB X1 x2 k1
    go_wp2_with (first | ((with_reducible refine wpList_load_rowW (o := ⟨some 28, _, _, _, _, _⟩) ?_ 23 _ rfl w.heap.size ?_ 23 (cellsOf root).toArray (0, 0) _ ?_ Tryd.underlying23 ?_ ?_ ?_); (· rfl); (· rfl); (· exact k2); (· rfl); (· rw [S_r]; rfl); go_frame))
    refine (DB.out w2).mono ?_
    rintro e w3 ⟨rfl, x3⟩
    have X3 : Hid (Ext w w3) := X2.out.trans x3
    clear DB X2 x3 k2
    go_wp2_with fail
    go_loopw [12] (fun iv wr => iv = .int .i64 0 ∧ Ext w wr) (fun _ _ => 0)
    case atStart => exact ⟨rfl, X3.out⟩
    case round =>
      clear X3
      obtain ⟨rfl, xr⟩ := hrel
      by_cases h0 : 0 < len
      · have u1 : decide ((0 : Int) < (len : Int)) = true := decide_eq_true (by omega)
        go_wp2_with fail
        go_ret
        exact ⟨rfl, xr⟩
      · have u1 : decide ((0 : Int) < (len : Int)) = false := decide_eq_false (by omega)
        go_wp2_with fail
        go_ret
        exact ⟨rfl, xr⟩
  obtain ⟨n, rfl⟩ : ∃ n : Nat, z = (n : Int) := ⟨z.toNat, by omega⟩
  have NW := Lib.hid (fun (W : World) => rnew_ok (w := W) lr (n := n) (by omega) (by omega))
  have DW := Lib.hid (fun (W : World) => rwnew_ok (w := W) lr (n := n) (by omega) (by omega))
  clear hm
  go_enter Tryd.func3, Tryd.ntmps3
  go_upto_region 1 with fail
  refine wp_gen (fun W => W.heap[w.heap.size]? = some (.cells (cellsOf root).toArray 23 (0, 0)) ∧ Ext w W) RB.out ?_
  clear RB
  rintro w0 ⟨k0, x0⟩
  have AW := Lib.hid (AW.out w0 x0)
  replace x0 := Lib.hid x0
  go_wp2_with fail
  refine AW.out.mono ?_
  rintro e w1 ⟨rfl, x1⟩
  have k1 := (x1.block _ (heap_lt k0)).trans k0
  have X1 : Hid (Ext w w1) := x0.out.trans x1
  clear AW x0 x1 k0
  go_wp2_with (first | ((with_reducible refine wpList_load_rowW (o := ⟨some 22, _, _, _, _, _⟩) ?_ 23 _ rfl w.heap.size ?_ 23 (cellsOf root).toArray (0, 0) _ ?_ Tryd.underlying23 ?_ ?_ ?_); (· rfl); (· rfl); (· exact k1); (· rfl); (· rw [S_r]; rfl); go_frame))
  refine (NW.out w1).mono ?_
  rintro e w2 ⟨g, rfl, gl, r2, x2⟩
  have k2 := (x2.block _ (heap_lt k1)).trans k1
  have X2 : Hid (Ext w w2) := X1.out.trans x2
  have R2 : Hid (RY w.heap.size w2 g root n (fun _ => none) 0) := r2.lo X1.out.size
  clear NW X1 x2 k1 r2 gl
  go_wp2_with (first | ((with_reducible refine wpList_load_rowW (o := ⟨some 28, _, _, _, _, _⟩) ?_ 23 _ rfl w.heap.size ?_ 23 (cellsOf root).toArray (0, 0) _ ?_ Tryd.underlying23 ?_ ?_ ?_); (· rfl); (· rfl); (· exact k2); (· rfl); (· rw [S_r]; rfl); go_frame))
  refine (DW.out w2).mono ?_
  rintro e w3 ⟨g', rfl, gl, r3, x3⟩
  have P3 : Hid (PR w w3 g g' root n (fun _ => none) (fun _ => none) 0) := ⟨R2.out.ext x3, r3.lo X2.out.size, X2.out.trans x3, Sd20.none⟩
  clear DW X2 x3 k2 r3 gl R2
  go_wp2_with fail
  go_loopw [12] (fun iv wr => ∃ (i N : Nat) (f : Nat → Option Ac) (h : Nat → Option Ra), i ≤ len ∧ i ≤ 60 ∧ N ≤ i ∧ iv = .int .i64 (i : Int) ∧ PR w wr g g' root n f h N) (fun iv _ => len - (intOf iv).toNat)
  case atStart => exact ⟨0, 0, _, _, Nat.zero_le _, by omega, by omega, rfl, P3.out⟩
  case round =>
    clear P3
    obtain ⟨i, N, f, h, hi, hi2, hN, rfl, pr⟩ := hrel
    by_cases hlt : i < len
    case neg =>
      obtain rfl : i = len := by omega
      have F := Lib.hid pr.xt
      clear pr OA
      go_wp2_with fail
      go_ret
      exact ⟨rfl, F.out⟩
    by_cases h60 : i < 60
    case neg =>
      have u1 : decide ((i : Int) < 60) = false := decide_eq_false (by omega)
      have F := Lib.hid pr.xt
      clear pr OA
      go_wp2_with fail
      go_ret
      exact ⟨rfl, F.out⟩
    have u1 : decide ((i : Int) < 60) = true := decide_eq_true (by omega)
    obtain ⟨b0, off, o, rfl, ok, oc⟩ := OA.out i hlt
    have M0 := Lib.hid (oc wr pr.xt)
    have L_O := O20.C_len ok
    have S_O : o.C.toArray.size = 106 := by rw [List.size_toArray, L_O]
    have O_O := one_cells o.one
    have DO : Hid (∀ V, Ext wr V → Calls Tryd.prog 13 #[.pointer (some ⟨g, 0, none⟩), .pointer (some ⟨g', 0, none⟩), .agg o.C.toArray] V fun e w' => e = .returned (.bool true) ∧ ∃ f' h', PR w w' g g' root n f' h' (N + 1)) := fun V x => do20_calls (pr.ext x) (by omega) ok HG.out
    have K7 : Hid (Cb ((wr.alloc (.cells ZO.toArray 40)).setRow wr.heap.size o.C.toArray) wr.heap.size 40 o.C ∧ Ext wr ((wr.alloc (.cells ZO.toArray 40)).setRow wr.heap.size o.C.toArray)) := ⟨(Cb.new wr _ ZO).set, Ext.newRow _ _ _⟩
    obtain ⟨p0, p1, p2, p3, p4, p72, p105, pE, pT⟩ := O20.parts ok
    have bl := ok.bs.le
    have bc := ok.bs.cap
    have kl := ok.ks.2.1
    have hwi : IntKind.i64.wrap ((i : Int) + 1) = (i : Int) + 1 := IntWalk.i64_in _ (by omega)
    have XR := Lib.hid pr.xt
    clear oc pr OA p0 p1 p2 p3 p4 pE pT
    obtain ⟨OC, hOC⟩ : ∃ OC, OC = o.C := ⟨_, rfl⟩
    rw [← hOC] at M0 L_O S_O O_O K7 DO p72 p105
    replace hOC := Lib.hid (fun _ : Unit => hOC)
    obtain ⟨bA, bn, bcc, hb⟩ : ∃ (bA : Option Addr) (bn bcc : Nat), bA = o.A ∧ bn = o.b.length ∧ bcc = o.c := ⟨_, _, _, rfl, rfl, rfl⟩
    obtain ⟨kA, kn, kc, hk⟩ : ∃ (bA : Option Addr) (bn bcc : Nat), bA = o.KA ∧ bn = o.kn ∧ bcc = o.kc := ⟨_, _, _, rfl, rfl, rfl⟩
    rw [← hb.1, ← hb.2.1, ← hb.2.2] at p72
    rw [← hk.1, ← hk.2.1, ← hk.2.2] at p105
    rw [← hb.2.1, ← hb.2.2] at bl
    rw [← hb.2.2] at bc
    rw [← hk.2.1, ← hk.2.2] at kl
    clear hb hk ok
    have kl2 : kc ≤ 9223372036854775807 := by have := kl.2; unfold maxLen at this; omega
    replace p72 := Lib.hid p72
    replace p105 := Lib.hid p105
    go_upto_region 10 with (first
      | ((with_reducible refine wpList_load_mid (o := ⟨some 60, _, _, _, _, _⟩) (ty := 40) (g := b0) (off := off + i * 106) (ys := OC) ?_ rfl ?_ ?_ Tryd.underlying40 ?_ ?_ ?_); (· rfl); (· rfl); (· exact M0.out); (· rfl); (· rw [L_O]; rfl); go_frame)
      | (refine wpList_store_row rfl 40 _ _ rfl wr.heap.size OC.toArray rfl rfl 40 ZO.toArray (heap_alloc_new _ _) (by rw [S_O]; rfl) (by rw [S_O, S_ZO]) O_O ?_; simp only [Act.put]))
    refine wp_gen (fun W => Cb W wr.heap.size 40 OC ∧ Ext wr W) K7.out ?_
    generalize wr.heap.size = r7 at *
    clear K7 M0
    rintro u ⟨k7, x7⟩
    have c72 := k7.cell p72.out
    have c105 := k7.cell p105.out
    have XU : Hid (Ext w u) := XR.out.trans x7
    by_cases h200 : 1000 < bn ∨ 20 < kn
    · rcases h200 with h200 | h200
      · have u2 : decide ((1000 : Int) < (bn : Int)) = true := decide_eq_true (by omega)
        clear DO k7 x7
        go_wp2_with fail
        go_ret
        exact ⟨rfl, XU.out⟩
      · have u3 : decide ((20 : Int) < (kn : Int)) = true := decide_eq_true (by omega)
        by_cases h201 : 1000 < bn
        · have u2 : decide ((1000 : Int) < (bn : Int)) = true := decide_eq_true (by omega)
          clear DO k7 x7
          go_wp2_with fail
          go_ret
          exact ⟨rfl, XU.out⟩
        · have u2 : decide ((1000 : Int) < (bn : Int)) = false := decide_eq_false (by omega)
          clear DO k7 x7
          go_wp2_with fail
          go_ret
          exact ⟨rfl, XU.out⟩
    have u2 : decide ((1000 : Int) < (bn : Int)) = false := decide_eq_false (by omega)
    have u3 : decide ((20 : Int) < (kn : Int)) = false := decide_eq_false (by omega)
    have DU := Lib.hid (DO.out u x7)
    clear DO x7 h200 XR XU
    go_wp2_with (first | ((with_reducible refine wpList_load_rowW (o := ⟨some 75, _, _, _, _, _⟩) ?_ 40 _ rfl r7 ?_ 40 OC.toArray (0, 0) _ ?_ Tryd.underlying40 ?_ ?_ ?_); (· rfl); (· rfl); (· exact k7); (· rfl); (· rw [S_O]; rfl); go_frame))
    refine DU.out.mono ?_
    rintro e w4 ⟨rfl, f4, h4, p4⟩
    replace p4 := Lib.hid p4
    clear DU k7 c72 c105 p72 p105
    go_wp2_with fail
    go_loopw [14] (fun v wr => ∃ nn : Int, -1 ≤ nn ∧ nn ≤ 9 ∧ v = .int .i64 nn ∧ PR w wr g g' root n f4 h4 (N + 1)) (fun v _ => (9 - intOf v).toNat)
    case atStart => exact ⟨-1, by omega, by omega, rfl, p4.out⟩
    case round =>
      clear p4
      obtain ⟨nn, n1, n2, rfl, p5⟩ := hrel
      by_cases h9 : nn < 9
      · have l1 : decide (nn < 9) = true := decide_eq_true h9
        have kw : IntKind.i64.wrap (nn + 1) = nn + 1 := IntWalk.i64_in _ (by omega)
        obtain ⟨er, ML⟩ := p5.mails (n := nn) ⟨by omega, by omega⟩
        replace ML := Lib.hid ML
        replace p5 := Lib.hid p5
        go_wp2_with fail
        refine ML.out.mono ?_
        rintro e w6 ⟨A6, m6, c6, rfl, x6, D6⟩
        have P6 := Lib.hid (p5.out.ext x6)
        have D6' := Lib.hid (D6 w6 (Ext.refl _))
        clear ML p5 D6 x6
        go_wp2_with fail
        refine Calls.mono D6'.out ?_
        rintro e w7 ⟨A7, m7, c7, rfl, rfl, S7⟩
        have S7' := Lib.hid (S7 w7 (Ext.refl _))
        clear D6' S7
        go_wp2_with fail
        refine S7'.out.mono ?_
        rintro e w8 ⟨rfl, x8⟩
        have P8 := Lib.hid (P6.out.ext x8)
        clear P6 S7' x8
        go_wp2_with fail
        go_round
        case rel => exact ⟨nn + 1, by omega, by omega, by go_num, P8.out⟩
        case measure => simp [intOf]; omega
      · obtain rfl : nn = 9 := by omega
        replace p5 := Lib.hid p5
        go_wp2_with fail
        go_round
        case rel => exact ⟨i + 1, N + 1, f4, h4, by omega, by omega, by omega, by go_num, p5.out⟩
        case measure => simp [intOf]; omega
end Go.Proofs.YtbnjmmefnjoofaaDoor
end

section
/-
  What the row's list says of blake.initial.
-/
namespace Go.Proofs.YtbnjmmefnjoofaaDoor
open Go.ChangeShapes Go.WideShapes Go.ChangeAt Go.RowKit Go.Deep

def initZ : List Int := [1779033703, 3144134277, 1013904242, 2773480762, 1359893119, 2600822924, 528734635, 1541459225]
theorem gBlake : Tryd.prog.globalNamed "palfrey/blake.initial" = some 0 := by kernel_rfl
theorem gBlakeType : (Tryd.prog.globals[0]?).map (·.type) = some 135 := by kernel_rfl
theorem gl_of_tab {W : World} (h : Lib.TabIs Tryd.prog W "palfrey/blake.initial" .u32 initZ) : ∃ tg, Gl W tg := by
  unfold Lib.TabIs World.var? at h
  rw [gBlake] at h
  simp only [Option.bind_some] at h
  cases hh : W.heap[0]? with
  | none => rw [hh] at h; cases h
  | some o =>
    rw [hh] at h
    cases o with
    | cells cs t fr =>
      simp only [Option.some.injEq] at h
      subst h
      exact ⟨(t, fr), hh⟩
    | _ => cases h
theorem gl_of_laid {W : World} {rest : List (String × DataW Unit)} (h : laidMet Tryd.prog (("palfrey/blake.initial", Lib.tabData .u32 initZ) :: rest) W) : ∃ tg, Gl W tg :=
  gl_of_tab (Lib.tabIs_of_head (rest := rest) gBlake gBlakeType Tryd.underlying135 Tryd.underlying134 (by kernel_rfl) (by kernel_rfl) h)
end Go.Proofs.YtbnjmmefnjoofaaDoor
end

section
/-
  How an argument that is an array of bytes reads. No conditions.
-/
namespace Go.Proofs.YtbnjmmefnjoofaaDoor
open Go.ChangeShapes Go.WideShapes Go.ChangeAt Go.RowKit Go.Deep

section
variable {H : Type} {enc : TypeId × Value → H} {W : World} {P : Program}
theorem okWide_array {r : Reach} {b n : Nat} {t e : TypeId} {v : Value} (ht : P.underlying t = some (.array n e)) (h : Value.okWide P W r b t v) : ∃ cs, v = .agg cs ∧ cs.size = P.cellsOf t := by
  simp only [Value.okWide, ht] at h
  obtain ⟨cs, h1, h2, _⟩ := h
  exact ⟨cs, h1, h2⟩
def byteV : Option Value → Nat
  | some (.int _ z) => z.toNat
  | _ => 0
theorem bytes_of_trod {n fuel : Nat} {t e : TypeId} {cs : List Value} {x : DataW H × List MemPlace} (ht : P.underlying t = some (.array n e)) (he : P.underlying e = some (.int .u8)) (hce : P.cellsOf e = 1) (hct : P.cellsOf t = n)
    (hf : DataW.trod enc P W 0 (fun _ => true) true fuel t cs = some x) : ∃ xs, cs = cellsOf xs ∧ xs.length = n := by
  cases fuel with
  | zero => simp [DataW.trod] at hf
  | succ fuel =>
    simp only [DataW.trod, ht, hce, hct, Nat.mul_one] at hf
    split at hf
    · rename_i hl
      obtain ⟨xs, hm, hx⟩ := Option.map_eq_some_iff.1 hf
      have hcell : ∀ i, i < n → ∃ z : Int, cs[i]? = some (.int .u8 z) ∧ 0 ≤ z ∧ z ≤ 255 := fun i hi => by
        obtain ⟨y, hy, hfy⟩ := Lib.mapM_at hm i i (by simp [hi])
        obtain ⟨z, hc, rfl, hw⟩ := DataW.trod_int he hfy
        have h1 : cs[i]? = some (.int .u8 z) := by
          have := congrArg (·[0]?) hc
          simpa [List.getElem?_take, List.getElem?_drop] using this
        have hb : 0 ≤ z ∧ z ≤ 255 := by simpa [Lit.wf, IntKind.min, IntKind.max, IntKind.signed, IntKind.bits] using hw
        exact ⟨z, h1, hb⟩
      refine ⟨(List.range n).map fun i => UInt8.ofNat (byteV cs[i]?), ?_, by simp⟩
      apply List.ext_getElem?
      intro i
      by_cases hi : i < n
      · obtain ⟨z, h1, h2, h3⟩ := hcell i hi
        have h4 := cellsOf_get (xs := (List.range n).map fun i => UInt8.ofNat (byteV cs[i]?)) (j := i) (by simp; exact hi)
        rw [h1]
        refine Eq.trans ?_ h4.symm
        congr 2
        unfold bt
        simp [List.getD, hi, h1, byteV]
        omega
      · rw [List.getElem?_eq_none (by omega), List.getElem?_eq_none (by simp [cellsOf_len]; omega)]
    · cases hf
theorem key_of_trod {r : Reach} {b n : Nat} {t e : TypeId} {v : Value} {d : DataW H} {p : List MemPlace} (ht : P.underlying t = some (.array n e)) (he : P.underlying e = some (.int .u8)) (hce : P.cellsOf e = 1) (hct : P.cellsOf t = n)
    (hv : Value.okWide P W r b t v) (h : DataW.Trod enc P W 0 (fun _ => true) true t v d p) : ∃ xs, v = .agg (cellsOf xs).toArray ∧ xs.length = n := by
  obtain ⟨cs, rfl, hsz⟩ := okWide_array ht hv
  obtain ⟨fuel, hf⟩ := h
  obtain ⟨xs, hx, hl⟩ := bytes_of_trod ht he hce hct hf
  refine ⟨xs, ?_, hl⟩
  congr 1
  apply Array.ext'
  rw [← hx]; rfl
end
end Go.Proofs.YtbnjmmefnjoofaaDoor
end
