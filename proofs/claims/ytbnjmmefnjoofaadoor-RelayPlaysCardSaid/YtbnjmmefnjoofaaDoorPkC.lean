import Derived.Test.YtbnjmmefnjoofaaDoorPkE
import Derived.Test.YtbnjmmefnjoofaaDoorRy7
import Derived.Test.YtbnjmmefnjoofaaDoorPkF
import Derived.Test.YtbnjmmefnjoofaaDoorPkK
import Derived.Test.YtbnjmmefnjoofaaDoorSeq
import Derived.Test.YtbnjmmefnjoofaaDoorSeqZ
import Derived.Test.YtbnjmmefnjoofaaDoorPkH
import Derived.Test.YtbnjmmefnjoofaaDoorRowOps
import Derived.Test.YtbnjmmefnjoofaaDoorPkO
import Derived.Test.YtbnjmmefnjoofaaDoorWords
import Derived.Deep.DeepCutAuto
import Derived.Test.YtbnjmmefnjoofaaDoorStamp16
section
/-
  The document's relay: Send.
-/
namespace Go.Proofs.YtbnjmmefnjoofaaDoor
open Go.ChangeShapes Go.WideShapes Go.ChangeAt Go.RowKit Go.Deep Go.Maps
set_option maxRecDepth 100000

theorem fdR_at {h : Nat → Option Ra} {j : Nat} {a : Ra} (hj : h j = some a) (j8 : j < 8) : fdR h (j : Int) = some j := by
  unfold fdR
  rw [if_pos (by omega), Int.toNat_natCast, hj]
  rfl
theorem fdR_some {h : Nat → Option Ra} {n : Int} {j : Nat} (q : fdR h n = some j) : n = (j : Int) ∧ j < 8 ∧ ∃ a, h j = some a := by
  unfold fdR at q
  split at q
  · rename_i z
    rcases ha : h n.toNat with _ | a
    · rw [ha] at q; cases q
    · rw [ha] at q
      injection q with q
      replace q : n.toNat = j := q
      subst q
      exact ⟨by omega, by omega, a, ha⟩
  · cases q
/-- What speaks against an envelope, but for the rate. -/
def snE (h : Nat → Option Ra) (ok : Bool) (fr tw : Int) (T : List UInt8 → List UInt8) (tg : List UInt8) (now : Int) : Int :=
  if ok = false then 1 else if fr = tw ∨ now < 0 ∨ 1000000 < now then 1 else
  match fdR h fr, fdR h tw with
  | some i, some j => match h i, h j with
    | some a, some b => if tg = T a.lk then (if a.out then 11 else if 8 ≤ b.L.length then 8 else 0) else 4
    | _, _ => 7
  | _, _ => 7
theorem snE_arg {h : Nat → Option Ra} {ok : Bool} {fr tw : Int} {T : List UInt8 → List UInt8} {tg : List UInt8} {now : Int} (q : ok = false ∨ fr = tw ∨ now < 0 ∨ 1000000 < now) : snE h ok fr tw T tg now = 1 := by
  unfold snE
  by_cases h1 : ok = false
  · rw [if_pos h1]
  · rw [if_neg h1, if_pos (q.resolve_left h1)]
theorem snE_none {h : Nat → Option Ra} {ok : Bool} {fr tw : Int} {T : List UInt8 → List UInt8} {tg : List UInt8} {now : Int} (h1 : ok = true) (h2 : ¬(fr = tw ∨ now < 0 ∨ 1000000 < now)) (q : fdR h fr = none ∨ fdR h tw = none) : snE h ok fr tw T tg now = 7 := by
  unfold snE
  rw [if_neg (by simp [h1]), if_neg h2]
  rcases q with q | q
  · rw [q]
  · rw [q]
    cases fdR h fr <;> rfl
theorem snE_in {h : Nat → Option Ra} {ok : Bool} {i j : Nat} {a b : Ra} {T : List UInt8 → List UInt8} {tg : List UInt8} {now : Int} (h1 : ok = true) (h2 : ¬((i : Int) = (j : Int) ∨ now < 0 ∨ 1000000 < now)) (hi : h i = some a) (i8 : i < 8) (hj : h j = some b) (j8 : j < 8) :
    snE h ok (i : Int) (j : Int) T tg now = if tg = T a.lk then (if a.out then 11 else if 8 ≤ b.L.length then 8 else 0) else 4 := by
  unfold snE
  rw [if_neg (by simp [h1]), if_neg h2, fdR_at hi i8, fdR_at hj j8]
  simp only [hi, hj]
/-- What the document's Send does. -/
def SnP (B : Nat) (w : World) (g : Nat) (root : List UInt8) (ticks : Nat) (h : Nat → Option Ra) (N : Nat) (ok : Bool) (fr tw : Int) (T : List UInt8 → List UInt8) (cm pk : List UInt8) (p n : Int) (body tag : List UInt8) (now : Int) (e : Ending) (w' : World) : Prop :=
  (snE h ok fr tw T tag now ≠ 0 → e = .returned (.tuple #[.agg zSm.C.toArray, .int .i64 (snE h ok fr tw T tag now)]) ∧ Ext w w') ∧
  (snE h ok fr tw T tag now = 0 → ∀ (i j : Nat) (a b : Ra), fr = (i : Int) → tw = (j : Int) → h i = some a → h j = some b → ∀ et t' k' : Int, bkTake 5 10 a.t a.k now = (et, t', k') →
    (et ≠ 0 → e = .returned (.tuple #[.agg zSm.C.toArray, .int .i64 et]) ∧ RW B w' g root ticks (updR h i (some { a with t := t', k := k' })) N ∧ Tb B tagX w w') ∧
    (et = 0 → e = .returned (.tuple #[.agg (mkS root ticks fr tw cm now).C.toArray, .int .i64 0]) ∧ (∃ A' c', RW B w' g root ticks (updR (updR h i (some { a with t := t', k := k' })) j (some { b with L := b.L ++ [⟨(mlOf fr tw cm pk p n body (mkS root ticks fr tw cm now)).as (b.last + 1), A', c'⟩], last := b.last + 1 })) (N + 1)) ∧ Tb B tagX w w'))
section
variable {B g ticks N : Nat} {w : World} {root : List UInt8} {h : Nat → Option Ra}
theorem RW.take (k : RW B w g root ticks h N) {i : Nat} {a : Ra} (hi : h i = some a) {now et t' k' : Int} (n1 : -9223372036854775808 ≤ now) (n2 : now ≤ 9223372036854775807) (hb : bkTake 5 10 a.t a.k now = (et, t', k')) :
    Calls Tryd.prog 59 #[.pointer (some ⟨a.tk, 0, none⟩), .int .i64 now] w fun e w' => e = .returned (.int .i64 et) ∧ RW B w' g root ticks (updR h i (some { a with t := t', k := k' })) N ∧ Tb B tagX w w' := by
  obtain ⟨own, k⟩ := k
  have hA := k.ac i a hi
  refine (refTake_any hA.bu hA.ok n1 n2 hb).mono ?_
  rintro e w' ⟨rfl, b', x⟩
  have ok' := bkTake_ok (now := now) hA.ok
  rw [hb] at ok'
  have KT : ∀ (q : Nat) (cs : Array Value) (t : TypeId), w.heap[q]? = some (Obj.cells cs t (0, 0)) → t ≠ 157 → w'.heap[q]? = some (Obj.cells cs t (0, 0)) := fun q cs t y z => (x.block q (heap_lt y) fun v => cells_ne y hA.bu z (Option.some.inj v)).trans y
  have := k.one (a' := { a with t := t', k := k' }) hi rfl hA.bu hA.ot (by decide) x ⟨hA.ln, KT _ _ _ hA.cb (by decide), hA.oa, hA.ks.keep fun q cs y => KT q cs _ y (by decide), hA.mb.keep (fun _ _ z => z) fun q cs t y z => KT q cs t y (by rcases z with ⟨_, rfl⟩ | ⟨_, rfl⟩ | rfl <;> decide), hA.ob, b', ok', hA.ot, hA.le⟩
  exact ⟨rfl, ⟨own, this.1⟩, this.2⟩
end
end Go.Proofs.YtbnjmmefnjoofaaDoor
end

section
/-
  The program's accounts and the document's beside each other.
-/
namespace Go.Proofs.YtbnjmmefnjoofaaDoor
open Go.ChangeShapes Go.WideShapes Go.ChangeAt Go.RowKit Go.Deep Go.Maps

structure Two20 (a : Ac) (b : Ra) : Prop where
  lk : a.lk = b.lk
  ib : a.ib = b.ib
  sb : a.sb = b.sb
  K : a.K = b.K
  out : a.out = b.out
  L : a.L.map (·.d) = b.L.map (·.d)
  last : a.last = b.last
  t : a.t = b.t
  k : a.k = b.k
theorem Two20.len {a : Ac} {b : Ra} (h : Two20 a b) : a.L.length = b.L.length := by
  have := congrArg List.length h.L
  simpa using this
/-- The same are registered, and each is alike. -/
def Sd20 (f : Nat → Option Ac) (h : Nat → Option Ra) : Prop := ∀ j, (f j = none ∧ h j = none) ∨ ∃ a b, f j = some a ∧ h j = some b ∧ Two20 a b
section
variable {f : Nat → Option Ac} {h : Nat → Option Ra}
theorem Sd20.none : Sd20 (fun _ => none) (fun _ => none) := fun _ => .inl ⟨rfl, rfl⟩
theorem Sd20.upd (s : Sd20 f h) {j : Nat} {a : Ac} {b : Ra} (t : Two20 a b) : Sd20 (upd f j (some a)) (updR h j (some b)) := fun i => by
  by_cases e : i = j
  · subst e
    exact .inr ⟨a, b, upd_same _ _ _, updR_same _ _ _, t⟩
  · rw [upd_other _ _ e, updR_other _ _ e]
    exact s i
theorem Sd20.fd (s : Sd20 f h) (n : Int) : fd f n = fdR h n := by
  unfold Go.Proofs.YtbnjmmefnjoofaaDoor.fd fdR
  split
  · rcases s n.toNat with ⟨q1, q2⟩ | ⟨a, b, q1, q2, _⟩ <;> rw [q1, q2] <;> rfl
  · rfl
theorem Sd20.at (s : Sd20 f h) {j : Nat} {a : Ac} (hj : f j = some a) : ∃ b, h j = some b ∧ Two20 a b := by
  rcases s j with ⟨q1, _⟩ | ⟨a', b, q1, q2, t⟩
  · rw [hj] at q1; cases q1
  · rw [hj] at q1
    injection q1 with q1
    subst q1
    exact ⟨b, q2, t⟩
/-- Both say the same of an envelope. -/
theorem Sd20.adE (s : Sd20 f h) {fr tw p n now : Int} {cm pk body tag : List UInt8} :
    adE f (okE fr tw p n body.length) fr tw (enX fr tw cm pk p n body) tag now = snE h (okE fr tw p n body.length) fr tw (fun lk => tgL lk fr tw cm pk p n body) tag now := by
  rcases hok : okE fr tw p n body.length with _ | _
  · rw [adE_arg (.inl rfl), snE_arg (.inl rfl)]
  by_cases h2 : fr = tw ∨ now < 0 ∨ 1000000 < now
  · rw [adE_arg (.inr h2), snE_arg (.inr h2)]
  rcases hi : Go.Proofs.YtbnjmmefnjoofaaDoor.fd f fr with _ | i
  · rw [adE_none rfl h2 (.inl hi), snE_none rfl h2 (.inl (by rw [← s.fd]; exact hi))]
  rcases hj : Go.Proofs.YtbnjmmefnjoofaaDoor.fd f tw with _ | j
  · rw [adE_none rfl h2 (.inr hj), snE_none rfl h2 (.inr (by rw [← s.fd]; exact hj))]
  obtain ⟨rfl, i8, a, ha⟩ := fd_some hi
  obtain ⟨rfl, j8, b, hb⟩ := fd_some hj
  obtain ⟨a', ha', ta⟩ := s.at ha
  obtain ⟨b', hb', tb⟩ := s.at hb
  rw [adE_in rfl h2 ha i8 hb j8, snE_in rfl h2 ha' i8 hb' j8]
  have e := (tgE_facts (lk := a'.lk) (f := (i : Int)) (t := (j : Int)) (cm := cm) (pk := pk) (p := p) (n := n) (body := body)).1 hok
  show _ = if tag = tgL a'.lk (i : Int) (j : Int) cm pk p n body then _ else _
  rw [e.1, ta.lk, ta.out, tb.len]
  by_cases q : macL a'.lk (enX (i : Int) (j : Int) cm pk p n body) = tag
  · rw [if_pos q, if_pos q.symm]
  · rw [if_neg q, if_neg (fun z => q z.symm)]
end
end Go.Proofs.YtbnjmmefnjoofaaDoor
end

section
/-
  The document's Draw (layer 3).
-/
namespace Go.Proofs.YtbnjmmefnjoofaaDoor
open Go.ChangeShapes Go.WideShapes Go.ChangeAt Go.RowKit Go.Deep

set_option maxRecDepth 100000 in
set_option maxHeartbeats 1000000 in
theorem refDraw_calls {A : Option Addr} {m d : Nat} {ks bs : List UInt8} {w : World} (hk : ks.length = 32) (h : Bs w A m d bs) (hm : m ≤ 1000000) :
    Calls Tryd.prog 98 #[.agg (cellsOf ks).toArray, .slice A m d] w fun e w' => e = .returned (.agg (cellsOf (macL ks bs)).toArray) ∧ Ext w w' := by
  have hal : ∀ w, (zeroValue 23).run Tryd.prog w = .ok (.agg zeros32) w := fun _ => by kernel_rfl
  have HL : (cellsOf (macL ks bs)).toArray.size = 32 := by simp [cellsOf_len, macL_len]
  have H1 := cellsOf_one (macL ks bs)
  have KS : (cellsOf ks).toArray.size = 32 := by simp [cellsOf_len, hk]
  have CALL : Hid (∀ W, Ext w W → Calls Tryd.prog 57 #[.agg (cellsOf ks).toArray, .slice A m d] W fun e w' => e = .returned (.agg (cellsOf (macL ks bs)).toArray) ∧ Ext W w') := fun W e => refTag_calls hk (h.ext e) hm
  have hz0 := zeros32_size
  have kk : Hid (Ky ((w.alloc (Obj.cells (cellsOf ks).toArray 23)).alloc (Obj.cells zeros32 23)) w.heap.size ks) := ⟨heap_alloc1 _ _ _, hk⟩
  generalize zeros32 = Z at *
  generalize (cellsOf (macL ks bs)).toArray = D at *
  clear h
  go_enter Tryd.func98, Tryd.ntmps98
  go_wp2_with (refine wpList_load_row rfl 23 _ rfl w.heap.size rfl 23 (cellsOf ks).toArray (0, 0) _ kk.out.1 rfl rfl (by rw [KS]; rfl) ?_; go_frame)
  refine (CALL.out _ (((Ext.refl w).alloc _).alloc _)).mono ?_
  rintro e w1 ⟨rfl, e1⟩
  have r0 := Lib.hid ((e1.block (w.heap.size + 1) (by rw [size_alloc, size_alloc]; omega)).trans (heap_alloc2 w (Obj.cells (cellsOf ks).toArray 23) (Obj.cells Z 23)))
  have E1 : Hid (Ext w w1) := (((Ext.refl w).alloc _).alloc _).trans e1
  clear CALL kk e1
  go_wp2_with (refine wpList_store_row rfl 23 _ _ rfl (w.heap.size + 1) D rfl rfl 23 Z r0.out (by rw [HL]; rfl) (by rw [HL]; exact hz0) H1 ?_)
  (try simp only [Exit.inBlock, Exit.then])
  refine bodyPost_ret (results_cell_row rfl _ _ (w.heap.size + 1) 23 D (0, 0) _ rfl (setRow_heap _ _ _ _ _ _ r0.out) rfl rfl (by rw [HL]; rfl)) rfl ?_
  exact ⟨rfl, below_setRow E1.out (Nat.le_succ _) _⟩
end Go.Proofs.YtbnjmmefnjoofaaDoor
end

section
/-
  The document's tag of a stamp.
-/
namespace Go.Proofs.YtbnjmmefnjoofaaDoor
open Go.ChangeShapes Go.WideShapes Go.ChangeAt Go.RowKit Go.Deep
set_option maxRecDepth 100000

/-- The blocks that may turn: the result and what lies from C on. -/
def Pt16 (r C i : Nat) : Prop := i = r ∨ C ≤ i
theorem Ot.of_below16 {r C : Nat} {a b : World} (h : Below C a b) : Ot (Pt16 r C) a b := ⟨h.os, h.tape, h.output, h.size, fun i _ hn => h.block i (Nat.lt_of_not_le fun z => hn (.inr z))⟩
set_option maxHeartbeats 8000000 in
theorem rtag16_calls {w : World} {root : List UInt8} {ep f t tm : Nat} {cm tg : List UInt8} (lr : root.length = 32) (lc : cm.length = 32) (hep : ep ≤ 1000000) (hf : f ≤ 7) (ht : t ≤ 7) (htm : tm ≤ 1000000) :
    Calls Tryd.prog 84 #[.agg (cellsOf root).toArray, .agg (stC ep f t tm cm tg).toArray] w fun e w' => e = .returned (.agg (cellsOf (tagL16 root ep f t tm cm)).toArray) ∧ Ext w w' := by
  have HE : Hid (∀ (W : World), Calls Tryd.prog 80 #[.int .u64 (ep : Int), .int .i64 4] W (RetOwn (hiB ep 4) W)) := fun W => refHighO_calls (by omega) (by omega) (by omega) (by omega) rfl
  have H1 : Hid (∀ (W : World), Calls Tryd.prog 80 #[.int .u64 (f : Int), .int .i64 1] W (RetOwn (hiB f 1) W)) := fun W => refHighO_calls (by omega) (by omega) (by omega) (by omega) rfl
  have H2 : Hid (∀ (W : World), Calls Tryd.prog 80 #[.int .u64 (t : Int), .int .i64 1] W (RetOwn (hiB t 1) W)) := fun W => refHighO_calls (by omega) (by omega) (by omega) (by omega) rfl
  have H4 : Hid (∀ (W : World), Calls Tryd.prog 80 #[.int .u64 (tm : Int), .int .i64 4] W (RetOwn (hiB tm 4) W)) := fun W => refHighO_calls (by omega) (by omega) (by omega) (by omega) rfl
  have u0 : IntKind.u64.wrap (ep : Int) = (ep : Int) := IntWalk.u64_in _ (by omega)
  have u1 : IntKind.u64.wrap (f : Int) = (f : Int) := IntWalk.u64_in _ (by omega)
  have u2 : IntKind.u64.wrap (t : Int) = (t : Int) := IntWalk.u64_in _ (by omega)
  have u3 : IntKind.u64.wrap (tm : Int) = (tm : Int) := IntWalk.u64_in _ (by omega)
  have c0 : Hid ((stC ep f t tm cm tg)[0]? = some (.int .i64 (ep : Int))) := rfl
  have c1 : Hid ((stC ep f t tm cm tg)[1]? = some (.int .i64 (f : Int))) := rfl
  have c2 : Hid ((stC ep f t tm cm tg)[2]? = some (.int .i64 (t : Int))) := rfl
  have c3 : Hid ((stC ep f t tm cm tg)[3]? = some (.int .i64 (tm : Int))) := rfl
  have cc := Lib.hid (fun _ : Unit => (st_parts (ep := ep) (f := f) (t := t) (tm := tm) (tg := tg) lc).1)
  have hR : Hid (macL (macL root (hiB ep 4)) (((hiB f 1 ++ hiB t 1) ++ hiB tm 4) ++ cm) = tagL16 root ep f t tm cm) := rfl
  have l0 := hiB_len ep 4
  have l1 := hiB_len f 1
  have l2 := hiB_len t 1
  have l4 := hiB_len tm 4
  generalize tagL16 root ep f t tm cm = TGL at *
  generalize stC ep f t tm cm tg = st at *
  generalize hiB ep 4 = b0 at *
  generalize hiB f 1 = b1 at *
  generalize hiB t 1 = b2 at *
  generalize hiB tm 4 = b4 at *
  clear hf ht htm hep
  have DRAW : Hid (∀ (W : World) (A : Option Addr) (n c : Nat), Bs W A n c b0 → Calls Tryd.prog 98 #[.agg (cellsOf root).toArray, .slice A n c] W fun e w' => e = .returned (.agg (cellsOf (macL root b0)).toArray) ∧ Ext W w') := fun W A n c q => refDraw_calls lr q (by rw [← q.1, l0]; omega)
  have L_ek : (macL root b0).length = 32 := macL_len _ _
  generalize macL root b0 = ek at *
  have TAG : Hid (∀ (W : World) (A : Option Addr) (c : Nat), Bs W A (1 + 1 + 4 + 32) c (((b1 ++ b2) ++ b4) ++ cm) → Calls Tryd.prog 57 #[.agg (cellsOf ek).toArray, .slice A (1 + 1 + 4 + 32) c] W fun e w' => e = .returned (.agg (cellsOf TGL).toArray) ∧ Ext W w') := fun W A c q => by
    have := refTag_calls L_ek q (by omega)
    rw [hR.out] at this
    exact this
  have L_T : TGL.length = 32 := by rw [← hR.out]; exact macL_len _ _
  clear hR
  have S_T : (cellsOf TGL).toArray.size = 32 := by simp [cellsOf_len, L_T]
  have O_T := cellsOf_one TGL
  have S_k : (cellsOf ek).toArray.size = 32 := by simp [cellsOf_len, L_ek]
  have O_k := cellsOf_one ek
  have RS : (cellsOf root).toArray.size = 32 := by simp [cellsOf_len, lr]
  have hal := key_alloc16
  have hz0 := zeros32_size
  obtain ⟨r, hr⟩ : ∃ r, r = w.heap.size := ⟨_, rfl⟩
  generalize zeros32 = Z at *
  have B0 : Hid (Ky (((w.alloc (.cells (cellsOf root).toArray 23)).alloc (.cells st.toArray 67)).alloc (.cells Z 23)) r root ∧ Cb (((w.alloc (.cells (cellsOf root).toArray 23)).alloc (.cells st.toArray 67)).alloc (.cells Z 23)) (r + 1) 67 st ∧ (((w.alloc (.cells (cellsOf root).toArray 23)).alloc (.cells st.toArray 67)).alloc (.cells Z 23)).heap[r + 1 + 1]? = some (.cells Z 23 (0, 0)) ∧ Ext w (((w.alloc (.cells (cellsOf root).toArray 23)).alloc (.cells st.toArray 67)).alloc (.cells Z 23))) := by
    rw [hr]
    exact ⟨⟨heap_alloc30 _ _ _ _, lr⟩, heap_alloc31 _ _ _ _, heap_alloc32 _ _ _ _, (((Ext.refl w).alloc _).alloc _).alloc _⟩
  go_enter Tryd.func84, Tryd.ntmps84
  go_upto_region 1 with fail
  refine wp_gen (fun W => Ky W r root ∧ Cb W (r + 1) 67 st ∧ W.heap[r + 1 + 1]? = some (.cells Z 23 (0, 0)) ∧ Ext w W) B0.out ?_
  rw [← hr]
  have wr : w.heap.size ≤ r := Nat.le_of_eq hr.symm
  clear B0 lr
  replace hr := Lib.hid hr
  rintro w0 ⟨k0, k1, k2, x0⟩
  have z0 := heap_lt k2
  have P0 : Hid (∀ s, Below w0.heap.size w0 s → Ky s r root ∧ Cb s (r + 1) 67 st ∧ s.heap[r + 1 + 1]? = some (.cells Z 23 (0, 0)) ∧ Ext w s) := fun s x => ⟨k0.ext x, k1.ext x, (x.block _ (heap_lt k2)).trans k2, Ext.trans x0 x⟩
  clear k0 k1 k2 x0
  have F0 : Hid (∀ s, Below w0.heap.size w0 s → s.cell? ⟨r + 1, 0, none⟩ = some (.int .i64 (ep : Int))) := fun s x => (P0.out s x).2.1.cell c0.out
  go_cut [5] (fun s5 wx => ∃ g : Nat, s5 = .pointer (some ⟨g, 0, none⟩) ∧ Below w0.heap.size w0 wx ∧ wx.heap[g]? = some (.cells (cellsOf ek).toArray 23 (0, 0)) ∧ w0.heap.size ≤ g)
  case first =>
    refine qgT (R := Below w0.heap.size) (Below.refl _) (fun _ _ _ => Below.trans) (.rd 0 (.rd 1 (.rd 2 (.rd 3 (.alt 4 (.alt 5 (.alt 6 (.alt 7 .nil .stop) .stop) (.alt 6 (.alt 5 (.alt 7 .nil .stop) .stop) .stop)) (.alt 6 (.alt 4 (.alt 5 (.alt 7 .nil .stop) .stop) .stop) .stop)))))) 8 ?_
    refine qtV rfl (fun w' => w'.heap[r]? = some (.cells (cellsOf root).toArray 23 (0, 0))) (fun w' e => (P0.out w' (Ext.trans (Ext.refl _).drew e)).1.1) (.agg (cellsOf root).toArray) (fun w' hF => exec_load_row rfl rfl hF rfl rfl (by rw [RS]; rfl)) ?_
    go_frame
    repeat ((first | refine qtR _ (fun w' e => F0.out w' (Ext.trans (Ext.refl _).drew e)) ?_ | refine qtS ?_); go_frame)
    have SE : Hid (Ext w0 w0.drew) := (Ext.refl w0).drew
    generalize w0.drew = WC at *
    repeat' (first
      | exact seqT_stop
      | (refine seqT_do (i := 4) _ rfl ?_ ?_ (fun K1 hK1 => ?_)
         (· rfl)
         rotate_left
         go_simp
         refine (HE.out _).mono ?_
         rintro e0 WC ⟨AH, nH, mH, rfl, oH, e⟩
         refine hK1.out _ _ (e.mono SE.out.size) ?_
         clear hK1 K1
         (try replace hL := Lib.hid ((e.block _ (heap_lt hL.out)).trans hL.out))
         replace SE := Lib.hid (SE.out.trans e)
         have bH := Lib.hid oH.bs
         clear e oH
         (try go_frame)
         repeat ((first | refine qtR0 ?_ | refine qtS ?_); go_frame)
         skip)
      | (refine seqT_do (i := 5) _ rfl ?_ ?_ (fun K1 hK1 => ?_)
         (· rfl)
         rotate_left
         go_simp
         refine (DRAW.out _ _ _ _ bH.out).mono ?_
         rintro e0 WC ⟨rfl, e⟩
         refine hK1.out _ _ (e.mono SE.out.size) ?_
         clear hK1 K1 bH
         (try replace hL := Lib.hid ((e.block _ (heap_lt hL.out)).trans hL.out))
         replace SE := Lib.hid (SE.out.trans e)
         clear e
         (try go_frame)
         repeat ((first | refine qtR0 ?_ | refine qtS ?_); go_frame)
         skip)
      | (refine seqT_do (i := 6) _ rfl ?_ ?_ (fun K1 hK1 => ?_)
         (· rfl)
         rotate_left
         go_simp
         have e : Ext WC (WC.alloc (Obj.cells Z 23)) := (Ext.refl WC).alloc _
         obtain ⟨gL, hgL⟩ : ∃ g, g = WC.heap.size := ⟨_, rfl⟩
         have hL := Lib.hid (heap_alloc_new WC (Obj.cells Z 23))
         rw [← hgL] at hL ⊢
         have zl : w0.heap.size ≤ gL := by rw [hgL]; exact SE.out.size
         refine hK1.out _ _ (e.mono SE.out.size) ?_
         clear hK1 K1
         replace hgL := Lib.hid hgL
         (try replace bH := Lib.hid (bH.out.ext e))
         replace SE := Lib.hid (SE.out.trans e)
         clear e
         generalize WC.alloc (Obj.cells Z 23) = WC at *
         (try go_frame)
         repeat ((first | refine qtR0 ?_ | refine qtS ?_); go_frame)
         skip)
      | (refine seqT_do (i := 7) _ rfl ?_ ?_ (fun K1 hK1 => ?_)
         (· rfl)
         rotate_left
         refine wp_store_row _ _ _ rfl gL (cellsOf ek).toArray rfl rfl 23 Z hL.out (by rw [S_k]; rfl) (by rw [S_k]; exact hz0.symm ▸ rfl) O_k ?_
         refine hK1.out _ _ (below_setRow (Below.refl _ _) zl _) ?_
         clear hK1 K1
         have S1 : Hid (Below w0.heap.size w0 (WC.setRow gL (cellsOf ek).toArray)) := below_setRow SE.out zl _
         have kx : Hid ((WC.setRow gL (cellsOf ek).toArray).heap[gL]? = some (.cells (cellsOf ek).toArray 23 (0, 0))) := setRow_heap _ _ _ _ _ _ hL.out
         (try simp only [Act.put])
         repeat ((first | refine qtR0 ?_ | refine qtS ?_); go_frame)
         refine seqT_done ?_
         go_wp2_with fail
         go_meet
         exact ⟨gL, rfl, S1.out, kx.out, zl⟩)
      )
  case rest =>
    obtain ⟨g, rfl, E1, kr, hg⟩ := hcut
    have gl := heap_lt kr
    have z1 : w0.heap.size ≤ wc.heap.size := E1.size
    have P1 : Hid (∀ s, Ext wc s → Cb s (r + 1) 67 st ∧ s.heap[r + 1 + 1]? = some (.cells Z 23 (0, 0)) ∧ s.heap[g]? = some (.cells (cellsOf ek).toArray 23 (0, 0)) ∧ Ext w s) := fun s x => by
      obtain ⟨_, a, b, c⟩ := P0.out s (Below.trans E1 (x.mono E1.size))
      exact ⟨a, b, (x.block _ gl).trans kr, c⟩
    have F1 : Hid (∀ s, Ext wc s → s.cell? ⟨r + 1, 1, none⟩ = some (.int .i64 (f : Int)) ∧ s.cell? ⟨r + 1, 2, none⟩ = some (.int .i64 (t : Int))) := fun s x => ⟨(P1.out s x).1.cell c1.out, (P1.out s x).1.cell c2.out⟩
    have F3 : Hid (∀ s, Ext wc s → s.cell? ⟨r + 1, 3, none⟩ = some (.int .i64 (tm : Int))) := fun s x => (P1.out s x).1.cell c3.out
    clear P0 F0 E1 DRAW HE c0 c1 c2 c3 kr
    go_upto_region 2 with fail
    refine qgB wc.heap.size [0, 1, 2, 4, 5, 6, 3, 7, 8, 9] [3, 7, 8] ?_
    repeat ((first | refine qR _ (fun w' e => F1.out w' (Ext.trans (Ext.refl _).drew e)) ?_ | refine qS ?_); go_frame)
    have X1 : Hid (Ext wc wc.drew) := (Ext.refl wc).drew
    generalize wc.drew = V at *
    refine qD fun K hK => ?_
    go_simp
    refine (H1.out V).mono ?_
    rintro e w1 ⟨A1, n1, m1, rfl, o1, e1⟩
    obtain rfl : n1 = 1 := by rw [← o1.len, l1]
    refine hK.out _ _ (e1.mono X1.out.size) ?_
    clear hK K
    try go_frame
    replace o1 := Lib.hid (o1.mono X1.out.size)
    have X2 := Lib.hid (X1.out.trans e1)
    clear e1 X1 H1
    repeat ((first | refine qR0 ?_ | refine qS ?_); go_frame)
    refine qD fun K hK => ?_
    go_simp
    refine (H2.out w1).mono ?_
    rintro e w2 ⟨A2, n2, m2, rfl, o2, e2⟩
    obtain rfl : n2 = 1 := by rw [← o2.len, l2]
    refine hK.out _ _ (e2.mono X2.out.size) ?_
    clear hK K
    try go_frame
    replace o1 := Lib.hid (o1.out.ext e2)
    replace o2 := Lib.hid o2.bs
    have X3 := Lib.hid (X2.out.trans e2)
    have s3 : wc.heap.size ≤ w2.heap.size := X3.out.size
    clear e2 X2 H2
    repeat ((first | refine qR0 ?_ | refine qS ?_); go_frame)
    refine qD fun K hK => ?_
    refine wp_append_bs rfl rfl rfl o1.out o2.out (by omega) s3 ?_
    intro A4 c4 w4 o4 g4 b4
    refine hK.out _ _ b4 ?_
    clear hK K
    try go_frame
    have X4 : Hid (Ext wc w4) := Lib.hid (Below.trans X3.out b4)
    replace o4 := Lib.hid o4
    clear g4 b4 o1 o2 X3 s3
    repeat ((first | refine qR0 ?_ | refine qS ?_); go_frame)
    refine seq_done ?_
    refine gen_q (fun W => Own wc.heap.size W A4 (1 + 1) c4 (b1 ++ b2) ∧ Ext wc W) ⟨o4.out, X4.out⟩ ?_
    clear o4 X4
    rintro w5 ⟨o5, x5⟩
    have f5 := F3.out _ x5
    replace o5 := Lib.hid o5
    replace x5 := Lib.hid x5
    clear F1 F3
    go_wp2_with fail
    refine (H4.out _).mono ?_
    rintro e w6 ⟨A6, n6, m6, rfl, o6, e6⟩
    obtain rfl : n6 = 4 := by rw [← o6.len, l4]
    have o7 := Lib.hid (o5.out.ext e6)
    replace o6 := Lib.hid o6.bs
    have x6 := Lib.hid (x5.out.trans e6)
    have s6 : wc.heap.size ≤ w6.heap.size := x6.out.size
    clear f5 o5 x5 e6 H4
    go_upto_region 4 with (at_builtin; (with_reducible refine wpList_append_bs rfl (B := wc.heap.size) (s := .tmp 22) (x := .tmp 26) rfl rfl rfl o7.out o6.out (by omega) s6 ?_); intro A8 m8 w8 o8 g8 d8; replace o8 := Lib.hid o8; clear g8; replace d8 := Lib.hid d8; go_frame)
    refine wp_gen (fun W => Own wc.heap.size W A8 (1 + 1 + 4) m8 ((b1 ++ b2) ++ b4) ∧ Ext wc W) ⟨o8.out, Below.trans x6.out d8.out⟩ ?_
    clear o8 d8 o7 o6 x6 s6
    rintro v1 ⟨o1, x1⟩
    obtain ⟨q1, q2, q3, q4⟩ := P1.out _ x1
    have bm := Lib.hid (q1.bs (cc.out ()) rfl lc (by omega))
    replace q2 : Hid (v1.drew.heap[r + 1 + 1]? = some (.cells Z 23 (0, 0))) := q2
    replace q4 : Hid (Ext w v1.drew) := q4.drew
    have sv : wc.heap.size ≤ v1.drew.heap.size := x1.size
    have z2 : r + 1 + 1 < wc.heap.size := by omega
    have GOF : Hid (∀ s, Ot (Pt16 (r + 1 + 1) wc.heap.size) v1.drew s → s.heap[g]? = some (.cells (cellsOf ek).toArray 23 (0, 0))) := fun s x => x.block q3 (fun z => by rcases z with z | z <;> omega)
    replace o1 : Hid (Own wc.heap.size v1.drew A8 (1 + 1 + 4) m8 ((b1 ++ b2) ++ b4)) := o1.ext (Ext.refl v1).drew
    replace bm : Hid (Bs v1.drew (some ⟨r + 1, 4, none⟩) 32 32 cm) := bm.out.ext (Ext.refl v1).drew
    clear q1 q3 x1 P1
    refine qgR (R := Ot (Pt16 (r + 1 + 1) wc.heap.size)) (Ot.refl _) (fun _ _ _ => Ot.trans) [0, 1, 2, 3, 4, 5, 6] [4, 5, 6] ?_
    refine qV rfl (fun w' => w'.heap[g]? = some (.cells (cellsOf ek).toArray 23 (0, 0))) (fun w' e => GOF.out w' e) (.agg (cellsOf ek).toArray) (fun w' hF => exec_load_row rfl rfl hF rfl rfl (by rw [S_k]; rfl)) ?_
    go_frame
    repeat ((first | refine qR0 ?_ | refine qS ?_); go_frame)
    generalize v1.drew = V at *
    clear GOF
    refine qD fun K hK => ?_
    refine wp_append_bs rfl rfl rfl o1.out bm.out (by omega) sv ?_
    intro A9 c9 w9 o9 g9 b9
    refine hK.out _ _ (Ot.of_below16 b9) ?_
    clear hK K
    try go_frame
    have y2 : Hid (w9.heap[r + 1 + 1]? = some (.cells Z 23 (0, 0))) := (b9.block _ z2).trans q2.out
    have y4 : Hid (Ext w w9) := Below.trans q4.out (b9.mono (by omega))
    have T9 := Lib.hid (TAG.out w9 A9 c9 o9.bs)
    clear o9 g9 b9 o1 bm q2 q4 TAG sv
    repeat ((first | refine qR0 ?_ | refine qS ?_); go_frame)
    refine qD fun K hK => ?_
    go_simp
    refine T9.out.mono ?_
    rintro e v2 ⟨rfl, e2⟩
    refine hK.out _ _ (Ot.of_ext e2) ?_
    clear hK K
    try go_frame
    have q2 : Hid (v2.heap[r + 1 + 1]? = some (.cells Z 23 (0, 0))) := (e2.block _ (heap_lt y2.out)).trans y2.out
    have q4 : Hid (Ext w v2) := y4.out.trans e2
    clear T9 y2 y4 e2
    refine qD fun K hK => ?_
    refine wp_store_row _ _ _ rfl (r + 1 + 1) (cellsOf TGL).toArray rfl rfl 23 Z q2.out (by rw [S_T]; rfl) (by rw [S_T]; exact hz0.symm ▸ rfl) O_T ?_
    refine hK.out _ _ (Ot.row _ _ (.inl rfl)) ?_
    clear hK K
    try simp only [Act.put]
    refine seq_done ?_
    have FF : Hid (Ext w (v2.setRow (r + 1 + 1) (cellsOf TGL).toArray)) := below_setRow q4.out (by omega) _
    clear q4
    go_wp2_with fail
    (try simp only [Exit.inBlock, Exit.then])
    refine bodyPost_ret (results_cell_row rfl _ _ (r + 1 + 1) 23 (cellsOf TGL).toArray (0, 0) _ rfl (setRow_heap _ _ _ _ _ _ q2.out) rfl rfl (by rw [S_T]; rfl)) rfl ?_
    exact ⟨rfl, FF.out⟩
end Go.Proofs.YtbnjmmefnjoofaaDoor
end

section
/-
  The document's stamp (first written from XStamp16 by a script).
-/
namespace Go.Proofs.YtbnjmmefnjoofaaDoor
open Go.ChangeShapes Go.WideShapes Go.ChangeAt Go.RowKit Go.Deep Go.Maps
set_option maxRecDepth 100000

set_option maxHeartbeats 8000000 in
theorem rstamp16_calls {w : World} {ticks : Nat} {root : List UInt8} (lr : root.length = 32) (t1 : 1 ≤ ticks) (t2 : ticks ≤ 1000000) {f t pp nn now : Int} {cm pk : List UInt8} {A : Option Addr} {m c : Nat} (lc : cm.length = 32) (lk : pk.length = 32) :
    Calls Tryd.prog 60 #[.agg (cellsOf root).toArray, .int .i64 (ticks : Int), .agg (evC f t cm pk pp nn A m c).toArray, .int .i64 now] w fun e w' => e = .returned (.tuple #[.agg (mkS root ticks f t cm now).C.toArray, .int .i64 (mkE f t now)]) ∧ Ext w w' := by
  have TI : Hid (∀ (W : World) (z : Int), Calls Tryd.prog 58 #[.int .i64 z] W fun e w' => e = .returned (.bool (upB z 1000000)) ∧ Ext W w') := fun W z => rTime_calls
  have AC : Hid (∀ (W : World) (z : Int), Calls Tryd.prog 83 #[.int .i64 z] W fun e w' => e = .returned (.bool (upB z 7)) ∧ Ext W w') := fun W z => raccount_calls
  obtain ⟨M0, M1⟩ := mk_facts (root := root) (ticks := ticks) (f := f) (t := t) (cm := cm) (now := now)
  replace M0 := Lib.hid M0
  replace M1 := Lib.hid M1
  have MK : Hid (mkOk f t now = ((upB now 1000000 && upB f 7) && upB t 7)) := rfl
  have hal := stamp_alloc16
  have halK := key_alloc16
  have BZ := Lib.hid stamp_built0
  have L_Z := Sm.C_len zSm_ok
  have O_Z := one_cells zSm.one
  have L_ev := evC_len lc lk f t pp nn A m c
  have e0 : Hid ((evC f t cm pk pp nn A m c)[0]? = some (.int .i64 f)) := rfl
  have e1 : Hid ((evC f t cm pk pp nn A m c)[1]? = some (.int .i64 t)) := rfl
  have ec := Lib.hid (fun _ : Unit => (ev_cells lc lk f t pp nn A m c).2.2.2.2)
  generalize evC f t cm pk pp nn A m c = ev at *
  obtain ⟨ZS, hZS⟩ : ∃ ZS, ZS = zSm.C := ⟨_, rfl⟩
  rw [← hZS] at hal BZ L_Z O_Z
  have S_Z : ZS.toArray.size = 68 := by rw [List.size_toArray, L_Z]
  have ZR : Hid (mkS root ticks f t cm now = zSm → (mkS root ticks f t cm now).C.toArray = ZS.toArray) := fun z => by rw [z, hZS]
  clear hZS
  obtain ⟨r, hr⟩ : ∃ x, x = w.heap.size := ⟨_, rfl⟩
  obtain ⟨g4, hg4⟩ : ∃ x, x = r + 1 := ⟨_, rfl⟩
  have B0 : Hid (Ky (((w.alloc (.cells (cellsOf root).toArray 23)).alloc (.cells ev.toArray 37)).alloc (.cells ZS.toArray 67)) r root ∧ Cb (((w.alloc (.cells (cellsOf root).toArray 23)).alloc (.cells ev.toArray 37)).alloc (.cells ZS.toArray 67)) g4 37 ev ∧ Cb (((w.alloc (.cells (cellsOf root).toArray 23)).alloc (.cells ev.toArray 37)).alloc (.cells ZS.toArray 67)) (g4 + 1) 67 ZS ∧ Ext w (((w.alloc (.cells (cellsOf root).toArray 23)).alloc (.cells ev.toArray 37)).alloc (.cells ZS.toArray 67))) := by
    rw [hg4, hr]; exact ⟨⟨heap_alloc30 _ _ _ _, lr⟩, heap_alloc31 _ _ _ _, heap_alloc32 _ _ _ _, (((Ext.refl w).alloc _).alloc _).alloc _⟩
  replace hr := Lib.hid hr
  replace hg4 := Lib.hid hg4
  go_enter Tryd.func60, Tryd.ntmps60
  go_upto_region 1 with fail
  refine wp_gen (fun W => Ky W r root ∧ Cb W g4 37 ev ∧ Cb W (g4 + 1) 67 ZS ∧ Ext w W) B0.out ?_
  rw [← hr.out, ← hg4.out]
  have wg4 : w.heap.size ≤ g4 := by rw [hg4.out, hr.out]; omega
  have rg4 : r < g4 := by rw [hg4.out]; omega
  clear B0 hg4 hr
  rintro w0 ⟨k0, k4, k6, x0⟩
  have RK : Hid (∀ s, Ext w0 s → Ky s r root) := fun s x => k0.ext x
  have P0 : Hid (∀ s, Ext w0 s → Cb s g4 37 ev ∧ Cb s (g4 + 1) 67 ZS ∧ Ext w s) := fun s x => ⟨k4.ext x, k6.ext x, x0.trans x⟩
  have x00 := Lib.hid (Ext.refl w0)
  clear k0 k4 k6 x0
  go_wp2_with fail
  refine (TI.out _ _).mono ?_
  rintro e w1 ⟨rfl, x1⟩
  replace x1 := Lib.hid x1
  clear x00
  rcases h1 : upB now 1000000 with _ | _
  · skip
    have hb : mkOk f t now = false := by rw [MK.out, h1]; rfl
    obtain ⟨z1, z2⟩ := M0.out hb
    obtain ⟨_, k6, xw⟩ := P0.out w1 x1.out
    have F : Hid (Ext w (w1.setRow (g4 + 1) ZS.toArray)) := below_setRow xw (by omega) _
    have z3 := ZR.out z1
    clear M0 M1 MK RK P0 xw hb TI AC ZR
    go_wp2_with (first
      | (refine wpList_build_as rfl _ _ rfl ZS.toArray (by simp only [List.map_toArray, List.map_nil]; exact BZ.out) ?_; go_frame)
      | (refine wpList_store_row rfl 67 _ _ rfl (g4 + 1) ZS.toArray rfl rfl 67 ZS.toArray k6 (by rw [S_Z]; rfl) rfl O_Z ?_; simp only [Act.put]))
    (try simp only [Exit.inBlock, Exit.then])
    refine bodyPost_ret (results_row_tmp rfl _ _ (g4 + 1) 67 ZS.toArray (0, 0) _ _ rfl rfl (setRow_heap _ _ _ _ _ _ k6) rfl rfl (by rw [S_Z]; rfl)) rfl ?_
    exact ⟨by rw [z2, z3]; rfl, F.out⟩
  obtain ⟨k4, _, _⟩ := P0.out w1 x1.out
  have b0 := k4.cell e0.out
  clear k4
  go_wp2_with fail
  refine (AC.out _ _).mono ?_
  rintro e w2 ⟨rfl, x2⟩
  replace x2 := Lib.hid (x1.out.trans x2)
  clear x1 b0
  rcases h2 : upB f 7 with _ | _
  · skip
    have hb : mkOk f t now = false := by rw [MK.out, h1, h2]; rfl
    obtain ⟨z1, z2⟩ := M0.out hb
    obtain ⟨_, k6, xw⟩ := P0.out w2 x2.out
    have F : Hid (Ext w (w2.setRow (g4 + 1) ZS.toArray)) := below_setRow xw (by omega) _
    have z3 := ZR.out z1
    clear M0 M1 MK RK P0 xw hb TI AC ZR
    go_wp2_with (first
      | (refine wpList_build_as rfl _ _ rfl ZS.toArray (by simp only [List.map_toArray, List.map_nil]; exact BZ.out) ?_; go_frame)
      | (refine wpList_store_row rfl 67 _ _ rfl (g4 + 1) ZS.toArray rfl rfl 67 ZS.toArray k6 (by rw [S_Z]; rfl) rfl O_Z ?_; simp only [Act.put]))
    (try simp only [Exit.inBlock, Exit.then])
    refine bodyPost_ret (results_row_tmp rfl _ _ (g4 + 1) 67 ZS.toArray (0, 0) _ _ rfl rfl (setRow_heap _ _ _ _ _ _ k6) rfl rfl (by rw [S_Z]; rfl)) rfl ?_
    exact ⟨by rw [z2, z3]; rfl, F.out⟩
  obtain ⟨k4, _, _⟩ := P0.out w2 x2.out
  have b1 := k4.cell e1.out
  clear k4
  go_wp2_with fail
  refine (AC.out _ _).mono ?_
  rintro e w3 ⟨rfl, x3⟩
  replace x3 := Lib.hid (x2.out.trans x3)
  clear x2 b1
  rcases h3 : upB t 7 with _ | _
  · skip
    have hb : mkOk f t now = false := by rw [MK.out, h1, h2, h3]; rfl
    obtain ⟨z1, z2⟩ := M0.out hb
    obtain ⟨_, k6, xw⟩ := P0.out w3 x3.out
    have F : Hid (Ext w (w3.setRow (g4 + 1) ZS.toArray)) := below_setRow xw (by omega) _
    have z3 := ZR.out z1
    clear M0 M1 MK RK P0 xw hb TI AC ZR
    go_wp2_with (first
      | (refine wpList_build_as rfl _ _ rfl ZS.toArray (by simp only [List.map_toArray, List.map_nil]; exact BZ.out) ?_; go_frame)
      | (refine wpList_store_row rfl 67 _ _ rfl (g4 + 1) ZS.toArray rfl rfl 67 ZS.toArray k6 (by rw [S_Z]; rfl) rfl O_Z ?_; simp only [Act.put]))
    (try simp only [Exit.inBlock, Exit.then])
    refine bodyPost_ret (results_row_tmp rfl _ _ (g4 + 1) 67 ZS.toArray (0, 0) _ _ rfl rfl (setRow_heap _ _ _ _ _ _ k6) rfl rfl (by rw [S_Z]; rfl)) rfl ?_
    exact ⟨by rw [z2, z3]; rfl, F.out⟩
  have hb : mkOk f t now = true := by rw [MK.out, h1, h2, h3]; rfl
  obtain ⟨z1, z2⟩ := M1.out hb
  obtain ⟨fn, rfl, hf7⟩ : ∃ k : Nat, f = (k : Int) ∧ k ≤ 7 := by
    unfold upB at h2
    simp only [Bool.and_eq_true, decide_eq_true_eq] at h2
    exact ⟨f.toNat, by omega, by omega⟩
  obtain ⟨tn, rfl, ht7⟩ : ∃ k : Nat, t = (k : Int) ∧ k ≤ 7 := by
    unfold upB at h3
    simp only [Bool.and_eq_true, decide_eq_true_eq] at h3
    exact ⟨t.toNat, by omega, by omega⟩
  obtain ⟨now, rfl, hn6⟩ : ∃ k : Nat, now = (k : Int) ∧ k ≤ 1000000 := by
    unfold upB at h1
    simp only [Bool.and_eq_true, decide_eq_true_eq] at h1
    exact ⟨now.toNat, by omega, by omega⟩
  clear M0 M1 MK TI AC ZR hb h1 h2 h3
  simp only [Int.toNat_natCast] at z1
  obtain ⟨ep, hep⟩ : ∃ ep, ep = now / ticks := ⟨_, rfl⟩
  rw [← hep] at z1
  have ep6 : ep ≤ 1000000 := by rw [hep]; exact Nat.le_trans (Nat.div_le_self _ _) hn6
  have dq : Int.tdiv (now : Int) (ticks : Int) = (ep : Int) := by rw [Int.tdiv_eq_ediv_of_nonneg (by omega), hep]; rfl
  have dq2 : (now : Int) / (ticks : Int) = (ep : Int) := by rw [hep]; rfl
  have dwr : IntKind.i64.wrap (ep : Int) = (ep : Int) := IntWalk.i64_in _ (by omega)
  have tne : ¬ (ticks : Int) = 0 := by omega
  have tne3 : ¬ ticks = 0 := by omega
  have tne2 : ((ticks : Int) == 0) = false := beq_eq_false_iff_ne.2 (by omega)
  clear hep
  obtain ⟨k4, k6, xw3⟩ := P0.out w3 x3.out
  have w3z := k6.lt
  have s3 := RK.out w3 x3.out
  have S3 : Hid (stC ep fn tn now cm (List.replicate 32 0) = stC ep fn tn now cm (List.replicate 32 0)) := rfl
  have BS := Lib.hid (stamp_built (ep := (ep : Int)) (f := (fn : Int)) (t := (tn : Int)) (tm := (now : Int)) lc)
  have lz : (List.replicate 32 (0 : UInt8)).length = 32 := rfl
  have L_s : (stC ep fn tn now cm (List.replicate 32 0)).length = 68 := stC_len lc lz _ _ _ _
  have O_s : (stC ep fn tn now cm (List.replicate 32 0)).toArray.all (·.oneCell') = true := one_cells one_st
  have C_cm : (cellsOf cm).length = 32 := by rw [cellsOf_len, lc]
  have SP := Lib.hid (fun _ : Unit => (st_parts (ep := (ep : Int)) (f := (fn : Int)) (t := (tn : Int)) (tm := (now : Int)) (tg := List.replicate 32 0) lc))
  have s0c : Hid ((stC ep fn tn now cm (List.replicate 32 0))[0]? = some (.int .i64 (ep : Int))) := rfl
  have TO := Lib.hid (fun (W : World) => rtag16_calls (w := W) (tg := List.replicate 32 0) lr lc ep6 hf7 ht7 hn6)
  clear S3
  obtain ⟨ST, hST⟩ : ∃ ST, ST = stC ep fn tn now cm (List.replicate 32 0) := ⟨_, rfl⟩
  rw [← hST] at BS L_s O_s SP s0c TO
  clear hST
  have S_s : ST.toArray.size = 68 := by rw [List.size_toArray, L_s]
  have F3 : Hid (∀ s, Below w3.heap.size w3.drew s → (s.cell? ⟨g4, 0, none⟩ = some (.int .i64 (fn : Int)) ∧ s.cell? ⟨g4, 1, none⟩ = some (.int .i64 (tn : Int))) ∧ (∀ j v, (cellsOf cm)[j]? = some v → s.cell? ⟨g4, 2 + j, none⟩ = some v) ∧ (Cb s (g4 + 1) 67 ZS ∧ Ky s r root) ∧ Ext w s) := fun s x => by
    have xs : Ext w3 s := Ext.trans' (Ext.refl w3).drew x
    have k4' := k4.ext xs
    refine ⟨⟨k4'.cell e0.out, k4'.cell e1.out⟩, k4'.mid (p := [.int .i64 (fn : Int), .int .i64 (tn : Int)]) (ec.out ()) rfl, ⟨k6.ext xs, s3.ext xs⟩, xw3.trans xs⟩
  clear k4 k6 s3 P0 x3 RK
  go_upto_region 3 with fail
  refine qgB w3.heap.size [0, 1, 2, 3, 4, 5, 6, 7, 8, 9, 10, 11, 12] [11, 12] ?_
  have zl : Hid (w3.heap.size ≤ w3.drew.heap.size) := Nat.le_refl _
  have wl : w.heap.size ≤ w3.heap.size := xw3.size
  have g6l : g4 + 1 < w3.heap.size := w3z
  have Z0 : Hid (Below w3.heap.size w3.drew w3.drew) := Below.refl _ _
  generalize w3.heap.size = z3 at *
  generalize w3.drew = V at *
  clear xw3 w3z
  repeat ((first | refine qR _ (fun w' e => (F3.out w' e).1) ?_ | refine qS ?_); go_frame)
  refine qV rfl (fun w' => ∀ q_ v, (cellsOf cm)[q_]? = some v → w'.cell? ⟨g4, 2 + q_, none⟩ = some v) (fun w' e => (F3.out w' e).2.1) (.agg (cellsOf cm).toArray) (fun w' hF => exec_load_mid rfl rfl hF rfl rfl (by rw [C_cm]; rfl)) ?_
  go_frame
  refine qV rfl (fun _ => True) (fun _ _ => trivial) (.agg ST.toArray) (fun w' _ => exec_build_as rfl (by simp only [List.map_toArray, List.map_cons, List.map_nil]; exact BS.out)) ?_
  go_frame
  refine qD fun K hK => ?_
  go_simp
  have k8 : Hid (Cb (V.alloc (.cells ZS.toArray 67)) V.heap.size 67 ZS) := Cb.new _ _ _
  have x8 : Below z3 V (V.alloc (.cells ZS.toArray 67)) := ((Ext.refl V).alloc _).mono zl.out
  obtain ⟨g8, hg8⟩ : ∃ x, x = V.heap.size := ⟨_, rfl⟩
  rw [← hg8] at k8 ⊢
  have z8 : z3 ≤ g8 := by rw [hg8]; exact zl.out
  refine hK.out _ _ x8 ?_
  clear hK K
  try go_frame
  have F8 : Hid (∀ s, Below z3 (V.alloc (.cells ZS.toArray 67)) s → (Cb s (g4 + 1) 67 ZS ∧ Ky s r root) ∧ Ext w s) := fun s x => (F3.out s (Below.trans x8 x)).2.2
  clear x8 Z0 F3 zl hg8
  generalize V.alloc (.cells ZS.toArray 67) = U at *
  refine qD fun K hK => ?_
  refine wp_store_row _ _ _ rfl g8 ST.toArray rfl rfl 67 ZS.toArray k8.out (by rw [S_s]; rfl) (by rw [S_s, S_Z]) O_s ?_
  refine hK.out _ _ (below_setRow (Below.refl _ _) z8 _) ?_
  clear hK K
  try simp only [Act.put]
  refine seq_done ?_
  have G8 : Hid (Cb (U.setRow g8 ST.toArray) g8 67 ST ∧ (Cb (U.setRow g8 ST.toArray) (g4 + 1) 67 ZS ∧ Ky (U.setRow g8 ST.toArray) r root) ∧ Ext w (U.setRow g8 ST.toArray)) := ⟨k8.out.set, F8.out _ (below_setRow (Below.refl _ _) z8 _)⟩
  refine gen_q (fun W => Cb W g8 67 ST ∧ (Cb W (g4 + 1) 67 ZS ∧ Ky W r root) ∧ Ext w W) G8.out ?_
  have g68 : g4 + 1 < g8 := by omega
  clear G8 F8 k8 BS
  rintro w4 ⟨k8, ⟨k6, kr⟩, x4⟩
  replace k8 := Lib.hid k8
  replace k6 := Lib.hid k6
  replace x4 := Lib.hid x4
  have kr1 := Lib.hid kr.1
  have S_r := kr.size
  have L_T : (tagL16 root ep fn tn now cm).length = 32 := macL_len _ _
  generalize tagL16 root ep fn tn now cm = tgv at *
  clear s0c kr
  go_upto_region 4 with fail
  go_wp2_with (first
    | ((with_reducible refine wpList_load_rowW (o := ⟨some 38, _, _, _, _, _⟩) ?_ 23 _ rfl r ?_ 23 (cellsOf root).toArray (0, 0) _ ?_ Tryd.underlying23 ?_ ?_ ?_); (· rfl); (· rfl); (· exact kr1.out); (· rfl); (· rw [S_r]; rfl); go_frame)
    | ((with_reducible refine wpList_load_rowW (o := ⟨some 39, _, _, _, _, _⟩) ?_ 67 _ rfl g8 ?_ 67 ST.toArray (0, 0) _ ?_ Tryd.underlying67 ?_ ?_ ?_); (· rfl); (· rfl); (· exact k8.out); (· rfl); (· rw [S_s]; rfl); go_frame))
  refine (TO.out w4).mono ?_
  rintro e w5 ⟨rfl, x5⟩
  have k85 := k8.out.ext x5
  have k65 := Lib.hid (k6.out.ext x5)
  have x5w := Lib.hid (x4.out.trans x5)
  clear TO k8 k6 x4 x5 kr1
  have S_t : (cellsOf tgv).toArray.size = 32 := by simp [cellsOf_len, L_T]
  have O_t := one_cells (one_mem tgv)
  have L_r : (stC ep fn tn now cm tgv).length = 68 := stC_len lc L_T _ _ _ _
  have O_r : (stC ep fn tn now cm tgv).toArray.all (·.oneCell') = true := one_cells one_st
  obtain ⟨_, sp2, sp3⟩ := SP.out ()
  have k10 : Hid (Cb (w5.setCells g8 36 (cellsOf tgv)) g8 67 (stC ep fn tn now cm tgv)) := by
    have hh := k85.put (z := cellsOf tgv) sp2 sp3 (by rw [cellsOf_len, cellsOf_len, lz, L_T])
    have e2 : ([Value.int .i64 (ep : Int), .int .i64 (fn : Int), .int .i64 (tn : Int), .int .i64 (now : Int)] ++ cellsOf cm) ++ (cellsOf tgv ++ []) = stC ep fn tn now cm tgv := by simp [stC]
    rw [e2] at hh
    exact hh
  have th8 : Hid (w5.there g8 36 32) := k85.there (by rw [L_s]; omega)
  have e8s := grown_setCells (w := w5) (g := g8) (o := 36) (vs := cellsOf tgv)
  have k11 : Hid (Cb (w5.setCells g8 36 (cellsOf tgv)) (g4 + 1) 67 ZS) := (e8s.block _ k65.out.lt (fun z => by have := Option.some.inj z; omega)).trans k65.out
  have x11 : Hid (Ext w (w5.setCells g8 36 (cellsOf tgv))) := Below.trans x5w.out ⟨e8s.os, e8s.tape, e8s.output, e8s.size, fun i hi => e8s.block i (Nat.lt_of_lt_of_le hi x5w.out.size) (fun z => by have := Option.some.inj z; omega)⟩
  clear k85 k65 x5w e8s SP sp2 sp3
  go_upto_region 5 with (refine wpList_store_mid rfl 23 _ _ rfl g8 36 (cellsOf tgv).toArray rfl rfl (by rw [S_t]; exact th8.out) (by rw [S_t]; rfl) O_t ?_; simp only [Act.put])
  refine wp_gen (fun W => Cb W g8 67 (stC ep fn tn now cm tgv) ∧ Cb W (g4 + 1) 67 ZS ∧ Ext w W) ⟨k10.out, k11.out, x11.out⟩ ?_
  clear k10 k11 x11 th8
  rintro w9 ⟨k8, k6, x9⟩
  have zC : Hid ((mkS root ticks fn tn cm now).C = stC ep fn tn now cm tgv) := by rw [z1]; rfl
  replace z2 := Lib.hid z2
  clear z1
  generalize stC ep fn tn now cm tgv = RS at *
  have S_r : RS.toArray.size = 68 := by rw [List.size_toArray, L_r]
  have F : Hid (Ext w (w9.setRow (g4 + 1) RS.toArray)) := below_setRow x9 (by omega) _
  clear x9
  go_wp2_with (first
    | ((with_reducible refine wpList_load_rowW (o := ⟨some 42, _, _, _, _, _⟩) ?_ 67 _ rfl g8 ?_ 67 RS.toArray (0, 0) _ ?_ Tryd.underlying67 ?_ ?_ ?_); (· rfl); (· rfl); (· exact k8); (· rfl); (· rw [S_r]; rfl); go_frame)
    | (refine wpList_store_row rfl 67 _ _ rfl (g4 + 1) RS.toArray rfl rfl 67 ZS.toArray k6 (by rw [S_r]; rfl) (by rw [S_r, S_Z]) O_r ?_; simp only [Act.put]))
  (try simp only [Exit.inBlock, Exit.then])
  refine bodyPost_ret (results_row_tmp rfl _ _ (g4 + 1) 67 RS.toArray (0, 0) _ _ rfl rfl (setRow_heap _ _ _ _ _ _ k6) rfl rfl (by rw [S_r]; rfl)) rfl ?_
  exact ⟨by rw [z2.out, zC.out]; rfl, F.out⟩
end Go.Proofs.YtbnjmmefnjoofaaDoor
end
