import Derived.Test.YtmnohmhhmaeljaaDoorPkJ
import Derived.Test.YtmnohmhhmaeljaaDoorPkD
import Derived.Test.YtmnohmhhmaeljaaDoorPkH
import Derived.Test.YtmnohmhhmaeljaaDoorSeq
import Derived.Test.YtmnohmhhmaeljaaDoorSeqZ
import Derived.Test.YtmnohmhhmaeljaaDoorSeqT
import Derived.Test.YtmnohmhhmaeljaaDoorRowOps
import Derived.Test.YtmnohmhhmaeljaaDoorWords
import Derived.Deep.DeepCutAuto
/-
  The document's tag of a stamp.
-/
namespace Go.Proofs.YtmnohmhhmaeljaaDoor
open Go.ChangeShapes Go.WideShapes Go.ChangeAt Go.RowKit Go.Deep
set_option maxRecDepth 100000

/-- The blocks that may turn: the result and what lies from C on. -/
def Pt16 (r C i : Nat) : Prop := i = r ∨ C ≤ i
theorem Ot.of_below16 {r C : Nat} {a b : World} (h : Below C a b) : Ot (Pt16 r C) a b := ⟨h.os, h.tape, h.output, h.size, fun i _ hn => h.block i (Nat.lt_of_not_le fun z => hn (.inr z))⟩
set_option maxHeartbeats 8000000 in
theorem rtag16_calls {w : World} {root : List UInt8} {ep f t tm : Nat} {cm tg : List UInt8} (lr : root.length = 32) (lc : cm.length = 32) (hep : ep ≤ 1000000) (hf : f ≤ 7) (ht : t ≤ 7) (htm : tm ≤ 1000000) :
    Calls Tryd.prog 98 #[.agg (cellsOf root).toArray, .agg (stC ep f t tm cm tg).toArray] w fun e w' => e = .returned (.agg (cellsOf (tagL16 root ep f t tm cm)).toArray) ∧ Ext w w' := by
  have HE : Hid (∀ (W : World), Calls Tryd.prog 51 #[.int .u64 (ep : Int), .int .i64 4] W (RetOwn (hiB ep 4) W)) := fun W => refHighO_calls (by omega) (by omega) (by omega) (by omega) rfl
  have H1 : Hid (∀ (W : World), Calls Tryd.prog 51 #[.int .u64 (f : Int), .int .i64 1] W (RetOwn (hiB f 1) W)) := fun W => refHighO_calls (by omega) (by omega) (by omega) (by omega) rfl
  have H2 : Hid (∀ (W : World), Calls Tryd.prog 51 #[.int .u64 (t : Int), .int .i64 1] W (RetOwn (hiB t 1) W)) := fun W => refHighO_calls (by omega) (by omega) (by omega) (by omega) rfl
  have H4 : Hid (∀ (W : World), Calls Tryd.prog 51 #[.int .u64 (tm : Int), .int .i64 4] W (RetOwn (hiB tm 4) W)) := fun W => refHighO_calls (by omega) (by omega) (by omega) (by omega) rfl
  have u0 : IntKind.u64.wrap (ep : Int) = (ep : Int) := IntWalk.u64_in _ (by omega)
  have u1 : IntKind.u64.wrap (f : Int) = (f : Int) := IntWalk.u64_in _ (by omega)
  have u2 : IntKind.u64.wrap (t : Int) = (t : Int) := IntWalk.u64_in _ (by omega)
  have u3 : IntKind.u64.wrap (tm : Int) = (tm : Int) := IntWalk.u64_in _ (by omega)
  have c0 : Hid ((stC ep f t tm cm tg)[0]? = some (.int .i64 (ep : Int))) := rfl
  have c1 : Hid ((stC ep f t tm cm tg)[1]? = some (.int .i64 (f : Int))) := rfl
  have c2 : Hid ((stC ep f t tm cm tg)[2]? = some (.int .i64 (t : Int))) := rfl
  have c3 : Hid ((stC ep f t tm cm tg)[3]? = some (.int .i64 (tm : Int))) := rfl
  have cc := Lib.hid (fun _ : Unit => (st_parts (ep := ep) (f := f) (t := t) (tm := tm) (tg := tg) lc).1)
  have hR : Hid (macL (macL root (hiB ep 4)) (((hiB f 1 ++ hiB t 1) ++ hiB tm 4) ++ cm) = tagL16 root ep f t tm cm) := rfl
  have l0 := hiB_len ep 4
  have l1 := hiB_len f 1
  have l2 := hiB_len t 1
  have l4 := hiB_len tm 4
  generalize tagL16 root ep f t tm cm = TGL at *
  generalize stC ep f t tm cm tg = st at *
  generalize hiB ep 4 = b0 at *
  generalize hiB f 1 = b1 at *
  generalize hiB t 1 = b2 at *
  generalize hiB tm 4 = b4 at *
  clear hf ht htm hep
  have DRAW : Hid (∀ (W : World) (A : Option Addr) (n c : Nat), Bs W A n c b0 → Calls Tryd.prog 120 #[.agg (cellsOf root).toArray, .slice A n c] W fun e w' => e = .returned (.agg (cellsOf (macL root b0)).toArray) ∧ Ext W w') := fun W A n c q => refDraw_calls lr q (by rw [← q.1, l0]; omega)
  have L_ek : (macL root b0).length = 32 := macL_len _ _
  generalize macL root b0 = ek at *
  have TAG : Hid (∀ (W : World) (A : Option Addr) (c : Nat), Bs W A (1 + 1 + 4 + 32) c (((b1 ++ b2) ++ b4) ++ cm) → Calls Tryd.prog 99 #[.agg (cellsOf ek).toArray, .slice A (1 + 1 + 4 + 32) c] W fun e w' => e = .returned (.agg (cellsOf TGL).toArray) ∧ Ext W w') := fun W A c q => by
    have := refTag_calls L_ek q (by omega)
    rw [hR.out] at this
    exact this
  have L_T : TGL.length = 32 := by rw [← hR.out]; exact macL_len _ _
  clear hR
  have S_T : (cellsOf TGL).toArray.size = 32 := by simp [cellsOf_len, L_T]
  have O_T := cellsOf_one TGL
  have S_k : (cellsOf ek).toArray.size = 32 := by simp [cellsOf_len, L_ek]
  have O_k := cellsOf_one ek
  have RS : (cellsOf root).toArray.size = 32 := by simp [cellsOf_len, lr]
  have hal := key_alloc16
  have hz0 := zeros32_size
  obtain ⟨r, hr⟩ : ∃ r, r = w.heap.size := ⟨_, rfl⟩
  generalize zeros32 = Z at *
  have B0 : Hid (Ky (((w.alloc (.cells (cellsOf root).toArray 24)).alloc (.cells st.toArray 26)).alloc (.cells Z 24)) r root ∧ Cb (((w.alloc (.cells (cellsOf root).toArray 24)).alloc (.cells st.toArray 26)).alloc (.cells Z 24)) (r + 1) 26 st ∧ (((w.alloc (.cells (cellsOf root).toArray 24)).alloc (.cells st.toArray 26)).alloc (.cells Z 24)).heap[r + 1 + 1]? = some (.cells Z 24 (0, 0)) ∧ Ext w (((w.alloc (.cells (cellsOf root).toArray 24)).alloc (.cells st.toArray 26)).alloc (.cells Z 24))) := by
    rw [hr]
    exact ⟨⟨heap_alloc30 _ _ _ _, lr⟩, heap_alloc31 _ _ _ _, heap_alloc32 _ _ _ _, (((Ext.refl w).alloc _).alloc _).alloc _⟩
  go_enter Tryd.func98, Tryd.ntmps98
  go_upto_region 1 with fail
  refine wp_gen (fun W => Ky W r root ∧ Cb W (r + 1) 26 st ∧ W.heap[r + 1 + 1]? = some (.cells Z 24 (0, 0)) ∧ Ext w W) B0.out ?_
  rw [← hr]
  have wr : w.heap.size ≤ r := Nat.le_of_eq hr.symm
  clear B0 lr
  replace hr := Lib.hid hr
  rintro w0 ⟨k0, k1, k2, x0⟩
  have z0 := heap_lt k2
  have P0 : Hid (∀ s, Below w0.heap.size w0 s → Ky s r root ∧ Cb s (r + 1) 26 st ∧ s.heap[r + 1 + 1]? = some (.cells Z 24 (0, 0)) ∧ Ext w s) := fun s x => ⟨k0.ext x, k1.ext x, (x.block _ (heap_lt k2)).trans k2, Ext.trans x0 x⟩
  clear k0 k1 k2 x0
  have F0 : Hid (∀ s, Below w0.heap.size w0 s → s.cell? ⟨r + 1, 0, none⟩ = some (.int .i64 (ep : Int))) := fun s x => (P0.out s x).2.1.cell c0.out
  go_cut [5] (fun s5 wx => ∃ g : Nat, s5 = .pointer (some ⟨g, 0, none⟩) ∧ Below w0.heap.size w0 wx ∧ wx.heap[g]? = some (.cells (cellsOf ek).toArray 24 (0, 0)) ∧ w0.heap.size ≤ g)
  case first =>
    refine qgT (R := Below w0.heap.size) (Below.refl _) (fun _ _ _ => Below.trans) (.rd 0 (.rd 1 (.rd 2 (.rd 3 (.alt 4 (.alt 5 (.alt 6 (.alt 7 .nil .stop) .stop) (.alt 6 (.alt 5 (.alt 7 .nil .stop) .stop) .stop)) (.alt 6 (.alt 4 (.alt 5 (.alt 7 .nil .stop) .stop) .stop) .stop)))))) 8 ?_
    refine qtV rfl (fun w' => w'.heap[r]? = some (.cells (cellsOf root).toArray 24 (0, 0))) (fun w' e => (P0.out w' (Ext.trans (Ext.refl _).drew e)).1.1) (.agg (cellsOf root).toArray) (fun w' hF => exec_load_row rfl rfl hF rfl rfl (by rw [RS]; rfl)) ?_
    go_frame
    repeat ((first | refine qtR _ (fun w' e => F0.out w' (Ext.trans (Ext.refl _).drew e)) ?_ | refine qtS ?_); go_frame)
    have SE : Hid (Ext w0 w0.drew) := (Ext.refl w0).drew
    generalize w0.drew = WC at *
    repeat' (first
      | exact seqT_stop
      | (refine seqT_do (i := 4) _ rfl ?_ ?_ (fun K1 hK1 => ?_)
         (· rfl)
         rotate_left
         go_simp
         refine (HE.out _).mono ?_
         rintro e0 WC ⟨AH, nH, mH, rfl, oH, e⟩
         refine hK1.out _ _ (e.mono SE.out.size) ?_
         clear hK1 K1
         (try replace hL := Lib.hid ((e.block _ (heap_lt hL.out)).trans hL.out))
         replace SE := Lib.hid (SE.out.trans e)
         have bH := Lib.hid oH.bs
         clear e oH
         (try go_frame)
         repeat ((first | refine qtR0 ?_ | refine qtS ?_); go_frame)
         skip)
      | (refine seqT_do (i := 5) _ rfl ?_ ?_ (fun K1 hK1 => ?_)
         (· rfl)
         rotate_left
         go_simp
         refine (DRAW.out _ _ _ _ bH.out).mono ?_
         rintro e0 WC ⟨rfl, e⟩
         refine hK1.out _ _ (e.mono SE.out.size) ?_
         clear hK1 K1 bH
         (try replace hL := Lib.hid ((e.block _ (heap_lt hL.out)).trans hL.out))
         replace SE := Lib.hid (SE.out.trans e)
         clear e
         (try go_frame)
         repeat ((first | refine qtR0 ?_ | refine qtS ?_); go_frame)
         skip)
      | (refine seqT_do (i := 6) _ rfl ?_ ?_ (fun K1 hK1 => ?_)
         (· rfl)
         rotate_left
         go_simp
         have e : Ext WC (WC.alloc (Obj.cells Z 24)) := (Ext.refl WC).alloc _
         obtain ⟨gL, hgL⟩ : ∃ g, g = WC.heap.size := ⟨_, rfl⟩
         have hL := Lib.hid (heap_alloc_new WC (Obj.cells Z 24))
         rw [← hgL] at hL ⊢
         have zl : w0.heap.size ≤ gL := by rw [hgL]; exact SE.out.size
         refine hK1.out _ _ (e.mono SE.out.size) ?_
         clear hK1 K1
         replace hgL := Lib.hid hgL
         (try replace bH := Lib.hid (bH.out.ext e))
         replace SE := Lib.hid (SE.out.trans e)
         clear e
         generalize WC.alloc (Obj.cells Z 24) = WC at *
         (try go_frame)
         repeat ((first | refine qtR0 ?_ | refine qtS ?_); go_frame)
         skip)
      | (refine seqT_do (i := 7) _ rfl ?_ ?_ (fun K1 hK1 => ?_)
         (· rfl)
         rotate_left
         refine wp_store_row _ _ _ rfl gL (cellsOf ek).toArray rfl rfl 24 Z hL.out (by rw [S_k]; rfl) (by rw [S_k]; exact hz0.symm ▸ rfl) O_k ?_
         refine hK1.out _ _ (below_setRow (Below.refl _ _) zl _) ?_
         clear hK1 K1
         have S1 : Hid (Below w0.heap.size w0 (WC.setRow gL (cellsOf ek).toArray)) := below_setRow SE.out zl _
         have kx : Hid ((WC.setRow gL (cellsOf ek).toArray).heap[gL]? = some (.cells (cellsOf ek).toArray 24 (0, 0))) := setRow_heap _ _ _ _ _ _ hL.out
         (try simp only [Act.put])
         repeat ((first | refine qtR0 ?_ | refine qtS ?_); go_frame)
         refine seqT_done ?_
         go_wp2_with fail
         go_meet
         exact ⟨gL, rfl, S1.out, kx.out, zl⟩)
      )
  case rest =>
    obtain ⟨g, rfl, E1, kr, hg⟩ := hcut
    have gl := heap_lt kr
    have z1 : w0.heap.size ≤ wc.heap.size := E1.size
    have P1 : Hid (∀ s, Ext wc s → Cb s (r + 1) 26 st ∧ s.heap[r + 1 + 1]? = some (.cells Z 24 (0, 0)) ∧ s.heap[g]? = some (.cells (cellsOf ek).toArray 24 (0, 0)) ∧ Ext w s) := fun s x => by
      obtain ⟨_, a, b, c⟩ := P0.out s (Below.trans E1 (x.mono E1.size))
      exact ⟨a, b, (x.block _ gl).trans kr, c⟩
    have F1 : Hid (∀ s, Ext wc s → s.cell? ⟨r + 1, 1, none⟩ = some (.int .i64 (f : Int)) ∧ s.cell? ⟨r + 1, 2, none⟩ = some (.int .i64 (t : Int))) := fun s x => ⟨(P1.out s x).1.cell c1.out, (P1.out s x).1.cell c2.out⟩
    have F3 : Hid (∀ s, Ext wc s → s.cell? ⟨r + 1, 3, none⟩ = some (.int .i64 (tm : Int))) := fun s x => (P1.out s x).1.cell c3.out
    clear P0 F0 E1 DRAW HE c0 c1 c2 c3 kr
    go_upto_region 2 with fail
    refine qgB wc.heap.size [0, 1, 2, 4, 5, 6, 3, 7, 8, 9] [3, 7, 8] ?_
    repeat ((first | refine qR _ (fun w' e => F1.out w' (Ext.trans (Ext.refl _).drew e)) ?_ | refine qS ?_); go_frame)
    have X1 : Hid (Ext wc wc.drew) := (Ext.refl wc).drew
    generalize wc.drew = V at *
    refine qD fun K hK => ?_
    go_simp
    refine (H1.out V).mono ?_
    rintro e w1 ⟨A1, n1, m1, rfl, o1, e1⟩
    obtain rfl : n1 = 1 := by rw [← o1.len, l1]
    refine hK.out _ _ (e1.mono X1.out.size) ?_
    clear hK K
    try go_frame
    replace o1 := Lib.hid (o1.mono X1.out.size)
    have X2 := Lib.hid (X1.out.trans e1)
    clear e1 X1 H1
    repeat ((first | refine qR0 ?_ | refine qS ?_); go_frame)
    refine qD fun K hK => ?_
    go_simp
    refine (H2.out w1).mono ?_
    rintro e w2 ⟨A2, n2, m2, rfl, o2, e2⟩
    obtain rfl : n2 = 1 := by rw [← o2.len, l2]
    refine hK.out _ _ (e2.mono X2.out.size) ?_
    clear hK K
    try go_frame
    replace o1 := Lib.hid (o1.out.ext e2)
    replace o2 := Lib.hid o2.bs
    have X3 := Lib.hid (X2.out.trans e2)
    have s3 : wc.heap.size ≤ w2.heap.size := X3.out.size
    clear e2 X2 H2
    repeat ((first | refine qR0 ?_ | refine qS ?_); go_frame)
    refine qD fun K hK => ?_
    refine wp_append_bs rfl rfl rfl o1.out o2.out (by omega) s3 ?_
    intro A4 c4 w4 o4 g4 b4
    refine hK.out _ _ b4 ?_
    clear hK K
    try go_frame
    have X4 : Hid (Ext wc w4) := Lib.hid (Below.trans X3.out b4)
    replace o4 := Lib.hid o4
    clear g4 b4 o1 o2 X3 s3
    repeat ((first | refine qR0 ?_ | refine qS ?_); go_frame)
    refine seq_done ?_
    refine gen_q (fun W => Own wc.heap.size W A4 (1 + 1) c4 (b1 ++ b2) ∧ Ext wc W) ⟨o4.out, X4.out⟩ ?_
    clear o4 X4
    rintro w5 ⟨o5, x5⟩
    have f5 := F3.out _ x5
    replace o5 := Lib.hid o5
    replace x5 := Lib.hid x5
    clear F1 F3
    go_wp2_with fail
    refine (H4.out _).mono ?_
    rintro e w6 ⟨A6, n6, m6, rfl, o6, e6⟩
    obtain rfl : n6 = 4 := by rw [← o6.len, l4]
    have o7 := Lib.hid (o5.out.ext e6)
    replace o6 := Lib.hid o6.bs
    have x6 := Lib.hid (x5.out.trans e6)
    have s6 : wc.heap.size ≤ w6.heap.size := x6.out.size
    clear f5 o5 x5 e6 H4
    go_upto_region 4 with (at_builtin; (with_reducible refine wpList_append_bs rfl (B := wc.heap.size) (s := .tmp 22) (x := .tmp 26) rfl rfl rfl o7.out o6.out (by omega) s6 ?_); intro A8 m8 w8 o8 g8 d8; replace o8 := Lib.hid o8; clear g8; replace d8 := Lib.hid d8; go_frame)
    refine wp_gen (fun W => Own wc.heap.size W A8 (1 + 1 + 4) m8 ((b1 ++ b2) ++ b4) ∧ Ext wc W) ⟨o8.out, Below.trans x6.out d8.out⟩ ?_
    clear o8 d8 o7 o6 x6 s6
    rintro v1 ⟨o1, x1⟩
    obtain ⟨q1, q2, q3, q4⟩ := P1.out _ x1
    have bm := Lib.hid (q1.bs (cc.out ()) rfl lc (by omega))
    replace q2 : Hid (v1.drew.heap[r + 1 + 1]? = some (.cells Z 24 (0, 0))) := q2
    replace q4 : Hid (Ext w v1.drew) := q4.drew
    have sv : wc.heap.size ≤ v1.drew.heap.size := x1.size
    have z2 : r + 1 + 1 < wc.heap.size := by omega
    have GOF : Hid (∀ s, Ot (Pt16 (r + 1 + 1) wc.heap.size) v1.drew s → s.heap[g]? = some (.cells (cellsOf ek).toArray 24 (0, 0))) := fun s x => x.block q3 (fun z => by rcases z with z | z <;> omega)
    replace o1 : Hid (Own wc.heap.size v1.drew A8 (1 + 1 + 4) m8 ((b1 ++ b2) ++ b4)) := o1.ext (Ext.refl v1).drew
    replace bm : Hid (Bs v1.drew (some ⟨r + 1, 4, none⟩) 32 32 cm) := bm.out.ext (Ext.refl v1).drew
    clear q1 q3 x1 P1
    refine qgR (R := Ot (Pt16 (r + 1 + 1) wc.heap.size)) (Ot.refl _) (fun _ _ _ => Ot.trans) [0, 1, 2, 3, 4, 5, 6] [4, 5, 6] ?_
    refine qV rfl (fun w' => w'.heap[g]? = some (.cells (cellsOf ek).toArray 24 (0, 0))) (fun w' e => GOF.out w' e) (.agg (cellsOf ek).toArray) (fun w' hF => exec_load_row rfl rfl hF rfl rfl (by rw [S_k]; rfl)) ?_
    go_frame
    repeat ((first | refine qR0 ?_ | refine qS ?_); go_frame)
    generalize v1.drew = V at *
    clear GOF
    refine qD fun K hK => ?_
    refine wp_append_bs rfl rfl rfl o1.out bm.out (by omega) sv ?_
    intro A9 c9 w9 o9 g9 b9
    refine hK.out _ _ (Ot.of_below16 b9) ?_
    clear hK K
    try go_frame
    have y2 : Hid (w9.heap[r + 1 + 1]? = some (.cells Z 24 (0, 0))) := (b9.block _ z2).trans q2.out
    have y4 : Hid (Ext w w9) := Below.trans q4.out (b9.mono (by omega))
    have T9 := Lib.hid (TAG.out w9 A9 c9 o9.bs)
    clear o9 g9 b9 o1 bm q2 q4 TAG sv
    repeat ((first | refine qR0 ?_ | refine qS ?_); go_frame)
    refine qD fun K hK => ?_
    go_simp
    refine T9.out.mono ?_
    rintro e v2 ⟨rfl, e2⟩
    refine hK.out _ _ (Ot.of_ext e2) ?_
    clear hK K
    try go_frame
    have q2 : Hid (v2.heap[r + 1 + 1]? = some (.cells Z 24 (0, 0))) := (e2.block _ (heap_lt y2.out)).trans y2.out
    have q4 : Hid (Ext w v2) := y4.out.trans e2
    clear T9 y2 y4 e2
    refine qD fun K hK => ?_
    refine wp_store_row _ _ _ rfl (r + 1 + 1) (cellsOf TGL).toArray rfl rfl 24 Z q2.out (by rw [S_T]; rfl) (by rw [S_T]; exact hz0.symm ▸ rfl) O_T ?_
    refine hK.out _ _ (Ot.row _ _ (.inl rfl)) ?_
    clear hK K
    try simp only [Act.put]
    refine seq_done ?_
    have FF : Hid (Ext w (v2.setRow (r + 1 + 1) (cellsOf TGL).toArray)) := below_setRow q4.out (by omega) _
    clear q4
    go_wp2_with fail
    (try simp only [Exit.inBlock, Exit.then])
    refine bodyPost_ret (results_cell_row rfl _ _ (r + 1 + 1) 24 (cellsOf TGL).toArray (0, 0) _ rfl (setRow_heap _ _ _ _ _ _ q2.out) rfl rfl (by rw [S_T]; rfl)) rfl ?_
    exact ⟨rfl, FF.out⟩
end Go.Proofs.YtmnohmhhmaeljaaDoor
