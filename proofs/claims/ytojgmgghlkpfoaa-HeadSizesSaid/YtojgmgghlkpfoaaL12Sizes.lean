/-
  The law HeadSizes.
-/
import Derived.Test.YtojgmgghlkpfoaaEnv12
import Derived.Test.YtojgmgghlkpfoaaOwn
import Derived.Test.YtojgmgghlkpfoaaOne8
namespace Go.Proofs.Ytojgmgghlkpfoaa
open Go.ChangeShapes Go.WideShapes Go.ChangeAt Go.RowKit Go.Deep
set_option maxRecDepth 100000

theorem Ext.ext {a b c : World} (h : Ext a b) (e : Ext b c) : Ext a c := h.trans e
set_option maxHeartbeats 16000000 in
theorem headSizes_calls {w : World} {f t p n : Int} {cm pk body : List UInt8} {A : Option Addr} {m c : Nat} (hc : cm.length = 32) (hk : pk.length = 32) (hb : Bs w A m c body) :
    Calls Try.prog 7 #[.agg (evC f t cm pk p n A m c).toArray] w fun e w' => e = .returned (.bool true) ∧ Ext w w' := by
  have AW := Lib.hid (fun (W : World) => awake12_calls (w := W))
  have EN := Lib.hid (fun (W : World) (e : Ext w W) => henv_calls (f := f) (t := t) (p := p) (n := n) hc hk (hb.ext e))
  have CV : Hid (∀ (W : World) A n c (ys : List UInt8), Bs W A n c ys → (convert 26 9 (.slice A n c)).run Try.prog W = .ok (.string (strL ys)) W) := fun W A n c ys h => conv_bs h
  have BD : Hid (∀ s, Ext w s → Bs s A m c body) := fun s e => hb.ext e
  have lm := hb.len
  have hle := hb.le
  have hcap := hb.cap
  have hal := env_alloc
  have L_ez := evz_len
  obtain ⟨c0, cc1, c68, ch, c5⟩ := ev_cells hc hk f t p n A m c
  replace c0 := Lib.hid c0
  replace cc1 := Lib.hid cc1
  replace c68 := Lib.hid c68
  have l34 : ([Value.int .i64 f, .int .i64 t] ++ cellsOf cm).length = 34 := by simp [cellsOf_len, hc]
  have H34 : Hid (∀ (W : World) (g : Nat) T, Cb W g T (evC f t cm pk p n A m c) → ∀ j v, (hdC pk p n)[j]? = some v → W.cell? ⟨g, 34 + j, none⟩ = some v) := fun W g T k => k.mid ch l34
  clear ch c5 l34
  have L_hp := hdC_len hk p n
  have L_ev := evC_len hc hk f t p n A m c
  have HR := Lib.hid (fun (W : World) A n d (xs : List UInt8) (h : Bs W A n d xs) => hread_calls h)
  have BK := Lib.hid (fun (h : okE f t p n body.length = true) => env_back (f := f) (t := t) (p := p) (n := n) (body := body) hc hk h)
  have E0 : Hid (okE f t p n m = false → enE f t p n m = 1 ∧ enX f t cm pk p n body = []) := fun h => by
    unfold enE enX
    rw [lm, h]
    exact ⟨rfl, rfl⟩
  have E1 : Hid (okE f t p n m = true → enE f t p n m = 0) := fun h => by
    unfold enE
    rw [h]
    rfl
  have O_hd := Lib.hid (hd_one (pk := pk) (p := p) (n := n))
  have hza := head_alloc
  have L_hz : (hdC (List.replicate 32 0) 0 0).length = 34 := hdC_len rfl 0 0
  rw [lm] at BK
  generalize enX f t cm pk p n body = xb at *
  generalize enE f t p n m = xe at *
  generalize okE f t p n m = ok at *
  generalize hdC (List.replicate 32 0) 0 0 = hz at *
  obtain ⟨hd, hhd⟩ : ∃ hd, hd = hdC pk p n := ⟨_, rfl⟩
  rw [← hhd] at BK H34 L_hp O_hd
  have S_hz : hz.toArray.size = 34 := by rw [List.size_toArray, L_hz]
  have S_hd : hd.toArray.size = 34 := by rw [List.size_toArray, L_hp]
  have SH : Hid (sameH pk pk p p n n = true) := Lib.hid (by simp [sameH])
  replace hhd := Lib.hid (fun _ : Unit => hhd)
  clear hb
  obtain ⟨ez, hez⟩ : ∃ ez, ez = evz := ⟨_, rfl⟩
  rw [← hez] at hal L_ez
  clear hez
  have S_ez : ez.toArray.size = 69 := by rw [List.size_toArray, L_ez]
  obtain ⟨ev, hev⟩ : ∃ ev, ev = evC f t cm pk p n A m c := ⟨_, rfl⟩
  rw [← hev] at EN L_ev c0 cc1 c68 H34 ⊢
  have S_ev : ev.toArray.size = 69 := by rw [List.size_toArray, L_ev]
  obtain ⟨r, hr_⟩ : ∃ r, r = w.heap.size := ⟨_, rfl⟩
  have B0 : Hid (Cb (w.alloc (Obj.cells ev.toArray 35)) r 35 ev ∧ Ext w (w.alloc (Obj.cells ev.toArray 35))) := by rw [hr_]; exact ⟨Cb.new _ _ _, (Ext.refl w).alloc _⟩
  replace hev := Lib.hid (fun _ : Unit => hev)
  go_enter Try.func7, Try.ntmps7
  go_upto_region 1 with fail
  refine wp_gen (fun W => Cb W r 35 ev ∧ Ext w W) B0.out ?_
  rintro w0 ⟨q_r, q_x⟩
  have Q0 : Hid (∀ s, Ext w0 s → Cb s r 35 ev ∧ Ext w s) := fun s e => ⟨q_r.ext e, q_x.trans e⟩
  clear q_r q_x
  rw [← hr_]
  clear hr_ B0
  go_wp2_with (fail)
  refine (AW.out _).mono ?_
  rintro e u_ ⟨rfl, e1⟩
  have R_ : Cb u_ r 35 ev ∧ Ext w u_ := Q0.out _ e1
  clear Q0 e1 
  generalize u_ = w1 at *
  obtain ⟨q_r, q_x⟩ := R_
  have Q1 : Hid (∀ s, Ext w1 s → Cb s r 35 ev ∧ Ext w s) := fun s e => ⟨q_r.ext e, q_x.trans e⟩
  clear q_r q_x
  have f0 := ((Q1.out _ (Ext.refl _)).1).cell c68.out
  rcases Nat.lt_or_ge 1000 m with hm | hm
  · have u1 : decide ((m : Int) > 1000) = true := decide_eq_true (by omega)
    go_wp2_with fail
    go_ret
    exact ⟨rfl, ((Q1.out _ (Ext.refl _)).2)⟩
  have u1 : decide ((m : Int) > 1000) = false := decide_eq_false (by omega)
  go_wp2_with (((with_reducible refine wpList_load_rowW (o := ⟨some 15, _, _, _, _, _⟩) ?_ 35 _ rfl r ?_ 35 ev.toArray (0, 0) _ ?_ Try.underlying35 ?_ ?_ ?_); (· rfl); (· rfl); (· exact ((Q1.out _ (Ext.refl _)).1)); (· rfl); (· rw [S_ev]; rfl); simp only [Act.put, List.setIfInBounds_toArray, List.set_cons_zero, List.set_cons_succ]))
  refine (EN.out _ ((Q1.out _ (Ext.refl _)).2)).mono ?_
  rintro e u_ ⟨A1, n1, c1, rfl, b1, e1⟩
  have R_ : Bs u_ A1 n1 c1 xb ∧ Cb u_ r 35 ev ∧ Ext w u_ := ⟨b1, Q1.out _ e1⟩
  clear Q1 e1 b1 f0
  generalize u_ = w2 at *
  obtain ⟨q_b, q_r, q_x⟩ := R_
  have Q2 : Hid (∀ s, Ext w2 s → Bs s A1 n1 c1 xb ∧ Cb s r 35 ev ∧ Ext w s) := fun s e => ⟨q_b.ext e, q_r.ext e, q_x.trans e⟩
  clear q_b q_r q_x
  rcases ok with _ | _
  · obtain ⟨q1, q2⟩ := E0.out rfl
    subst q1 q2
    obtain rfl : n1 = 0 := by rw [← ((Q2.out _ (Ext.refl _)).1).len]; rfl
    clear E0 E1 BK
    go_wp2_with fail
    go_ret
    exact ⟨rfl, ((Q2.out _ (Ext.refl _)).2.2)⟩
  obtain rfl := E1.out rfl
  obtain ⟨_, _, _, _, _, _, _, _, lb, hE, hC, hD, hx0, hx1, _, _⟩ := BK.out rfl
  obtain rfl : n1 = 76 + m := by rw [← ((Q2.out _ (Ext.refl _)).1).len]; exact lb
  obtain ⟨b, off, rfl, hbb, hcl⟩ := ((Q2.out _ (Ext.refl _)).1).pos (by omega)
  have BB : Hid (∀ W, Ext w2 W → Bs W (if c1 = 76 then some ⟨b, off, none⟩ else some ⟨b, off + 76, none⟩) (76 + m - 76) (c1 - 76) body) := fun W e => by
    have hb := ((Q2.out W e).1)
    have h2 := hb.le
    have h3 := hb.cap
    rw [← hD]
    split
    · exact ⟨by rw [List.length_drop, lb], by omega, by unfold maxLen; omega, fun h => by omega⟩
    · exact hb.from (i := 76) (by omega)
  have HD : Hid (Calls Try.prog 15 #[.slice (some ⟨b, off + 34, none⟩) 40 (c1 - 34)] w2 fun e w' => e = .returned (.tuple #[.agg hd.toArray, .int .i64 0]) ∧ Ext w2 w') := by
    have := HR.out _ _ _ _ _ (((Q2.out _ (Ext.refl _)).1).sub (i := 34) (k := 40) (by omega))
    rw [hE, hC] at this
    exact this
  have C0 : Hid (∀ W, Ext w2 W → W.cell? ⟨b, off, none⟩ = some (.int .u8 f) ∧ W.cell? ⟨b, off + 1, none⟩ = some (.int .u8 t)) := fun W e => ⟨by
    rw [← hx0]; exact (e.cell hbb).trans (hcl 0 (by omega)), by
    rw [← hx1]; exact (e.cell hbb).trans (hcl 1 (by omega))⟩
  have k1 : IntKind.i64.wrap f = f := IntWalk.i64_in _ (by rw [← hx0]; have := bt_lt xb 0; omega)
  have k2 : IntKind.i64.wrap t = t := IntWalk.i64_in _ (by rw [← hx1]; have := bt_lt xb 1; omega)
  have k3 : IntKind.i64.wrap (76 + (m : Int)) = ((76 + m : Nat) : Int) := by rw [IntWalk.i64_in _ (by omega)]; omega
  have es : Hid (((strL body).toList == (strL body).toList) = true) := by unfold Hid; simp
  obtain ⟨hbc, hbc2⟩ := show 76 + m ≤ c1 ∧ c1 ≤ maxLen from ⟨((Q2.out _ (Ext.refl _)).1).le, ((Q2.out _ (Ext.refl _)).1).cap⟩
  clear hcl hbb hx0 hx1 hE hC hD lb BK E0 E1 HR
  obtain ⟨nn, hnn⟩ : ∃ nn, nn = 76 + m := ⟨_, rfl⟩
  rw [← hnn] at BB k3 Q2 hbc ⊢
  have r1 : (74 : Int) ≤ (c1 : Int) := by omega
  have r2 : ¬ c1 = 34 := by omega
  have r3 : (76 : Int) ≤ (nn : Int) := by omega
  have r4 : (nn : Int) ≤ (c1 : Int) := by omega
  have r5 : (1 : Int) < (nn : Int) := by omega
  have r6 : (0 : Int) < (nn : Int) := by omega
  have r7 : 0 < nn := by omega
  have r8 : (40 : Int) ≤ (c1 : Int) - 34 := by omega
  replace hnn := Lib.hid hnn
  have CB : Hid (∀ W A n c, Bs W A n c body → (convert 26 9 (.slice A n c)).run Try.prog W = .ok (.string (strL body)) W) := fun W A n c h => CV.out W A n c body h
  clear CV
  generalize strL body = sb at *
  have f0 := ((Q2.out _ (Ext.refl _)).2.1).cell c68.out
  go_wp2_with (fail)
  refine (HD.out).mono ?_
  rintro e u_ ⟨rfl, e1⟩
  have a1 : Hid ((u_.alloc (Obj.cells hz.toArray 25)).heap[u_.heap.size]? = some (.cells hz.toArray 25 (0, 0))) := heap_alloc_new _ _
  have E_ : Ext u_ ((u_.alloc (Obj.cells hz.toArray 25)).setRow u_.heap.size hd.toArray) := below_setRow ((Ext.refl u_).alloc _) (Nat.le_refl _) _
  have n_z : Ext w2 u_ := e1
  replace e1 := Lib.hid e1
  replace n_z := Lib.hid n_z
  go_upto_region 10 with (((with_reducible refine wpList_store_row (o := ⟨none, .store 25 (.tmp 6) (.tmp 38), _, _, _, _⟩) ?_ 25 _ _ rfl u_.heap.size hd.toArray ?_ ?_ 25 hz.toArray ?_ ?_ ?_ ?_ ?_); (· rfl); (· rfl); (· rfl); (· exact a1.out); (· rw [S_hd]; rfl); (· rw [S_hd, S_hz]); (· exact O_hd.out); simp only [Act.put, List.setIfInBounds_toArray, List.set_cons_zero, List.set_cons_succ]))
  obtain ⟨g1, hg_⟩ : ∃ g, g = u_.heap.size := ⟨_, rfl⟩
  refine wp_gen (fun W => Cb W g1 25 hd ∧ Ext w2 W ∧ Bs W (some ⟨b, off, none⟩) nn c1 xb ∧ Cb W r 35 ev ∧ Ext w W) ⟨by rw [hg_]; exact setRow_heap _ _ _ _ _ _ a1.out, n_z.out.ext E_, Q2.out _ (e1.out.trans E_)⟩ ?_
  rw [← hg_]
  clear hg_ a1 E_ e1 Q2 n_z f0
  rintro w3 ⟨q_g1, q_z, q_b, q_r, q_x⟩
  have Q3 : Hid (∀ s, Ext w3 s → Cb s g1 25 hd ∧ Ext w2 s ∧ Bs s (some ⟨b, off, none⟩) nn c1 xb ∧ Cb s r 35 ev ∧ Ext w s) := fun s e => ⟨q_g1.ext e, q_z.ext e, q_b.ext e, q_r.ext e, q_x.trans e⟩
  clear q_g1 q_z q_b q_r q_x
  have u7 := es.out
  have X2 : Hid (∀ s, Ext w3 s → Ext w2 s) := fun s e => ((Q3.out s e).2.1)
  go_wp2_with fail
  refine wp_region_seq (R := Ext) Ext.refl (fun _ _ _ => Ext.trans) [0, 1, 2, 3, 4, 5, 6, 7, 8, 9, 10, 11, 12, 13, 14, 15, 16, 17, 18, 19, 20, 21, 22, 23, 24, 25, 26, 27, 28, 29, 30, 31, 32, 33, 34, 35, 36, 37, 38] [] [(0, 41, 16), (1, 42, 2199023255552), (2, 43, 4398046511360), (6, 44, 13194139533312), (10, 45, 21990232555520), (18, 46, 35184372088832), (32, 47, 70368744177792), (32, 48, 70368744177668), (160, 49, 351843720888320), (352, 50, 774056185954304), (544, 51, 1196268651020288), (1056, 52, 2251799813685248), (2048, 53, 4503599627370528), (6144, 54, 13510798882111488), (10240, 55, 22517998136852480), (18432, 56, 40532396646334464), (2048, 57, 4503599627370500), (67584, 58, 148618787703226368), (165888, 59, 364791569817010176), (264192, 60, 580964351930793984), (526336, 61, 1152921504606846976), (1048576, 62, 2305843009213693984), (3145728, 63, 6917529027641081856), (5242880, 64, 11529215046068469760), (9437184, 65, 20752587082923245568), (1048576, 66, 2305843009213693956), (34603008, 67, 76092819304051900416), (84934656, 68, 186773283746309210112), (135266304, 69, 297453748188566519808), (269484032, 70, 590295810358705651712), (536870912, 71, 1180591620717411303456), (1610612736, 72, 3541774862152233910272), (2684354560, 73, 5902958103587056517120), (536870912, 74, 1180591620717411303428), (9126805504, 75, 20070057552195992158208), (17716740096, 76, 38959523483674573012992), (39191576576, 77, 86183188312371025149952), (69256347648, 78, 152296319072546058141696), (274877906943, 3, 302231454903657293676544)] (by kernel_rfl) (by kernel_rfl) (by kernel_rfl) rfl (by kernel_rfl) (by kernel_rfl) (fun _ _ d _ _ h => by cases d <;> exact h) ?_
  repeat (first | (refine seq_read (fun _ => True) (fun _ _ => trivial) _ (v := ?_) rfl rfl (by rfl) ?_ ?_; rotate_left; (· intro w' hF; go_simp; (try with_reducible rfl)); simp only [Act.put, List.setIfInBounds_toArray, List.set_cons_zero, List.set_cons_succ]) | (refine seq_skip _ rfl rfl (by rfl) ?_; simp only [Act.put, List.setIfInBounds_toArray, List.set_cons_zero, List.set_cons_succ]))
  refine seq_read (fun w' => w'.heap[g1]? = some (.cells hd.toArray 25 (0, 0))) (fun w' e => ((Q3.out w' ((Ext.refl _).drew.trans e)).1)) _ (v := .agg hd.toArray) rfl rfl (by rfl) (fun w' hF => exec_load_row rfl rfl hF rfl rfl (by rw [S_hd]; rfl)) ?_
  simp only [Act.put, List.setIfInBounds_toArray, List.set_cons_zero, List.set_cons_succ]
  repeat (first | (refine seq_read (fun _ => True) (fun _ _ => trivial) _ (v := ?_) rfl rfl (by rfl) ?_ ?_; rotate_left; (· intro w' hF; go_simp; (try with_reducible rfl)); simp only [Act.put, List.setIfInBounds_toArray, List.set_cons_zero, List.set_cons_succ]) | (refine seq_skip _ rfl rfl (by rfl) ?_; simp only [Act.put, List.setIfInBounds_toArray, List.set_cons_zero, List.set_cons_succ]))
  refine seq_read (fun w' => ∀ q_ v, hd[q_]? = some v → w'.cell? ⟨r, 34 + q_, none⟩ = some v) (fun w' e => H34.out w' r _ ((Q3.out w' ((Ext.refl _).drew.trans e)).2.2.2.1)) _ (v := .agg hd.toArray) rfl rfl (by rfl) (fun w' hF => exec_load_mid rfl rfl hF rfl rfl (by rw [L_hp]; rfl)) ?_
  simp only [Act.put, List.setIfInBounds_toArray, List.set_cons_zero, List.set_cons_succ]
  refine seq_read (fun _ => True) (fun _ _ => trivial) _ (v := .bool true) rfl rfl (by rfl) (fun w' _ => exec_eql_head SH.out (hhd.out ()) (hhd.out ()) hk hk rfl rfl rfl) ?_
  simp only [Act.put, List.setIfInBounds_toArray, List.set_cons_zero, List.set_cons_succ]
  repeat (first | (refine seq_read _ (fun w' e => And.intro (((Q3.out w' ((Ext.refl _).drew.trans e)).2.2.2.1).cell c0.out) (And.intro (((Q3.out w' ((Ext.refl _).drew.trans e)).2.2.2.1).cell cc1.out) (And.intro (((Q3.out w' ((Ext.refl _).drew.trans e)).2.2.2.1).cell c68.out) (And.intro (C0.out w' (X2.out w' ((Ext.refl _).drew.trans e))).1 (And.intro (C0.out w' (X2.out w' ((Ext.refl _).drew.trans e))).2 (And.intro (CB.out w' _ _ _ (BB.out w' (X2.out w' ((Ext.refl _).drew.trans e)))) (CB.out w' _ _ _ (BD.out w' ((Q3.out w' ((Ext.refl _).drew.trans e)).2.2.2.2))))))))) _ (v := ?_) rfl rfl (by rfl) ?_ ?_; rotate_left; (· intro w' hF; go_simp; (try with_reducible rfl)); simp only [Act.put, List.setIfInBounds_toArray, List.set_cons_zero, List.set_cons_succ]) | (refine seq_skip _ rfl rfl (by rfl) ?_; simp only [Act.put, List.setIfInBounds_toArray, List.set_cons_zero, List.set_cons_succ]))
  refine seq_done ?_
  go_wp2_with fail
  all_goals (go_ret; exact ⟨rfl, ((Q3.out _ (Ext.refl _).drew).2.2.2.2)⟩)
end Go.Proofs.Ytojgmgghlkpfoaa
