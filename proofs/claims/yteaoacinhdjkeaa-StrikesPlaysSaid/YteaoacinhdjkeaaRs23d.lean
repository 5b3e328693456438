import Derived.Test.YteaoacinhdjkeaaPkF
import Derived.Test.YteaoacinhdjkeaaPlJ
/-
  palfreyref23: take.
-/
namespace Go.Proofs.Yteaoacinhdjkeaa
open Go.ChangeShapes Go.WideShapes Go.ChangeAt Go.RowKit Go.Deep Go.Maps
set_option maxRecDepth 100000

theorem ownTy23 {B : Nat} {w : World} {A : Option Addr} {n c : Nat} {L : List (List Value)} (h : OwnC B w 128 4 A n c L) : 0 < n → ∀ q, A = some q → ∃ cs, w.heap[q.block]? = some (.cells cs 128 (0, 0)) := fun h0 q hq => by
  rcases h.1.2 with ⟨hv, hn⟩ | ⟨g, cap, cur, hv, hb, hg, _⟩
  · omega
  · injection hv with e1 _ _
    rw [hq] at e1
    injection e1 with e1
    subst e1
    exact ⟨_, hg⟩
theorem ownLo23 {B : Nat} {w : World} {e : TypeId} {s : Nat} {A : Option Addr} {n c : Nat} {L : List (List Value)} (h : OwnC B w e s A n c L) : 0 < n → ∀ q, A = some q → B ≤ q.block := fun h0 q hq => by
  rcases h.1.2 with ⟨hv, hn⟩ | ⟨g, cap, cur, hv, hb, hg, _⟩
  · omega
  · injection hv with e1 _ _
    rw [hq] at e1
    injection e1 with e1
    subst e1
    exact hb
theorem RL.put {B : Nat} {w : World} {lo : Nat → Prop} {rg g : Nat} {u : Value} {A : Option Addr} {n c : Nat} {K : List Sk} (kg : Cb w rg 114 [.pointer (some ⟨g, 0, none⟩), u]) (o : OwnC B w 128 4 A n c (K.map Sk.R)) (l2 : ∀ i, B ≤ i → lo i) : RL lo (w.setCell ⟨rg, 1, none⟩ (.slice A n c)) rg g K := by
  have ot : ∀ (i : Nat) (cc : Array Value), w.heap[i]? = some (Obj.cells cc 128 (0, 0)) → (w.setCell ⟨rg, 1, none⟩ (.slice A n c)).heap[i]? = some (Obj.cells cc 128 (0, 0)) := fun i cc hi => (Below.heap_setCell _ _ _ _ (show i ≠ rg from fun q => by
    subst q
    unfold Cb at kg
    rw [kg] at hi
    injection hi with hi
    injection hi with _ hi
    exact absurd hi (by decide))).trans hi
  have cs := o.cs
  have ty := ownTy23 o
  refine ⟨A, n, c, kg.setCell, ⟨cs.1, cs.2.1, fun h0 => ?_⟩, fun h0 q hq => ?_⟩
  · obtain ⟨b, off, hA, hb, hc⟩ := cs.2.2 h0
    obtain ⟨cc, hcc⟩ := ty h0 _ hA
    have k := ot _ _ hcc
    exact ⟨b, off, hA, heap_lt k, fun q v hv => (cell_of_heap21 (k.trans hcc.symm) _).trans (hc q v hv)⟩
  · obtain ⟨cc, hcc⟩ := ty h0 q hq
    exact ⟨l2 _ (ownLo23 o h0 q hq), cc, ot _ _ hcc⟩
theorem one_R23 (x : Sk) : ∀ v ∈ x.R, v.oneCell' = true := fun v hv => by
  simp only [Sk.R, List.mem_cons, List.not_mem_nil, or_false] at hv
  rcases hv with rfl | rfl | rfl | rfl <;> rfl
theorem lit_ne23 {s g n c : Nat} (h : g < s) : Value.ownBlock (.slice (some ⟨s, 0, none⟩) n c) ≠ some g := fun q => by
  have := Option.some.inj q
  simp only at this
  omega
theorem own_ne23 {B : Nat} {w : World} {e : TypeId} {s : Nat} {A : Option Addr} {n c : Nat} {L : List (List Value)} (h : OwnC B w e s A n c L) : Value.ownBlock (.slice A n c) ≠ some w.heap.size := fun q => by
  have := (World.ownsRow.lt h.1 _ q).2
  omega
theorem own_step23 {V V' : Value} {g s : Nat} (h : V.ownBlock ≠ some g) (hs : g < s) (h3 : V'.ownBlock = V.ownBlock ∨ V'.ownBlock = some s) : V'.ownBlock ≠ some g := fun q => by
  rcases h3 with e | e
  · exact h (e ▸ q)
  · rw [e] at q
    have := Option.some.inj q
    omega
theorem cb_grown23 {w w' : World} {row : Option Nat} {g : Nat} {T : TypeId} {L : List Value} (t : w.grownBy w' row) (h : Cb w g T L) (hne : some g ≠ row) : Cb w' g T L := (t.block g h.lt hne).trans h
macro "go_ret0" : tactic => `(tactic| ((try simp only [Exit.inBlock, Exit.then]); refine bodyPost_ret (results_none rfl _ _ _) rfl ?_))
set_option maxHeartbeats 16000000 in
theorem rtake23_calls {w : World} {lo : Nat → Prop} {rg g : Nat} {K : List Sk} (h : RL lo w rg g K) (ok : OkS K) (hK : K.length ≤ 500) {A : Option Addr} {n c : Nat} {xs : List UInt8} (hb : Bs w A n c xs) :
    Calls Try.prog 56 #[.pointer (some ⟨rg, 0, none⟩), .slice A n c] w fun e w' => e = .returned (.tuple #[]) ∧ RL (fun i => lo i ∨ w.heap.size ≤ i) w' rg g (kAdd K xs) ∧ Ot (Tk23 lo w rg) w w' := by
  have hx := hb.len
  have hc1 := hb.le
  have hc2 := hb.cap
  have SAME : Hid (∀ s, Ext w s → RL (fun i => lo i ∨ w.heap.size ≤ i) s rg g K ∧ Ot (Tk23 lo w rg) w s) := fun s e => ⟨(h.ext e).sub fun i q => .inl q, Ot.of_ext e⟩
  have ER : Hid (xs.length ≠ 10 ∨ okR (rkOf xs) = false → kAdd K xs = K) := fun q => by
    unfold kAdd recR
    rw [if_neg]
    rintro ⟨z1, z2⟩
    rcases q with q | q
    · exact q z1
    · rw [q] at z2; cases z2
  have ES : Hid (xs.length = 10 → okR (rkOf xs) = true → kAdd K xs = followL K (rkOf xs)) := fun z1 z2 => by
    unfold kAdd recR
    rw [if_pos ⟨z1, z2⟩]
  generalize kAdd K xs = KK at *
  by_cases h10 : n = 10
  · subst h10
    obtain ⟨b, off, rfl, hbb, hc⟩ := hb.pos (by omega)
    have L4 : ((xs.drop 2).take 4).length ≤ 4 := by rw [List.length_take]; omega
    have O1 : Hid (∀ s, Ext w s → Calls Try.prog 71 #[.slice (some ⟨b, off + 2, none⟩) 4 (c - 2)] s fun e w' => e = .returned (.int .u64 (ofLowL ((xs.drop 2).take 4).reverse : Int)) ∧ w' = s) := fun s e => by
      have h1 := ((hb.ext e).cutAt (k := 2) (by omega)).take (k := 4) (by omega)
      have := refOfHigh_calls (m := 4) h1 (by omega) (by omega) (by omega)
      rwa [List.take_of_length_le L4] at this
    have O2 : Hid (∀ s, Ext w s → Calls Try.prog 71 #[.slice (some ⟨b, off + 6, none⟩) 4 (c - 6)] s fun e w' => e = .returned (.int .u64 (ofLowL (xs.drop 6).reverse : Int)) ∧ w' = s) := fun s e => by
      have h1 := (hb.ext e).cutAt (k := 6) (by omega)
      have := refOfHigh_calls (m := 4) h1 (by omega) (by omega) (by omega)
      rwa [List.take_of_length_le (by rw [List.length_drop]; omega)] at this
    have C0 : Hid (∀ s, Ext w s → s.cell? ⟨b, off, none⟩ = some (.int .u8 (bt xs 0 : Int)) ∧ s.cell? ⟨b, off + 1, none⟩ = some (.int .u8 (bt xs 1 : Int))) := fun s e => ⟨(e.cell (p := ⟨b, off, none⟩) hbb).trans (hc 0 (by omega)), (e.cell (p := ⟨b, off + 1, none⟩) hbb).trans (hc 1 (by omega))⟩
    have k256 := bt_lt23 xs 0
    have a256 := bt_lt23 xs 1
    have i32 : ofLowL ((xs.drop 2).take 4).reverse < 4294967296 := by
      have := ofLow_lt23 ((xs.drop 2).take 4).reverse
      rw [List.length_reverse, List.length_take, List.length_drop, hx] at this
      exact this
    have t32 : ofLowL (xs.drop 6).reverse < 4294967296 := by
      have := ofLow_lt23 (xs.drop 6).reverse
      rw [List.length_reverse, List.length_drop, hx] at this
      exact this
    have RK : Hid (rkOf xs = ⟨bt xs 0, bt xs 1, ofLowL ((xs.drop 2).take 4).reverse, ofLowL (xs.drop 6).reverse⟩) := rfl
    have BNE : b ≠ rg := fun q => by
      obtain ⟨_, _, _, h1, _⟩ := h
      subst q
      exact cb_no_u8 h1 (fun x q => by simp at q) off _ (C0.out w (Ext.refl w)).1
    generalize bt xs 0 = k at *
    generalize bt xs 1 = a at *
    generalize ofLowL ((xs.drop 2).take 4).reverse = i at *
    generalize ofLowL (xs.drop 6).reverse = t at *
    have m2 : IntKind.i64.wrap (a : Int) = (a : Int) := IntWalk.i64_in _ (by omega)
    have m3 : IntKind.i64.wrap (i : Int) = (i : Int) := IntWalk.i64_in _ (by omega)
    have m4 : IntKind.i64.wrap (t : Int) = (t : Int) := IntWalk.i64_in _ (by omega)
    have q2 : (6 : Int) ≤ (c : Int) := by omega
    have q3 : ¬ c = 2 := by omega
    have q4 : ¬ c = 6 := by omega
    have q5 : (10 : Int) ≤ (c : Int) := by omega
    have HO : Hid (okR (rkOf xs) = ((decide (k = 1) || decide (k = 2)) && decide (a < 8) && decide (i ≤ 1000000) && decide (t ≤ 1000000))) := by unfold Hid; rw [RK.out]; rfl
    have NC : Hid (∀ W (j : Nat), Calls Try.prog 60 #[.int .i64 (j : Int)] W fun e w' => e = .returned (.bool (decide (j ≤ 1000000))) ∧ w' = W) := fun W j => by
      have := rtime23_calls (w := W) (n := (j : Int))
      have e : numB23 (j : Int) = decide (j ≤ 1000000) := by unfold numB23; rw [Bool.eq_iff_iff]; simp; omega
      rwa [e] at this
    have c0 := (C0.out w (Ext.refl w)).1
    have c1 := (C0.out w (Ext.refl w)).2
    have OK := Lib.hid ok
    have HR := Lib.hid h
    have FL : Hid (followL K (rkOf xs) = if k = 1 then (if (findS K (i : Int)).isSome then K else K ++ [⟨i, a, t, false⟩]) else (if k = 2 then (if (findS K (i : Int)).isSome then revS K i else K) else K)) := by unfold Hid; rw [RK.out]; rfl
    have AT : Hid (Calls Try.prog 61 #[.pointer (some ⟨rg, 0, none⟩), .int .i64 (i : Int)] w fun e w' => (∃ r : Int, e = .returned (.int .i64 r) ∧ ((findS K (i : Int) = none ∧ r = -1) ∨ ∃ (k : Nat) (s : Sk), r = (k : Int) ∧ K[k]? = some s ∧ findS K (i : Int) = some s)) ∧ w' = w) := rat23_calls h (by omega)
    replace hc := Lib.hid hc
    replace C0 := Lib.hid C0
    replace ok := Lib.hid ok
    clear h hb
    by_cases ha : a ≤ 7
    case neg =>
      have u1 : (7 : Int) < (a : Int) := by omega
      have u2 : decide ((7 : Int) < (a : Int)) = true := decide_eq_true u1
      have F : Hid (KK = K) := ER.out (.inr (by rw [HO.out]; simp; omega))
      obtain rfl := F.out
      have FIN := Lib.hid (SAME.out w (Ext.refl w))
      clear SAME ER ES HO NC OK HR FL AT O1 O2 C0 RK F
      go_enter Try.func56, Try.ntmps56
      go_wp2_with fail
      go_ret0
      exact ⟨rfl, FIN.out.1, FIN.out.2⟩
    have u2 : decide ((7 : Int) < (a : Int)) = false := decide_eq_false (by omega)
    have a8 : decide (a < 8) = true := decide_eq_true (by omega)
    rw [a8, Bool.and_true] at HO
    have OI := Lib.hid (O1.out w (Ext.refl w))
    have OT := Lib.hid (O2.out w (Ext.refl w))
    clear a8 O1 O2
    go_enter Try.func56, Try.ntmps56
    go_wp2_with fail
    refine OI.out.mono ?_
    rintro e w1 ⟨rfl, rfl⟩
    clear OI
    go_wp2_with fail
    refine OT.out.mono ?_
    rintro e w1 ⟨rfl, rfl⟩
    clear OT
    go_wp2_with fail
    have NI := Lib.hid (NC.out w1 i)
    have NT := Lib.hid (NC.out w1 t)
    obtain ⟨kI, hkI⟩ : ∃ q : Int, q = (k : Int) := ⟨_, rfl⟩
    rw [← hkI] at C0 c0
    replace hkI := Lib.hid hkI
    have FIN := Lib.hid (SAME.out w1 (Ext.refl w1))
    generalize decide (t ≤ 1000000) = bt_ at *
    generalize decide (i ≤ 1000000) = bi at *
    clear NC
    go_wp2_with fail
    refine NI.out.mono ?_
    rintro e w1 ⟨rfl, rfl⟩
    clear NI
    cases bi with
    | false =>
      have F : Hid (KK = K) := ER.out (.inr (by rw [HO.out]; simp))
      obtain rfl := F.out
      clear SAME ER ES HO OK HR FL AT NT C0 RK F hc
      go_wp2_with fail
      go_ret0
      exact ⟨rfl, FIN.out.1, FIN.out.2⟩
    | true =>
      go_wp2_with fail
      refine NT.out.mono ?_
      rintro e w1 ⟨rfl, rfl⟩
      clear NT
      cases bt_ with
      | false =>
        have F : Hid (KK = K) := ER.out (.inr (by rw [HO.out]; simp))
        obtain rfl := F.out
        clear SAME ER ES HO OK HR FL AT C0 RK F hc
        go_wp2_with fail
        go_ret0
        exact ⟨rfl, FIN.out.1, FIN.out.2⟩
      | true =>
        go_wp2_with fail
        refine AT.out.mono ?_
        rintro e w1 ⟨⟨r, rfl, hr⟩, rfl⟩
        clear AT
        rcases hr with ⟨hf, rfl⟩ | ⟨p, s, rfl, hp, hf⟩
        · by_cases k1 : k = 1
          · have f1 : (kI == 1) = true := beq_iff_eq.2 (by rw [hkI.out, k1]; rfl)
            have f2 : (kI == 2) = false := beq_eq_false_iff_ne.2 (by rw [hkI.out, k1]; decide)
            have F : Hid (KK = K ++ [⟨i, a, t, false⟩]) := by
              unfold Hid
              rw [ES.out hx (by rw [HO.out, k1]; rfl), FL.out, if_pos k1, hf]
              rfl
            obtain ⟨A0, n0, cc0, hcb, cs0, ty0⟩ := HR.out
            have lm : K.length = n0 := by have := cs0.1.1; rwa [List.length_map] at this
            have n500 : n0 ≤ 500 := by omega
            have glt := hcb.lt
            have P7 : Hid (∀ s, Ext w1 s → s.cell? ⟨rg, 1, none⟩ = some (.slice A0 n0 cc0) ∧ s.cell? ⟨b, off + 1, none⟩ = some (.int .u8 (a : Int))) := fun s e => ⟨(hcb.ext e).cell rfl, (C0.out s e).2⟩
            have CSL : Hid (∀ s, Ext w1 s → Cs s 4 A0 n0 cc0 (K.map Sk.R)) := fun s e => cs0.ext e
            have CG : Hid (∀ s, Ext w1 s → Cb s rg 114 [.pointer (some ⟨g, 0, none⟩), .slice A0 n0 cc0] ∧ Ot (Tk23 lo w1 rg) w1 s ∧ s.cell? ⟨b, off, none⟩ = some (.int .u8 kI)) := fun s e => ⟨hcb.ext e, Ot.of_ext e, (C0.out s e).1⟩
            have SE : Hid (Ext w1 w1.drew) := (Ext.refl w1).drew
            have O_L : Hid (∀ x ∈ K.map Sk.R, ∀ u ∈ x, u.oneCell' = true) := fun x hx u hu => by obtain ⟨z, _, rfl⟩ := List.mem_map.1 hx; exact one_R23 z u hu
            have BL : Hid (Try.prog.built 128 [(0, .int .i64 (i : Int)), (1, .int .i64 (a : Int)), (2, .int .i64 (t : Int))] = some (⟨i, a, t, false⟩ : Sk).R.toArray) := rsk_built _ _ _
            have RC : Hid (KK.map Sk.R = K.map Sk.R ++ [(⟨i, a, t, false⟩ : Sk).R]) := by unfold Hid; rw [F.out, List.map_append]; rfl
            have L_C : (⟨i, a, t, false⟩ : Sk).R.length = 4 := rfl
            have O_C := Lib.hid (one_R23 ⟨i, a, t, false⟩)
            obtain ⟨XC, hXC⟩ : ∃ q, q = (⟨i, a, t, false⟩ : Sk).R := ⟨_, rfl⟩
            rw [← hXC] at BL RC L_C O_C
            clear ER ES HO OK FL hkI FIN SAME F HR hcb cs0 ty0 lm hXC C0 hc RK hf k1 hK
            go_upto_region 6 with fail
            refine wp_region_treeZ (R := Below w1.heap.size) (Below.refl _) (fun _ _ _ => Below.trans) 18 (.rd 0 (.rd 2 (.rd 3 (.rd 4 (.rd 5 (.rd 7 (.rd 8 (.rd 9 (.rd 10 (.rd 11 (.rd 12 (.rd 13 (.alt 1 (.alt 6 (.alt 14 (.alt 15 (.rd 16 (.rd 17 (.alt 18 .nil .stop))) .stop) .stop) (.alt 14 (.alt 6 (.alt 15 (.rd 16 (.rd 17 (.alt 18 .nil .stop))) .stop) .stop) .stop)) (.alt 14 (.alt 1 (.alt 6 (.alt 15 (.rd 16 (.rd 17 (.alt 18 .nil .stop))) .stop) .stop) .stop) .stop)))))))))))))) [(0, 44, 2), (0, 45, 0), (0, 46, 2), (4, 47, 70368744177664), (8, 48, 140737488355328), (16, 49, 281474976710656), (34, 50, 598134325510144), (0, 51, 32), (0, 52, 4), (256, 53, 4503599627370496), (512, 54, 9007199254740992), (1024, 55, 18014398509481984), (0, 56, 64), (6272, 57, 110338190870577152), (8192, 58, 144115188075855872), (16448, 59, 289356276058554368), (65535, 60, 17592186044416), (131071, 61, 1152921504606846976), (196607, 0, 2882303761517117440)] 19 (by kernel_rfl) (by kernel_rfl) (by kernel_rfl) rfl (by kernel_rfl) (by kernel_rfl) (by kernel_rfl) (fun _ _ d _ _ h => by cases d <;> exact h) ?_
            iterate 11 (refine seqTZ_read (by decide) _ (fun w' e => P7.out w' (Ext.trans (Ext.refl _).drew e)) _ (v := ?_) rfl ?_ ?_ ?_; rotate_left; (· rfl); (· intro w' hF; obtain ⟨hF, hF2⟩ := hF; go_simp; (try with_reducible rfl)); go_frame)
            refine seqTZ_read (by decide) (fun _ => True) (fun _ _ => trivial) _ (v := .agg XC.toArray) rfl (by rfl) (fun w' _ => exec_build_as rfl (by simp only [List.map_toArray, List.map_cons, List.map_nil]; exact BL.out)) ?_
            go_frame
            have TM : Hid (∀ s A2 c2, Ext w1 s → OwnC w1.heap.size s 128 4 A2 (n0 + 1) c2 (K.map Sk.R ++ [XC]) → RL (fun i => lo i ∨ w1.heap.size ≤ i) (s.setCell ⟨rg, 1, none⟩ (.slice A2 (n0 + 1) c2)) rg g KK ∧ Ot (Tk23 lo w1 rg) w1 (s.setCell ⟨rg, 1, none⟩ (.slice A2 (n0 + 1) c2)) ∧ (s.setCell ⟨rg, 1, none⟩ (.slice A2 (n0 + 1) c2)).cell? ⟨b, off, none⟩ = some (.int .u8 kI)) := fun s A2 c2 q o => by
              obtain ⟨g1, g2, g3⟩ := CG.out s q
              refine ⟨RL.put g1 (by rw [RC.out]; exact o) (fun i hi => .inr hi), g2.trans (Ot.cell s 1 _ (.inl rfl)), (World.cell?_of_block (Below.heap_setCell _ _ _ _ (show b ≠ rg from BNE))).trans g3⟩
            obtain ⟨WC, hWC⟩ : ∃ q, q = w1.drew := ⟨_, rfl⟩
            rw [← hWC] at SE ⊢
            clear hWC
            repeat' (first
              | exact seqTZ_stop
              | (refine seqTZ_do (i := 1) _ rfl ?_ ?_ (fun K1 hK1 => ?_)
                 (· rfl)
                 rotate_left
                 go_simp
                 have e : Ext WC (WC.alloc (Obj.cells #[] 128)) := (Ext.refl WC).alloc _
                 have hO : Hid (OwnC w1.heap.size (WC.alloc (Obj.cells #[] 128)) 128 4 (some ⟨WC.heap.size, 0, none⟩) 0 0 []) := ⟨World.ownsRow_lit WC #[] 0 SE.out.size (Nat.zero_le _) rfl, fun x hx => (by cases hx), rfl⟩
                 (try have hn := Lib.hid (lit_ne23 (n := 0) (c := 0) hS.out.lt))
                 refine hK1.out _ _ (Or.inr (e.mono SE.out.size)) ?_
                 clear hK1 K1
                 (try replace hS := Lib.hid (hS.out.ext e))
                 replace SE := Lib.hid (SE.out.trans e)
                 clear e
                 generalize WC.alloc (Obj.cells #[] 128) = WC at *
                 (try go_frame)
                 repeat (refine seqTZ_read (by decide) (fun _ => True) (fun _ _ => trivial) _ (v := ?_) rfl ?_ ?_ ?_; rotate_left; (· rfl); (· intro w' hF; go_simp; (try with_reducible rfl)); go_frame)
                 skip)
              | (refine seqTZ_do (i := 14) _ rfl ?_ ?_ (fun K1 hK1 => ?_)
                 (· rfl)
                 rotate_left
                 refine wp_slice_c (t := 112) (e := 128) (s := 4) Try.underlying112 infoR23 zR23_cells (by omega) (by omega) (cs := XC) L_C rfl rfl ?_
                 have e : Ext WC (WC.alloc (Obj.cells XC.toArray 128)) := (Ext.refl WC).alloc _
                 have hS := Lib.hid (Cb.new WC 128 XC)
                 (try have hn := Lib.hid (own_ne23 hO.out))
                 refine hK1.out _ _ (Or.inr (e.mono SE.out.size)) ?_
                 clear hK1 K1
                 (try replace hO := Lib.hid (hO.out.ext e))
                 replace SE := Lib.hid (SE.out.trans e)
                 clear e
                 generalize WC.alloc (Obj.cells XC.toArray 128) = WC at *
                 (try go_frame)
                 repeat (refine seqTZ_read (by decide) (fun _ => True) (fun _ _ => trivial) _ (v := ?_) rfl ?_ ?_ ?_; rotate_left; (· rfl); (· intro w' hF; go_simp; (try with_reducible rfl)); go_frame)
                 skip)
              | (refine seqTZ_do (i := 6) _ rfl ?_ ?_ (fun K1 hK1 => ?_)
                 (· rfl)
                 rotate_left
                 refine wp_append_cc2 (t := 112) (e := 128) (s := 4) Try.underlying112 infoR23 zR23_cells (by omega) bytesR23 rfl rfl rfl hO.out (CSL.out _ SE.out) O_L.out (by omega) SE.out.size ?_
                 intro A6 c6 WC o6 g6 b6 h6
                 (try have hn' := Lib.hid (own_step23 hn.out hS.out.lt h6))
                 (try have hS' := Lib.hid (cb_grown23 g6 hS.out (fun q => hn.out q.symm)))
                 (try clear hn)
                 (try clear hS)
                 (try have hn := hn')
                 (try have hS := hS')
                 (try clear hn')
                 (try clear hS')
                 refine hK1.out _ _ (Or.inr b6) ?_
                 have SE' : Hid (Ext w1 WC) := Below.trans SE.out b6
                 clear hK1 K1 h6 g6 b6 SE hO
                 have SE := SE'
                 clear SE'
                 simp only [Nat.zero_add, List.nil_append] at o6 ⊢
                 (try simp only [Nat.zero_add] at hn)
                 have hO := Lib.hid o6
                 clear o6
                 (try go_frame)
                 repeat (refine seqTZ_read (by decide) (fun _ => True) (fun _ _ => trivial) _ (v := ?_) rfl ?_ ?_ ?_; rotate_left; (· rfl); (· intro w' hF; go_simp; (try with_reducible rfl)); go_frame)
                 skip)
              | (refine seqTZ_do (i := 15) _ rfl ?_ ?_ (fun K1 hK1 => ?_)
                 (· rfl)
                 rotate_left
                 have cs3 := cs_one hS.out
                 rw [L_C] at cs3
                 refine wp_append_cc2 (t := 112) (e := 128) (s := 4) Try.underlying112 infoR23 zR23_cells (by omega) bytesR23 rfl rfl rfl hO.out cs3 (fun x hx u hu => by rw [List.mem_singleton.1 hx] at hu; exact O_C.out u hu) (by omega) SE.out.size ?_
                 intro A7 c7 w7 o7 g7 b7 h7
                 refine hK1.out _ _ (Or.inr b7) ?_
                 have SE' : Hid (Ext w1 w7) := Below.trans SE.out b7
                 have m7 := Lib.hid (TM.out w7 A7 c7 SE'.out o7)
                 have kg := (CG.out w7 SE'.out).1
                 have c1_ := kg.cell (j := 1) rfl
                 have f1_ := kg.frozen 1
                 have cc7 := o7.cap
                 clear hK1 K1 h7 g7 b7 SE hO o7 cs3 hn hS kg SE'
                 (try go_frame)
                 repeat (refine seqTZ_read (by decide) (fun _ => True) (fun _ _ => trivial) _ (v := ?_) rfl ?_ ?_ ?_; rotate_left; (· rfl); (· intro w' hF; go_simp; (try with_reducible rfl)); go_frame)
                 skip)
              | (refine seqTZ_do (i := 18) _ rfl ?_ ?_ (fun K1 hK1 => ?_)
                 (· rfl)
                 rotate_left
                 go_simp
                 refine hK1.out _ _ (Or.inl rfl) ?_
                 clear hK1 K1
                 (try go_frame)
                 refine seqTZ_done ?_
                 refine gen_q (fun X => RL (fun i => lo i ∨ w1.heap.size ≤ i) X rg g KK ∧ Ot (Tk23 lo w1 rg) w1 X ∧ X.cell? ⟨b, off, none⟩ = some (.int .u8 kI)) m7.out ?_
                 clear m7 c1_ f1_ TM P7 CSL CG c0 c1
                 rintro w8 ⟨m8, t8, c8⟩
                 replace m8 := Lib.hid m8
                 replace t8 := Lib.hid t8
                 go_wp2_with fail
                 go_end0
                 exact ⟨rfl, m8.out, t8.out⟩))
          · have f1 : (kI == 1) = false := beq_eq_false_iff_ne.2 (by rw [hkI.out]; omega)
            have F : Hid (KK = K) := by
              by_cases k2 : k = 2
              · unfold Hid
                rw [ES.out hx (by rw [HO.out, k2]; rfl), FL.out, if_neg k1, if_pos k2, hf]
                rfl
              · exact ER.out (.inr (by rw [HO.out, decide_eq_false k1, decide_eq_false k2]; rfl))
            obtain rfl := F.out
            have f2 : (kI == 2) = true ∨ (kI == 2) = false := by cases (kI == 2) <;> simp
            clear SAME ER ES HO OK HR FL C0 RK F hc hf k1
            rcases f2 with f2 | f2
            all_goals (
              go_wp2_with fail
              go_end0
              exact ⟨rfl, FIN.out.1, FIN.out.2⟩)
        · have p0 : decide ((p : Int) < 0) = false := decide_eq_false (by omega)
          have p1 : decide ((0 : Int) ≤ (p : Int)) = true := decide_eq_true (by omega)
          by_cases k2 : k = 2
          · have f1 : (kI == 1) = false := beq_eq_false_iff_ne.2 (by rw [hkI.out, k2]; decide)
            have f2 : (kI == 2) = true := beq_iff_eq.2 (by rw [hkI.out, k2]; rfl)
            have F : Hid (KK = revS K i) := by
              unfold Hid
              rw [ES.out hx (by rw [HO.out, k2]; rfl), FL.out, if_neg (by omega), if_pos k2, hf]
              rfl
            obtain ⟨b2, o2, n2, cc2, ⟨pn, d1, ⟨v, d2⟩, d3⟩, D4, D5, D7, cs, D6⟩ := HR.out.revoke OK.out hp
            have ei : s.id = i := by have := (findS_some hf).2; omega
            rw [ei] at D4
            have FIN2 : Hid (RL (fun i => lo i ∨ w1.heap.size ≤ i) (w1.setCell ⟨b2, o2 + p * 4 + 3, none⟩ (.bool true)) rg g KK ∧ Ot (Tk23 lo w1 rg) w1 (w1.setCell ⟨b2, o2 + p * 4 + 3, none⟩ (.bool true))) := ⟨by rw [F.out]; exact D4.sub fun i q => .inl q, Ot.of_grown D5 (.inr ⟨D7, cs, D6⟩)⟩
            have pn' : (p : Int) < (n2 : Int) := by omega
            clear SAME ER ES HO OK HR FL C0 RK F hc hf k2 D4 D5 D6 D7 FIN hp ei
            go_wp2_with fail
            go_end0
            exact ⟨rfl, FIN2.out⟩
          · have f2 : (kI == 2) = false := beq_eq_false_iff_ne.2 (by rw [hkI.out]; omega)
            have F : Hid (KK = K) := by
              by_cases k1 : k = 1
              · unfold Hid
                rw [ES.out hx (by rw [HO.out, k1]; rfl), FL.out, if_pos k1, hf]
                rfl
              · exact ER.out (.inr (by rw [HO.out, decide_eq_false k1, decide_eq_false k2]; rfl))
            obtain rfl := F.out
            have f1 : (kI == 1) = true ∨ (kI == 1) = false := by cases (kI == 1) <;> simp
            clear SAME ER ES HO OK HR FL C0 RK F hc hf k2 hp
            rcases f1 with f1 | f1
            all_goals (
              go_wp2_with fail
              go_end0
              exact ⟨rfl, FIN.out.1, FIN.out.2⟩)
  · have u1 : ((n : Int) == 10) = false := beq_eq_false_iff_ne.2 (by omega)
    obtain rfl := ER.out (.inl (by omega))
    have FIN := Lib.hid (SAME.out w (Ext.refl w))
    clear SAME ER ES hb h ok
    go_enter Try.func56, Try.ntmps56
    go_wp2_with fail
    go_ret0
    exact ⟨rfl, FIN.out.1, FIN.out.2⟩
end Go.Proofs.Yteaoacinhdjkeaa
