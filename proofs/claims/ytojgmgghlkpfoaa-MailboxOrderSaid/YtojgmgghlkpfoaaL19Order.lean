import Derived.Test.YtojgmgghlkpfoaaPkA
import Derived.Deep.DeepCutAuto
/-
  The law MailboxOrder.
-/
namespace Go.Proofs.Ytojgmgghlkpfoaa
open Go.ChangeShapes Go.WideShapes Go.ChangeAt Go.RowKit Go.Deep
set_option maxRecDepth 100000

def ord19 (i : Nat) : Ml := ⟨0, ((i % 8 : Nat) : Int), 0, List.replicate 32 0, List.replicate 32 0, 0, 0, [], 0, 0, 0, (i : Int), List.replicate 32 0, List.replicate 32 0⟩
theorem ord19_ok (i : Nat) : (ord19 i).ok := ⟨⟨rfl, rfl⟩, ⟨rfl, rfl⟩, Nat.zero_le _⟩
theorem ord19_okM (i : Nat) : okM (ord19 i) = true := by
  show okE ((i % 8 : Nat) : Int) 0 0 0 0 = true
  unfold okE
  rw [show upB 0 7 = true from rfl, show okH 0 0 = true from rfl, show upB ((i % 8 : Nat) : Int) 7 = true by unfold upB; simp only [Bool.and_eq_true, decide_eq_true_eq]; omega]
  rfl
theorem ord19_in {i k : Nat} (h : k < 8) : pbE (ord19 i) k = 0 := by unfold pbE; rw [ord19_okM, if_pos rfl, if_pos h]
theorem ord19_full {i k : Nat} (h : k = 8) : pbE (ord19 i) k = 8 := by unfold pbE; rw [ord19_okM, if_pos rfl, if_neg (by omega)]
theorem ord19_ev (i : Nat) {v : Int} (hv : v = ((i % 8 : Nat) : Int)) : Try.prog.built 35 [(0, .int .i64 v)] = some (⟨ord19 i, none, 0⟩ : Wm).ev.toArray := by subst hv; kernel_rfl
theorem ord19_st (i : Nat) : Try.prog.built 51 [(3, .int .i64 (i : Int))] = some (ord19 i).stm.toArray := by kernel_rfl
def tagI (t : TypeId) : Bool := t == 3
theorem ord19_p8 {i k : Nat} {last : Int} (h : k = 8) : pbI (ord19 i) k last = 0 ∧ pbM (ord19 i) k last = last := by
  have e := ord19_full (i := i) h
  exact ⟨by unfold pbI; rw [e]; rfl, by unfold pbM; rw [e]; rfl⟩
theorem ord19_l8 {i : Nat} {L : List Wm} {last : Int} (h : L.length = 8) (A : Option Addr) (c : Nat) : pbL (ord19 i) A c L last = L := by
  have e := ord19_full (i := i) h
  unfold pbL; rw [e]; rfl
theorem ord19_p {i k : Nat} {next : Int} (h : k < 8) : pbI (ord19 i) k (next - 1) = next ∧ pbM (ord19 i) k (next - 1) = next := by
  have e := ord19_in (i := i) h
  exact ⟨by unfold pbI; rw [e, if_pos rfl]; omega, by unfold pbM; rw [e, if_pos rfl]; omega⟩
theorem ord19_l {i : Nat} {L : List Wm} {next : Int} (h : L.length < 8) (A : Option Addr) (c : Nat) : pbL (ord19 i) A c L (next - 1) = L ++ [⟨(ord19 i).as next, A, c⟩] := by
  have e := ord19_in (i := i) h
  unfold pbL; rw [e, if_pos rfl, show next - 1 + 1 = next by omega]
theorem and7 : ∀ i : Nat, i < 61 → bits .and .i64 (i : Int) 7 = ((i % 8 : Nat) : Int) := by decide +kernel
set_option maxHeartbeats 16000000 in
theorem mailboxOrder_calls {w : World} {A : Option Addr} {n c : Nat} {f : Nat → Bool} (hb : Bls w A n c f) :
    Calls Try.prog 11 #[.slice A n c] w fun e w' => e = .returned (.bool true) ∧ Ext w w' := by
  have AW := Lib.hid (fun (W : World) => awake19_calls (w := W))
  have NW := Lib.hid (fun (W : World) => new_calls (w := W))
  have q1 := hb.1
  have q2 := hb.2.1
  have q3 : c ≤ 9223372036854775807 := by unfold maxLen at q2; omega
  replace hb := Lib.hid hb
  clear q2
  go_enter Try.func11, Try.ntmps11
  go_wp2_with fail
  refine (AW.out _).mono ?_
  rintro e w1 ⟨rfl, x1⟩
  replace x1 := Lib.hid x1
  clear AW
  go_wp2_with fail
  refine (NW.out w1).mono ?_
  rintro e w2 ⟨rfl, m2, x2⟩
  have X2 : Hid (Ext w w2) := x1.out.trans x2
  have gl : w.heap.size ≤ w1.heap.size := x1.out.size
  replace m2 := Lib.hid (m2 w.heap.size)
  generalize w1.heap.size = g at *
  clear NW x1 x2
  by_cases h6 : 60 < n
  · have u2 : decide ((60 : Int) < (n : Int)) = true := decide_eq_true (by omega)
    go_wp2_with fail
    go_ret
    exact ⟨rfl, X2.out⟩
  · have n6 : n ≤ 60 := by omega
    have u2 : decide ((60 : Int) < (n : Int)) = false := decide_eq_false (by omega)
    go_wp2_with fail
    go_loopw [5, 6, 7] (fun nv dv iv wr => ∃ (j : Nat) (L : List Wm) (D : Option Addr) (cc : Nat) (next : Int), j ≤ n ∧ iv = .int .i64 (j : Int) ∧ nv = .int .i64 next ∧ dv = .slice D L.length cc ∧ MB 83 64 w.heap.size wr g L (next - 1) ∧ OwnC w.heap.size wr 3 1 D L.length cc (idsC L) ∧ Gd L next ∧ 1 ≤ next ∧ next ≤ j + 1 ∧ L.length ≤ 8 ∧ Ext w wr) (fun _ _ v _ => n - (intOf v).toNat)
    case atStart => exact ⟨0, [], none, 0, 1, Nat.zero_le _, rfl, rfl, rfl, m2.out, OwnC.nil _ _ _ _, Gd.nil, by omega, by omega, Nat.zero_le _, X2.out⟩
    case round =>
      obtain ⟨j, L, D, cc, next, hjn, rfl, rfl, rfl, mb, ow, gd, nx1, nx2, l8, xr⟩ := hrel
      clear m2 X2
      by_cases hlt : j < n
      · obtain ⟨b, off, rfl, hbb, hbc⟩ := (hb.out.ext xr).2.2 (by omega)
        have cj := hbc j hlt
        clear hbc
        have occ := ow.cap
        have occ2 : cc ≤ 9223372036854775807 := by have := occ.2; unfold maxLen at this; omega
        replace occ := occ.1
        replace mb := Lib.hid mb
        replace ow := Lib.hid ow
        replace gd := Lib.hid gd
        replace xr := Lib.hid xr
        go_upto_region 10 with fail
        go_cut [41] from 27 to 117 (fun s41 wx => s41 = .bool (f j && decide (0 < L.length)) ∧ wx = wr)
        case first =>
          rcases hfj : f j with _ | _
          · go_wp2_with fail
            go_meet
            exact ⟨by rw [hfj]; rfl, rfl⟩
          · go_wp2_with fail
            go_meet
            exact ⟨by rw [hfj]; simp, rfl⟩
        case rest =>
        obtain ⟨rfl, rfl⟩ := hcut
        clear cj
        obtain ⟨bj, hbj⟩ : ∃ bj, bj = (f j && decide (0 < L.length)) := ⟨_, rfl⟩
        rw [← hbj]
        have hB : bj = true → 0 < L.length := fun q => by rw [q] at hbj; have := (Bool.and_eq_true _ _ ▸ hbj.symm : _ ∧ _).2; exact of_decide_eq_true this
        clear hbj
        go_upto_if 41 with fail
        go_cut [5, 6, 8, 9, 10] from 27 to 117 (fun nv dv _ _ _ wx => ∃ (L : List Wm) (D : Option Addr) (cc : Nat) (next : Int), nv = .int .i64 next ∧ dv = .slice D L.length cc ∧ MB 83 64 w.heap.size wx g L (next - 1) ∧ OwnC w.heap.size wx 3 1 D L.length cc (idsC L) ∧ Gd L next ∧ 1 ≤ next ∧ next ≤ j + 2 ∧ L.length ≤ 8 ∧ Ext w wx)
        case first =>
          rcases bj with _ | _
          · have BE : Hid (Try.prog.built 35 [(0, .int .i64 (bits .and .i64 (j : Int) 7))] = some (⟨ord19 j, none, 0⟩ : Wm).ev.toArray) := ord19_ev j (and7 j (by omega))
            have BS := Lib.hid (ord19_st j)
            have gsz := xr.out.size
            have PT : Hid (Calls Try.prog 24 #[.pointer (some ⟨g, 0, none⟩), .agg (⟨ord19 j, none, 0⟩ : Wm).ev.toArray, .agg (ord19 j).stm.toArray] wc fun e w' => e = .returned (.tuple #[.int .i64 (pbI (ord19 j) L.length (next - 1)), .int .i64 (pbE (ord19 j) L.length)]) ∧ (∃ A' c', MB 83 64 w.heap.size w' g (pbL (ord19 j) A' c' L (next - 1)) (pbM (ord19 j) L.length (next - 1))) ∧ Tb w.heap.size tagP wc w') := put_calls (B0 := w.heap.size) (x := ⟨ord19 j, none, 0⟩) mb.out (ord19_ok j) (Bs.nil _) (by omega) (by omega) l8 gsz (Nat.le_refl _) gl
            generalize (⟨ord19 j, none, 0⟩ : Wm).ev = EV at *
            generalize (ord19 j).stm = ST at *
            clear hB mb
            by_cases h8 : L.length = 8
            · rw [(ord19_p8 h8).1, (ord19_p8 h8).2, ord19_full h8] at PT
              simp only [ord19_l8 h8] at PT
              have h8' : ((L.length : Int) == 8) = true := by simp; omega
              go_wp2_with (first
                | (refine wpList_build_as rfl _ _ rfl EV.toArray (by simp only [List.map_toArray, List.map_cons, List.map_nil]; exact BE.out) ?_; simp only [Act.put, List.setIfInBounds_toArray, List.set_cons_zero, List.set_cons_succ])
                | (refine wpList_build_as rfl _ _ rfl ST.toArray (by simp only [List.map_toArray, List.map_cons, List.map_nil]; exact BS.out) ?_; simp only [Act.put, List.setIfInBounds_toArray, List.set_cons_zero, List.set_cons_succ]))
              refine PT.out.mono ?_
              rintro e w4 ⟨rfl, ⟨A4, c4, m4⟩, t4⟩
              have R4 : Hid (MB 83 64 w.heap.size w4 g L (next - 1) ∧ OwnC w.heap.size w4 3 1 D L.length cc (idsC L) ∧ Ext w w4) := ⟨m4, ow.out.tb t4 rfl, Tb.ext xr.out t4⟩
              clear PT BE BS m4 t4 ow xr
              go_wp2_with fail
              go_round
              case rel => exact ⟨j + 1, L, D, cc, next, by omega, by go_num, rfl, by rw [h8], R4.out.1, R4.out.2.1, gd.out, nx1, by omega, l8, R4.out.2.2⟩
              case measure => simp [intOf]; omega
            · have h7 : L.length < 8 := by omega
              rw [(ord19_p h7).1, (ord19_p h7).2, ord19_in h7] at PT
              simp only [ord19_l h7] at PT
              have h8' : ((L.length : Int) == 8) = false := by simp; omega
              have GDN := Lib.hid (fun A c => gd.out.put nx1 (ord19 j) A c)
              go_upto_region 16 with (first
                | (refine wpList_build_as rfl _ _ rfl EV.toArray (by simp only [List.map_toArray, List.map_cons, List.map_nil]; exact BE.out) ?_; simp only [Act.put, List.setIfInBounds_toArray, List.set_cons_zero, List.set_cons_succ])
                | (refine wpList_build_as rfl _ _ rfl ST.toArray (by simp only [List.map_toArray, List.map_cons, List.map_nil]; exact BS.out) ?_; simp only [Act.put, List.setIfInBounds_toArray, List.set_cons_zero, List.set_cons_succ]))
              refine PT.out.mono ?_
              rintro e w4 ⟨rfl, ⟨A4, c4, m4⟩, t4⟩
              have X4 : Hid (Ext w w4) := Tb.ext xr.out t4
              have m5 : Hid (MB 83 64 w.heap.size (w4.alloc (.cells #[.int .i64 next] 3)) g (L ++ [⟨(ord19 j).as next, A4, c4⟩]) next) := m4.ext ((Ext.refl _).alloc _)
              have OW5 : Hid (OwnC w.heap.size (w4.alloc (.cells #[.int .i64 next] 3)) 3 1 D L.length cc (idsC L)) := (ow.out.tb t4 rfl).ext ((Ext.refl _).alloc _)
              have CS5 : Hid (Cs (w4.alloc (.cells #[.int .i64 next] 3)) 1 (some ⟨w4.heap.size, 0, none⟩) 1 1 [[.int .i64 next]]) := cs_one (Cb.new w4 3 [.int .i64 next])
              have X5 : Hid (Ext w (w4.alloc (.cells #[.int .i64 next] 3))) := X4.out.alloc _
              have sz5 := X5.out.size
              have IC : Hid (idsC L ++ [[Value.int .i64 next]] = idsC (L ++ [⟨(ord19 j).as next, A4, c4⟩])) := (idsC_app L [⟨(ord19 j).as next, A4, c4⟩]).symm
              have LL : (L ++ [(⟨(ord19 j).as next, A4, c4⟩ : Wm)]).length = L.length + 1 := by simp
              replace GDN := Lib.hid (GDN.out A4 c4)
              clear PT BE BS m4 t4 ow xr X4
              generalize L ++ [(⟨(ord19 j).as next, A4, c4⟩ : Wm)] = L2 at *
              generalize L.length = ll at *
              have wn : IntKind.i64.wrap (next + 1) = next + 1 := IntWalk.i64_in _ (by omega)
              go_wp2_with (first
                | (refine wpList_slice_c rfl (t := 61) (e := 3) (s := 1) Try.underlying61 infoI rfl (by omega) (by omega) (cs := [.int .i64 next]) rfl rfl rfl rfl ?_; simp only [Act.put, List.setIfInBounds_toArray, List.set_cons_zero, List.set_cons_succ])
                | (refine wpList_append_cc rfl (t := 61) (e := 3) (s := 1) Try.underlying61 infoI rfl (by omega) (by omega) rfl rfl rfl OW5.out CS5.out (fun x hx u hu => by rw [List.mem_singleton.1 hx] at hu; rw [List.mem_singleton.1 hu]; rfl) (by omega) sz5 ?_; intro A6 c6 w6 o6 g6 b6; simp only [Act.put, List.setIfInBounds_toArray, List.set_cons_zero, List.set_cons_succ]))
              go_meet
              exact ⟨L2, A6, c6, next + 1, rfl, by rw [LL], by rw [show next + 1 - 1 = next by omega]; exact m5.out.tb (Tb.grown (B := w.heap.size) g6 (OW5.out.tag (S := tagI) rfl)) rfl rfl rfl, by rw [← IC.out, LL]; exact o6, GDN.out, by omega, by omega, by omega, Below.trans X5.out b6⟩
          · have hL0 := hB rfl
            clear hB
            obtain ⟨k, hk, hkl⟩ : ∃ k : Nat, Int.tmod (j : Int) (L.length : Int) = (k : Int) ∧ k < L.length := ⟨j % L.length, by rw [Int.tmod_eq_emod_of_nonneg (by omega)]; rfl, Nat.mod_lt _ hL0⟩
            have u4 : ¬ (L.length : Int) = 0 := by omega
            have u5 : ((L.length : Int) == 0) = false := beq_eq_false_iff_ne.2 (by omega)
            obtain ⟨⟨gd1, gd1'⟩, gd2, gd3, gd4⟩ := gd.out.drop hkl
            obtain ⟨b2, off2, hD, hb2, hc2⟩ := ids_at ow.out.cs hkl hkl
            have AK : Hid (Calls Try.prog 26 #[.pointer (some ⟨g, 0, none⟩), .int .i64 L[k].d.id] wc fun e w' => e = .returned (.int .i64 0) ∧ MB 83 64 w.heap.size w' g (L.take k ++ L.drop (k + 1)) (next - 1) ∧ Tg w.heap.size tagP g wc w') := by
              have := ack_calls (B0 := w.heap.size) (id := L[k].d.id) mb.out l8 xr.out.size gl
              have gd5 : L[k].d.id ≤ next - 1 := by omega
              rwa [akE_in gd2 gd5 gd1', akL_in gd2 gd5, gd1] at this
            subst hD
            replace gd4 := Lib.hid gd4
            clear gd1 gd1' mb gd
            generalize L[k].d.id = idk at *
            go_wp2_with fail
            refine AK.out.mono ?_
            rintro e w4 ⟨rfl, m4, t4⟩
            have X4 : Hid (Ext w w4) := Tb.ext xr.out t4.1
            have ow4 := Lib.hid (ow.out.tb t4.1 rfl)
            have TAK := Lib.hid (fun s (q : Ext w4 s) => ((ow4.out.cs.ext q).take (k := k) (by omega)))
            have CUT := Lib.hid (fun s (q : Ext w4 s) => ((ow4.out.cs.ext q).cut (k := k + 1) hkl))
            simp only [idsC_take, idsC_drop] at TAK CUT
            have IC : Hid (idsC (L.take k) ++ idsC (L.drop (k + 1)) = idsC (L.take k ++ L.drop (k + 1))) := (idsC_app _ _).symm
            have LN : (L.take k ++ L.drop (k + 1)).length = k + (L.length - (k + 1)) := by simp; omega
            have OT := Lib.hid (idsC_one (L.take k))
            have OD := Lib.hid (idsC_one (L.drop (k + 1)))
            have szw : w.heap.size ≤ w4.heap.size := X4.out.size
            replace m4 := Lib.hid m4
            clear AK t4 ow ow4 xr hc2 hb2
            generalize L.take k ++ L.drop (k + 1) = L2 at *
            generalize idsC (L.take k) = IT at *
            generalize idsC (L.drop (k + 1)) = IDr at *
            generalize L.length = ll at *
            have wk : IntKind.i64.wrap ((k : Int) + 1) = ((k + 1 : Nat) : Int) := (IntWalk.i64_in _ (by omega)).trans rfl
            go_upto_region 14 with fail
            refine wp_region_seq (R := Below w4.heap.size) (Below.refl _) (fun _ _ _ => Below.trans) [1, 2, 3, 5, 6, 7, 8, 0, 4, 9, 10] [0, 4, 9] [(0, 54, 0), (0, 55, 128), (0, 56, 512), (6, 57, 108086391056891904), (9, 58, 162129586585337856), (0, 59, 128), (0, 60, 512), (64, 61, 1152921504606846976), (160, 62, 2882303761517117440), (272, 63, 4899916394579099648), (1023, 7, 9223372036854775808)] (by kernel_rfl) (by kernel_rfl) (by kernel_rfl) rfl (by kernel_rfl) (by kernel_rfl) (fun _ _ d _ _ h => by cases d <;> exact h) ?_
            repeat (first | (refine seq_read (fun _ => True) (fun _ _ => trivial) _ (v := ?_) rfl rfl (by rfl) ?_ ?_; rotate_left; (· intro w' hF; go_simp; (try with_reducible rfl)); simp only [Act.put, List.setIfInBounds_toArray, List.set_cons_zero, List.set_cons_succ]) | (refine seq_skip _ rfl rfl (by rfl) ?_; simp only [Act.put, List.setIfInBounds_toArray, List.set_cons_zero, List.set_cons_succ]))
            refine seq_read (fun _ => True) (fun _ _ => trivial) _ (v := .slice (some ⟨b2, off2, none⟩) k cc) rfl rfl (by rfl) (fun w' _ => exec_toC (s := 1) Try.underlying61 (by kernel_rfl) (A := some ⟨b2, off2, none⟩) (n := ll) (c := cc) (k := k) rfl rfl rfl (by omega)) ?_
            simp only [Act.put, List.setIfInBounds_toArray, List.set_cons_zero, List.set_cons_succ]
            repeat (first | (refine seq_read (fun _ => True) (fun _ _ => trivial) _ (v := ?_) rfl rfl (by rfl) ?_ ?_; rotate_left; (· intro w' hF; go_simp; (try with_reducible rfl)); simp only [Act.put, List.setIfInBounds_toArray, List.set_cons_zero, List.set_cons_succ]) | (refine seq_skip _ rfl rfl (by rfl) ?_; simp only [Act.put, List.setIfInBounds_toArray, List.set_cons_zero, List.set_cons_succ]))
            refine seq_read (fun _ => True) (fun _ _ => trivial) _ (v := .slice (if cc = k + 1 then some ⟨b2, off2, none⟩ else (some ⟨b2, off2, none⟩ : Option Addr).map (·.add ((k + 1) * 1))) (ll - (k + 1)) (cc - (k + 1))) rfl rfl (by rfl) (fun w' _ => exec_fromC (s := 1) Try.underlying61 (by kernel_rfl) (k := k + 1) rfl rfl (congrArg (Value.int .i64) (rfl : (k : Int) + 1 = ((k + 1 : Nat) : Int))) hkl occ) ?_
            simp only [Act.put, List.setIfInBounds_toArray, List.set_cons_zero, List.set_cons_succ]
            have SE : Hid (Ext w4 w4.drew) := (Ext.refl w4).drew
            obtain ⟨AC, hac⟩ : ∃ AC, AC = (if cc = k + 1 then some ⟨b2, off2, none⟩ else (some ⟨b2, off2, none⟩ : Option Addr).map (·.add ((k + 1) * 1))) := ⟨_, rfl⟩
            rw [← hac] at CUT ⊢
            clear hac
            generalize w4.drew = WC at *
            refine seq_do _ rfl rfl (by rfl) (fun K hK => ?_)
            go_simp
            have o1 : Hid (OwnC w4.heap.size (WC.alloc (Obj.cells #[] 3)) 3 1 (some ⟨WC.heap.size, 0, none⟩) 0 0 []) := ⟨World.ownsRow_lit WC #[] 0 SE.out.size (Nat.zero_le _) rfl, fun x hx => (by cases hx), rfl⟩
            have e1 : Ext WC (WC.alloc (Obj.cells #[] 3)) := (Ext.refl WC).alloc _
            have S1 : Hid (Ext w4 (WC.alloc (Obj.cells #[] 3))) := SE.out.trans e1
            refine hK.out _ _ (e1.mono SE.out.size) ?_
            clear hK K
            try simp only [Act.put, List.setIfInBounds_toArray, List.set_cons_zero, List.set_cons_succ]
            clear e1 SE
            generalize WC.alloc (Obj.cells #[] 3) = W1 at *
            generalize WC.heap.size = s1 at *
            clear WC
            refine seq_do _ rfl rfl (by rfl) (fun K hK => ?_)
            refine wp_append_cc (t := 61) (e := 3) (s := 1) Try.underlying61 infoI rfl (by omega) (by omega) rfl rfl rfl o1.out (TAK.out _ S1.out) OT.out (by omega) S1.out.size ?_
            intro A5 c5 w5 o5 g5 b5
            simp only [Nat.zero_add, List.nil_append] at o5 ⊢
            refine hK.out _ _ b5 ?_
            clear hK K
            try simp only [Act.put, List.setIfInBounds_toArray, List.set_cons_zero, List.set_cons_succ]
            have S2 : Hid (Ext w4 w5) := Below.trans S1.out b5
            clear o1 S1 g5 b5 TAK
            refine seq_do _ rfl rfl (by rfl) (fun K hK => ?_)
            refine wp_append_cc (t := 61) (e := 3) (s := 1) Try.underlying61 infoI rfl (by omega) (by omega) rfl rfl rfl o5 (CUT.out _ S2.out) OD.out (by omega) S2.out.size ?_
            intro A6 c6 w6 o6 g6 b6
            refine hK.out _ _ b6 ?_
            clear hK K
            try simp only [Act.put, List.setIfInBounds_toArray, List.set_cons_zero, List.set_cons_succ]
            have S3 : Hid (Ext w4 w6) := Below.trans S2.out b6
            clear o5 S2 g6 b6 CUT
            replace o6 := Lib.hid o6
            repeat (first | (refine seq_read (fun _ => True) (fun _ _ => trivial) _ (v := ?_) rfl rfl (by rfl) ?_ ?_; rotate_left; (· intro w' hF; go_simp; (try with_reducible rfl)); simp only [Act.put, List.setIfInBounds_toArray, List.set_cons_zero, List.set_cons_succ]) | (refine seq_skip _ rfl rfl (by rfl) ?_; simp only [Act.put, List.setIfInBounds_toArray, List.set_cons_zero, List.set_cons_succ]))
            refine seq_done ?_
            go_wp2_with fail
            all_goals (
              go_meet
              exact ⟨L2, A6, c6, next, rfl, by rw [LN], m4.out.ext S3.out, by rw [← IC.out, LN]; exact o6.out.mono szw, gd4.out, by omega, by omega, by omega, X4.out.trans S3.out⟩)
        case rest =>
          clear mb ow gd xr occ occ2 l8 nx1 nx2 hB
          obtain ⟨L, D, cc, next, rfl, rfl, mb, ow, gd, nx1, nx2, l8, xr⟩ := hcut
          have LS := Lib.hid (list_calls mb l8)
          have IDS := Lib.hid (fun k (h : k < L.length) s (q : Ext wc s) => ids_at (ow.cs.ext q) h h)
          have KEEP : Hid (∀ s, Ext wc s → MB 83 64 w.heap.size s g L (next - 1) ∧ OwnC w.heap.size s 3 1 D L.length cc (idsC L) ∧ Ext w s) := fun s q => ⟨mb.ext q, ow.ext q, xr.trans q⟩
          have occ2 : cc ≤ 9223372036854775807 := by have := ow.cap.2; unfold maxLen at this; omega
          have occ := ow.cap.1
          replace gd := Lib.hid gd
          clear mb ow xr
          go_wp2_with fail
          refine LS.out.mono ?_
          rintro e w8 ⟨q, L', rfl, hq, kq, hd, hbd, x8⟩
          have ll : L'.length = L.length := by rw [← List.length_map (f := fun x : Wm => x.d), hd, List.length_map]
          have QID : Hid (∀ k (h : k < L.length) s, Ext w8 s → s.cell? ⟨q, k * 138, none⟩ = some (.int .i64 L[k].d.id)) := fun k h s e => by
            have h' : k < L'.length := by omega
            have hk : L'[k].d = L[k].d := by
              have := congrArg (fun l => l[k]?) hd
              simp only [List.getElem?_map, List.getElem?_eq_getElem h', List.getElem?_eq_getElem h, Option.map_some] at this
              exact Option.some.inj this
            refine (kq.ext e).cell ?_
            have := flat_at (L := L'.map Wm.C) (s := 138) (fun x hx => by obtain ⟨y, hy, rfl⟩ := List.mem_map.1 hx; exact y.C_len (hbd y hy).1) (j := k) (i := 0) (by rw [List.length_map]; exact h') (by omega)
            rw [Nat.add_zero] at this
            rw [this, List.getD_eq_getElem?_getD, List.getElem?_map, List.getElem?_eq_getElem h']
            show (L'[k].C)[0]? = _
            rw [Wm.c0, hk]
          replace x8 := Lib.hid x8
          clear LS kq hd hbd ll hq L'
          have hnn : ((L.length : Int) != (L.length : Int)) = false := by simp
          go_wp2_with fail
          go_loopw [12] (fun v wr => ∃ k : Nat, k ≤ L.length ∧ v = .int .i64 (k : Int) ∧ Ext w8 wr) (fun v _ => L.length - (intOf v).toNat)
          case atStart => exact ⟨0, Nat.zero_le _, rfl, Ext.refl _⟩
          case round =>
            obtain ⟨k, hkl, rfl, xk⟩ := hrel
            by_cases hlk : k < L.length
            · obtain ⟨b2, off2, hD, hb2, _⟩ := IDS.out k hlk _ (Ext.refl _)
              subst hD
              have I1 : Hid (∀ s, Ext wr s → s.cell? ⟨q, k * 138, none⟩ = some (.int .i64 L[k].d.id) ∧ s.cell? ⟨b2, off2 + k, none⟩ = some (.int .i64 L[k].d.id)) := fun s e => ⟨QID.out k hlk s (xk.trans e), by
                obtain ⟨b3, off3, h3, _, hc3⟩ := IDS.out k hlk s (x8.out.trans (xk.trans e))
                cases h3
                exact hc3⟩
              generalize L[k].d.id = idk at *
              replace xk := Lib.hid xk
              go_upto_region 29 with fail
              refine wp_region_seq (R := Ext) Ext.refl (fun _ _ _ => Ext.trans) [0, 1, 2, 3, 4, 5, 6, 7, 8, 9] [] [(0, 109, 4096), (0, 110, 8192), (3, 111, 1947111321950560360698936123457536), (4, 112, 2596148429267413814265248164610048), (8, 113, 5192296858534827628530496329220096), (0, 114, 128), (0, 115, 8192), (96, 116, 62307562302417931542365955950641152), (128, 117, 83076749736557242056487941267521536), (272, 118, 176538093190184139370036875193483264)] (by kernel_rfl) (by kernel_rfl) (by kernel_rfl) rfl (by kernel_rfl) (by kernel_rfl) (fun _ _ d _ _ h => by cases d <;> exact h) ?_
              repeat (first | (refine seq_read _ (fun w' e => I1.out w' (Ext.trans (Ext.refl _).drew e)) _ (v := ?_) rfl rfl (by rfl) ?_ ?_; rotate_left; (· intro w' hF; go_simp; (try with_reducible rfl)); simp only [Act.put, List.setIfInBounds_toArray, List.set_cons_zero, List.set_cons_succ]) | (refine seq_skip _ rfl rfl (by rfl) ?_; simp only [Act.put, List.setIfInBounds_toArray, List.set_cons_zero, List.set_cons_succ]))
              refine seq_done ?_
              have X2 : Hid (Ext w8 wr.drew) := xk.out.drew
              clear I1 xk
              go_wp2_with fail
              go_round
              case rel => exact ⟨k + 1, by omega, by go_num, X2.out⟩
              case measure => simp [intOf]; omega
            · obtain rfl : k = L.length := by omega
              obtain ⟨k1, k2, k3⟩ := KEEP.out _ (x8.out.trans xk)
              clear IDS QID KEEP
              replace k1 := Lib.hid k1
              replace k2 := Lib.hid k2
              replace k3 := Lib.hid k3
              go_wp2_with fail
              go_round
              case rel => exact ⟨j + 1, L, D, cc, next, by omega, by go_num, rfl, rfl, k1.out, k2.out, gd.out, nx1, by omega, l8, k3.out⟩
              case measure => simp [intOf]; omega
      · obtain rfl : j = n := by omega
        clear mb ow gd
        go_wp2_with fail
        go_ret
        exact ⟨rfl, xr⟩
end Go.Proofs.Ytojgmgghlkpfoaa
