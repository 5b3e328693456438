/-
  palfreyref21: Sync.
-/
import Derived.Test.YteaoacinhdjkeaaRdW
namespace Go.Proofs.Yteaoacinhdjkeaa
open Go.ChangeShapes Go.WideShapes Go.ChangeAt Go.RowKit Go.Deep Go.Maps
set_option maxRecDepth 100000

/-- A disk whose first k sectors are made sure. -/
def Ds.fl (d : Ds) (k : Nat) : Ds := { d with S := (List.range d.S.length).map fun i => if i < k then (d.N i).getD (d.S.getD i []) else d.S.getD i [], N := fun i => if i < k then none else d.N i }
theorem fl_len (d : Ds) (k : Nat) : (d.fl k).S.length = d.S.length := by simp [Ds.fl]
theorem fl_at {d : Ds} {k i : Nat} (h : i < d.S.length) : (d.fl k).S.getD i [] = if i < k then (d.N i).getD (d.S.getD i []) else d.S.getD i [] := by
  show ((List.range d.S.length).map _).getD i [] = _
  rw [List.getD_eq_getElem?_getD, List.getElem?_map, List.getElem?_range h]
  rfl
theorem ext_getD {L M : List (List UInt8)} (h : L.length = M.length) (k : ∀ i, i < L.length → L.getD i [] = M.getD i []) : L = M := by
  apply List.ext_getElem h
  intro i h1 h2
  have := k i h1
  rwa [List.getD_eq_getElem?_getD, List.getElem?_eq_getElem h1, List.getD_eq_getElem?_getD, List.getElem?_eq_getElem h2] at this
theorem fl_zero (d : Ds) : d.fl 0 = d := by
  have h1 : (d.fl 0).S = d.S := ext_getD (fl_len d 0) fun i hi => by rw [fl_at (by rwa [fl_len] at hi), if_neg (by omega)]
  have h2 : (d.fl 0).N = d.N := by funext i; show (if i < 0 then none else d.N i) = _; rw [if_neg (by omega)]
  show (⟨(d.fl 0).S, (d.fl 0).N, d.hf, d.f, d.dd⟩ : Ds) = d
  rw [h1, h2]
theorem fl_full {d : Ds} (ok : d.ok) : d.fl d.S.length = d.flush := by
  have h1 : (d.fl d.S.length).S = d.flush.S := ext_getD (by rw [fl_len]; simp [Ds.flush]) fun i hi => by
    rw [fl_len] at hi
    rw [fl_at hi, if_pos hi]
    show _ = ((List.range d.S.length).map _).getD i []
    rw [List.getD_eq_getElem?_getD (l := (List.range d.S.length).map _), List.getElem?_map, List.getElem?_range hi]
    rfl
  have h2 : (d.fl d.S.length).N = d.flush.N := by
    funext i
    show (if i < d.S.length then none else d.N i) = none
    by_cases q : i < d.S.length
    · rw [if_pos q]
    · rw [if_neg q]
      cases z : d.N i
      · rfl
      · exact absurd (ok.nl _ _ z).2 q
  show (⟨(d.fl d.S.length).S, (d.fl d.S.length).N, d.hf, d.f, d.dd⟩ : Ds) = ⟨d.flush.S, d.flush.N, d.hf, d.f, d.dd⟩
  rw [h1, h2]
theorem fl_ok {d : Ds} (ok : d.ok) (k : Nat) : (d.fl k).ok := ⟨by rw [fl_len]; exact ok.low, by rw [fl_len]; exact ok.most, fun s hs => by
  obtain ⟨i, hi, rfl⟩ := List.mem_iff_getElem.1 hs
  have q := fl_at (d := d) (k := k) (i := i) (by rwa [fl_len] at hi)
  rw [List.getD_eq_getElem?_getD, List.getElem?_eq_getElem hi, Option.getD_some] at q
  rw [q]
  have hs : (d.S.getD i []).length = 64 := by
    have : i < d.S.length := by rwa [fl_len] at hi
    rw [List.getD_eq_getElem?_getD, List.getElem?_eq_getElem this, Option.getD_some]
    exact ok.sl _ (List.getElem_mem this)
  split
  · cases z : d.N i
    · exact hs
    · exact (ok.nl _ _ z).1
  · exact hs, fun i s h => by
    rw [fl_len]
    have h : (if i < k then none else d.N i) = some s := h
    split at h
    · cases h
    · exact ok.nl i s h, ok.fl⟩
theorem fl_S_some {d : Ds} {k : Nat} {s : List UInt8} (hk : k < d.S.length) (h : d.N k = some s) : (d.fl (k + 1)).S = (d.fl k).S.set k s := ext_getD (by rw [List.length_set, fl_len, fl_len]) fun i hi => by
  rw [fl_len] at hi
  rw [fl_at hi]
  by_cases q : k = i
  · subst q
    rw [if_pos (by omega), h, List.getD_eq_getElem?_getD (l := List.set ..), List.getElem?_set_self (by rw [fl_len]; exact hk)]
    rfl
  · rw [List.getD_eq_getElem?_getD (l := List.set ..), List.getElem?_set_ne q, ← List.getD_eq_getElem?_getD, fl_at hi]
    by_cases z : i < k
    · rw [if_pos (by omega), if_pos z]
    · rw [if_neg (by omega), if_neg z]
theorem fl_S_none {d : Ds} {k : Nat} (h : d.N k = none) : (d.fl (k + 1)).S = (d.fl k).S := ext_getD (by rw [fl_len, fl_len]) fun i hi => by
  rw [fl_len] at hi
  rw [fl_at hi, fl_at hi]
  by_cases q : k = i
  · subst q
    rw [if_pos (by omega), if_neg (by omega), h]
    rfl
  · by_cases z : i < k
    · rw [if_pos (by omega), if_pos z]
    · rw [if_neg (by omega), if_neg z]
theorem fl_isC {d : Ds} {k : Nat} : (d.fl (k + 1)).isC = (d.fl k).isC.set k (.bool false) := by
  unfold Ds.isC
  rw [fl_len, fl_len]
  apply List.ext_getElem?
  intro i
  rw [List.getElem?_map, List.getElem?_set, List.getElem?_map, List.length_map, List.length_range]
  by_cases h : i < d.S.length
  · rw [List.getElem?_range h, Option.map_some, Option.map_some]
    show some (Value.bool (if i < k + 1 then none else d.N i).isSome) = if k = i then (if k < d.S.length then some (Value.bool false) else none) else some (Value.bool (if i < k then none else d.N i).isSome)
    by_cases q : k = i
    · subst q
      rw [if_pos rfl, if_pos h, if_pos (by omega)]; rfl
    · rw [if_neg q]
      by_cases z : i < k
      · rw [if_pos (by omega), if_pos z]
      · rw [if_neg (by omega), if_neg z]
  · rw [List.getElem?_eq_none (by rw [List.length_range]; omega)]
    by_cases q : k = i
    · subst q
      rw [if_pos rfl, if_neg h]; rfl
    · rw [if_neg q]; rfl
theorem fl_rcells (d : Ds) (k r m i : Nat) : (d.fl k).rcells r m i = d.rcells r m i := by
  unfold Ds.rcells
  rw [fl_len]
  rfl
theorem fl_N {d : Ds} {k : Nat} : (d.fl k).N k = d.N k := by show (if k < k then none else d.N k) = _; rw [if_neg (by omega)]
set_option maxHeartbeats 4000000 in
theorem rsync_calls {w : World} {g r m ir : Nat} {d : Ds} {X : List (List UInt8)} (h : RD w g r m ir d X) :
    Calls Try.prog 48 #[.pointer (some ⟨g, 0, none⟩)] w fun e w' => e = .returned (.int .i64 (if d.fails then 13 else 0)) ∧ RD w' g r m ir (if d.fails then d.burn else d.burn.flush) X ∧ Ot (Rp g r m ir) w w' := by
  have BU := Lib.hid (rburn_calls h)
  obtain ⟨fa, hfa⟩ : ∃ q, q = d.fails := ⟨_, rfl⟩
  rw [← hfa] at BU ⊢
  clear hfa h
  generalize d.burn = D at *
  go_enter Try.func48, Try.ntmps48
  go_wp2_with fail
  refine BU.out.mono ?_
  rintro e w2 ⟨rfl, rd2, g2⟩
  have T2 : Hid (Ot (Rp g r m ir) w w2) := Ot.of_grown g2 (.inl rfl)
  clear BU g2
  cases fa with
  | true =>
    replace rd2 := Lib.hid rd2
    go_wp2_with fail
    go_ret
    exact ⟨rfl, rd2.out, T2.out⟩
  | false =>
    have ok := Lib.hid rd2.ok
    have xl := rd2.xl
    have XS := Lib.hid rd2.xs
    have XN := Lib.hid rd2.xn
    have nn := And.intro rd2.gr (And.intro rd2.gn (And.intro rd2.gi (And.intro rd2.ri rd2.ni)))
    have m64 := rd2.ok.most
    replace rd2 : RQ w2 g r m ir (D.rcells r m ir) (D.fl 0).S X (D.fl 0).isC := by rw [fl_zero]; exact rd2.rq
    replace rd2 := Lib.hid rd2
    obtain ⟨n1, n2, n3, n4, n5⟩ := nn
    go_wp2_with fail
    go_loopw [3] (fun v wr => ∃ k : Nat, k ≤ D.S.length ∧ v = .int .i64 (k : Int) ∧ RQ wr g r m ir (D.rcells r m ir) (D.fl k).S X (D.fl k).isC ∧ Ot (Rp g r m ir) w wr) (fun v _ => D.S.length - (intOf v).toNat)
    case atStart => exact ⟨0, Nat.zero_le _, rfl, rd2.out, T2.out⟩
    case round =>
      clear rd2 T2
      obtain ⟨k, hk, rfl, rq, tr⟩ := hrel
      have c2 : wr.cell? ⟨g, 2, none⟩ = some (.slice (some ⟨ir, 0, none⟩) D.S.length D.S.length) := rq.cb.cell rfl
      by_cases hlt : k < D.S.length
      · have ci : wr.cell? ⟨ir, k, none⟩ = some (.bool (D.N k).isSome) := by
          rw [← fl_N]
          exact rq.ir.cell (isC_at (by rw [fl_len]; exact hlt))
        have fi := rq.ir.frozen k
        have u1 : (0 : Int) ≤ (k : Int) := by omega
        have u2 : (k : Int) < (D.S.length : Int) := by omega
        have hk1 : IntKind.i64.wrap ((k : Int) + 1) = (k : Int) + 1 := IntWalk.i64_in _ (by omega)
        cases hN : D.N k with
        | none =>
          rw [hN] at ci
          have F : Hid (RQ (wr.setCell ⟨ir, k, none⟩ (.bool false)) g r m ir (D.rcells r m ir) (D.fl (k + 1)).S X (D.fl (k + 1)).isC ∧ Ot (Rp g r m ir) w (wr.setCell ⟨ir, k, none⟩ (.bool false))) := by
            have q := rq.putI k (.bool false)
            rw [← fl_isC, ← fl_S_none hN] at q
            exact ⟨q, tr.trans (Ot.cell _ _ _ (.inr (.inr (.inr rfl))))⟩
          clear rq tr hN
          go_wp2_with fail
          go_round
          case rel => exact ⟨k + 1, by omega, by go_num, F.out.1, F.out.2⟩
          case measure => simp [intOf]; omega
        | some s =>
          rw [hN] at ci
          have ls := (ok.out.nl _ _ hN).1
          have hX : X.getD k [] = s := XN.out _ _ hN
          have S_s : (cellsOf s).toArray.size = 64 := by simp [cellsOf_len, ls]
          have C_s : (cellsOf s).length = 64 := by rw [cellsOf_len, ls]
          have O_s := one_cells (one_mem s)
          have okk := fl_ok ok.out k
          have rqd : RQ wr.drew g r m ir (D.rcells r m ir) (D.fl k).S X (D.fl k).isC := rq.ext (Ext.refl wr).drew
          obtain ⟨p1, p2⟩ := rqd.putS okk.sl (k := k) (by rw [fl_len]; exact hlt) ls
          rw [← fl_S_some hlt hN] at p1
          have e3 := grown_setCells (w := wr.drew) (g := r) (o := k * 64) (vs := cellsOf s)
          have G5 : Hid (RQ (wr.drew.setCells r (k * 64) (cellsOf s)) g r m ir (D.rcells r m ir) (D.fl (k + 1)).S X (D.fl k).isC ∧ Ot (Rp g r m ir) w (wr.drew.setCells r (k * 64) (cellsOf s))) := ⟨p1, tr.trans ((Ot.of_ext (Ext.refl wr).drew).trans (Ot.of_grown e3 (.inr (.inl rfl))))⟩
          have F5 : Hid (∀ s', wr.drew.grownBy s' (some r) → (s'.cell? ⟨g, 0, none⟩ = some (.slice (some ⟨r, 0, none⟩) D.S.length D.S.length) ∧ s'.cell? ⟨g, 1, none⟩ = some (.slice (some ⟨m, 0, none⟩) D.S.length D.S.length)) ∧ (∀ j v, (cellsOf s)[j]? = some v → s'.cell? ⟨m, k * 64 + j, none⟩ = some v)) := fun s' e => by
            have hg := cell_of_heap21 (e.block g rq.cb.lt (fun q => n1 (Option.some.inj q)))
            have hm : Cb s' m 48 (X.map cellsOf).flatten := (e.block m rq.nr.lt (fun q => rq.ne (Option.some.inj q).symm)).trans rq.nr
            have := row_at hm XS.out (k := k) (by rw [xl]; exact hlt)
            rw [hX] at this
            exact ⟨⟨(hg 0).trans (rq.cb.cell rfl), (hg 1).trans (rq.cb.cell rfl)⟩, this⟩
          replace p2 := Lib.hid p2
          clear rq tr rqd p1 e3 okk hX hN fi
          go_upto_region 7 with fail
          clear ci c2
          refine qgW r [0, 1, 2, 3, 4, 5, 6, 7, 8, 9, 10, 11, 12, 13] [13] ?_
          generalize wr.drew = W at *
          repeat ((first | refine qR _ (fun w' e => (F5.out w' e).1) ?_ | refine qS ?_); go_frame)
          refine qV rfl (fun w' => ∀ q_ v, (cellsOf s)[q_]? = some v → w'.cell? ⟨m, (k * 64) + q_, none⟩ = some v) (fun w' e => (F5.out w' e).2) (.agg (cellsOf s).toArray) (fun w' hF => exec_load_mid rfl rfl hF rfl rfl (by rw [C_s]; rfl)) ?_
          go_frame
          repeat ((first | refine qR _ (fun w' e => (F5.out w' e).1) ?_ | refine qS ?_); go_frame)
          refine qD fun K hK => ?_
          refine wp_store_mid 48 _ _ rfl r (k * 64) (cellsOf s).toArray rfl rfl (by rw [S_s]; exact p2.out) (by rw [S_s]; rfl) O_s ?_
          refine hK.out _ _ grown_setCells ?_
          clear hK K
          try go_frame
          repeat ((first | refine qR0 ?_ | refine qS ?_); go_frame)
          refine seq_done ?_
          refine gen_q (fun W => RQ W g r m ir (D.rcells r m ir) (D.fl (k + 1)).S X (D.fl k).isC ∧ Ot (Rp g r m ir) w W) G5.out ?_
          clear G5 F5 p2
          rintro w3 ⟨rq, t3⟩
          have c2 : w3.cell? ⟨g, 2, none⟩ = some (.slice (some ⟨ir, 0, none⟩) D.S.length D.S.length) := rq.cb.cell rfl
          have ci : w3.cell? ⟨ir, k, none⟩ = some (.bool ((D.fl k).N k).isSome) := rq.ir.cell (isC_at (by rw [fl_len]; exact hlt))
          have fi := rq.ir.frozen k
          have F : Hid (RQ (w3.setCell ⟨ir, k, none⟩ (.bool false)) g r m ir (D.rcells r m ir) (D.fl (k + 1)).S X (D.fl (k + 1)).isC ∧ Ot (Rp g r m ir) w (w3.setCell ⟨ir, k, none⟩ (.bool false))) := by
            have q := rq.putI k (.bool false)
            rw [← fl_isC] at q
            exact ⟨q, t3.trans (Ot.cell _ _ _ (.inr (.inr (.inr rfl))))⟩
          clear rq t3
          go_wp2_with fail
          go_round
          case rel => exact ⟨k + 1, by omega, by go_num, F.out.1, F.out.2⟩
          case measure => simp [intOf]; omega
      · obtain rfl : k = D.S.length := by omega
        have F : Hid (RD wr g r m ir D.flush X ∧ Ot (Rp g r m ir) w wr) := by
          rw [← fl_rcells D D.S.length, fl_full ok.out] at rq
          refine ⟨rq.rd ?_ ?_ XS.out (fun j s q => by cases q), tr⟩
          · rw [← fl_full ok.out]; exact fl_ok ok.out _
          · rw [xl]; simp [Ds.flush]
        clear rq tr
        go_wp2_with fail
        go_ret
        exact ⟨rfl, F.out.1, F.out.2⟩
end Go.Proofs.Yteaoacinhdjkeaa
