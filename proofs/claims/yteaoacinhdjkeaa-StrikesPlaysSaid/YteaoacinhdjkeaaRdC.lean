import Derived.Test.YteaoacinhdjkeaaPkD
import Derived.Test.YteaoacinhdjkeaaDkC
/-
  palfreyref21: Pending, Crash, Ints.
-/
namespace Go.Proofs.Yteaoacinhdjkeaa
open Go.ChangeShapes Go.WideShapes Go.ChangeAt Go.RowKit Go.Deep Go.Maps
set_option maxRecDepth 100000

set_option maxHeartbeats 4000000 in
theorem rpending_calls {w : World} {g r m ir : Nat} {d : Ds} {X : List (List UInt8)} (h : RD w g r m ir d X) :
    Calls Try.prog 50 #[.pointer (some ⟨g, 0, none⟩)] w fun e w' => ∃ A c, e = .returned (.slice A (d.pend d.S.length).length c) ∧ OwnC w.heap.size w' 3 1 A (d.pend d.S.length).length c (iC (d.pend d.S.length)) ∧ Ext w w' := by
  have hm := h.ok.most
  have C0 : Hid (∀ s, Ext w s → s.cell? ⟨g, 2, none⟩ = some (.slice (some ⟨ir, 0, none⟩) d.S.length d.S.length) ∧ ∀ k, k < d.S.length → s.cell? ⟨ir, k, none⟩ = some (.bool (d.N k).isSome)) := fun s e => ⟨(h.ext e).cb.cell rfl, fun k hk => (h.ext e).ir.cell (isC_at hk)⟩
  have OW : Hid (OwnC w.heap.size w 3 1 none 0 0 (iC (d.pend 0))) := Lib.hid (OwnC.nil _ _ _ _)
  clear h
  go_enter Try.func50, Try.ntmps50
  go_wp2_with fail
  go_loopw [3, 4] (fun sv iv wr => ∃ (k c : Nat) (A : Option Addr), iv = .int .i64 (k : Int) ∧ k ≤ d.S.length ∧ sv = .slice A (d.pend k).length c ∧ OwnC w.heap.size wr 3 1 A (d.pend k).length c (iC (d.pend k)) ∧ Ext w wr) (fun _ iv _ => ((d.S.length : Int) - intOf iv).toNat)
  case atStart => exact ⟨0, 0, none, rfl, Nat.zero_le _, rfl, OW.out, Ext.refl w⟩
  case round =>
    obtain ⟨k, c, A, rfl, hk, rfl, ow, xr⟩ := hrel
    clear OW
    obtain ⟨c2, ck⟩ := C0.out wr xr
    by_cases hlt : k < d.S.length
    · have u0 : decide ((k : Int) < (d.S.length : Int)) = true := decide_eq_true (by omega)
      have u1 : (0 : Int) ≤ (k : Int) := by omega
      have u2 : (k : Int) < (d.S.length : Int) := by omega
      have ad : IntKind.i64.wrap ((k : Int) + 1) = (k : Int) + 1 := IntWalk.i64_in _ (by omega)
      have hme : Hid (((d.S.length : Int) - ((k : Int) + 1)).toNat < ((d.S.length : Int) - (k : Int)).toNat) := by unfold Hid; omega
      have ci := ck k hlt
      clear ck
      have PS := Lib.hid (pend_succ d k)
      obtain ⟨is, his⟩ : ∃ q, q = (d.N k).isSome := ⟨_, rfl⟩
      rw [← his] at PS ci
      clear his
      have pl := pend_len d k
      cases is with
      | false =>
        have F := Lib.hid (show d.pend (k + 1) = d.pend k from by rw [PS.out]; simp)
        replace ow := Lib.hid ow
        replace xr := Lib.hid xr
        go_wp2_with fail
        go_round
        case rel => exact ⟨k + 1, c, A, rfl, hlt, by rw [F.out], by rw [F.out]; exact ow.out, xr.out⟩
        case measure => exact hme.out
      | true =>
        have F := Lib.hid (show d.pend (k + 1) = d.pend k ++ [k] from by rw [PS.out]; simp)
        have hzs : (Value.int .i64 0).cells.size = 1 := rfl
        have n1 : Hid ((wr.alloc (.cells #[.int .i64 (k : Int)] 3)).heap[wr.heap.size]? = some (.cells [Value.int .i64 (k : Int)].toArray 3 (0, 0))) := heap_alloc_new _ _
        have o2 := Lib.hid (ow.ext ((Ext.refl wr).alloc (.cells #[.int .i64 (k : Int)] 3)))
        have X2 := Lib.hid (xr.alloc (.cells #[.int .i64 (k : Int)] 3))
        have z2 : Hid (w.heap.size ≤ (wr.alloc (.cells #[.int .i64 (k : Int)] 3)).heap.size) := X2.out.size
        have C_1 : [Value.int .i64 (k : Int)].length = 1 := rfl
        have one1 : ∀ u ∈ [Value.int .i64 (k : Int)], u.oneCell' = true := fun u hu => by rw [List.mem_singleton.1 hu]; rfl
        clear ow xr PS
        go_wp2_with (at_builtin; (with_reducible refine wpList_append_c rfl Try.underlying73 infoI21 hzs (by omega) (by omega) (x := .tmp 21) (y := .tmp 23) rfl rfl rfl o2.out n1.out C_1 one1 (by omega) z2.out ?_); intro A3 c3 w3 o3 g3 b3; replace o3 := Lib.hid o3; replace g3 := Lib.hid g3; replace b3 := Lib.hid b3; go_frame)
        go_round
        case rel => exact ⟨k + 1, c3, A3, rfl, hlt, by rw [F.out, List.length_append]; rfl, by rw [F.out, List.length_append, iC, List.map_append]; exact o3.out, Below.trans X2.out b3.out⟩
        case measure => exact hme.out
    · obtain rfl : k = d.S.length := by omega
      have u1 : decide ((d.S.length : Int) < (d.S.length : Int)) = false := decide_eq_false (by omega)
      replace ow := Lib.hid ow
      replace xr := Lib.hid xr
      clear ck
      go_wp2_with fail
      go_ret
      exact ⟨A, c, rfl, ow.out, xr.out⟩
/-- The document's disk of which k of those that were not sure are settled. -/
def Ds.cr (d : Ds) (kept k : Nat) : Ds := ⟨d.crS kept (d.pend d.S.length) k, fun j => if j ∈ (d.pend d.S.length).take k then none else d.N j, d.hf, d.f, d.dd⟩
theorem cr_len (d : Ds) (kept k : Nat) : (d.cr kept k).S.length = d.S.length := crS_len _
theorem cr_zero (d : Ds) (kept : Nat) : d.cr kept 0 = d := by
  have h2 : (d.cr kept 0).N = d.N := by funext i; show (if i ∈ (d.pend d.S.length).take 0 then none else d.N i) = _; rw [List.take_zero, if_neg (by simp)]
  show (⟨d.S, (d.cr kept 0).N, d.hf, d.f, d.dd⟩ : Ds) = d
  rw [h2]
theorem cr_isC {d : Ds} {kept k : Nat} (hk : k < (d.pend d.S.length).length) : (d.cr kept (k + 1)).isC = (d.cr kept k).isC.set ((d.pend d.S.length).getD k 0) (.bool false) := by
  unfold Ds.isC
  rw [cr_len, cr_len]
  have hl := (pend_getD (d := d) (m := d.S.length) hk).1
  obtain ⟨n, hn⟩ : ∃ n, n = (d.pend d.S.length).getD k 0 := ⟨_, rfl⟩
  rw [← hn] at hl ⊢
  have tk : (d.pend d.S.length).take (k + 1) = (d.pend d.S.length).take k ++ [n] := by
    rw [List.take_succ_eq_append_getElem hk, hn, List.getD_eq_getElem?_getD, List.getElem?_eq_getElem hk]; rfl
  apply List.ext_getElem?
  intro i
  rw [List.getElem?_map, List.getElem?_set, List.getElem?_map, List.length_map, List.length_range]
  by_cases h : i < d.S.length
  · rw [List.getElem?_range h, Option.map_some, Option.map_some]
    show some (Value.bool (if i ∈ (d.pend d.S.length).take (k + 1) then none else d.N i).isSome) = if n = i then (if n < d.S.length then some (Value.bool false) else none) else some (Value.bool (if i ∈ (d.pend d.S.length).take k then none else d.N i).isSome)
    rw [tk]
    by_cases q : n = i
    · subst q
      rw [if_pos rfl, if_pos h, if_pos (List.mem_append_right _ (List.mem_singleton.2 rfl))]; rfl
    · rw [if_neg q]
      by_cases z : i ∈ (d.pend d.S.length).take k
      · rw [if_pos (List.mem_append_left _ z), if_pos z]
      · rw [if_neg (fun y => by
          rcases List.mem_append.1 y with y | y
          · exact z y
          · exact q (List.mem_singleton.1 y).symm), if_neg z]
  · rw [List.getElem?_eq_none (by rw [List.length_range]; omega)]
    by_cases q : n = i
    · subst q
      exact absurd hl h
    · rw [if_neg q]; rfl
theorem cr_rcells (d : Ds) (kept k r m i : Nat) : (d.cr kept k).rcells r m i = d.rcells r m i := by
  unfold Ds.rcells
  rw [cr_len]
  rfl
theorem cr_full {d : Ds} (ok : d.ok) {kept : Nat} : (d.cr kept (d.pend d.S.length).length).isC = (d.crash kept).isC := by
  unfold Ds.isC
  rw [cr_len, crash_S]
  apply List.map_congr_left
  intro i hi
  show Value.bool (if i ∈ (d.pend d.S.length).take (d.pend d.S.length).length then none else d.N i).isSome = Value.bool (none : Option (List UInt8)).isSome
  rw [List.take_length]
  by_cases q : i ∈ d.pend d.S.length
  · rw [if_pos q]
  · rw [if_neg q]
    cases z : d.N i
    · rfl
    · exact absurd (pend_mem.2 ⟨List.mem_range.1 hi, by rw [z]; rfl⟩) q
theorem cr_S_some {d : Ds} {kept k : Nat} : (d.cr kept (k + 1)).S = if kept / 2 ^ k % 2 = 1 then (d.cr kept k).S.set ((d.pend d.S.length).getD k 0) ((d.N ((d.pend d.S.length).getD k 0)).getD []) else (d.cr kept k).S := rfl
set_option maxHeartbeats 8000000 in
theorem rcrash_calls {w : World} {g r m ir : Nat} {d : Ds} {X : List (List UInt8)} (h : RD w g r m ir d X) {kept : Nat} (hk : kept < 18446744073709551616) :
    Calls Try.prog 21 #[.pointer (some ⟨g, 0, none⟩), .int .u64 (kept : Int)] w fun e w' => e = .returned (.tuple #[]) ∧ RD w' g r m ir (d.crash kept) X ∧ Ot (Rp g r m ir) w w' := by
  have PN := Lib.hid (rpending_calls h)
  have ok := Lib.hid h.ok
  have xl := h.xl
  have XS := Lib.hid h.xs
  have nn := And.intro h.gr (And.intro h.gn (And.intro h.gi (And.intro h.ri h.ni)))
  obtain ⟨n1, n2, n3, n4, n5⟩ := nn
  have hm64 := h.ok.most
  have gl := h.cb.lt
  have rl := h.sr.lt
  have il := h.ir.lt
  have E0 : Hid (∀ s, Ext w s → RQ s g r m ir (d.rcells r m ir) (d.cr kept 0).S X (d.cr kept 0).isC) := fun s e => by rw [cr_zero]; exact (h.ext e).rq
  have pl := pend_len d d.S.length
  obtain ⟨P, hP⟩ : ∃ P, P = d.pend d.S.length := ⟨_, rfl⟩
  obtain ⟨mm, hm⟩ : ∃ mm, mm = P.length := ⟨_, rfl⟩
  rw [← hP, ← hm] at PN
  rw [← hP, ← hm] at pl
  have PM : Hid (∀ k, k < mm → P.getD k 0 < d.S.length ∧ ∃ s, d.N (P.getD k 0) = some s ∧ s.length = 64 ∧ X.getD (P.getD k 0) [] = s) := fun k hk => by
    rw [hP] at hm ⊢
    obtain ⟨h1, h2⟩ := pend_getD (d := d) (m := d.S.length) (k := k) (by omega)
    obtain ⟨y, hy⟩ := Option.isSome_iff_exists.1 h2
    exact ⟨h1, y, hy, (ok.out.nl _ _ hy).1, h.xn _ _ hy⟩
  have CI : Hid (∀ k, k < mm → (d.cr kept (k + 1)).isC = (d.cr kept k).isC.set (P.getD k 0) (.bool false)) := fun k hk => by rw [hP]; exact cr_isC (by rw [← hP, ← hm]; exact hk)
  have CSq : Hid (∀ k, k < mm → (d.cr kept (k + 1)).S = if kept / 2 ^ k % 2 = 1 then (d.cr kept k).S.set (P.getD k 0) ((d.N (P.getD k 0)).getD []) else (d.cr kept k).S) := fun k _ => by rw [hP]; exact cr_S_some
  have CL : Hid (∀ k, (d.cr kept k).S.length = d.S.length) := fun k => cr_len _ _ _
  have C64 : Hid (∀ k, k ≤ mm → ∀ s ∈ (d.cr kept k).S, s.length = 64) := fun k hk => crS_64 ok.out k (by rw [← hP, ← hm]; exact hk)
  have FI : Hid (∀ W, RQ W g r m ir ((d.rcells r m ir).set 4 (.bool false) |>.set 3 (.int .i64 (-1))) (d.cr kept mm).S X (d.cr kept mm).isC → RD W g r m ir (d.crash kept) X) := fun W q => by
    rw [hm, hP, cr_full ok.out] at q
    have e : ((d.rcells r m ir).set 4 (.bool false)).set 3 (.int .i64 (-1)) = (d.crash kept).rcells r m ir := by
      have := crash_S d kept
      unfold Ds.rcells
      rw [this]
      rfl
    rw [e] at q
    exact q.rd (crash_ok ok.out kept) (by rw [crash_S]; exact xl) XS.out (fun j s z => by cases z)
  clear h
  replace hP := Lib.hid (fun _ : Unit => hP)
  replace hm := Lib.hid (fun _ : Unit => hm)
  go_enter Try.func21, Try.ntmps21
  go_wp2_with fail
  refine PN.out.mono ?_
  rintro e w1 ⟨A, c, rfl, ow, x1⟩
  have K1 := Lib.hid (E0.out w1 x1)
  have T1 : Hid (Ot (Rp g r m ir) w w1) := Ot.of_ext x1
  replace ow := Lib.hid ow
  clear PN E0 x1
  go_wp2_with fail
  go_loopw [5] (fun v wr => ∃ k : Nat, k ≤ mm ∧ v = .int .i64 (k : Int) ∧ RQ wr g r m ir (d.rcells r m ir) (d.cr kept k).S X (d.cr kept k).isC ∧ OwnC w.heap.size wr 3 1 A mm c (iC P) ∧ Ot (Rp g r m ir) w wr) (fun v _ => mm - (intOf v).toNat)
  case atStart => exact ⟨0, Nat.zero_le _, rfl, K1.out, ow.out, T1.out⟩
  case round =>
    clear K1 T1 ow
    obtain ⟨k, hkm, rfl, rq, ow, tr⟩ := hrel
    by_cases hlt : k < mm
    · obtain ⟨b, off, rfl, hb, hc⟩ := iC_at ow.cs hlt
      have bB : w.heap.size ≤ b := by
        obtain ⟨b', hA, _, hB, _⟩ := ow.cells (by omega)
        have := Option.some.inj hA
        injection this with this
        omega
      obtain ⟨p1, s, hs, ls, hX⟩ := PM.out k hlt
      have CK := CSq.out k hlt
      have CIk := CI.out k hlt
      rw [hs] at CK
      rw [show ((some s).getD [] : List UInt8) = s from rfl] at CK
      obtain ⟨n, hn⟩ : ∃ n, n = P.getD k 0 := ⟨_, rfl⟩
      rw [← hn] at hc hs p1 CK CIk hX
      replace hn := Lib.hid (fun _ : Unit => hn)
      obtain ⟨y, hy⟩ : ∃ y, y = kept / 2 ^ k := ⟨_, rfl⟩
      have y64 : y < 18446744073709551616 := by rw [hy]; exact Nat.lt_of_le_of_lt (Nat.div_le_self _ _) hk
      have s1 : Op.shift .shr .u64 (kept : Int) .i64 (k : Int) = pure (.int .u64 (y : Int)) := by
        have := shift_shr .u64 .i64 (kept : Int) (k : Int) (by omega) (by show (k : Int) ≤ 64; omega)
        rw [this, hy]
        simp
      have s3 : (kept : Int) / 2 ^ k = (y : Int) := by rw [hy]; simp
      rw [← hy] at CK
      obtain ⟨t, ht⟩ : ∃ t, t = y % 2 := ⟨_, rfl⟩
      have s4 : (y : Int) % 2 = (t : Int) := by omega
      have s4' : Int.tmod (y : Int) 2 = (t : Int) := by rw [Int.tmod_eq_emod_of_nonneg (by omega)]; omega
      rw [← ht] at CK
      have t01 : t = 0 ∨ t = 1 := by omega
      have hk1 : IntKind.i64.wrap ((k : Int) + 1) = (k : Int) + 1 := IntWalk.i64_in _ (by omega)
      have u1 : (0 : Int) ≤ (n : Int) := by omega
      have u2 : (n : Int) < (d.S.length : Int) := by omega
      have u3 : (0 : Int) ≤ (k : Int) := by omega
      have u4 : (k : Int) < (mm : Int) := by omega
      have L_S := CL.out k
      -- the last part of a round: the flag goes
      have TAIL : Hid (∀ W, RQ W g r m ir (d.rcells r m ir) (d.cr kept (k + 1)).S X (d.cr kept k).isC → OwnC w.heap.size W 3 1 (some ⟨b, off, none⟩) mm c (iC P) → Ot (Rp g r m ir) w W → (∀ s', W.drew.grownBy s' (some ir) → s'.cell? ⟨g, 2, none⟩ = some (.slice (some ⟨ir, 0, none⟩) d.S.length d.S.length) ∧ s'.cell? ⟨b, off + k, none⟩ = some (.int .i64 (n : Int))) ∧ (∃ v, W.drew.cell? ⟨ir, n, none⟩ = some v) ∧ W.drew.frozen? ⟨ir, n, none⟩ = false ∧ RQ (W.drew.setCell ⟨ir, n, none⟩ (.bool false)) g r m ir (d.rcells r m ir) (d.cr kept (k + 1)).S X (d.cr kept (k + 1)).isC ∧ OwnC w.heap.size (W.drew.setCell ⟨ir, n, none⟩ (.bool false)) 3 1 (some ⟨b, off, none⟩) mm c (iC P) ∧ Ot (Rp g r m ir) w (W.drew.setCell ⟨ir, n, none⟩ (.bool false))) := fun W q o t => by
        have hcW : W.cell? ⟨b, off + k, none⟩ = some (.int .i64 (n : Int)) := by
          obtain ⟨b2, off2, hA, _, hc2⟩ := iC_at o.cs hlt
          have hA := Option.some.inj hA
          injection hA with h1 h2
          rw [h1, h2, hn.out ()]
          exact hc2
        have bl : b < W.heap.size := World.block_lt_of_cell? W _ hcW
        have ge := gr_cell21 W.drew ir n (.bool false)
        have owk : ∀ s', W.drew.grownBy s' (some ir) → OwnC w.heap.size s' 3 1 (some ⟨b, off, none⟩) mm c (iC P) := fun s' e => OwnC.kept (w := W.drew) (o.ext (Ext.refl _).drew) e (by
          rcases hv : Value.ownBlock (.slice (some ⟨b, off, none⟩) mm c) with _ | z
          · exact .inl rfl
          · refine .inr fun q => ?_
            have := o.ge z hv
            have := Option.some.inj q
            omega)
        have q2 := (q.ext (Ext.refl W).drew).putI n (.bool false)
        rw [← CIk] at q2
        refine ⟨fun s' e => ⟨(cell_of_heap21 (e.block g q.cb.lt (fun z => n3 (Option.some.inj z))) 2).trans (q.cb.cell rfl), (cell_of_heap21 (e.block b bl (fun z => by have := Option.some.inj z; omega)) _).trans hcW⟩, ⟨_, q.ir.cell (isC_at (by rw [cr_len]; exact p1))⟩, q.ir.frozen n, q2, owk _ ge, t.trans ((Ot.of_ext (Ext.refl W).drew).trans (Ot.cell _ _ _ (.inr (.inr (.inr rfl)))))⟩
      clear hy ht PM CSq CI CIk
      rcases t01 with h | h
      · have t5 : ((t : Int) == 1) = false := by rw [h]; rfl
        rw [if_neg (by omega)] at CK
        rw [← CK] at rq
        obtain ⟨F6, ⟨v6, c6⟩, f6, Q6⟩ := TAIL.out wr rq ow tr
        replace F6 := Lib.hid F6
        replace Q6 := Lib.hid Q6
        clear h CK TAIL rq ow tr
        go_upto_region 6 with fail
        clear hc
        refine qgW ir [0, 1, 2, 3, 4, 5, 6, 7, 8, 9] [9] ?_
        generalize wr.drew = W at *
        repeat ((first | refine qR _ (fun w' e => F6.out w' e) ?_ | refine qS ?_); go_frame)
        refine qD fun K hK => ?_
        go_simp
        refine hK.out _ _ (gr_cell21 _ _ _ _) ?_
        clear hK K
        try go_frame
        repeat ((first | refine qR0 ?_ | refine qS ?_); go_frame)
        refine seq_done ?_
        clear c6 f6 F6
        go_wp2_with fail
        go_round
        case rel => exact ⟨k + 1, by omega, by go_num, Q6.out.1, Q6.out.2.1, Q6.out.2.2⟩
        case measure => simp [intOf]; omega
      · have t5 : ((t : Int) == 1) = true := by rw [h]; rfl
        rw [if_pos h] at CK
        clear h
        have S_s : (cellsOf s).toArray.size = 64 := by simp [cellsOf_len, ls]
        have C_s : (cellsOf s).length = 64 := by rw [cellsOf_len, ls]
        have O_s := one_cells (one_mem s)
        have rqd : RQ wr.drew g r m ir (d.rcells r m ir) (d.cr kept k).S X (d.cr kept k).isC := rq.ext (Ext.refl wr).drew
        obtain ⟨q1, q2⟩ := rqd.putS (C64.out k (by omega)) (k := n) (by omega) ls
        rw [← CK] at q1
        have e3 := grown_setCells (w := wr.drew) (g := r) (o := n * 64) (vs := cellsOf s)
        have owd : ∀ s', wr.drew.grownBy s' (some r) → OwnC w.heap.size s' 3 1 (some ⟨b, off, none⟩) mm c (iC P) := fun s' e => OwnC.kept (w := wr.drew) (ow.ext (Ext.refl _).drew) e (by
          rcases hv : Value.ownBlock (.slice (some ⟨b, off, none⟩) mm c) with _ | z
          · exact .inl rfl
          · refine .inr fun q => ?_
            have := ow.ge z hv
            have := Option.some.inj q
            omega)
        have G5 : Hid (RQ (wr.drew.setCells r (n * 64) (cellsOf s)) g r m ir (d.rcells r m ir) (d.cr kept (k + 1)).S X (d.cr kept k).isC ∧ OwnC w.heap.size (wr.drew.setCells r (n * 64) (cellsOf s)) 3 1 (some ⟨b, off, none⟩) mm c (iC P) ∧ Ot (Rp g r m ir) w (wr.drew.setCells r (n * 64) (cellsOf s))) := ⟨q1, owd _ e3, tr.trans ((Ot.of_ext (Ext.refl wr).drew).trans (Ot.of_grown e3 (.inr (.inl rfl))))⟩
        have bl : b < wr.heap.size := World.block_lt_of_cell? wr _ hc
        have F5 : Hid (∀ s', wr.drew.grownBy s' (some r) → (s'.cell? ⟨g, 0, none⟩ = some (.slice (some ⟨r, 0, none⟩) d.S.length d.S.length) ∧ s'.cell? ⟨g, 1, none⟩ = some (.slice (some ⟨m, 0, none⟩) d.S.length d.S.length) ∧ s'.cell? ⟨b, off + k, none⟩ = some (.int .i64 (n : Int))) ∧ (∀ j v, (cellsOf s)[j]? = some v → s'.cell? ⟨m, n * 64 + j, none⟩ = some v)) := fun s' e => by
          have hg := cell_of_heap21 (e.block g rq.cb.lt (fun q => n1 (Option.some.inj q)))
          have hmr : Cb s' m 48 (X.map cellsOf).flatten := (e.block m rq.nr.lt (fun q => rq.ne (Option.some.inj q).symm)).trans rq.nr
          have := row_at hmr XS.out (k := n) (by rw [xl]; exact p1)
          rw [hX] at this
          exact ⟨⟨(hg 0).trans (rq.cb.cell rfl), (hg 1).trans (rq.cb.cell rfl), (cell_of_heap21 (e.block b bl (fun z => by have := Option.some.inj z; omega)) _).trans hc⟩, this⟩
        replace q2 := Lib.hid q2
        clear rq tr rqd q1 e3 hX owd ow CK C64
        go_upto_region 5 with fail
        clear hc
        refine qgW r [0, 1, 2, 3, 4, 5, 6, 7, 8, 9, 10, 11, 12, 13, 14, 15, 16, 17, 18, 19] [19] ?_
        generalize wr.drew = W at *
        repeat ((first | refine qR _ (fun w' e => (F5.out w' e).1) ?_ | refine qS ?_); go_frame)
        refine qV rfl (fun w' => ∀ q_ v, (cellsOf s)[q_]? = some v → w'.cell? ⟨m, (n * 64) + q_, none⟩ = some v) (fun w' e => (F5.out w' e).2) (.agg (cellsOf s).toArray) (fun w' hF => exec_load_mid rfl rfl hF rfl rfl (by rw [C_s]; rfl)) ?_
        go_frame
        repeat ((first | refine qR _ (fun w' e => (F5.out w' e).1) ?_ | refine qS ?_); go_frame)
        refine qD fun K hK => ?_
        refine wp_store_mid 48 _ _ rfl r (n * 64) (cellsOf s).toArray rfl rfl (by rw [S_s]; exact q2.out) (by rw [S_s]; rfl) O_s ?_
        refine hK.out _ _ grown_setCells ?_
        clear hK K
        try go_frame
        repeat ((first | refine qR0 ?_ | refine qS ?_); go_frame)
        refine seq_done ?_
        refine gen_q (fun W => RQ W g r m ir (d.rcells r m ir) (d.cr kept (k + 1)).S X (d.cr kept k).isC ∧ OwnC w.heap.size W 3 1 (some ⟨b, off, none⟩) mm c (iC P) ∧ Ot (Rp g r m ir) w W) G5.out ?_
        clear G5 F5 q2 bl
        rintro w3 ⟨rq, ow, tr⟩
        obtain ⟨F6, ⟨v6, c6⟩, f6, Q6⟩ := TAIL.out w3 rq ow tr
        replace F6 := Lib.hid F6
        replace Q6 := Lib.hid Q6
        clear TAIL rq ow tr
        go_upto_region 6 with fail
        refine qgW ir [0, 1, 2, 3, 4, 5, 6, 7, 8, 9] [9] ?_
        generalize w3.drew = W at *
        repeat ((first | refine qR _ (fun w' e => F6.out w' e) ?_ | refine qS ?_); go_frame)
        refine qD fun K hK => ?_
        go_simp
        refine hK.out _ _ (gr_cell21 _ _ _ _) ?_
        clear hK K
        try go_frame
        repeat ((first | refine qR0 ?_ | refine qS ?_); go_frame)
        refine seq_done ?_
        clear c6 f6 F6
        go_wp2_with fail
        go_round
        case rel => exact ⟨k + 1, by omega, by go_num, Q6.out.1, Q6.out.2.1, Q6.out.2.2⟩
        case measure => simp [intOf]; omega
    · obtain rfl : k = mm := by omega
      have c4 : wr.cell? ⟨g, 4, none⟩ = some (.bool d.dd) := rq.cb.cell rfl
      have f4 := rq.cb.frozen 4
      have q1 := rq.putC 4 (.bool false)
      have c3 : (wr.setCell ⟨g, 4, none⟩ (.bool false)).cell? ⟨g, 3, none⟩ = some (.int .i64 d.lit) := q1.cb.cell rfl
      have f3 := q1.cb.frozen 3
      have q2 := q1.putC 3 (.int .i64 (-1))
      have F : Hid (RD ((wr.setCell ⟨g, 4, none⟩ (.bool false)).setCell ⟨g, 3, none⟩ (.int .i64 (-1))) g r m ir (d.crash kept) X ∧ Ot (Rp g r m ir) w ((wr.setCell ⟨g, 4, none⟩ (.bool false)).setCell ⟨g, 3, none⟩ (.int .i64 (-1)))) := ⟨FI.out _ q2, (tr.trans (Ot.cell _ _ _ (.inl rfl))).trans (Ot.cell _ _ _ (.inl rfl))⟩
      clear rq ow tr q1 q2 FI PM CSq CI CL C64
      go_wp2_with fail
      go_end0
      exact ⟨rfl, F.out.1, F.out.2⟩
end Go.Proofs.Yteaoacinhdjkeaa
