/-
  Strikes: Of, Count, Suspended.
-/
import Derived.Test.YteaoacinhdjkeaaSt23e
namespace Go.Proofs.Yteaoacinhdjkeaa
open Go.ChangeShapes Go.WideShapes Go.ChangeAt Go.RowKit Go.Deep Go.Maps
set_option maxRecDepth 100000

def ofA (o : Option Sk) : Int := o.elim 0 fun s => (s.acc : Int)
def ofR (o : Option Sk) : Bool := o.elim false fun s => s.rev
set_option maxHeartbeats 4000000 in
theorem sof_calls {w : World} {lg g lb : Nat} {K : List Sk} (h : LG w lg g lb K) {id : Int} (hi : -9223372036854775808 ≤ id ∧ id ≤ 9223372036854775807) :
    Calls Try.prog 34 #[.pointer (some ⟨lg, 0, none⟩), .int .i64 id] w fun e w' => e = .returned (.tuple #[.int .i64 (ofA (findS K id)), .bool (ofR (findS K id)), .bool (findS K id).isSome]) ∧ Ext w w' := by
  have hal := sk_alloc
  have LK := h.look hi
  have c1 : w.cell? ⟨lg, 1, none⟩ = some (.map (some lb)) := h.cb.cell rfl
  clear h
  generalize findS K id = oo at *
  have L_V := valS_len oo
  have O_V := one_cells (valS_one oo)
  have hV : Hid ((valS oo)[0]? = some (.int .i64 (ofA oo)) ∧ (valS oo)[2]? = some (.bool (ofR oo))) := by cases oo <;> exact ⟨rfl, rfl⟩
  obtain ⟨VV, hVV⟩ : ∃ q, q = valS oo := ⟨_, rfl⟩
  rw [← hVV] at LK L_V O_V hV
  clear hVV
  have S_V : VV.toArray.size = 3 := by rw [List.size_toArray, L_V]
  have S_Z : zSk.toArray.size = 3 := rfl
  generalize zSk = ZZ at *
  generalize ofA oo = oa at *
  generalize ofR oo = or_ at *
  generalize oo.isSome = is at *
  have K1 : Hid (Cb ((w.alloc (.cells ZZ.toArray 117)).setRow w.heap.size VV.toArray) w.heap.size 117 VV ∧ Ext w ((w.alloc (.cells ZZ.toArray 117)).setRow w.heap.size VV.toArray)) := ⟨(Cb.new w _ ZZ).set, Ext.newRow _ _ _⟩
  go_enter Try.func34, Try.ntmps34
  go_upto_region 2 with (first
    | (refine wpList_lookup_mp rfl _ _ rfl rfl rfl LK ?_; go_frame)
    | (refine wpList_store_row rfl 117 _ _ rfl w.heap.size VV.toArray rfl rfl 117 ZZ.toArray (heap_alloc_new _ _) (by rw [S_V]; rfl) (by rw [S_V, S_Z]) O_V ?_; simp only [Act.put]))
  refine wp_gen (fun W => Cb W w.heap.size 117 VV ∧ Ext w W) K1.out ?_
  clear K1 c1 LK
  generalize w.heap.size = g7 at *
  rintro w1 ⟨k, x⟩
  have F : Hid (∀ s, Ext w1.drew s → s.cell? ⟨g7, 0, none⟩ = some (.int .i64 oa) ∧ s.cell? ⟨g7, 2, none⟩ = some (.bool or_)) := fun s e => ⟨((k.ext (Ext.refl w1).drew).ext e).cell hV.out.1, ((k.ext (Ext.refl w1).drew).ext e).cell hV.out.2⟩
  have X : Hid (Ext w w1.drew) := x.drew
  clear k x hV
  refine qgE [0, 1, 2, 3, 4, 5, 6, 7] [] ?_
  repeat ((first | refine qR _ (fun w' e => F.out w' e) ?_ | refine qS ?_); go_frame)
  refine seq_done ?_
  clear F
  generalize w1.drew = W at *
  go_wp2_with fail
  go_ret3
  exact ⟨rfl, X.out⟩
/-- How many count. -/
def pS (a now : Int) (s : Sk) : Bool := decide ((s.acc : Int) = a) && !s.rev && decide ((s.time : Int) ≤ now) && decide (IntKind.i64.wrap (now - 100) ≤ (s.time : Int))
def cntS (K : List Sk) (a now : Int) : Nat := (K.filter (pS a now)).length
theorem cnt_le (K : List Sk) (a now : Int) : cntS K a now ≤ K.length := List.length_filter_le _ _
theorem cnt_step {p : Sk → Bool} : ∀ {R : List Sk}, R.Pairwise (fun x y => x.id ≠ y.id) → ∀ s ∈ R, (R.filter p).length = ((R.filter fun x => decide (x.id ≠ s.id)).filter p).length + (if p s then 1 else 0)
  | [], _, s, hs => by cases hs
  | x :: R, h, s, hs => by
    obtain ⟨h1, h2⟩ := List.pairwise_cons.1 h
    rcases List.mem_cons.1 hs with e | hs
    · subst e
      have eR : (R.filter fun x => decide (x.id ≠ s.id)) = R := List.filter_eq_self.2 fun y hy => decide_eq_true (fun q => h1 y hy q.symm)
      rw [List.filter_cons_of_neg (a := s) (l := R) (p := fun x => decide (x.id ≠ s.id)) (by simp), eR, List.filter_cons]
      split <;> simp
    · have hne : x.id ≠ s.id := h1 s hs
      have ih := cnt_step (p := p) h2 s hs
      rw [List.filter_cons_of_pos (a := x) (l := R) (p := fun x => decide (x.id ≠ s.id)) (decide_eq_true hne), List.filter_cons, List.filter_cons]
      split
      · rw [List.length_cons, List.length_cons, ih]; omega
      · exact ih
set_option maxHeartbeats 8000000 in
theorem scount_calls {w : World} {lg g lb : Nat} {K : List Sk} (h : LG w lg g lb K) {a now : Int} :
    Calls Try.prog 36 #[.pointer (some ⟨lg, 0, none⟩), .int .i64 a, .int .i64 now] w fun e w' => e = .returned (.int .i64 (cntS K a now : Int)) ∧ Ext w w' := by
  have hal := sk_alloc
  have S_Z : zSk.toArray.size = 3 := rfl
  have hKl := h.ok.len
  have AP := Lib.hid h.ok.ap
  have c1 : w.cell? ⟨lg, 1, none⟩ = some (.map (some lb)) := h.cb.cell rfl
  have hm0 := h.mp
  have LE := cnt_le K a now
  have HC : Hid (cntS K a now = (K.filter (pS a now)).length) := rfl
  generalize cntS K a now = CN at *
  obtain ⟨n1, hn1⟩ : ∃ q, IntKind.i64.wrap (now - 100) = q := ⟨_, rfl⟩
  have PS : Hid (∀ s, pS a now s = (decide ((s.acc : Int) = a) && !s.rev && decide ((s.time : Int) ≤ now) && decide (n1 ≤ (s.time : Int)))) := fun s => by unfold pS; rw [hn1]
  generalize pS a now = p at *
  clear h
  generalize zSk = ZZ at *
  obtain ⟨r4, hr4⟩ : ∃ r, r = w.heap.size := ⟨_, rfl⟩
  have wr4 : w.heap.size ≤ r4 := Nat.le_of_eq hr4.symm
  go_enter Try.func36, Try.ntmps36
  go_wp2_with (at_range; refine wpList_range_mp rfl _ rfl int_law Try.underlying119 rfl hm0 hr4.symm ?_; intro w1 m1 x1)
  go_frame
  replace hr4 := Lib.hid hr4
  go_loopw [7] (fun mv wr => ∃ (lf : Value → Prop) (cnt m : Nat) (R : List Sk), mv = .int .i64 (m : Int) ∧ Mr Try.prog 3 wr lb r4 (K.map fun s => (s.key, .agg s.C.toArray)) lf cnt ∧ R.Sublist K ∧ (∀ s ∈ K, lf s.key ↔ s ∈ R) ∧ m + (R.filter p).length = (K.filter p).length ∧ Ext w wr) (fun _ wr => wr.rangeLeft lb r4)
  case atStart => exact ⟨_, _, 0, K, rfl, m1, List.Sublist.refl _, fun s hs => ⟨fun _ => hs, fun _ => trivial⟩, Nat.zero_add _, x1⟩
  case round =>
    obtain ⟨lf, cnt, m, R, rfl, mr, hRK, hlf, hm, xr⟩ := hrel
    clear m1 c1 x1
    have mro : Hid (wr.rangeLeft lb r4 = cnt) := mr.left_eq
    have hmle : m ≤ 1000001 := by have := HC.out; omega
    replace xr := Lib.hid xr
    replace hRK := Lib.hid hRK
    replace hlf := Lib.hid hlf
    replace hm := Lib.hid hm
    go_wp2_with (at_next; refine wpList_next_mr Sk.key (fun s => .agg s.C.toArray) rfl _ rfl int_law rfl mr ?_ ?_)
    · intro hd
      have hR : R = [] := by
        cases R with
        | nil => rfl
        | cons x r =>
          have hx : x ∈ K := hRK.out.subset (List.mem_cons_self ..)
          exact absurd ((hlf.out x hx).2 (List.mem_cons_self ..)) (hd x hx)
      have F : Hid (m = CN) := by
        have := hm.out
        rw [hR] at this
        have := HC.out
        unfold Hid
        simp at *
        omega
      clear mr mro hd hR hRK hlf hm HC LE
      go_wp2_with fail
      go_ret
      exact ⟨by rw [F.out]; rfl, xr.out⟩
    · intro y hy hly w3 cnt3 m3 hlt hg hs hen
      have hen' : (Instr.entry (.pointer (some ⟨r4, 0, none⟩))).run Try.prog w3 = .ok (.tuple #[y.key, .agg y.C.toArray]) w3 := hen
      have hyR : y ∈ R := (hlf.out y hy).1 hly
      have X3 : Hid (Ext w w3) := Below.trans xr.out ⟨hg.os, hg.tape, hg.output, hg.size, fun i hi => hg.block i (Nat.lt_of_lt_of_le hi xr.out.size) (fun q => by have := Option.some.inj q; omega)⟩
      have L_V : y.C.length = 3 := rfl
      have O_V : y.C.toArray.all (·.oneCell') = true := one_cells (fun v hv => by
        simp only [Sk.C, List.mem_cons, List.not_mem_nil, or_false] at hv
        rcases hv with rfl | rfl | rfl <;> rfl)
      have S_V : y.C.toArray.size = 3 := rfl
      have PY := Lib.hid (PS.out y)
      have ST := Lib.hid (cnt_step (p := p) (AP.out.sublist hRK.out) y hyR)
      have R2 : Hid ((R.filter fun x => decide (x.id ≠ y.id)).Sublist K ∧ ∀ s ∈ K, (lf s.key ∧ s.key ≠ y.key) ↔ s ∈ R.filter fun x => decide (x.id ≠ y.id)) := by
        refine ⟨List.filter_sublist.trans hRK.out, fun s hs => ?_⟩
        rw [List.mem_filter, hlf.out s hs]
        refine and_congr Iff.rfl ⟨fun q => decide_eq_true fun e => q (by unfold Sk.key; rw [e]), fun q e => ?_⟩
        have q := of_decide_eq_true q
        unfold Sk.key at e
        injection e with _ e
        omega
      have vv : Hid (y.C[0]? = some (.int .i64 (y.acc : Int)) ∧ y.C[1]? = some (.int .i64 (y.time : Int)) ∧ y.C[2]? = some (.bool y.rev)) := ⟨rfl, rfl, rfl⟩
      clear mr hen xr hly hRK hlf hs
      generalize y.key = yk at *
      generalize y.C = VV at *
      generalize (R.filter fun x => decide (x.id ≠ y.id)) = RR at *
      have K5 : Hid (Cb ((w3.alloc (.cells ZZ.toArray 117)).setRow w3.heap.size VV.toArray) w3.heap.size 117 VV ∧ Ext w3 ((w3.alloc (.cells ZZ.toArray 117)).setRow w3.heap.size VV.toArray)) := ⟨(Cb.new w3 _ ZZ).set, Ext.newRow _ _ _⟩
      go_upto_region 5 with (refine wpList_store_row rfl 117 _ _ rfl w3.heap.size VV.toArray rfl rfl 117 ZZ.toArray (heap_alloc_new _ _) (by rw [S_V]; rfl) (by rw [S_V, S_Z]) O_V ?_; simp only [Act.put])
      refine wp_gen (fun W => Cb W w3.heap.size 117 VV ∧ Ext w3 W) K5.out ?_
      clear K5 hen'
      rintro w4 ⟨k5, x4⟩
      have M4 := Lib.hid (m3.ext x4)
      have X4 := Lib.hid (X3.out.trans x4)
      have lt4 : Hid (w4.rangeLeft lb r4 < wr.rangeLeft lb r4) := by
        unfold Hid
        rw [(m3.ext x4).left_eq, mro.out]
        exact hlt
      clear m3 X3 x4 hg
      generalize w3.heap.size = g5 at *
      clear hlt w3
      have c0 := k5.cell vv.out.1
      have c1 := k5.cell vv.out.2.1
      have c2 := k5.cell vv.out.2.2
      replace k5 := Lib.hid k5
      obtain ⟨yr, hyr⟩ : ∃ q, q = y.rev := ⟨_, rfl⟩
      rw [← hyr] at c2 PY
      clear hyr vv
      generalize (y.acc : Int) = ya at *
      generalize (y.time : Int) = yt at *
      have go : Hid (∀ k, k = m + (if p y then 1 else 0) → k + (RR.filter p).length = (K.filter p).length) := fun k q => by
        have := hm.out
        have := ST.out
        omega
      clear hm ST
      by_cases b1 : ya = a
      · subst b1
        cases yr with
        | true =>
          have F := Lib.hid (show p y = false by rw [PY.out]; simp)
          go_wp2_with fail
          go_roundw
          case rel => exact ⟨_, _, m, RR, rfl, M4.out, R2.out.1, R2.out.2, go.out m (by rw [F.out]; rfl), X4.out⟩
          case measure => exact lt4.out
        | false =>
          by_cases b3 : yt ≤ now
          · have u3 : decide (yt ≤ now) = true := decide_eq_true b3
            by_cases b4 : n1 ≤ yt
            · have u4 : decide (n1 ≤ yt) = true := decide_eq_true b4
              have F := Lib.hid (show p y = true by rw [PY.out, u3, u4]; simp)
              have ad : IntKind.i64.wrap ((m : Int) + 1) = (m : Int) + 1 := IntWalk.i64_in _ (by omega)
              go_wp2_with fail
              go_roundw
              case rel => exact ⟨_, _, m + 1, RR, by go_num, M4.out, R2.out.1, R2.out.2, go.out (m + 1) (by rw [F.out]; rfl), X4.out⟩
              case measure => exact lt4.out
            · have u4 : decide (n1 ≤ yt) = false := decide_eq_false b4
              have F := Lib.hid (show p y = false by rw [PY.out, u4]; simp)
              go_wp2_with fail
              go_roundw
              case rel => exact ⟨_, _, m, RR, rfl, M4.out, R2.out.1, R2.out.2, go.out m (by rw [F.out]; rfl), X4.out⟩
              case measure => exact lt4.out
          · have u3 : decide (yt ≤ now) = false := decide_eq_false b3
            have F := Lib.hid (show p y = false by rw [PY.out, u3]; simp)
            go_wp2_with fail
            go_roundw
            case rel => exact ⟨_, _, m, RR, rfl, M4.out, R2.out.1, R2.out.2, go.out m (by rw [F.out]; rfl), X4.out⟩
            case measure => exact lt4.out
      · have u1 : (ya == a) = false := beq_eq_false_iff_ne.2 b1
        have F := Lib.hid (show p y = false by rw [PY.out, decide_eq_false b1]; simp)
        go_wp2_with fail
        go_roundw
        case rel => exact ⟨_, _, m, RR, rfl, M4.out, R2.out.1, R2.out.2, go.out m (by rw [F.out]; rfl), X4.out⟩
        case measure => exact lt4.out
theorem ssusp_calls {w : World} {lg g lb : Nat} {K : List Sk} (h : LG w lg g lb K) {a now : Int} :
    Calls Try.prog 38 #[.pointer (some ⟨lg, 0, none⟩), .int .i64 a, .int .i64 now] w fun e w' => e = .returned (.bool (decide (3 ≤ cntS K a now))) ∧ Ext w w' := by
  have CC := Lib.hid (scount_calls h (a := a) (now := now))
  have E : decide (3 ≤ (cntS K a now : Int)) = decide (3 ≤ cntS K a now) := by rw [Bool.eq_iff_iff]; simp; omega
  clear h
  generalize cntS K a now = n at *
  generalize decide (3 ≤ n) = b at *
  go_enter Try.func38, Try.ntmps38
  go_wp2_with fail
  refine CC.out.mono ?_
  rintro e w1 ⟨rfl, x1⟩
  replace x1 := Lib.hid x1
  clear CC
  go_wp2_with fail
  go_ret
  exact ⟨rfl, x1.out⟩
end Go.Proofs.Yteaoacinhdjkeaa
