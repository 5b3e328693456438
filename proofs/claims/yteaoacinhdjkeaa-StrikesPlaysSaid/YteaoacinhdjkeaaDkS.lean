/-
  disk.Sync.
-/
import Derived.Test.YteaoacinhdjkeaaDkW
import Derived.Test.YteaoacinhdjkeaaDkL
import Derived.Test.YteaoacinhdjkeaaSetC
namespace Go.Proofs.Yteaoacinhdjkeaa
open Go.ChangeShapes Go.WideShapes Go.ChangeAt Go.RowKit Go.Deep Go.Maps
set_option maxRecDepth 100000

def Ds.flush (d : Ds) : Ds := { d with S := (List.range d.S.length).map fun i => (d.N i).getD (d.S.getD i []), N := fun _ => none }
/-- What is made sure so far. -/
def SyI (d : Ds) (lf : Value → Prop) (S : List (List UInt8)) : Prop := S.length = d.S.length ∧ (∀ s ∈ S, s.length = 64) ∧ ∀ i, i < d.S.length → (lf (.int .i64 (i : Int)) → S.getD i [] = d.S.getD i []) ∧ (¬ lf (.int .i64 (i : Int)) → S.getD i [] = (d.N i).getD (d.S.getD i []))
theorem SyI.step {d : Ds} {lf : Value → Prop} {S : List (List UInt8)} (h : SyI d lf S) (ok : d.ok) {n : Nat} {s : List UInt8} (hs : d.N n = some s) : SyI d (fun key => lf key ∧ key ≠ .int .i64 (n : Int)) (S.set n s) := by
  obtain ⟨h1, h2, h3⟩ := h
  obtain ⟨l1, l2⟩ := ok.nl _ _ hs
  refine ⟨by rw [List.length_set]; exact h1, fun x hx => ?_, fun i hi => ?_⟩
  · rcases List.mem_or_eq_of_mem_set hx with q | q
    · exact h2 x q
    · rw [q]; exact l1
  · have e : ∀ (q : ¬ n = i), (S.set n s).getD i [] = S.getD i [] := fun q => by rw [List.getD_eq_getElem?_getD, List.getElem?_set_ne q, ← List.getD_eq_getElem?_getD]
    by_cases q : n = i
    · subst q
      refine ⟨fun z => absurd rfl z.2, fun _ => ?_⟩
      rw [List.getD_eq_getElem?_getD, List.getElem?_set_self (by omega), hs]
      rfl
    · rw [e q]
      refine ⟨fun z => (h3 i hi).1 z.1, fun z => (h3 i hi).2 fun y => z ⟨y, fun x => q ?_⟩⟩
      injection x with _ x
      omega
theorem SyI.full {d : Ds} {lf : Value → Prop} {S : List (List UInt8)} (h : SyI d lf S) (hd : ∀ i s, i < d.S.length → d.N i = some s → ¬ lf (.int .i64 (i : Int))) : S = d.flush.S := by
  obtain ⟨h1, h2, h3⟩ := h
  apply List.ext_getElem
  · simp [Ds.flush, h1]
  · intro i hi hi2
    have hl : i < d.S.length := by omega
    have e : S.getD i [] = (d.N i).getD (d.S.getD i []) := by
      by_cases q : lf (.int .i64 (i : Int))
      · rw [(h3 i hl).1 q]
        cases z : d.N i
        · rfl
        · exact absurd q (hd i _ hl z)
      · exact (h3 i hl).2 q
    rw [List.getD_eq_getElem?_getD, List.getElem?_eq_getElem hi, Option.getD_some] at e
    simp [Ds.flush, e]
theorem splice_flat {α : Type} {s : Nat} : ∀ {L : List (List α)}, (∀ x ∈ L, x.length = s) → ∀ {n : Nat} {y : List α}, n < L.length → y.length = s → splice L.flatten (n * s) y = (L.set n y).flatten
  | [], _, _, _, h, _ => absurd h (by simp)
  | x :: L, hl, 0, y, _, hy => by
    have hx := hl x (List.mem_cons_self ..)
    unfold splice
    rw [Nat.zero_mul, Nat.zero_add, List.flatten_cons, List.set_cons_zero, List.flatten_cons, List.drop_left' (by omega)]
    simp
  | x :: L, hl, n + 1, y, h, hy => by
    have hx := hl x (List.mem_cons_self ..)
    have ih := splice_flat (L := L) (fun z hz => hl z (List.mem_cons_of_mem _ hz)) (n := n) (y := y) (by simpa using h) hy
    rw [List.set_cons_succ, List.flatten_cons, List.flatten_cons, ← ih]
    unfold splice
    have e1 : (n + 1) * s = x.length + n * s := by rw [Nat.add_mul, hx]; omega
    rw [e1, Nat.add_assoc, List.take_length_add_append, List.drop_length_add_append]
    simp
set_option maxHeartbeats 4000000 in
theorem dsync_calls {w : World} {g r mb : Nat} {d : Ds} (h : DK w g r mb d) :
    Calls Try.prog 45 #[.pointer (some ⟨g, 0, none⟩)] w fun e w' => e = .returned (.int .i64 (if d.fails then 13 else 0)) ∧ ∃ mb', DK w' g r mb' (if d.fails then d.burn else d.burn.flush) ∧ (mb' = mb ∨ w.heap.size ≤ mb') ∧ Two g r w w' := by
  have BU : Hid (∀ s, Ext w s → Calls Try.prog 52 #[.pointer (some ⟨g, 0, none⟩)] s fun e w' => e = .returned (.int .i64 (if d.fails then 13 else 0)) ∧ DK w' g r mb d.burn ∧ s.grownBy w' (some g)) := fun s e => dburn_calls (h.ext e)
  obtain ⟨fa, hfa⟩ : ∃ q, q = d.fails := ⟨_, rfl⟩
  rw [← hfa] at BU ⊢
  clear hfa h
  have BU0 := Lib.hid (BU.out _ (Ext.refl w))
  clear BU
  have hal := sector_alloc
  have hmm := @run_makeMap Try.prog
  generalize d.burn = dd at *
  go_enter Try.func45, Try.ntmps45
  go_wp2_with fail
  refine BU0.out.mono ?_
  rintro e w2 ⟨rfl, dk2, g2⟩
  clear BU0
  cases fa with
  | true =>
    replace dk2 := Lib.hid dk2
    have T2 : Two g r w w2 := ⟨g2.os, g2.tape, g2.output, g2.size, fun j hj h1 _ => g2.block j hj (fun q => h1 (Option.some.inj q))⟩
    go_wp2_with fail
    go_ret
    exact ⟨rfl, mb, dk2.out, .inl rfl, T2⟩
  | false =>
    have hm := dk2.mp
    rw [show dd.ent = dd.ent.map fun y => (y.1, y.2) by simp] at hm
    have c1 : w2.cell? ⟨g, 1, none⟩ = some (.map (some mb)) := dk2.cb.cell rfl
    obtain ⟨r4, hr4⟩ : ∃ r, r = w2.heap.size := ⟨_, rfl⟩
    replace dk2 := Lib.hid dk2
    go_wp2_with (at_range; refine wpList_range_mp rfl _ rfl int_law Try.underlying84 rfl hm hr4.symm ?_; intro w1 m1 x1)
    go_frame
    replace hr4 := Lib.hid hr4
    have gr := dk2.out.gr
    have gb := dk2.out.gb
    have rb := dk2.out.rb
    have gl := dk2.out.cb.lt
    have rl := dk2.out.row.lt
    have bl := dk2.out.mp.lt
    have K1 : Hid (Cb w1 g 86 (dd.cells r mb) ∧ Cb w1 r 45 (dd.S.map cellsOf).flatten) := ⟨dk2.out.cb.ext x1, dk2.out.row.ext x1⟩
    have ok := Lib.hid dk2.out.ok
    have r4g : g < r4 := by rw [hr4.out]; exact gl
    have r4r : r < r4 := by rw [hr4.out]; exact rl
    have r4b : mb < r4 := by rw [hr4.out]; exact bl
    have T1 : Hid (Two g r w w1) := Two.trans ⟨g2.os, g2.tape, g2.output, g2.size, fun j hj h1 _ => g2.block j hj (fun q => h1 (Option.some.inj q))⟩ (Two.of_ext x1)
    have wr4 : w.heap.size ≤ r4 := by rw [hr4.out]; exact g2.size
    clear dk2 c1 hm gl rl bl x1 g2 hr4
    go_loopw [5] (fun _ wr => ∃ (lf : Value → Prop) (cnt : Nat) (S : List (List UInt8)), Mr Try.prog 3 wr mb r4 (dd.ent.map fun y => (y.1, y.2)) lf cnt ∧ SyI dd lf S ∧ Cb wr g 86 (dd.cells r mb) ∧ Cb wr r 45 (S.map cellsOf).flatten ∧ Two g r w wr) (fun _ wr => wr.rangeLeft mb r4)
    case atStart => exact ⟨_, _, dd.S, m1, ⟨rfl, ok.out.sl, fun i hi => ⟨fun _ => rfl, fun q => absurd trivial q⟩⟩, K1.out.1, K1.out.2, T1.out⟩
    case round =>
      obtain ⟨lf, cnt, S, mr, sy, kg, kr, tr⟩ := hrel
      clear m1 K1 T1
      have mro : Hid (wr.rangeLeft mb r4 = cnt) := mr.left_eq
      replace kg := Lib.hid kg
      replace kr := Lib.hid kr
      replace sy := Lib.hid sy
      replace tr := Lib.hid tr
      go_wp2_with (at_next; refine wpList_next_mr Prod.fst Prod.snd rfl _ rfl int_law rfl mr ?_ ?_)
      · intro hd
        have eS := sy.out.full fun i s hi hs q => hd _ _ (entN_mem.2 ⟨i, _, hi, by rw [hs]; rfl, rfl⟩) q
        have wrg := kg.out.lt
        have kx := kg.out.ext ((Ext.refl wr).alloc (.map #[] 0))
        have kf := kx.frozen 1
        have kc : (wr.alloc (.map #[] 0)).cell? ⟨g, 1, none⟩ = some (.map (some mb)) := kx.cell rfl
        clear kx
        have FIN : Hid (DK ((wr.alloc (.map #[] 0)).setCell ⟨g, 1, none⟩ (.map (some wr.heap.size))) g r wr.heap.size dd.flush ∧ w.heap.size ≤ wr.heap.size ∧ Two g r w ((wr.alloc (.map #[] 0)).setCell ⟨g, 1, none⟩ (.map (some wr.heap.size)))) := by
          have x := (Ext.refl wr).alloc (.map #[] 0)
          have k1 := (kg.out.ext x).setCell (o := 1) (v := .map (some wr.heap.size))
          have e1 : (dd.cells r mb).set 1 (.map (some wr.heap.size)) = dd.flush.cells r wr.heap.size := by simp [Ds.cells, Ds.flush]
          rw [e1] at k1
          have k2 := kr.out.ext x
          rw [eS] at k2
          have m0 := Mp.made wr Try.prog 3
          have en : dd.flush.ent = [] := by
            unfold Ds.ent entN
            rw [List.filterMap_eq_nil_iff]
            intro i _
            rfl
          refine ⟨⟨k1, (Below.heap_setCell _ _ _ _ (fun q => gr q.symm)).trans k2, ?_, ?_⟩, tr.out.2.2.2.1, tr.out.trans ((Two.of_ext x).trans ⟨rfl, rfl, rfl, by simp [World.setCell], fun i _ h1 _ => Below.heap_setCell _ _ _ _ h1⟩)⟩
          · rw [en]
            exact m0.stay (Below.heap_setCell _ _ _ _ (Nat.ne_of_gt wrg))
          · have o := ok.out
            have hl : dd.flush.S.length = dd.S.length := by simp [Ds.flush]
            exact ⟨by rw [hl]; exact o.low, by rw [hl]; exact o.most, by rw [← eS]; exact sy.out.2.1, (fun i s h => by cases h), o.fl⟩
        rw [World.setCell_alloc_past _ _ _ _ wrg] at FIN
        clear mr hd eS kg kr sy tr ok
        go_wp2_with fail
        go_ret
        exact ⟨rfl, _, FIN.out.1, .inr FIN.out.2.1, FIN.out.2.2⟩
      · intro y1 y2 hy hly w3 cnt3 m3 hlt hg hs hen
        obtain ⟨n, v, hn, hv, he⟩ := entN_mem.1 hy
        obtain ⟨rfl, rfl⟩ := Prod.mk.injEq .. ▸ he
        obtain ⟨s, hsn, rfl⟩ := Option.map_eq_some_iff.1 hv
        have hen' : (Instr.entry (.pointer (some ⟨r4, 0, none⟩))).run Try.prog w3 = .ok (.tuple #[.int .i64 (n : Int), .agg (cellsOf s).toArray]) w3 := hen
        have L_s := (ok.out.nl _ _ hsn).1
        have S_s : (cellsOf s).toArray.size = 64 := by simp [cellsOf_len, L_s]
        have O_s := one_cells (one_mem s)
        have S_Z : zS64.toArray.size = 64 := by rw [List.size_toArray, zS64_len]
        have st3 : ∀ i, i < wr.heap.size → i ≠ r4 → w3.heap[i]? = wr.heap[i]? := fun i hi hne => hg.block i hi (fun q => hne (Option.some.inj q))
        have kg3 : Cb w3 g 86 (dd.cells r mb) := (st3 _ kg.out.lt (by omega)).trans kg.out
        have kr3 : Cb w3 r 45 (S.map cellsOf).flatten := (st3 _ kr.out.lt (by omega)).trans kr.out
        have r4lt := m3.lt
        have t3 : Hid (Two g r w w3) := ⟨hg.os.trans tr.out.1, hg.tape.trans tr.out.2.1, hg.output.trans tr.out.2.2.1, Nat.le_trans tr.out.2.2.2.1 hg.size, fun i hi h1 h2 => (st3 i (Nat.lt_of_lt_of_le hi tr.out.2.2.2.1) (by omega)).trans (tr.out.2.2.2.2 i hi h1 h2)⟩
        have L_S := sy.out.1
        have MS := sy.out.2.1
        have SYN := Lib.hid (sy.out.step ok.out hsn)
        clear mr hen kg kr hs hg st3 tr sy
        generalize zS64 = ZL at *
        have K5 : Hid (Cb ((w3.alloc (.cells ZL.toArray 45)).setRow w3.heap.size (cellsOf s).toArray) w3.heap.size 45 (cellsOf s) ∧ Ext w3 ((w3.alloc (.cells ZL.toArray 45)).setRow w3.heap.size (cellsOf s).toArray)) := ⟨(Cb.new w3 _ ZL).set, Ext.newRow _ _ _⟩
        replace kg3 := Lib.hid kg3
        replace kr3 := Lib.hid kr3
        go_upto_region 7 with (refine wpList_store_row rfl 45 _ _ rfl w3.heap.size (cellsOf s).toArray rfl rfl 45 ZL.toArray (heap_alloc_new _ _) (by rw [S_s]; rfl) (by rw [S_s, S_Z]) O_s ?_; simp only [Act.put])
        refine wp_gen (fun W => Cb W w3.heap.size 45 (cellsOf s) ∧ Ext w3 W) K5.out ?_
        clear K5 hen'
        rintro w4 ⟨k5, x4⟩
        have u1 : (0 : Int) ≤ (n : Int) := by omega
        have u2 : (n : Int) < (dd.S.length : Int) := by omega
        have kr4 := kr3.out.ext x4
        have kg4 := kg3.out.ext x4
        have r4l4 := Nat.lt_of_lt_of_le r4lt x4.size
        have l5 := k5.lt
        have LF : ((S.map cellsOf).flatten).length = dd.S.length * 64 := by rw [flatten_len64 (s := 64) (fun x hx => by obtain ⟨y, hy, rfl⟩ := List.mem_map.1 hx; rw [cellsOf_len]; exact MS y hy), List.length_map]; omega
        have kr4d : Cb w4.drew r 45 (S.map cellsOf).flatten := kr4
        have TH : Hid (w4.drew.there r (n * 64) 64) := there_of_row kr4d (by omega)
        have KN : Hid (Cb (w4.drew.setCells r (n * 64) (cellsOf s).toArray.toList) r 45 ((S.set n s).map cellsOf).flatten) := by
          have q := heap_setCells_row (cellsOf s) (n * 64) w4.drew _ kr4d (by rw [cellsOf_len]; omega)
          rw [splice_flat (s := 64) (fun x hx => by obtain ⟨y, hy, rfl⟩ := List.mem_map.1 hx; rw [cellsOf_len]; exact MS y hy) (by rw [List.length_map]; omega) (by rw [cellsOf_len, L_s])] at q
          rw [List.map_set]
          exact q
        have T4 : Hid (∀ s' : World, w4.drew.grownBy s' (some r) → s'.cell? ⟨g, 0, none⟩ = some (.slice (some ⟨r, 0, none⟩) dd.S.length dd.S.length) ∧ Cb s' w3.heap.size 45 (cellsOf s) ∧ Mr Try.prog 3 s' mb r4 dd.ent (fun key => lf key ∧ key ≠ .int .i64 (n : Int)) cnt3 ∧ Cb s' g 86 (dd.cells r mb) ∧ Two g r w s') := fun s' e => by
          have hb : ∀ i, i < w4.heap.size → i ≠ r → s'.heap[i]? = w4.heap[i]? := fun i hi hne => e.block i hi (fun q => hne (Option.some.inj q))
          have kg' : Cb s' g 86 (dd.cells r mb) := (hb _ kg4.lt gr).trans kg4
          have tt := t3.out.trans (Two.of_ext x4)
          exact ⟨kg'.cell rfl, (hb _ l5 (by omega)).trans k5, ((m3.ext x4).ext (Ext.refl _).drew).kept e (fun q => by have := Option.some.inj q; omega) (fun q => by have := Option.some.inj q; omega), kg', e.os.trans tt.1, e.tape.trans tt.2.1, e.output.trans tt.2.2.1, Nat.le_trans tt.2.2.2.1 e.size, fun i hi h1 h2 => (hb i (Nat.lt_of_lt_of_le hi tt.2.2.2.1) h2).trans (tt.2.2.2.2 i hi h1 h2)⟩
        generalize w3.heap.size = r5 at *
        clear kr4 kg4 k5 x4 kg3 kr3 t3 m3 r4lt l5 r4l4 LF kr4d w3
        refine qgW r [0, 1, 2, 3, 4, 5, 6, 7] [7] ?_
        generalize w4.drew = W at *
        clear w4
        repeat ((first | refine qR _ (fun w' e => (T4.out w' e).1) ?_ | refine qS ?_); go_frame)
        refine qV rfl (fun w' => w'.heap[r5]? = some (.cells (cellsOf s).toArray 45 (0, 0))) (fun w' e => (T4.out w' e).2.1) (.agg (cellsOf s).toArray) (fun w' hF => exec_load_row rfl rfl hF rfl rfl (by rw [S_s]; rfl)) ?_
        go_frame
        repeat ((first | refine qR0 ?_ | refine qS ?_); go_frame)
        refine qD fun K hK => ?_
        refine wp_store_mid 45 _ _ rfl r (n * 64) (cellsOf s).toArray rfl rfl (by rw [S_s]; exact TH.out) (by rw [S_s]; rfl) O_s ?_
        refine hK.out _ _ grown_setCells ?_
        clear hK K
        try go_frame
        repeat ((first | refine qR0 ?_ | refine qS ?_); go_frame)
        refine seq_done ?_
        have f1 := (T4.out _ (grown_setCells (o := n * 64) (vs := (cellsOf s).toArray.toList))).2.2.1
        have f2 := Lib.hid (T4.out _ (grown_setCells (o := n * 64) (vs := (cellsOf s).toArray.toList))).2.2.2
        clear T4 TH
        go_wp2_with fail
        go_round
        case rel => exact ⟨_, cnt3, _, by simpa using f1, SYN.out, f2.out.1, KN.out, f2.out.2⟩
        case measure => rw [f1.left_eq, mro.out]; exact hlt
end Go.Proofs.Yteaoacinhdjkeaa
