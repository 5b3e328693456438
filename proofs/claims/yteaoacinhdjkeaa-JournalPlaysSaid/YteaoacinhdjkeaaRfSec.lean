import Derived.Test.YteaoacinhdjkeaaPkD
import Derived.Test.YteaoacinhdjkeaaPkC
import Derived.Test.YteaoacinhdjkeaaRdR
/-
  palfreyref22: Sector.
-/
namespace Go.Proofs.Yteaoacinhdjkeaa
open Go.ChangeShapes Go.WideShapes Go.ChangeAt Go.RowKit Go.Deep Go.Maps
set_option maxRecDepth 100000

/-- The first k bytes are laid. -/
def laidL (h : List UInt8) (k : Nat) : List UInt8 := h.take k ++ List.replicate (64 - k) 0
theorem laidL_len {h : List UInt8} {k : Nat} (hk : k ≤ h.length) (h64 : h.length ≤ 64) : (laidL h k).length = 64 := by
  unfold laidL
  rw [List.length_append, List.length_take, List.length_replicate]
  omega
theorem laidL_set {h : List UInt8} {k : Nat} (hk : k < h.length) (h64 : h.length ≤ 64) : (laidL h k).set k (h.getD k 0) = laidL h (k + 1) := by
  unfold laidL
  apply List.ext_getElem?
  intro j
  have e1 : (h.take k).length = k := by rw [List.length_take]; omega
  have e2 : (h.take (k + 1)).length = k + 1 := by rw [List.length_take]; omega
  by_cases q : j = k
  · subst q
    rw [List.getElem?_set_self (by rw [List.length_append, e1, List.length_replicate]; omega), List.getElem?_append_left (by omega), List.getElem?_take, if_pos (by omega), List.getD_eq_getElem?_getD, List.getElem?_eq_getElem hk]
    rfl
  · rw [List.getElem?_set_ne (fun z => q z.symm)]
    by_cases z : j < k
    · rw [List.getElem?_append_left (by omega), List.getElem?_append_left (by omega), List.getElem?_take, List.getElem?_take, if_pos z, if_pos (by omega)]
    · rw [List.getElem?_append_right (by omega), List.getElem?_append_right (by omega), e1, e2, List.getElem?_replicate, List.getElem?_replicate]
      by_cases y : j < 64
      · rw [if_pos (by omega), if_pos (by omega)]
      · rw [if_neg (by omega), if_neg (by omega)]
theorem cells_set22 {xs : List UInt8} {k : Nat} {x : UInt8} (hk : k < xs.length) : (cellsOf xs).set k (.int .u8 (x.toNat : Int)) = cellsOf (xs.set k x) := by
  rw [cellsOf_map, cellsOf_map, List.map_set]
set_option maxHeartbeats 4000000 in
theorem rsector22_calls {w : World} {i n c : Nat} {A : Option Addr} {xs : List UInt8} (hi : i < 4294967295) (hb : Bs w A n c xs) (hn : n ≤ 59) :
    Calls Try.prog 47 #[.int .i64 (i : Int), .slice A n c] w fun e w' => e = .returned (.agg (cellsOf (secL i xs)).toArray) ∧ Ext w w' := by
  have hal := rsector_alloc
  have hzs : zS64.toArray.size = 64 := by rw [List.size_toArray, zS64_len]
  have hx := hb.len
  have m1 : IntKind.i64.wrap ((i : Int) + 1) = (i : Int) + 1 := IntWalk.i64_in _ (by omega)
  have m2 : IntKind.u64.wrap ((i : Int) + 1) = (i : Int) + 1 := IntWalk.u64_in _ (by omega)
  have m3 : IntKind.u8.wrap (n : Int) = (n : Int) := IntWalk.u8_in _ (by omega)
  have HB : Hid (∀ s, Ext w s → Bs s A n c xs) := fun s e => hb.ext e
  have HI : Hid (∀ s, Calls Try.prog 67 #[.int .u64 ((i : Int) + 1), .int .i64 4] s (RetOwn (lowL (i + 1) 4).reverse s)) := fun s => by
    have := refHighO_calls (n := i + 1) (m := 4) (many := 4) (w := s) (by omega) (by omega) (by omega) (by omega) (by omega)
    simpa using this
  have L4 : ((lowL (i + 1) 4).reverse).length = 4 := by rw [List.length_reverse, lowL_len]
  have V8 : ((UInt8.ofNat n).toNat : Int) = (n : Int) := by
    have : (UInt8.ofNat n).toNat = n := by simp; omega
    omega
  obtain ⟨h, hh⟩ : ∃ q, q = (lowL (i + 1) 4).reverse ++ [UInt8.ofNat n] ++ xs := ⟨_, rfl⟩
  have hhl : h.length = 5 + n := by rw [hh]; simp [L4, hx]; omega
  have SE : Hid (laidL h (5 + n) = secL i xs) := by
    unfold Hid
    rw [secL_eq (by omega), hx, hh]
    unfold laidL
    rw [List.take_of_length_le (by simp [L4, hx]; omega), show 64 - (5 + n) = 59 - n by omega]
    simp
  obtain ⟨r, hr⟩ : ∃ r, r = w.heap.size := ⟨_, rfl⟩
  have B0 : Hid (Cb ((w.alloc (.cells zS64.toArray 48)).alloc (.cells zS64.toArray 48)) r 48 zS64 ∧ Cb ((w.alloc (.cells zS64.toArray 48)).alloc (.cells zS64.toArray 48)) (r + 1) 48 zS64 ∧ Ext w ((w.alloc (.cells zS64.toArray 48)).alloc (.cells zS64.toArray 48))) := by
    rw [hr]; exact ⟨heap_alloc1 _ _ _, heap_alloc2 _ _ _, ((Ext.refl w).alloc _).alloc _⟩
  have ZL : Hid (zS64 = cellsOf (laidL h 0)) := by unfold laidL; rfl
  go_enter Try.func47, Try.ntmps47
  go_upto_region 2 with fail
  refine wp_gen (fun W => Cb W r 48 zS64 ∧ Cb W (r + 1) 48 zS64 ∧ Ext w W) B0.out ?_
  rw [← hr]
  have wr : w.heap.size ≤ r := Nat.le_of_eq hr.symm
  replace hr := Lib.hid hr
  clear B0 hal hb
  rintro w0 ⟨k0, k1, x0⟩
  have HI0 := Lib.hid (HI.out w0)
  replace k0 := Lib.hid k0
  replace k1 := Lib.hid k1
  replace x0 := Lib.hid x0
  replace hh := Lib.hid hh
  clear HI
  go_wp2_with fail
  refine HI0.out.mono ?_
  rintro e w1 ⟨A1, n1, c1, rfl, o1, x1⟩
  obtain rfl : n1 = 4 := by rw [← o1.len, L4]
  have bn := Bs.one w1 5 (0, 0) (UInt8.ofNat n)
  rw [V8] at bn
  have xa : Ext w1 (w1.alloc (.cells #[.int .u8 (n : Int)] 5)) := (Ext.refl w1).alloc _
  have o1a := Lib.hid (o1.ext xa)
  have X1 := Lib.hid (x0.out.trans (x1.trans xa))
  have x1a := Lib.hid (x1.trans xa)
  replace bn := Lib.hid bn
  have sz1 : w0.heap.size ≤ (w1.alloc (.cells #[.int .u8 (n : Int)] 5)).heap.size := x1a.out.size
  clear HI0 o1 x1 xa
  go_wp2_with (first
    | (at_builtin; refine wpList_append_bs rfl (B := w0.heap.size) (s := .tmp 11) (x := .tmp 15) rfl rfl rfl o1a.out bn.out (by omega) sz1 ?_; intro D2 cc2 w2 o2 hg2 hbl2; replace o2 := Lib.hid o2; have x02 := Lib.hid (x1a.out.trans' hbl2))
    | (at_builtin; refine wpList_append_bs rfl (B := w0.heap.size) (s := .tmp 17) (x := .tmp 18) rfl rfl rfl o2.out (HB.out _ (x0.out.trans x02.out)) (by omega) x02.out.size ?_; intro D3 cc3 w3 o3 hg3 hbl3; replace o3 := Lib.hid o3; have x03 := Lib.hid (x02.out.trans' hbl3)))
  have b3 := o3.out.bs
  rw [← hh.out] at b3
  have e5 : 4 + 1 + n = 5 + n := by omega
  rw [e5] at b3
  have HN : Hid (∀ a, D3 = some a → a.block ≠ r + 1) := fun a ha q => by
    subst ha
    have h1 := k1.out.lt
    rcases o3.out.2 with ⟨hv, _⟩ | ⟨g, cap, cur, hv, hb, _⟩
    · injection hv with q1
      cases q1
    · injection hv with q1
      injection q1 with q1
      have : a.block = g := by rw [q1]
      omega
  have k03 := Lib.hid (k0.out.ext x03.out)
  have k13 : Hid (Cb w3 (r + 1) 48 (cellsOf (laidL h 0))) := by rw [← ZL.out]; exact k1.out.ext x03.out
  have X3 := Lib.hid (x0.out.trans x03.out)
  clear o1a bn o2 o3 x02 x03 X1 x1a k0 k1 x0 HB ZL
  replace b3 := Lib.hid b3
  have hz6 : Hid (zS64.toArray.size = 64) := hzs
  clear hzs
  obtain ⟨m, hm⟩ : ∃ m, m = 5 + n := ⟨_, rfl⟩
  rw [← hm] at b3 SE hhl
  go_loopw [7] (fun v wr => ∃ k : Nat, k ≤ m ∧ v = .int .i64 (k : Int) ∧ Cb wr r 48 zS64 ∧ Cb wr (r + 1) 48 (cellsOf (laidL h k)) ∧ Bs wr D3 m cc3 h ∧ Ext w wr) (fun v _ => m - (intOf v).toNat)
  case atStart => exact ⟨0, Nat.zero_le _, rfl, k03.out, k13.out, b3.out, X3.out⟩
  case round =>
    clear k03 k13 b3 X3
    obtain ⟨k, hk, rfl, k0, k1, b, x⟩ := hrel
    have e6 : ((5 + n : Nat) : Int) = (m : Int) := by omega
    by_cases hkm : k < m
    · have l1 : decide ((k : Int) < (m : Int)) = true := decide_eq_true (by omega)
      obtain ⟨bb, off, rfl, hbb, hc⟩ := b.pos (by omega)
      have cj := hc k hkm
      have LL := laidL_len (h := h) (k := k) (by omega) (by omega)
      have c1 := k1.cell (j := k) (v := .int .u8 (bt (laidL h k) k : Int)) (by rw [cellsOf_get (by omega)])
      have f1 := k1.frozen k
      have lk : (k : Int) < 64 := by omega
      have F : Hid (Cb (wr.setCell ⟨r + 1, k, none⟩ (.int .u8 (bt h k : Int))) r 48 zS64 ∧ Cb (wr.setCell ⟨r + 1, k, none⟩ (.int .u8 (bt h k : Int))) (r + 1) 48 (cellsOf (laidL h (k + 1))) ∧ Bs (wr.setCell ⟨r + 1, k, none⟩ (.int .u8 (bt h k : Int))) (some ⟨bb, off, none⟩) m cc3 h ∧ Ext w (wr.setCell ⟨r + 1, k, none⟩ (.int .u8 (bt h k : Int)))) := by
        have g := gr_cell22 wr (r + 1) k (.int .u8 (bt h k : Int))
        refine ⟨(g.block _ k0.lt (fun q => by have := Option.some.inj q; omega)).trans k0, ?_, b.grownG g (fun _ a ha q => HN.out a ha (Option.some.inj q)), Ot.ext (p := fun i => i = r + 1) x (Ot.of_grown g rfl) (fun i q => by omega)⟩
        have := k1.setCell (o := k) (v := .int .u8 (bt h k : Int))
        rw [show (bt h k : Int) = ((h.getD k 0).toNat : Int) from rfl, cells_set22 (by omega), laidL_set (by omega) (by omega)] at this
        exact this
      clear k0 k1 b x hc
      generalize bt h k = v at *
      generalize bt (laidL h k) k = v0 at *
      go_wp2_with fail
      go_roundw
      case rel => exact ⟨k + 1, by omega, by go_num, F.out⟩
      case measure => simp [intOf]; omega
    · obtain rfl : k = m := by omega
      have l1 : decide ((k : Int) < (k : Int)) = false := decide_eq_false (by omega)
      rw [SE.out] at k1
      have SL := secL_len (i := i) (xs := xs) (by omega)
      obtain ⟨ss, hss⟩ : ∃ q, q = secL i xs := ⟨_, rfl⟩
      rw [← hss] at k1 SL
      have S_s : Hid ((cellsOf ss).toArray.size = 64) := by unfold Hid; simp [cellsOf_len, SL]
      have O_s := Lib.hid (cellsOf_one ss)
      have F : Hid (Ext w (wr.setRow r (cellsOf ss).toArray)) := below_setRow x (by omega) _
      replace k0 := Lib.hid k0
      replace k1 := Lib.hid k1
      replace hss := Lib.hid hss
      clear b x SL SE
      go_wp2_with (first
        | (refine wpList_load_row rfl 48 _ rfl (r + 1) rfl 48 (cellsOf ss).toArray (0, 0) _ k1.out rfl rfl ?_ ?_; (rw [S_s.out]; rfl); go_frame)
        | (refine wpList_store_row rfl 48 _ _ rfl r (cellsOf ss).toArray rfl rfl 48 zS64.toArray k0.out ?_ ?_ O_s.out ?_; (rw [S_s.out]; rfl); (rw [S_s.out, hz6.out]); simp only [Act.put]))
      (try simp only [Exit.inBlock, Exit.then])
      refine bodyPost_ret (results_cell_row rfl _ _ r 48 (cellsOf ss).toArray (0, 0) _ rfl (setRow_heap _ _ _ _ _ _ k0.out) rfl rfl (by rw [S_s.out]; rfl)) rfl ?_
      exact ⟨by rw [hss.out], F.out⟩
end Go.Proofs.Yteaoacinhdjkeaa
