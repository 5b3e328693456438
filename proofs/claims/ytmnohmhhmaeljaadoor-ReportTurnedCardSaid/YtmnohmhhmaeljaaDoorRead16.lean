import Derived.Test.YtmnohmhhmaeljaaDoorPkI
import Derived.Test.YtmnohmhhmaeljaaDoorStamp16
import Derived.Test.YtmnohmhhmaeljaaDoorPkH
/-
  stamp.Read (written by gen16r.py).
-/
namespace Go.Proofs.YtmnohmhhmaeljaaDoor
open Go.ChangeShapes Go.WideShapes Go.ChangeAt Go.RowKit Go.Deep
set_option maxRecDepth 100000

/-- Reading: the rest of the bytes in block x, the result in x + 1, the stamp in x + 2. -/
structure Rs (w W : World) (x : Nat) (A : Option Addr) (n c : Nat) (ys : List UInt8) (ZS L : List Value) : Prop where
  bs : Bs w A n c ys
  rest : Cb W x 22 [.slice A n c]
  res : Cb W (x + 1) 26 ZS
  st : Cb W (x + 2) 26 L
  new : w.heap.size ≤ x
  ext : Ext w W
theorem Rs.onto {w W W' : World} {x : Nat} {A : Option Addr} {n c : Nat} {ys : List UInt8} {ZS L : List Value} (h : Rs w W x A n c ys ZS L) (e : Ext W W') : Rs w W' x A n c ys ZS L := ⟨h.bs, h.rest.ext e, h.res.ext e, h.st.ext e, h.new, h.ext.trans e⟩
theorem Rs.next {w W : World} {x : Nat} {A : Option Addr} {n c k : Nat} {ys : List UInt8} {ZS L : List Value} (h : Rs w W x A n c ys ZS L) (hk : k ≤ n) (hm : k ≤ 1000000) :
    Calls Tryd.prog 95 #[.int .i64 (k : Int), .pointer (some ⟨x, 0, none⟩)] W fun e w' => e = .returned (.slice A k c) ∧ ∃ A', Bs w A k c (ys.take k) ∧ Rs w w' x A' (n - k) (c - k) (ys.drop k) ZS L ∧ W.grownBy w' (some x) :=
  (next16_calls h.rest (h.bs.ext h.ext) hk hm).mono fun e w' q => by
    obtain ⟨q1, A', k1, _, _, g, cut⟩ := q
    obtain ⟨b1, b2⟩ := cut w h.bs
    have hn := h.new
    have hs := g.size
    have xe : Ext w w' := Below.trans h.ext ⟨g.os, g.tape, g.output, g.size, fun i hi => g.block i (Nat.lt_of_lt_of_le hi h.ext.size) (fun z => by have := Option.some.inj z; omega)⟩
    refine ⟨q1, A', b1, ⟨b2, k1, (g.block _ h.res.lt (fun z => by have := Option.some.inj z; omega)).trans h.res, (g.block _ h.st.lt (fun z => by have := Option.some.inj z; omega)).trans h.st, h.new, xe⟩, g⟩
theorem Rs.num {w W : World} {x : Nat} {A A2 : Option Addr} {n c k c2 : Nat} {ys zs : List UInt8} {ZS L : List Value} (h : Rs w W x A n c ys ZS L) (hb : Bs w A2 k c2 (zs.take k)) (hk : k ≤ 4) :
    Calls Tryd.prog 96 #[.slice A2 k c2] W fun e w' => e = .returned (.int .i64 (numN zs k : Int)) ∧ Rs w w' x A n c ys ZS L := by
  have hn : numN (zs.take k) k = numN zs k := by unfold numN; rw [List.take_take, Nat.min_self]
  have hl : numN (zs.take k) k < 4294967296 := by
    have q := ofLowL_lt ((zs.take k).take k).reverse
    have hlen : ((zs.take k).take k).reverse.length ≤ k := by simp; omega
    have h3 : 256 ^ (((zs.take k).take k).reverse.length) ≤ 256 ^ 4 := Nat.pow_le_pow_right (by decide) (by omega)
    unfold numN
    omega
  rw [← hn]
  exact (number16_calls (hb.ext h.ext) hk hl).mono fun e w' q => ⟨q.1, h.onto q.2⟩
theorem Rs.row {w W : World} {x : Nat} {A : Option Addr} {n c : Nat} {ys : List UInt8} {ZS L L' : List Value} (h : Rs w W x A n c ys ZS L) (hL : Cb (W.setRow (x + 2) L'.toArray) (x + 2) 26 L') : Rs w (W.setRow (x + 2) L'.toArray) x A n c ys ZS L' := by
  have hn := h.new
  exact ⟨h.bs, (setRow_other _ _ _ _ (by omega)).trans h.rest, (setRow_other _ _ _ _ (by omega)).trans h.res, hL, h.new, below_setRow h.ext (by omega) _⟩
theorem Rs.cell {w W : World} {x j : Nat} {A : Option Addr} {n c : Nat} {ys : List UInt8} {ZS L : List Value} {v : Value} (h : Rs w W x A n c ys ZS L) (hj : j < L.length) : Rs w (W.setCell ⟨x + 2, j, none⟩ v) x A n c ys ZS (L.set j v) := by
  have hn := h.new
  have g : W.grownBy (W.setCell ⟨x + 2, j, none⟩ v) (some (x + 2)) := grown_setCell8
  have hk : Cb (W.setCell ⟨x + 2, j, none⟩ v) (x + 2) 26 (L.set j v) := by
    have := heap_setCells_row [v] j W L h.st (by simp; omega)
    have e2 : splice L j [v] = L.set j v := by
      have q := splice_cons L j v [] hj
      rw [← q]
      simp [splice]
    rw [e2] at this
    exact this
  exact ⟨h.bs, (g.block _ h.rest.lt (fun z => by have := Option.some.inj z; omega)).trans h.rest, (g.block _ h.res.lt (fun z => by have := Option.some.inj z; omega)).trans h.res, hk, h.new, Below.trans h.ext ⟨g.os, g.tape, g.output, g.size, fun i hi => g.block i (Nat.lt_of_lt_of_le hi h.ext.size) (fun z => by have := Option.some.inj z; omega)⟩⟩
theorem Rs.bs' {w W : World} {x : Nat} {A A2 : Option Addr} {n c k c2 : Nat} {ys zs : List UInt8} {ZS L : List Value} (h : Rs w W x A n c ys ZS L) (hb : Bs w A2 k c2 zs) : Bs W A2 k c2 zs := hb.ext h.ext
def Px16 (x i : Nat) : Prop := i = x ∨ i = x + 2
theorem Cb.put_row {w : World} {g : Nat} {T : TypeId} {L L' : List Value} (h : Cb w g T L) : Cb (w.setRow g L'.toArray) g T L' := setRow_heap _ _ _ _ _ _ h
theorem read_facts {b : List UInt8} : (b.length < 74 → readS16 b = zSm ∧ readE16 b = 3) ∧ (74 < b.length → readS16 b = zSm ∧ readE16 b = 2) ∧ (b.length = 74 → (rdS b).valid = false → readS16 b = zSm ∧ readE16 b = 2) ∧ (b.length = 74 → (rdS b).valid = true → readS16 b = rdS b ∧ readE16 b = 0) := by
  have q : ∀ z, readE16 b = z → z ≠ 0 → readS16 b = zSm := fun z h hz => by unfold readS16; rw [h, if_neg hz]
  refine ⟨fun h => ?_, fun h => ?_, fun h hv => ?_, fun h hv => ?_⟩
  · have e : readE16 b = 3 := by unfold readE16; rw [if_pos h]
    exact ⟨q _ e (by decide), e⟩
  · have e : readE16 b = 2 := by unfold readE16; rw [if_neg (by omega), if_pos h]
    exact ⟨q _ e (by decide), e⟩
  · have e : readE16 b = 2 := by unfold readE16; rw [if_neg (by omega), if_neg (by omega), hv]; rfl
    exact ⟨q _ e (by decide), e⟩
  · have e : readE16 b = 0 := by unfold readE16; rw [if_neg (by omega), if_neg (by omega), hv]; rfl
    exact ⟨by unfold readS16; rw [if_pos e], e⟩
set_option maxHeartbeats 8000000 in
theorem read16_calls {w : World} {n c : Nat} {A : Option Addr} {b : List UInt8} (hb : Bs w A n c b) :
    Calls Tryd.prog 58 #[.slice A n c] w fun e w' => e = .returned (.tuple #[.agg (readS16 b).C.toArray, .int .i64 (readE16 b)]) ∧ Ext w w' := by
  have hmf : ∀ (fn : Fn) (first cap : Array Value) (w : World), (Instr.makeFunc fn first cap).run Tryd.prog w = .ok (.func fn first cap) w := fun _ _ _ _ => rfl
  obtain ⟨R0, R1, R2, R3⟩ := read_facts (b := b)
  rw [hb.1] at R0 R1 R2 R3
  replace R0 := Lib.hid R0
  replace R1 := Lib.hid R1
  replace R2 := Lib.hid R2
  replace R3 := Lib.hid R3
  have hal := stamp_alloc16
  have BZ := Lib.hid stamp_built0
  have L_Z := Sm.C_len zSm_ok
  have O_Z := one_cells zSm.one
  obtain ⟨ZS, hZS⟩ : ∃ ZS, ZS = zSm.C := ⟨_, rfl⟩
  rw [← hZS] at hal BZ L_Z O_Z
  have S_Z : ZS.toArray.size = 68 := by rw [List.size_toArray, L_Z]
  have ZR : Hid (∀ s, s = zSm → s.C.toArray = ZS.toArray) := fun s z => by rw [z, hZS]
  have ZV : Hid (ZS = stC 0 0 0 0 (List.replicate 32 0) (List.replicate 32 0)) := hZS
  clear hZS
  have hn48 := hb.2.2.1
  have hnc := hb.2.1
  have hbl := hb.1
  obtain ⟨x, hx⟩ : ∃ x, x = w.heap.size := ⟨_, rfl⟩
  have B0 : Hid (Cb ((w.alloc (.cells #[.slice A n c] 22)).alloc (.cells ZS.toArray 26)) x 22 [.slice A n c] ∧ Cb ((w.alloc (.cells #[.slice A n c] 22)).alloc (.cells ZS.toArray 26)) (x + 1) 26 ZS ∧ Ext w ((w.alloc (.cells #[.slice A n c] 22)).alloc (.cells ZS.toArray 26)) ∧ ((w.alloc (.cells #[.slice A n c] 22)).alloc (.cells ZS.toArray 26)).heap.size = x + 2) := by
    rw [hx]; exact ⟨heap_alloc1 _ _ _, heap_alloc2 _ _ _, ((Ext.refl w).alloc _).alloc _, by show ((w.heap.push _).push _).size = _; simp⟩
  replace hx := Lib.hid hx
  replace hb := Lib.hid hb
  obtain ⟨RE, hRE⟩ : ∃ r, r = readE16 b := ⟨_, rfl⟩
  obtain ⟨RS, hRS⟩ : ∃ r, r = readS16 b := ⟨_, rfl⟩
  rw [← hRE, ← hRS] at R0 R1 R2 R3 ⊢
  clear hRE hRS
  go_enter Tryd.func58, Tryd.ntmps58
  go_upto_region 1 with fail
  refine wp_gen (fun W => Cb W x 22 [.slice A n c] ∧ Cb W (x + 1) 26 ZS ∧ Ext w W ∧ W.heap.size = x + 2) B0.out ?_
  rw [← hx.out]
  have wx_ : w.heap.size ≤ x := Nat.le_of_eq hx.out.symm
  clear B0 hx
  rintro w0 ⟨k0, k1, x0, z0⟩
  have c0 := k0.cell (j := 0) rfl
  replace k0 := Lib.hid k0
  by_cases q1 : n < 74
  · have u1 : decide ((n : Int) < 74) = true := decide_eq_true (by omega)
    have z1 := Lib.hid (R0.out q1)
    have F : Hid (Ext w (w0.setRow (x + 1) ZS.toArray)) := below_setRow x0 (by omega) _
    clear R0 R1 R2 R3 k0 x0 hmf
    go_wp2_with (first
      | (refine wpList_build_as rfl _ _ rfl ZS.toArray (by simp only [List.map_toArray, List.map_nil]; exact BZ.out) ?_; go_frame)
      | (refine wpList_store_row rfl 26 _ _ rfl (x + 1) ZS.toArray rfl rfl 26 ZS.toArray k1 (by rw [S_Z]; rfl) rfl O_Z ?_; simp only [Act.put]))
    (try simp only [Exit.inBlock, Exit.then])
    
    refine bodyPost_ret (results_row_tmp rfl _ _ (x + 1) 26 ZS.toArray (0, 0) _ _ rfl rfl (setRow_heap _ _ _ _ _ _ k1) rfl rfl (by rw [S_Z]; rfl)) rfl ?_
    exact ⟨by rw [z1.out.2, ZR.out _ z1.out.1]; rfl, F.out⟩
  have u1 : decide ((n : Int) < 74) = false := decide_eq_false (by omega)
  by_cases q2 : 74 < n
  · have u2 : decide ((74 : Int) < (n : Int)) = true := decide_eq_true (by omega)
    have z1 := Lib.hid (R1.out q2)
    have F : Hid (Ext w (w0.setRow (x + 1) ZS.toArray)) := below_setRow x0 (by omega) _
    clear R0 R1 R2 R3 k0 x0 hmf
    go_wp2_with (first
      | (refine wpList_build_as rfl _ _ rfl ZS.toArray (by simp only [List.map_toArray, List.map_nil]; exact BZ.out) ?_; go_frame)
      | (refine wpList_store_row rfl 26 _ _ rfl (x + 1) ZS.toArray rfl rfl 26 ZS.toArray k1 (by rw [S_Z]; rfl) rfl O_Z ?_; simp only [Act.put]))
    (try simp only [Exit.inBlock, Exit.then])
    
    refine bodyPost_ret (results_row_tmp rfl _ _ (x + 1) 26 ZS.toArray (0, 0) _ _ rfl rfl (setRow_heap _ _ _ _ _ _ k1) rfl rfl (by rw [S_Z]; rfl)) rfl ?_
    exact ⟨by rw [z1.out.2, ZR.out _ z1.out.1]; rfl, F.out⟩
  have u2 : decide ((74 : Int) < (n : Int)) = false := decide_eq_false (by omega)
  have hn : n = 74 := by omega
  replace R2 := Lib.hid (R2.out hn)
  replace R3 := Lib.hid (R3.out hn)
  clear R0 R1
  go_upto_region 6 with fail
  clear u1 u2 q1 q2 c0
  subst hn
  have B1 : Hid (Rs w (w0.alloc (.cells ZS.toArray 26)) x A 74 c b ZS ZS) := ⟨hb.out, k0.out.ext ((Ext.refl w0).alloc _), k1.ext ((Ext.refl w0).alloc _), by rw [← z0]; exact Cb.new _ _ _, wx_, x0.alloc _⟩
  clear k0 k1 x0 hmf hb
  go_upto_region 7 with fail
  refine wp_gen (fun W => Rs w W x A 74 c b ZS ZS) B1.out ?_
  clear B1 z0 w0
  rintro w1 h0
  have N := Lib.hid (h0.next (k := 4) (by omega) (by omega))
  obtain ⟨v0, hv0⟩ : ∃ v, v = numN b 4 := ⟨_, rfl⟩
  obtain ⟨y1, hy1⟩ : ∃ y, y = b.drop 4 := ⟨_, rfl⟩
  obtain ⟨c1, hc1⟩ : ∃ d, d = c - 4 := ⟨_, rfl⟩
  obtain ⟨L1, hL1⟩ : ∃ l, l = ZS.set 0 (.int .i64 (v0 : Int)) := ⟨_, rfl⟩
  have L_1 : L1.length = 68 := by rw [hL1, List.length_set]; exact L_Z
  rw [← hy1, ← hc1] at N
  replace hL1 := Lib.hid hL1
  replace hy1 := Lib.hid hy1
  clear hc1 h0
  go_wp2_with fail
  refine N.out.mono ?_
  rintro e w2 ⟨rfl, A1, b1, h1, g1⟩
  have M := Lib.hid (h1.num b1 (by omega))
  rw [← hv0] at M
  replace hv0 := Lib.hid hv0
  clear N b1 h1 g1
  go_wp2_with fail
  refine M.out.mono ?_
  rintro e w3 ⟨rfl, h2⟩
  have fz := h2.st.frozen 0
  obtain ⟨ov, hov⟩ : ∃ v, ZS[0]? = some v := ⟨_, List.getElem?_eq_getElem (by omega)⟩
  have cz := h2.st.cell hov
  have h3 := h2.cell (j := 0) (v := .int .i64 (v0 : Int)) (by omega)
  rw [← hL1.out] at h3
  replace h3 := Lib.hid h3
  clear M hov h2
  go_upto_region 8 with fail
  refine wp_gen (fun W => Rs w W x A1 (74 - 4) c1 y1 ZS L1) h3.out ?_
  clear h3 fz cz ov w3 w2 w1
  rintro w1 h0
  have N := Lib.hid (h0.next (k := 1) (by omega) (by omega))
  obtain ⟨v1, hv1⟩ : ∃ v, v = numN y1 1 := ⟨_, rfl⟩
  obtain ⟨y2, hy2⟩ : ∃ y, y = y1.drop 1 := ⟨_, rfl⟩
  obtain ⟨c2, hc2⟩ : ∃ d, d = c1 - 1 := ⟨_, rfl⟩
  obtain ⟨L2, hL2⟩ : ∃ l, l = L1.set 1 (.int .i64 (v1 : Int)) := ⟨_, rfl⟩
  have L_2 : L2.length = 68 := by rw [hL2, List.length_set]; exact L_1
  rw [← hy2, ← hc2] at N
  replace hL2 := Lib.hid hL2
  replace hy2 := Lib.hid hy2
  clear hc2 h0
  go_wp2_with fail
  refine N.out.mono ?_
  rintro e w2 ⟨rfl, A2, b1, h1, g1⟩
  have M := Lib.hid (h1.num b1 (by omega))
  rw [← hv1] at M
  replace hv1 := Lib.hid hv1
  clear N b1 h1 g1
  go_wp2_with fail
  refine M.out.mono ?_
  rintro e w3 ⟨rfl, h2⟩
  have fz := h2.st.frozen 1
  obtain ⟨ov, hov⟩ : ∃ v, L1[1]? = some v := ⟨_, List.getElem?_eq_getElem (by omega)⟩
  have cz := h2.st.cell hov
  have h3 := h2.cell (j := 1) (v := .int .i64 (v1 : Int)) (by omega)
  rw [← hL2.out] at h3
  replace h3 := Lib.hid h3
  clear M hov h2
  go_upto_region 9 with fail
  refine wp_gen (fun W => Rs w W x A2 ((74 - 4) - 1) c2 y2 ZS L2) h3.out ?_
  clear h3 fz cz ov w3 w2 w1
  rintro w1 h0
  have N := Lib.hid (h0.next (k := 1) (by omega) (by omega))
  obtain ⟨v2, hv2⟩ : ∃ v, v = numN y2 1 := ⟨_, rfl⟩
  obtain ⟨y3, hy3⟩ : ∃ y, y = y2.drop 1 := ⟨_, rfl⟩
  obtain ⟨c3, hc3⟩ : ∃ d, d = c2 - 1 := ⟨_, rfl⟩
  obtain ⟨L3, hL3⟩ : ∃ l, l = L2.set 2 (.int .i64 (v2 : Int)) := ⟨_, rfl⟩
  have L_3 : L3.length = 68 := by rw [hL3, List.length_set]; exact L_2
  rw [← hy3, ← hc3] at N
  replace hL3 := Lib.hid hL3
  replace hy3 := Lib.hid hy3
  clear hc3 h0
  go_wp2_with fail
  refine N.out.mono ?_
  rintro e w2 ⟨rfl, A3, b1, h1, g1⟩
  have M := Lib.hid (h1.num b1 (by omega))
  rw [← hv2] at M
  replace hv2 := Lib.hid hv2
  clear N b1 h1 g1
  go_wp2_with fail
  refine M.out.mono ?_
  rintro e w3 ⟨rfl, h2⟩
  have fz := h2.st.frozen 2
  obtain ⟨ov, hov⟩ : ∃ v, L2[2]? = some v := ⟨_, List.getElem?_eq_getElem (by omega)⟩
  have cz := h2.st.cell hov
  have h3 := h2.cell (j := 2) (v := .int .i64 (v2 : Int)) (by omega)
  rw [← hL3.out] at h3
  replace h3 := Lib.hid h3
  clear M hov h2
  go_upto_region 10 with fail
  refine wp_gen (fun W => Rs w W x A3 (((74 - 4) - 1) - 1) c3 y3 ZS L3) h3.out ?_
  clear h3 fz cz ov w3 w2 w1
  rintro w1 h0
  have N := Lib.hid (h0.next (k := 4) (by omega) (by omega))
  obtain ⟨v3, hv3⟩ : ∃ v, v = numN y3 4 := ⟨_, rfl⟩
  obtain ⟨y4, hy4⟩ : ∃ y, y = y3.drop 4 := ⟨_, rfl⟩
  obtain ⟨c4, hc4⟩ : ∃ d, d = c3 - 4 := ⟨_, rfl⟩
  obtain ⟨L4, hL4⟩ : ∃ l, l = L3.set 3 (.int .i64 (v3 : Int)) := ⟨_, rfl⟩
  have L_4 : L4.length = 68 := by rw [hL4, List.length_set]; exact L_3
  rw [← hy4, ← hc4] at N
  replace hL4 := Lib.hid hL4
  replace hy4 := Lib.hid hy4
  clear hc4 h0
  go_wp2_with fail
  refine N.out.mono ?_
  rintro e w2 ⟨rfl, A4, b1, h1, g1⟩
  have M := Lib.hid (h1.num b1 (by omega))
  rw [← hv3] at M
  replace hv3 := Lib.hid hv3
  clear N b1 h1 g1
  go_wp2_with fail
  refine M.out.mono ?_
  rintro e w3 ⟨rfl, h2⟩
  have fz := h2.st.frozen 3
  obtain ⟨ov, hov⟩ : ∃ v, L3[3]? = some v := ⟨_, List.getElem?_eq_getElem (by omega)⟩
  have cz := h2.st.cell hov
  have h3 := h2.cell (j := 3) (v := .int .i64 (v3 : Int)) (by omega)
  rw [← hL4.out] at h3
  replace h3 := Lib.hid h3
  clear M hov h2
  go_upto_region 11 with fail
  refine wp_gen (fun W => Rs w W x A4 ((((74 - 4) - 1) - 1) - 4) c4 y4 ZS L4) h3.out ?_
  clear h3 fz cz ov w3 w2 w1
  have HL4 : Hid (L4 = [.int .i64 (v0 : Int), .int .i64 (v1 : Int), .int .i64 (v2 : Int), .int .i64 (v3 : Int)] ++ (cellsOf (List.replicate 32 0) ++ cellsOf (List.replicate 32 0))) := by
    rw [hL4.out, hL3.out, hL2.out, hL1.out, ZV.out]; rfl
  clear hL4 hL3 hL2 hL1 ZV
  clear L_1 L_2 L_3
  rintro w1 h0
  have N := Lib.hid ((h0.onto (Ext.refl w1).drew).next (k := 32) (by omega) (by omega))
  obtain ⟨cm, hcm⟩ : ∃ y, y = y4.take 32 := ⟨_, rfl⟩
  obtain ⟨y5, hy5⟩ : ∃ y, y = y4.drop 32 := ⟨_, rfl⟩
  obtain ⟨c5, hc5⟩ : ∃ d, d = c4 - 32 := ⟨_, rfl⟩
  obtain ⟨L5, hL5⟩ : ∃ l, l = [Value.int .i64 (v0 : Int), .int .i64 (v1 : Int), .int .i64 (v2 : Int), .int .i64 (v3 : Int)] ++ (cellsOf cm ++ cellsOf (List.replicate 32 0)) := ⟨_, rfl⟩
  rw [← hy5, ← hc5, ← hcm] at N
  replace hL5 := Lib.hid hL5
  replace hy5 := Lib.hid hy5
  replace hcm := Lib.hid hcm
  clear hc5 h0
  go_upto_region 11 with fail
  refine qgR (R := Ot (Px16 x)) (Ot.refl _) (fun _ _ _ => Ot.trans) [0, 1, 2, 3, 4] [3, 4] ?_
  generalize w1.drew = V at *
  clear w1
  repeat ((first | refine qR0 ?_ | refine qS ?_); go_frame)
  refine qD fun K hK => ?_
  go_simp
  refine N.out.mono ?_
  rintro e w2 ⟨rfl, A5, b1, h1, g1⟩
  refine hK.out _ _ (Ot.of_grown g1 (.inl rfl)) ?_
  clear hK K
  try go_frame
  have lcm : cm.length = 32 := b1.1
  have hq := Lib.hid h1.st
  have hb1 := Lib.hid (h1.bs' b1)
  have h3 : Hid (Rs w (w2.setRow (x + 2) L5.toArray) x A5 (((((74 - 4) - 1) - 1) - 4) - 32) c5 y5 ZS L5) := Lib.hid (h1.row (Cb.put_row h1.st))
  rw [hL5.out] at h3
  clear N b1 g1 h1
  refine qD fun K hK => ?_
  go_simp
  refine upon_copy_mid (L := L4) (p := [.int .i64 (v0 : Int), .int .i64 (v1 : Int), .int .i64 (v2 : Int), .int .i64 (v3 : Int)]) (y := cellsOf (List.replicate 32 0)) (q := cellsOf (List.replicate 32 0)) rfl hq.out HL4.out (by rfl) (by simp [cellsOf_len]) hb1.out (by omega) ?_
  refine hK.out _ _ (Ot.row _ _ (.inr rfl)) ?_
  clear hK K
  try go_frame
  refine seq_done ?_
  refine gen_q (fun W => Rs w W x A5 (((((74 - 4) - 1) - 1) - 4) - 32) c5 y5 ZS ([Value.int .i64 (v0 : Int), .int .i64 (v1 : Int), .int .i64 (v2 : Int), .int .i64 (v3 : Int)] ++ (cellsOf cm ++ cellsOf (List.replicate 32 0)))) h3.out ?_
  clear h3 hq hb1 w2
  rw [← hL5.out]
  have HL5 : Hid (L5 = ([.int .i64 (v0 : Int), .int .i64 (v1 : Int), .int .i64 (v2 : Int), .int .i64 (v3 : Int)] ++ cellsOf cm) ++ (cellsOf (List.replicate 32 0) ++ [])) := Lib.hid (by rw [hL5.out]; simp)
  clear hL5 HL4
  rintro w1 h0
  have N := Lib.hid ((h0.onto (Ext.refl w1).drew).next (k := 32) (by omega) (by omega))
  obtain ⟨tg, htg⟩ : ∃ y, y = y5.take 32 := ⟨_, rfl⟩
  obtain ⟨y6, hy6⟩ : ∃ y, y = y5.drop 32 := ⟨_, rfl⟩
  obtain ⟨c6, hc6⟩ : ∃ d, d = c5 - 32 := ⟨_, rfl⟩
  obtain ⟨L6, hL6⟩ : ∃ l, l = ([Value.int .i64 (v0 : Int), .int .i64 (v1 : Int), .int .i64 (v2 : Int), .int .i64 (v3 : Int)] ++ cellsOf cm) ++ (cellsOf tg ++ []) := ⟨_, rfl⟩
  rw [← hy6, ← hc6, ← htg] at N
  replace hL6 := Lib.hid hL6
  replace hy6 := Lib.hid hy6
  replace htg := Lib.hid htg
  clear hc6 h0
  go_upto_region 12 with fail
  refine qgR (R := Ot (Px16 x)) (Ot.refl _) (fun _ _ _ => Ot.trans) [0, 1, 2, 3, 4] [3, 4] ?_
  generalize w1.drew = V at *
  clear w1
  repeat ((first | refine qR0 ?_ | refine qS ?_); go_frame)
  refine qD fun K hK => ?_
  go_simp
  refine N.out.mono ?_
  rintro e w2 ⟨rfl, A6, b1, h1, g1⟩
  refine hK.out _ _ (Ot.of_grown g1 (.inl rfl)) ?_
  clear hK K
  try go_frame
  have ltg : tg.length = 32 := b1.1
  have hq := Lib.hid h1.st
  have hb1 := Lib.hid (h1.bs' b1)
  have h3 : Hid (Rs w (w2.setRow (x + 2) L6.toArray) x A6 ((((((74 - 4) - 1) - 1) - 4) - 32) - 32) c6 y6 ZS L6) := Lib.hid (h1.row (Cb.put_row h1.st))
  rw [hL6.out] at h3
  clear N b1 g1 h1
  refine qD fun K hK => ?_
  go_simp
  refine upon_copy_mid (L := L5) (p := [.int .i64 (v0 : Int), .int .i64 (v1 : Int), .int .i64 (v2 : Int), .int .i64 (v3 : Int)] ++ cellsOf cm) (y := cellsOf (List.replicate 32 0)) (q := []) rfl hq.out HL5.out (by simp [cellsOf_len, lcm]) (by simp [cellsOf_len]) hb1.out (by omega) ?_
  refine hK.out _ _ (Ot.row _ _ (.inr rfl)) ?_
  clear hK K
  try go_frame
  refine seq_done ?_
  refine gen_q (fun W => Rs w W x A6 ((((((74 - 4) - 1) - 1) - 4) - 32) - 32) c6 y6 ZS (([Value.int .i64 (v0 : Int), .int .i64 (v1 : Int), .int .i64 (v2 : Int), .int .i64 (v3 : Int)] ++ cellsOf cm) ++ (cellsOf tg ++ []))) h3.out ?_
  clear h3 hq hb1 w2
  rw [← hL6.out]
  have HR : Hid (L6 = (rdS b).C) := Lib.hid (by
    rw [hL6.out, htg.out, hy5.out, hcm.out, hy4.out, hv3.out, hy3.out, hv2.out, hy2.out, hv1.out, hy1.out, hv0.out]
    simp [rdS, Sm.C, stC, List.drop_drop])
  have ok6 : (rdS b).ok := rdS_ok (by omega)
  have VA : Hid (∀ (W : World), Calls Tryd.prog 84 #[.agg L6.toArray] W fun e w' => e = .returned (.bool (rdS b).valid) ∧ Ext W w') := Lib.hid fun W => by rw [HR.out]; exact valid16_calls
  have L_6 : L6.length = 68 := by rw [HR.out]; exact Sm.C_len ok6
  have S_6 : L6.toArray.size = 68 := by rw [List.size_toArray, L_6]
  have O_7 : L6.toArray.all (·.oneCell') = true := by rw [HR.out]; exact one_cells (rdS b).one
  clear HL5 hL6 htg hy6 hy5 hcm hy4 hv3 hy3 hv2 hy2 hv1 hy1 hv0 ok6 L_4 lcm ltg
  rintro w1 h0
  have k6 := Lib.hid h0.st
  go_wp2_with (first | ((with_reducible refine wpList_load_rowW (o := ⟨some 41, _, _, _, _, _⟩) ?_ 26 _ rfl (x + 2) ?_ 26 L6.toArray (0, 0) _ ?_ Tryd.underlying26 ?_ ?_ ?_); (· rfl); (· rfl); (· exact k6.out); (· rfl); (· rw [S_6]; rfl); go_frame))
  refine (VA.out _).mono ?_
  rintro e w2 ⟨rfl, x2⟩
  have h2 := h0.onto x2
  have k2 := h2.st
  have k1 := h2.res
  have xe := h2.ext
  clear k6 h0 x2 VA
  rcases hv : (rdS b).valid with _ | _
  · have z1 := Lib.hid (R2.out hv)
    have F : Hid (Ext w (w2.setRow (x + 1) ZS.toArray)) := below_setRow xe (by omega) _
    clear R2 R3 h2 xe k2 hv
    go_wp2_with (first
      | (refine wpList_build_as rfl _ _ rfl ZS.toArray (by simp only [List.map_toArray, List.map_nil]; exact BZ.out) ?_; go_frame)
      | (refine wpList_store_row rfl 26 _ _ rfl (x + 1) ZS.toArray rfl rfl 26 ZS.toArray k1 (by rw [S_Z]; rfl) rfl O_Z ?_; simp only [Act.put]))
    (try simp only [Exit.inBlock, Exit.then])
    refine bodyPost_ret (results_row_tmp rfl _ _ (x + 1) 26 ZS.toArray (0, 0) _ _ rfl rfl (setRow_heap _ _ _ _ _ _ k1) rfl rfl (by rw [S_Z]; rfl)) rfl ?_
    exact ⟨by rw [z1.out.2, ZR.out _ z1.out.1]; rfl, F.out⟩
  · have z1 := Lib.hid (R3.out hv)
    have F : Hid (Ext w (w2.setRow (x + 1) L6.toArray)) := below_setRow xe (by omega) _
    clear R2 R3 h2 xe hv ZR
    go_wp2_with (first
      | ((with_reducible refine wpList_load_rowW (o := ⟨some 45, _, _, _, _, _⟩) ?_ 26 _ rfl (x + 2) ?_ 26 L6.toArray (0, 0) _ ?_ Tryd.underlying26 ?_ ?_ ?_); (· rfl); (· rfl); (· exact k2); (· rfl); (· rw [S_6]; rfl); go_frame)
      | (refine wpList_store_row rfl 26 _ _ rfl (x + 1) L6.toArray rfl rfl 26 ZS.toArray k1 (by rw [S_6]; rfl) (by rw [S_6, S_Z]) O_7 ?_; simp only [Act.put]))
    (try simp only [Exit.inBlock, Exit.then])
    refine bodyPost_ret (results_row_tmp rfl _ _ (x + 1) 26 L6.toArray (0, 0) _ _ rfl rfl (setRow_heap _ _ _ _ _ _ k1) rfl rfl (by rw [S_6]; rfl)) rfl ?_
    exact ⟨by rw [z1.out.2, z1.out.1, ← HR.out]; rfl, F.out⟩
end Go.Proofs.YtmnohmhhmaeljaaDoor
