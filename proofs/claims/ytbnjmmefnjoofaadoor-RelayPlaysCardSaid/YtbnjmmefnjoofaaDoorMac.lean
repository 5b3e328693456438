import Derived.Test.YtbnjmmefnjoofaaDoorPkL
/-
  blake.Mac.
-/
namespace Go.Proofs.YtbnjmmefnjoofaaDoor
open Go.ChangeShapes Go.WideShapes Go.ChangeAt Go.RowKit Go.Deep

set_option maxRecDepth 100000 in
set_option maxHeartbeats 1000000 in
theorem mac_long {A A' : Option Addr} {n c m d : Nat} {ks bs : List UInt8} {w : World} (h : Bs w A n c ks) (h' : Bs w A' m d bs) (hk : 32 < n) :
    Calls Tryd.prog 43 #[.slice A n c, .slice A' m d] w fun e w' => e = .returned (.tuple #[.agg (cellsOf (List.replicate 32 0)).toArray, .int .i64 1]) ∧ Ext w w' := by
  have h1 := h.le
  have h2 := h.cap
  have hk' : decide ((32 : Int) < (n : Int)) = true := by simp; omega
  have hb := zeros32_built
  have hs := zeros32_size
  have ho := zeros32_one
  have hc := Lib.hid zeros32_cells
  have hz : Hid (∀ w : World, (w.alloc (Obj.cells zeros32 23)).heap[w.heap.size]? = some (Obj.cells zeros32 23)) := fun w => heap_alloc_new _ _
  have he : Hid (∀ w : World, ∀ C, Ext w ((w.alloc (Obj.cells zeros32 23)).setRow w.heap.size C)) := fun w C => below_setRow ((Ext.refl w).alloc _) (Nat.le_refl _) _
  have hal : ∀ w, (zeroValue 23).run Tryd.prog w = .ok (.agg zeros32) w := fun _ => by kernel_rfl
  generalize zeros32 = Z at hb hs ho hc hz he hal
  go_enter Tryd.func43, Tryd.ntmps43
  go_wp2_with (first
    | refine wpList_build_as rfl _ _ rfl Z hb ?_
    | refine wpList_store_row rfl 23 _ _ rfl w.heap.size Z rfl rfl 23 _ (by with_reducible exact hz.out _) (by rw [hs]; rfl) rfl ho ?_)
  (try simp only [Exit.inBlock, Exit.then])
  refine bodyPost_ret (v := .tuple #[.agg Z, .int .i64 1]) ?_ rfl ?_
  · exact results_row_tmp rfl _ _ w.heap.size 23 Z (0, 0) _ _ rfl rfl (setRow_heap _ _ _ _ _ _ (hz.out _)) rfl rfl (by rw [hs]; rfl)
  · exact ⟨by rw [hc.out], he.out _ _⟩

/-- The worlds of Mac: the result (zeros), h. -/
theorem gr_row (w : World) (g : Nat) (C : Array Value) : w.grownBy (w.setRow g C) (some g) :=
  ⟨rfl, rfl, rfl, by simp, fun i _ hne => setRow_other _ _ _ _ (fun q => hne (by rw [q]))⟩
def slen : Value → Nat
  | .slice _ n _ => n
  | _ => 0
def Mw (w wr : World) (hs : List Nat) : Prop :=
  Ext w wr ∧ wr.heap[w.heap.size]? = some (.cells (List.replicate 32 (Value.int .u8 0)).toArray 23 (0, 0)) ∧ Wr wr (w.heap.size + 1) 135 hs
theorem Mw.ext {w wr wr' : World} {hs : List Nat} (h : Mw w wr hs) (e : Ext wr wr') : Mw w wr' hs :=
  ⟨h.1.trans e, (e.block _ (heap_lt h.2.1)).trans h.2.1, h.2.2.kept e h.2.2.lt⟩
theorem Mw.set {w wr : World} {hs : List Nat} (h : Mw w wr hs) (k x : Nat) : Mw w (wr.setCell ⟨w.heap.size + 1, k, none⟩ (.int .u32 (x : Int))) (hs.set k x) :=
  ⟨h.1.setCell (show w.heap.size ≤ w.heap.size + 1 by omega) _, (Below.heap_setCell _ _ _ _ (show w.heap.size ≠ w.heap.size + 1 by omega)).trans h.2.1, h.2.2.set⟩
theorem Mw.put {w wr : World} {hs hs' : List Nat} (h : Mw w wr hs) : Mw w (wr.setRow (w.heap.size + 1) (wcells hs').toArray) hs' :=
  ⟨below_setRow h.1 (by omega) _, (setRow_other _ _ _ _ (by omega)).trans h.2.1, setRow_heap _ _ _ _ _ _ h.2.2⟩

set_option maxRecDepth 100000 in
set_option maxHeartbeats 4000000 in
theorem mac_calls {A A' : Option Addr} {n c m d : Nat} {ks bs : List UInt8} {w : World} (h : Bs w A n c ks) (h' : Bs w A' m d bs) (hk : n ≤ 32) {tg : TypeId × Nat × Nat} (hG : Gl w tg) :
    Calls Tryd.prog 43 #[.slice A n c, .slice A' m d] w fun e w' => e = .returned (.tuple #[.agg (cellsOf (macL ks bs)).toArray, .int .i64 0]) ∧ Ext w w' := by
  have h1 := h.le
  have h2 := h.cap
  have h3 := h'.le
  have h4 := h'.cap
  have hk' : decide ((32 : Int) < (n : Int)) = false := by simp; omega
  have HG : Hid (∀ wr : World, Ext w wr → Gl wr tg) := fun wr e => hG.kept e hG.lt
  have HGL := wcells_size (show initL.length = 8 from rfl)
  have hone := wcells_one initL
  have hG0 : Hid (∀ o, (w.alloc o).heap[0]? = some (.cells (wcells initL).toArray tg.1 tg.2)) := fun o => hG.kept ((Ext.refl w).alloc o) hG.lt
  clear hG
  generalize hI : (wcells initL).toArray = I at HGL hone hG0
  replace hI := Lib.hid hI
  have hal : ∀ w, (zeroValue 23).run Tryd.prog w = .ok (.agg zeros32) w := fun _ => by kernel_rfl
  have MW0 : Hid (∀ cs, Mw w (((w.alloc (Obj.cells zeros32 23)).alloc (Obj.cells cs 135)).setRow (w.heap.size + 1) (wcells initL).toArray) initL) := fun cs =>
    ⟨below_setRow (((Ext.refl w).alloc _).alloc _) (by omega) _, (setRow_other _ _ _ _ (by omega)).trans (heap_alloc1 _ _ _), setRow_heap _ _ _ _ _ _ (heap_alloc2 _ _ _)⟩
  rw [hI.out] at MW0
  generalize zeros32 = Z at hal MW0
  go_enter Tryd.func43, Tryd.ntmps43
  go_upto_region 4 with (first
    | refine wpList_load_row rfl 135 _ rfl 0 rfl tg.1 I tg.2 _ (hG0.out _) rfl rfl (by rw [HGL]; rfl) ?_
    | refine wpList_store_row rfl 135 _ _ rfl (w.heap.size + 1) I rfl rfl 135 _ (by with_reducible exact heap_alloc2 _ _ _) (by rw [HGL]; rfl) (by rw [HGL]; rfl) hone ?_)
  refine wp_gen (fun wr => Mw w wr initL) (MW0.out _) ?_
  clear MW0 hal hone HGL hG0 hI
  clear Z
  rintro w0 M0
  have x1 : bits .xor .u32 16842784 ((n : Int) * 256) = ((16842784 ^^^ n * 256 : Nat) : Int) := by
    rw [show (n : Int) * 256 = ((n * 256 : Nat) : Int) by omega]
    exact u32_xor_nat 16842784 (n * 256) (by decide) (by omega)
  have x2 : bits .xor .u32 (wd initL 0 : Int) ((16842784 ^^^ n * 256 : Nat) : Int) = ((wd initL 0 ^^^ (16842784 ^^^ n * 256) : Nat) : Int) := u32_xor_nat _ _ (init_lt 0) (xor_lt32 (by decide) (by omega))
  have c0 := M0.2.2.cell (i := 0) (by decide)
  have f0 := M0.2.2.frozen 0
  go_upto_if 24 with (fail)
  refine wp_gen (fun wr => Mw w wr (h0L n)) (M0.set 0 _) ?_
  clear x1 x2 c0 f0 M0 w0
  rintro w0 M0
  replace HG := Lib.hid (HG.out)
  go_cut [7] (fun s7 wx => ∃ (t0 : Nat) (hs : List Nat), s7 = .int .u64 (t0 : Int) ∧ hs.length = 8 ∧ Lt32 hs ∧ t0 ≤ 64 ∧ Mw w wx hs ∧ macL ks bs = macTail hs t0 bs)
  case first =>
    by_cases hn : n = 0
    · subst hn
      go_wp2_with fail
      go_meet
      exact ⟨0, h0L 0, rfl, h0_len 0, h0_lt (by omega), by omega, M0, by unfold macL; rw [if_pos h.len]⟩
    · have hn' : decide (0 < n) = true := by simp; omega
      have WS := wcells_size (h0_len n)
      have M0' := Lib.hid M0
      have hK : ks.length ≠ 0 := by rw [h.len]; exact hn
      have PL : (padL ks).length = 64 := padL_len (by rw [h.len]; omega)
      have LT := h0_lt hk
      have CALL : Hid (∀ (W : World) (last : Bool), Ext w W → Calls Tryd.prog 69 #[.agg (wcells (h0L n)).toArray, .agg (cellsOf (padL ks)).toArray, .int .u64 64, .bool last] W fun e w' => e = .returned (.agg (wcells (compL (h0L n) (padL ks) 64 last)).toArray) ∧ Ext W w') := fun W last e => comp_calls (t := 64) (h0_len n) PL (by decide) (fun j _ => LT j) (HG.out W e)
      clear M0 LT PL
      by_cases hm0 : m = 0
      · have hmac : Hid (macL ks bs = bytesL (compL (h0L n) (padL ks) 64 true)) := by unfold macL; rw [if_neg hK, if_pos (by rw [h'.len]; exact hm0), h.len]; rfl
        have HL := compL_len (h0L n) (padL ks) 64 true
        have HB : Hid (Lt32 (compL (h0L n) (padL ks) 64 true)) := (h0_lt hk).comp (by decide) true
        subst hm0
        go_wp2_with fail
        refine qgZE 8 [0, 1, 3, 4, 5, 6, 2, 7, 8] [2, 7, 8] ?_
        refine qzV rfl (fun w' => w'.heap[(w.heap.size + 1)]? = some (.cells (wcells (h0L n)).toArray 135 (0, 0))) (fun w' e => (M0'.out.ext ((Ext.refl _).drew.trans e)).2.2) (.agg (wcells (h0L n)).toArray) (fun w' hF => exec_load_row rfl rfl hF rfl rfl (by rw [WS]; rfl)) ?_
        go_frame
        repeat (refine qzR0 ?_; go_frame)
        refine qzD fun K1 hK1 => ?_
        go_simp
        refine (padded_calls (h.ext M0'.out.1.drew) (by omega)).mono ?_
        rintro e w1 ⟨rfl, e1⟩
        refine hK1.out _ _ (.inr e1) ?_
        clear hK1 K1
        try go_frame
        refine qzD fun K1 hK1 => ?_
        go_simp
        refine (CALL.out _ _ (M0'.out.1.drew.trans e1)).mono ?_
        rintro e w2 ⟨rfl, e2⟩
        refine hK1.out _ _ (.inr e2) ?_
        clear hK1 K1
        try go_frame
        have M2 := M0'.out.ext ((Ext.refl _).drew.trans (e1.trans e2))
        clear CALL e1 e2 M0' WS
        generalize compL (h0L n) (padL ks) 64 true = C at *
        have WS := wcells_size HL
        have W1 := wcells_one C
        refine qzD fun K1 hK1 => ?_
        refine wp_store_row _ _ _ rfl (w.heap.size + 1) (wcells C).toArray rfl rfl 135 _ M2.2.2 (by rw [WS]; rfl) (by rw [WS]; exact wcells_size (h0_len n)) W1 ?_
        refine hK1.out _ _ (.inl rfl) ?_
        clear hK1 K1
        refine seqZ_done ?_
        refine gen_q (fun wr => Mw w wr C) M2.put ?_
        clear M2
        rintro w3 M3
        obtain ⟨e3, r3, h3'⟩ := M3
        replace r3 := Lib.hid r3
        replace h3' := Lib.hid h3'
        go_wp2_with (refine wpList_load_row rfl 135 _ rfl (w.heap.size + 1) rfl 135 (wcells C).toArray (0, 0) _ h3'.out rfl rfl (by rw [WS]; rfl) ?_)
        refine (bytesOf_calls HL (fun j _ => HB.out j)).mono ?_
        rintro e w4 ⟨rfl, e4⟩
        have BS : (cellsOf (bytesL C)).toArray.size = 32 := by simp [cellsOf_len, bytesL_len, HL]
        have B1 := cellsOf_one (bytesL C)
        replace r3 := Lib.hid ((e4.block _ (heap_lt r3.out)).trans r3.out)
        generalize hD : (cellsOf (bytesL C)).toArray = D at *
        replace hD := Lib.hid hD
        go_wp2_with (refine wpList_store_row rfl 23 _ _ rfl w.heap.size D rfl rfl 23 _ r3.out (by rw [BS]; rfl) (by rw [BS]; rfl) B1 ?_)
        (try simp only [Exit.inBlock, Exit.then])
        refine bodyPost_ret (v := .tuple #[.agg D, .int .i64 0]) ?_ rfl ?_
        · exact results_row_tmp rfl _ _ w.heap.size 23 D (0, 0) _ _ rfl rfl (setRow_heap _ _ _ _ _ _ r3.out) rfl rfl (by rw [BS]; rfl)
        · exact ⟨by rw [hmac.out, hD.out], below_setRow (e3.trans e4) (Nat.le_refl _) _⟩
      · have hmac : Hid (macL ks bs = macTail (compL (h0L n) (padL ks) 64 false) 64 bs) := by unfold macL; rw [if_neg hK, if_neg (by rw [h'.len]; exact hm0), h.len]; rfl
        have HL := compL_len (h0L n) (padL ks) 64 false
        have HB : Hid (Lt32 (compL (h0L n) (padL ks) 64 false)) := (h0_lt hk).comp (by decide) false
        have hmb : ((m : Int) == 0) = false := by simp; exact hm0
        go_wp2_with fail
        refine qgZE 8 [0, 1, 3, 4, 5, 6, 2, 7, 8] [2, 7, 8] ?_
        refine qzV rfl (fun w' => w'.heap[(w.heap.size + 1)]? = some (.cells (wcells (h0L n)).toArray 135 (0, 0))) (fun w' e => (M0'.out.ext ((Ext.refl _).drew.trans e)).2.2) (.agg (wcells (h0L n)).toArray) (fun w' hF => exec_load_row rfl rfl hF rfl rfl (by rw [WS]; rfl)) ?_
        go_frame
        repeat (refine qzR0 ?_; go_frame)
        refine qzD fun K1 hK1 => ?_
        go_simp
        refine (padded_calls (h.ext M0'.out.1.drew) (by omega)).mono ?_
        rintro e w1 ⟨rfl, e1⟩
        refine hK1.out _ _ (.inr e1) ?_
        clear hK1 K1
        try go_frame
        refine qzD fun K1 hK1 => ?_
        go_simp
        refine (CALL.out _ _ (M0'.out.1.drew.trans e1)).mono ?_
        rintro e w2 ⟨rfl, e2⟩
        refine hK1.out _ _ (.inr e2) ?_
        clear hK1 K1
        try go_frame
        have M2 := M0'.out.ext ((Ext.refl _).drew.trans (e1.trans e2))
        clear CALL e1 e2 M0' WS
        generalize compL (h0L n) (padL ks) 64 false = C at *
        have WS := wcells_size HL
        have W1 := wcells_one C
        refine qzD fun K1 hK1 => ?_
        refine wp_store_row _ _ _ rfl (w.heap.size + 1) (wcells C).toArray rfl rfl 135 _ M2.2.2 (by rw [WS]; rfl) (by rw [WS]; exact wcells_size (h0_len n)) W1 ?_
        refine hK1.out _ _ (.inl rfl) ?_
        clear hK1 K1
        refine seqZ_done ?_
        refine gen_q (fun wr => Mw w wr C) M2.put ?_
        clear M2
        rintro w3 M3
        go_wp2_with fail
        go_meet
        exact ⟨64, C, rfl, HL, HB.out, by omega, M3, hmac.out⟩
  case rest =>
    obtain ⟨t0, hs, rfl, hl, hlt, ht0, M1, hmac⟩ := hcut
    replace hmac := Lib.hid hmac
    clear M0
    have hb' : Hid (∀ W, Ext w W → Bs W A' m d bs) := fun W e => h'.ext e
    have hbl := h'.len
    replace h' := Lib.hid h'
    replace hlt := Lib.hid hlt
    go_wp2_with fail
    go_loopw [1, 7] (fun x t wx => ∃ (i : Nat) (B : Option Addr) (q c' T : Nat), i ≤ fullB m ∧ x = .slice B q c' ∧ t = .int .u64 (T : Int) ∧ T = t0 + 64 * i ∧ q = m - 64 * i ∧ Bs w B q c' (bs.drop (64 * i)) ∧ Mw w wx (hAt hs t0 bs i)) (fun x _ _ => slen x)
    case atStart => exact ⟨0, A', m, d, t0, Nat.zero_le _, rfl, rfl, by omega, by omega, h'.out, M1⟩
    case round =>
      obtain ⟨i, B, q, c', T, hi, rfl, rfl, hT, hq, hB, MI⟩ := hrel
      have q1 := hB.le
      have q2 := hB.cap
      have LT := Lib.hid (hAt_lt (t := t0) (bs := bs) hlt.out i (by unfold fullB at hi; omega))
      have LN := hAt_len (t := t0) (bs := bs) hl i
      have WS := wcells_size LN
      have TB : T + 64 + q < 18446744073709551616 := by unfold fullB at hi; omega
      by_cases hq64 : 64 < q
      · have hi1 : i + 1 ≤ fullB m := by unfold fullB at hi ⊢; omega
        have HTK := Lib.hid (hB.take (k := 64) (by omega))
        have MI' := Lib.hid MI
        have PL : (padL ((bs.drop (64 * i)).take 64)).length = 64 := padL_len (by simp; omega)
        have CALL : Hid (∀ (W : World), Ext w W → Calls Tryd.prog 69 #[.agg (wcells (hAt hs t0 bs i)).toArray, .agg (cellsOf (padL ((bs.drop (64 * i)).take 64))).toArray, .int .u64 ((T : Int) + 64), .bool false] W fun e w' => e = .returned (.agg (wcells (hAt hs t0 bs (i + 1))).toArray) ∧ Ext W w') := fun W e => by
          have h9 := comp_calls (t := T + 64) (last := false) LN PL (by omega) (fun j _ => LT.out j) (HG.out W e)
          rw [hAt, show t0 + 64 * (i + 1) = T + 64 by omega]
          exact h9
        have LN1 := hAt_len (t := t0) (bs := bs) hl (i + 1)
        have hB' := Lib.hid hB
        obtain ⟨b, off, rfl, hbl', hbc⟩ := hB.pos (by omega)
        clear hbc MI PL LT hB
        replace hT := Lib.hid hT
        replace hq := Lib.hid hq
        generalize hHI : hAt hs t0 bs i = HI at *
        replace hHI := Lib.hid hHI
        have c64 : ¬ c' = 64 := by omega
        have c0 : ¬ c' = 0 := by omega
        have i64c : (64 : Int) ≤ (c' : Int) := by omega
        go_wp2_with fail
        refine qgZE 6 [0, 1, 2, 4, 3, 5, 6] [3, 5, 6] ?_
        refine qzV rfl (fun w' => w'.heap[(w.heap.size + 1)]? = some (.cells (wcells HI).toArray 135 (0, 0))) (fun w' e => (MI'.out.ext ((Ext.refl _).drew.trans e)).2.2) (.agg (wcells HI).toArray) (fun w' hF => exec_load_row rfl rfl hF rfl rfl (by rw [WS]; rfl)) ?_
        go_frame
        repeat (refine qzR0 ?_; go_frame)
        refine qzD fun K1 hK1 => ?_
        go_simp
        refine (padded_calls (HTK.out.ext MI'.out.1.drew) (by omega)).mono ?_
        rintro e w1 ⟨rfl, e1⟩
        refine hK1.out _ _ (.inr e1) ?_
        clear hK1 K1
        try go_frame
        refine qzD fun K1 hK1 => ?_
        go_simp
        refine (CALL.out _ (MI'.out.1.drew.trans e1)).mono ?_
        rintro e w2 ⟨rfl, e2⟩
        refine hK1.out _ _ (.inr e2) ?_
        clear hK1 K1
        try go_frame
        have e3 : Ext wr w2 := ((Ext.refl _).drew.trans (e1.trans e2))
        have M2 := MI'.out.ext e3
        clear CALL e1 e2 e3 MI'
        generalize hHJ : hAt hs t0 bs (i + 1) = HJ at *
        replace hHJ := Lib.hid hHJ
        have WS1 := wcells_size LN1
        have W1 := wcells_one HJ
        refine qzD fun K1 hK1 => ?_
        refine wp_store_row _ _ _ rfl (w.heap.size + 1) (wcells HJ).toArray rfl rfl 135 _ M2.2.2 (by rw [WS1]; rfl) (by rw [WS1]; exact WS) W1 ?_
        refine hK1.out _ _ (.inl rfl) ?_
        clear hK1 K1
        refine seqZ_done ?_
        refine gen_q (fun wr => Mw w wr HJ) M2.put ?_
        clear M2 HTK
        rintro w3 M3
        replace M3 := Lib.hid M3
        have i64q : (64 : Int) ≤ (q : Int) := by omega
        go_wp2_with fail
        refine ⟨⟨i + 1, _, _, _, T + 64, hi1, rfl, by go_num, by have := hT.out; omega, by have := hq.out; omega, ?_, by rw [hHJ.out]; exact M3.out⟩, by simp only [slen]; omega⟩
        have h9 := hB'.out.cutAt hq64
        rw [List.drop_drop] at h9
        exact h9
      · have hif : i = fullB m := by unfold fullB at hi ⊢; omega
        have MI' := Lib.hid MI
        have PL : (padL (bs.drop (64 * i))).length = 64 := padL_len (by simp; omega)
        have hTm : T + q = t0 + m := by unfold fullB at hif; omega
        have HMT : Hid (macL ks bs = bytesL (compL (hAt hs t0 bs i) (padL (bs.drop (64 * i))) (T + q) true)) := by
          rw [hmac.out, macTail, hbl, ← hif, hTm]; rfl
        have CALL : Hid (∀ (W : World), Ext w W → Calls Tryd.prog 69 #[.agg (wcells (hAt hs t0 bs i)).toArray, .agg (cellsOf (padL (bs.drop (64 * i)))).toArray, .int .u64 ((T : Int) + (q : Int)), .bool true] W fun e w' => e = .returned (.agg (wcells (compL (hAt hs t0 bs i) (padL (bs.drop (64 * i))) (T + q) true)).toArray) ∧ Ext W w') := fun W e => comp_calls (t := T + q) (last := true) LN PL (by omega) (fun j _ => LT.out j) (HG.out W e)
        have LN1 := compL_len (hAt hs t0 bs i) (padL (bs.drop (64 * i))) (T + q) true
        have LT1 : Hid (Lt32 (compL (hAt hs t0 bs i) (padL (bs.drop (64 * i))) (T + q) true)) := LT.out.comp (by omega) true
        have hB' := Lib.hid hB
        clear MI PL LT hB hif hTm
        replace hT := Lib.hid hT
        replace hq := Lib.hid hq
        generalize hHI : hAt hs t0 bs i = HI at *
        generalize compL HI (padL (bs.drop (64 * i))) (T + q) true = HJ at *
        have BS : (cellsOf (bytesL HJ)).toArray.size = 32 := by simp [cellsOf_len, bytesL_len, LN1]
        have B1 := cellsOf_one (bytesL HJ)
        have KEEP : Hid (∀ w' : World, wr.grownBy w' (some w.heap.size) → Wr w' (w.heap.size + 1) 135 HI) := fun w' e => (e.block (w.heap.size + 1) (MI'.out.2.2.lt) (fun q => by injection q with q; omega)).trans MI'.out.2.2
        replace hHI := Lib.hid hHI
        go_wp2_with fail
        refine qgW (w.heap.size) [0, 1, 3, 2, 4, 5, 6, 7] [2, 4, 5, 6] ?_
        refine qV rfl (fun w' => w'.heap[(w.heap.size + 1)]? = some (.cells (wcells HI).toArray 135 (0, 0))) (fun w' e => KEEP.out w' (gr_trans (gr_ext (Ext.refl _).drew _) e)) (.agg (wcells HI).toArray) (fun w' hF => exec_load_row rfl rfl hF rfl rfl (by rw [WS]; rfl)) ?_
        go_frame
        repeat ((first | refine qR0 ?_ | refine qS ?_); go_frame)
        refine qD fun K1 hK1 => ?_
        go_simp
        refine (padded_calls (hB'.out.ext MI'.out.1.drew) (by omega)).mono ?_
        rintro e w1 ⟨rfl, e1⟩
        refine hK1.out _ _ (gr_ext e1 _) ?_
        clear hK1 K1
        try go_frame
        refine qD fun K1 hK1 => ?_
        go_simp
        refine (CALL.out _ (MI'.out.1.drew.trans e1)).mono ?_
        rintro e w2 ⟨rfl, e2⟩
        refine hK1.out _ _ (gr_ext e2 _) ?_
        clear hK1 K1
        try go_frame
        refine qD fun K1 hK1 => ?_
        go_simp
        refine (bytesOf_calls LN1 (fun j _ => LT1.out j)).mono ?_
        rintro e w3 ⟨rfl, e3⟩
        refine hK1.out _ _ (gr_ext e3 _) ?_
        clear hK1 K1
        try go_frame
        have e4 : Ext wr w3 := ((Ext.refl _).drew.trans (e1.trans (e2.trans e3)))
        have M4 := Lib.hid (MI'.out.ext e4)
        generalize hD : (cellsOf (bytesL HJ)).toArray = D at *
        replace hD := Lib.hid hD
        clear CALL e1 e2 e3 e4 MI' KEEP
        refine qD fun K1 hK1 => ?_
        refine wp_store_row _ _ _ rfl w.heap.size D rfl rfl 23 _ M4.out.2.1 (by rw [BS]; rfl) (by rw [BS]; rfl) B1 ?_
        refine hK1.out _ _ (gr_row _ _ _) ?_
        clear hK1 K1
        try go_frame
        repeat ((first | refine qR0 ?_ | refine qS ?_); go_frame)
        refine seq_done ?_
        go_wp2_with fail
        (try simp only [Exit.inBlock, Exit.then])
        refine bodyPost_ret (v := .tuple #[.agg D, .int .i64 0]) ?_ rfl ?_
        · exact results_row_tmp rfl _ _ w.heap.size 23 D (0, 0) _ _ rfl rfl (setRow_heap _ _ _ _ _ _ M4.out.2.1) rfl rfl (by rw [BS]; rfl)
        · exact ⟨by rw [HMT.out, hD.out], below_setRow M4.out.1 (Nat.le_refl _) _⟩
end Go.Proofs.YtbnjmmefnjoofaaDoor
