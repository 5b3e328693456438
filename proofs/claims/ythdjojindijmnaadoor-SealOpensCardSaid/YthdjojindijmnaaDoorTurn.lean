import Derived.Test.YthdjojindijmnaaDoorBlock
import Derived.Test.YthdjojindijmnaaDoorXor
import Derived.Test.YthdjojindijmnaaDoorPkL
import Derived.Test.YthdjojindijmnaaDoorPkM
/-
  chacha.Turn.
-/
namespace Go.Proofs.YthdjojindijmnaaDoor
open Go.ChangeShapes Go.WideShapes Go.ChangeAt Go.RowKit Go.Deep

/-- The byte by which the one at place j is turned. -/
def keyB (ks ns : List UInt8) (n j : Nat) : Nat := bt (blockL ks ns ((n + j / 64) % 4294967296)) (j % 64)
theorem keyB_lt (ks ns : List UInt8) (n j : Nat) : keyB ks ns n j < 256 := bt_lt _ _
def turnL (ks ns : List UInt8) (n : Nat) (bs : List UInt8) : List UInt8 := (List.range bs.length).map fun j => UInt8.ofNat (bt bs j ^^^ keyB ks ns n j)
theorem turnL_len (ks ns : List UInt8) (n : Nat) (bs : List UInt8) : (turnL ks ns n bs).length = bs.length := by simp [turnL]
theorem xor_lt256 {a b : Nat} (ha : a < 256) (hb : b < 256) : a ^^^ b < 256 := Nat.xor_lt_two_pow (n := 8) ha hb
theorem bt_turnL {ks ns : List UInt8} {n j : Nat} {bs : List UInt8} (h : j < bs.length) : bt (turnL ks ns n bs) j = bt bs j ^^^ keyB ks ns n j := by
  have := xor_lt256 (bt_lt bs j) (keyB_lt ks ns n j)
  have e : (turnL ks ns n bs).getD j 0 = UInt8.ofNat (bt bs j ^^^ keyB ks ns n j) := by
    unfold turnL
    rw [List.getD_eq_getElem?_getD, List.getElem?_map, List.getElem?_range h]
    rfl
  show ((turnL ks ns n bs).getD j 0).toNat = _
  rw [e, UInt8.toNat_ofNat']
  exact Nat.mod_eq_of_lt this
/-- One block more. -/
theorem turn_step {ks ns : List UInt8} {n i m : Nat} {bs ys : List UInt8} (hm : m = min (bs.length - 64 * i) 64) (hi : 64 * i < bs.length) (hy : ys = xorL ((bs.drop (64 * i)).take m) ((blockL ks ns ((n + i) % 4294967296)).take m)) :
    (turnL ks ns n bs).take (64 * i) ++ ys = (turnL ks ns n bs).take (64 * (i + 1)) := by
  have lb := blockL_len ks ns ((n + i) % 4294967296)
  have l1 : ((bs.drop (64 * i)).take m).length = m := by simp; omega
  have l2 : ((blockL ks ns ((n + i) % 4294967296)).take m).length = m := by simp [lb]; omega
  have ly : ys.length = m := by rw [hy, xorL_len (by omega), l1]
  have tl := turnL_len ks ns n bs
  refine list_bt (by simp [tl, ly]; omega) fun j hj => ?_
  have hj' : j < 64 * i + m := by simp [tl, ly] at hj; omega
  rw [bt_take (by omega)]
  by_cases q : j < 64 * i
  · have : bt ((turnL ks ns n bs).take (64 * i) ++ ys) j = bt ((turnL ks ns n bs).take (64 * i)) j := by
      unfold bt; simp only [List.getD]; rw [List.getElem?_append_left (by simp [tl]; omega)]
    rw [this, bt_take q]
  · have : bt ((turnL ks ns n bs).take (64 * i) ++ ys) j = bt ys (j - 64 * i) := by
      unfold bt; simp only [List.getD]; rw [List.getElem?_append_right (by simp [tl]; omega)]; simp [tl, show min (64 * i) bs.length = 64 * i by omega]
    rw [this, bt_turnL (by omega), hy, bt_xorL (by omega) (by omega), bt_take (by omega), bt_take (by omega), bt_drop]
    unfold keyB
    rw [show 64 * i + (j - 64 * i) = j by omega, show j / 64 = i by omega, show j % 64 = j - 64 * i by omega]

def slenT : Value → Nat
  | .slice _ n _ => n
  | _ => 0
/-- The worlds of Turn: the key, the nonce. -/
def Tw (w wr : World) (ks ns : List UInt8) : Prop :=
  Ext w wr ∧ wr.heap[w.heap.size]? = some (.cells (cellsOf ks).toArray 23 (0, 0)) ∧ wr.heap[w.heap.size + 1]? = some (.cells (cellsOf ns).toArray 73 (0, 0))
theorem Tw.below {w wr wr' : World} {ks ns : List UInt8} (h : Tw w wr ks ns) (e : Below (w.heap.size + 1 + 1) wr wr') : Tw w wr' ks ns :=
  ⟨Below.trans h.1 (e.mono (by omega)), (e.block _ (by omega)).trans h.2.1, (e.block _ (by omega)).trans h.2.2⟩
theorem Tw.size {w wr : World} {ks ns : List UInt8} (h : Tw w wr ks ns) : w.heap.size + 1 + 1 ≤ wr.heap.size := heap_lt h.2.2

theorem Own.lower {B B' : Nat} {w : World} {A : Option Addr} {n c : Nat} {xs : List UInt8} (h : Own B w A n c xs) (hB : B' ≤ B) : Own B' w A n c xs := by
  refine ⟨h.1, ?_⟩
  rcases h.2 with h | ⟨g, cap, cur, hv, hb, r⟩
  · exact .inl h
  · exact .inr ⟨g, cap, cur, hv, Nat.le_trans hB hb, r⟩
/-- Bytes in a row of the call's own. -/
def RetOwn (xs : List UInt8) (w : World) (e : Ending) (w' : World) : Prop := ∃ A n c, e = .returned (.slice A n c) ∧ Own w.heap.size w' A n c xs ∧ Ext w w'

set_option maxRecDepth 100000 in
set_option maxHeartbeats 2000000 in
theorem turn_own {ks ns bs : List UInt8} {n : Nat} {A : Option Addr} {L c : Nat} {w : World} (hk : ks.length = 32) (hn : ns.length = 12) (hN : n < 4294967296) (h : Bs w A L c bs) (hL : L ≤ 140737488355328) :
    Calls Tryd.prog 44 #[.agg (cellsOf ks).toArray, .agg (cellsOf ns).toArray, .int .u32 (n : Int), .slice A L c] w (RetOwn (turnL ks ns n bs) w) := by
  have h1 := h.le
  have h2 := h.cap
  have hbl := h.len
  have KS : (cellsOf ks).toArray.size = 32 := by simp [cellsOf_len, hk]
  have NS : (cellsOf ns).toArray.size = 12 := by simp [cellsOf_len, hn]
  have hal : ∀ w, (zeroValue 79).run Tryd.prog w = .ok (.agg (cellsOf (List.replicate 64 0)).toArray) w := fun _ => by kernel_rfl
  have hmk := make0 L (by omega)
  have hB := Lib.hid h
  clear h
  have TW0 : Hid (∀ o, Tw w (((w.alloc (Obj.cells (cellsOf ks).toArray 23)).alloc (Obj.cells (cellsOf ns).toArray 73)).alloc o) ks ns) := fun o => ⟨(((Ext.refl w).alloc _).alloc _).alloc _, heap_alloc30 _ _ _ _, heap_alloc31 _ _ _ _⟩
  have OS : (cellsOf (List.replicate 64 (0 : UInt8))).toArray.size = 64 := by simp [cellsOf_len]
  generalize (cellsOf (List.replicate 64 (0 : UInt8))).toArray = O at *
  have OW0 : Hid (∀ w : World, Own w.heap.size (w.alloc (.cells (madeCells #[.int .u8 0] L) 5)) (some ⟨w.heap.size, 0, none⟩) 0 L []) := fun w => Own.made w _ _ (Nat.le_refl _) (by omega)
  generalize hMC : madeCells #[.int .u8 0] L = MC at *
  clear hMC
  go_enter Tryd.func44, Tryd.ntmps44
  go_wp2_with fail
  have E2 : (((w.alloc (Obj.cells (cellsOf ks).toArray 23)).alloc (Obj.cells (cellsOf ns).toArray 73)).heap.size) = w.heap.size + 1 + 1 := by rw [size_alloc, size_alloc]
  have OW1 := Lib.hid (OW0.out ((w.alloc (Obj.cells (cellsOf ks).toArray 23)).alloc (Obj.cells (cellsOf ns).toArray 73)))
  rw [E2] at OW1
  go_loopw [2, 3, 9] (fun x y v wr => ∃ (i : Nat) (A' D : Option Addr) (q c' m cc : Nat), 64 * i < L + 64 ∧ x = .int .u32 (((n + i) % 4294967296 : Nat) : Int) ∧ y = .slice A' q c' ∧ v = .slice D m cc ∧ q = L - 64 * i ∧ Bs w A' q c' (bs.drop (64 * i)) ∧ Own (w.heap.size + 1 + 1) wr D m cc ((turnL ks ns n bs).take (64 * i)) ∧ Tw w wr ks ns) (fun _ y _ _ => slenT y)
  case atStart =>
    refine ⟨0, A, _, L, c, 0, L, by omega, ?_, rfl, rfl, by omega, hB.out, OW1.out, TW0.out _⟩
    rw [Nat.add_zero, Nat.mod_eq_of_lt hN]
  case round =>
    obtain ⟨i, A', D, q, c', m, cc, hi, rfl, rfl, rfl, hq, hb, ho, tw⟩ := hrel
    clear TW0 OW0 OW1 hmk E2
    have q1 := hb.le
    have q2 := hb.cap
    have hn64 : (n + i) % 4294967296 < 4294967296 := Nat.mod_lt _ (by decide)
    have hml := ho.len
    have tl := turnL_len ks ns n bs
    by_cases hq0 : 0 < q
    · obtain ⟨b, off, rfl, hbb, hbc⟩ := hb.pos hq0
      clear hbc
      obtain ⟨k, hk0⟩ : ∃ k, k = min q 64 := ⟨_, rfl⟩
      have hM : (if (64 : Int) < (q : Int) then 64 else (q : Int)) = (k : Int) := by split <;> omega
      have hM' : (if (q : Int) < 64 then (q : Int) else 64) = (k : Int) := by split <;> omega
      have k1 : k ≤ q := by omega
      have k2 : k ≤ 64 := by omega
      have k3 : 0 < k := by omega
      have BLK : Hid (∀ W, Calls Tryd.prog 55 #[.agg (cellsOf ks).toArray, .agg (cellsOf ns).toArray, .int .u32 (((n + i) % 4294967296 : Nat) : Int)] W fun e w' => e = .returned (.agg (cellsOf (blockL ks ns ((n + i) % 4294967296))).toArray) ∧ Ext W w') := fun W => block_calls hk hn hn64
      have BLL := blockL_len ks ns ((n + i) % 4294967296)
      have STEP := Lib.hid (fun ys => turn_step (ks := ks) (ns := ns) (n := n) (i := i) (m := k) (bs := bs) (ys := ys) (by omega) (by omega))
      generalize blockL ks ns ((n + i) % 4294967296) = BK at *
      generalize hx : (n + i) % 4294967296 = x at *
      have hx1 : IntKind.u32.wrap ((x : Int) + 1) = (((n + (i + 1)) % 4294967296 : Nat) : Int) := by rw [IntKind.wrap_u32]; omega
      replace hx := Lib.hid hx
      have BKS : (cellsOf BK).toArray.size = 64 := by simp [cellsOf_len, BLL]
      have BK1 := cellsOf_one BK
      replace hb := Lib.hid hb
      replace ho := Lib.hid ho
      replace tw := Lib.hid tw
      replace hq := Lib.hid hq
      replace hk0 := Lib.hid hk0
      replace hml := Lib.hid hml
      clear tl hbl
      go_wp2_with (first
        | (refine wpList_load_row rfl 23 _ rfl w.heap.size rfl 23 (cellsOf ks).toArray (0, 0) _ tw.out.2.1 rfl rfl (by rw [KS]; rfl) ?_; simp only [Act.put, List.setIfInBounds_toArray, List.set_cons_zero, List.set_cons_succ])
        | (refine wpList_load_row rfl 73 _ rfl (w.heap.size + 1) rfl 73 (cellsOf ns).toArray (0, 0) _ tw.out.2.2 rfl rfl (by rw [NS]; rfl) ?_; simp only [Act.put, List.setIfInBounds_toArray, List.set_cons_zero, List.set_cons_succ]))
      refine (BLK.out _).mono ?_
      rintro e w1 ⟨rfl, e1⟩
      go_upto_region 5 with (refine wpList_store_row rfl 79 _ _ rfl w1.heap.size (cellsOf BK).toArray rfl rfl 79 _ (by with_reducible exact heap_alloc_new _ _) (by rw [BKS]; rfl) (by rw [BKS]; exact OS) BK1 ?_; simp only [Act.put, List.setIfInBounds_toArray, List.set_cons_zero, List.set_cons_succ])
      refine wp_gen (fun W => Ext wr W ∧ W.heap[w1.heap.size]? = some (.cells (cellsOf BK).toArray 79 (0, 0))) ⟨e1.trans (below_setRow ((Ext.refl w1).alloc _) (Nat.le_refl _) _), setRow_heap _ _ _ _ _ _ (heap_alloc_new _ _)⟩ ?_
      rintro w2 ⟨e2, kb⟩
      obtain ⟨g, hg0⟩ : ∃ g, g = w1.heap.size := ⟨_, rfl⟩
      rw [← hg0] at kb ⊢
      clear hg0 e1
      have X1 := Lib.hid (((hb.out.take k1).recap (c2 := k) (Nat.le_refl _)).ext (tw.out.1.trans e2))
      have X2 : Hid (Bs w2 (some ⟨g, 0, none⟩) k k (BK.take k)) := by
        have h9 := Bs.part kb (o := 0) (n := k) (c := k) (by omega) (by omega) (by omega)
        rw [List.drop_zero] at h9
        exact h9
      have XOR : Hid (∀ W, Ext w2 W → Calls Tryd.prog 56 #[.slice (some ⟨b, off, none⟩) k k, .slice (some ⟨g, 0, none⟩) k k] W (RetBsE (xorL ((bs.drop (64 * i)).take k) (BK.take k)) 0 W)) := fun W e => xor_calls (X1.out.ext e) (X2.out.ext e) (by omega)
      have kn : ¬ k = 0 := by omega
      have kc : (k : Int) ≤ (c' : Int) := by omega
      have k64 : (k : Int) ≤ 64 := by omega
      replace e2 := Lib.hid e2
      clear kb hM hM'
      refine wp_region_seq (R := Ext) Ext.refl (fun _ _ _ => Ext.trans) [0, 1, 2, 3, 4, 5, 6, 7, 8, 9, 10, 11, 12] [7] [(0, 29, 16), (0, 30, 2048), (0, 31, 2048), (7, 32, 3758096384), (0, 33, 2048), (0, 34, 2048), (48, 35, 25769807872), (72, 36, 38654705664), (128, 28, 68719476736), (256, 37, 268435456), (256, 38, 268435456), (1023, 13, 137438953472), (4095, 14, 274877906944)] (by kernel_rfl) (by kernel_rfl) (by kernel_rfl) rfl (by kernel_rfl) (by kernel_rfl) (fun _ _ d _ _ h => by cases d <;> exact h) ?_
      repeat (first | (refine seq_read (fun _ => True) (fun _ _ => trivial) _ (v := ?_) rfl rfl (by rfl) ?_ ?_; rotate_left; (· intro w' hF; go_simp; (try with_reducible rfl)); simp only [Act.put, List.setIfInBounds_toArray, List.set_cons_zero, List.set_cons_succ]) | (refine seq_skip _ rfl rfl (by rfl) ?_; simp only [Act.put, List.setIfInBounds_toArray, List.set_cons_zero, List.set_cons_succ]))
      refine seq_do _ rfl rfl (by rfl) (fun K hK => ?_)
      go_simp
      refine (XOR.out _ (Ext.refl _).drew).mono ?_
      rintro e w3 ⟨A3, n3, c3, rfl, b3, e3⟩
      refine hK.out _ _ e3 ?_
      clear hK K
      try simp only [Act.put, List.setIfInBounds_toArray, List.set_cons_zero, List.set_cons_succ]
      repeat (first | (refine seq_read (fun _ => True) (fun _ _ => trivial) _ (v := ?_) rfl rfl (by rfl) ?_ ?_; rotate_left; (· intro w' hF; go_simp; (try with_reducible rfl)); simp only [Act.put, List.setIfInBounds_toArray, List.set_cons_zero, List.set_cons_succ]) | (refine seq_skip _ rfl rfl (by rfl) ?_; simp only [Act.put, List.setIfInBounds_toArray, List.set_cons_zero, List.set_cons_succ]))
      refine seq_done ?_
      have E3 : Ext wr w3 := e2.out.trans ((Ext.refl _).drew.trans e3)
      have hs3 : (xorL ((bs.drop (64 * i)).take k) (BK.take k)).length = k := by rw [xorL_len (by rw [X1.out.len, X2.out.len]), X1.out.len]
      have n3k : n3 = k := by rw [← b3.len, hs3]
      subst n3k
      have O3 := Lib.hid (ho.out.ext E3)
      have T3 := Lib.hid (tw.out.below (E3.mono tw.out.size))
      have mL : m + n3 ≤ 140737488355328 := by
        have := hml.out
        have := hq.out
        have := turnL_len ks ns n bs
        have := hB.out.len
        simp only [List.length_take] at *
        omega
      replace b3 := Lib.hid b3
      clear XOR X1 X2 e2 e3 E3 hs3
      go_wp2_with (first
        | (at_builtin; (with_reducible refine wpList_append_bs rfl (B := w.heap.size + 1 + 1) (s := .tmp 38) (x := .tmp 39) rfl rfl rfl O3.out b3.out mL T3.out.size ?_); intro A4 c4 w4 o4 g4 b4; replace o4 := Lib.hid o4; replace b4 := Lib.hid b4; clear g4; simp only [Act.put, List.setIfInBounds_toArray, List.set_cons_zero, List.set_cons_succ])
        | ((with_reducible refine wpList_cut rfl (x := .tmp 41) (lo := .tmp 42) (k := n3) rfl rfl rfl rfl k1 q1 ?_); intro A5 hc5; have b5 := Lib.hid (hc5 _ _ hb.out); clear hc5; simp only [Act.put, List.setIfInBounds_toArray, List.set_cons_zero, List.set_cons_succ]))
      have hq' := hq.out
      have hk' := hk0.out
      have hbl := hB.out.len
      refine ⟨⟨i + 1, A5, A4, q - n3, c' - n3, m + n3, c4, by omega, congrArg (Value.int .u32) (show ((n : Int) + ((i : Int) + 1)) % 4294967296 = (((n + (i + 1)) % 4294967296 : Nat) : Int) by omega), rfl, rfl, by omega, ?_, ?_, T3.out.below b4.out⟩, by simp only [slenT]; omega⟩
      · have h9 := b5.out
        rw [List.drop_drop] at h9
        have h8 : bs.drop (64 * i + n3) = bs.drop (64 * (i + 1)) := by
          by_cases q64 : 64 ≤ q
          · rw [show 64 * i + n3 = 64 * (i + 1) by omega]
          · rw [List.drop_of_length_le (by omega), List.drop_of_length_le (by omega)]
        rwa [h8] at h9
      · have h9 := o4.out
        rwa [STEP.out _ rfl] at h9
    · have hq' : 64 * i ≥ L := by omega
      have hT : Hid ((turnL ks ns n bs).take (64 * i) = turnL ks ns n bs) := List.take_of_length_le (by omega)
      have HO := Lib.hid (ho.lower (B' := w.heap.size) (by omega))
      rw [hT.out] at HO
      have ht := tw.1
      clear ho tw hb hml tl
      go_wp2_with fail
      go_ret
      exact ⟨_, _, _, rfl, HO.out, ht⟩

theorem turn_calls {ks ns bs : List UInt8} {n : Nat} {A : Option Addr} {L c : Nat} {w : World} (hk : ks.length = 32) (hn : ns.length = 12) (hN : n < 4294967296) (h : Bs w A L c bs) (hL : L ≤ 140737488355328) :
    Calls Tryd.prog 44 #[.agg (cellsOf ks).toArray, .agg (cellsOf ns).toArray, .int .u32 (n : Int), .slice A L c] w (RetBs (turnL ks ns n bs) w) :=
  (turn_own hk hn hN h hL).mono fun _ _ ⟨A, n, c, he, ho, x⟩ => ⟨A, n, c, he, ho.bs, x⟩
end Go.Proofs.YthdjojindijmnaaDoor
