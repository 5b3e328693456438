import Derived.Test.YtfhafednnnfmbaaDoorColl
import Derived.Test.YtfhafednnnfmbaaDoorPkK
import Derived.Test.YtfhafednnnfmbaaDoorDraw
/-
  agree.drawn: the key that comes of exchanges.
-/
namespace Go.Proofs.YtfhafednnnfmbaaDoor
open Go.ChangeShapes Go.WideShapes Go.ChangeAt Go.RowKit Go.Deep
set_option maxRecDepth 100000

/-- What an exchange of 96 bytes gives. -/
def dhL (x : List UInt8) : List UInt8 := comL (x.take 32) (x.drop 64)
theorem dhL_app {s q p : List UInt8} (hs : s.length = 32) (hq : q.length = 32) : dhL ((s ++ q) ++ p) = comL s p := by
  unfold dhL
  rw [List.append_assoc, List.take_left' hs, ← List.append_assoc, List.drop_left' (by rw [List.length_append, hs, hq])]
/-- Do all give something? -/
def agW (ks : List (List UInt8)) : Bool := ks.all fun k => !decide (k = List.replicate 32 0)
def agV (ks : List (List UInt8)) : List UInt8 := if agW ks then macL (List.replicate 32 0) (joinL ks) else List.replicate 32 0
def agE (ks : List (List UInt8)) : Int := if agW ks then 0 else 12
theorem agV_len (ks : List (List UInt8)) : (agV ks).length = 32 := by unfold agV; split <;> simp [macL_len]
theorem agW_snoc (ks : List (List UInt8)) (k : List UInt8) : agW (ks ++ [k]) = (agW ks && !decide (k = List.replicate 32 0)) := by simp [agW, List.all_append]
theorem joinL_len32 : ∀ {l : List (List UInt8)}, (∀ x ∈ l, x.length = 32) → (joinL l).length = 36 * l.length
  | [], _ => rfl
  | x :: l, h => by
    have hx := h x (List.mem_cons_self ..)
    have ih := joinL_len32 (l := l) fun y hy => h y (List.mem_cons_of_mem _ hy)
    have : joinL (x :: l) = row4 x ++ joinL l := rfl
    rw [this, List.length_append, row4_len, hx, ih, List.length_cons]
    omega

/-- A slice of structs of 96 bytes. -/
def Xs (w : World) (A : Option Addr) (n c : Nat) (L : List (List UInt8)) : Prop :=
  L.length = n ∧ n ≤ c ∧ c ≤ maxLen ∧ (∀ x ∈ L, x.length = 96) ∧ (0 < n → ∃ b, A = some ⟨b, 0, none⟩ ∧ b < w.heap.size ∧ ∀ j i v, j < n → (cellsOf (L.getD j []))[i]? = some v → w.cell? ⟨b, j * 96 + i, none⟩ = some v)
theorem Xs.ext {w w' : World} {A : Option Addr} {n c : Nat} {L : List (List UInt8)} (h : Xs w A n c L) (e : Ext w w') : Xs w' A n c L :=
  ⟨h.1, h.2.1, h.2.2.1, h.2.2.2.1, fun hn => by
    obtain ⟨b, hA, hb, hc⟩ := h.2.2.2.2 hn
    exact ⟨b, hA, Nat.lt_of_lt_of_le hb e.size, fun j i v hj hv => (e.cell hb).trans (hc j i v hj hv)⟩⟩
theorem split96 {x : List UInt8} (h : x.length = 96) : ∃ s q p, x = (s ++ q) ++ p ∧ s.length = 32 ∧ q.length = 32 ∧ p.length = 32 :=
  ⟨x.take 32, (x.drop 32).take 32, (x.drop 32).drop 32, by rw [List.append_assoc, List.take_append_drop, List.take_append_drop], by simp [h], by simp [h], by simp [h]⟩
theorem take_snoc {α : Type} {l : List α} {k : Nat} {d : α} (h : k < l.length) : l.take (k + 1) = l.take k ++ [l.getD k d] := by
  rw [List.take_succ_eq_append_getElem h]
  simp [List.getD, h]

set_option maxHeartbeats 8000000 in
theorem drawn_calls {w : World} {A : Option Addr} {n c : Nat} {L : List (List UInt8)} (h : Xs w A n c L) (hn : n ≤ 4) {tg tp : TypeId × Nat × Nat} (hG : Gl w tg) (hP : Gp w tp) :
    Calls Tryd.prog 15 #[.slice A n c] w fun e w' => e = .returned (.tuple #[.agg (cellsOf (agV (L.map dhL))).toArray, .int .i64 (agE (L.map dhL))]) ∧ Ext w w' := by
  have hmf : ∀ (fn : Fn) (first cap : Array Value) (w : World), (Instr.makeFunc fn first cap).run Tryd.prog w = .ok (.func fn first cap) w := fun _ _ _ _ => rfl
  have hnot : ∀ (x : Bool) (w : World), (Op.unary .not (.bool x)).run Tryd.prog w = .ok (.bool (!x)) w := fun _ _ => rfl
  have plt := hP.lt
  obtain ⟨r, hr⟩ : ∃ r, r = w.heap.size := ⟨_, rfl⟩
  have CL : Hid (∀ (W : World) (k : Nat) (D : Option Addr) (m cc : Nat) (b : Bool) (l : List (List UInt8)), k < n → Ext w W → Cb W (r + 1 + 1) 4 [.bool b] → Cb W (r + 1) 52 [.slice D m cc] → OwnR (r + 1 + 1 + 1) W D m cc l → m ≤ 4 → Calls Tryd.prog 21 #[.agg (cellsOf (L.getD k [])).toArray, .pointer (some ⟨r + 1 + 1, 0, none⟩), .pointer (some ⟨r + 1, 0, none⟩)] W fun e w' => e = .returned (.tuple #[]) ∧ ∃ D' c', Cb w' (r + 1 + 1) 4 [.bool (b && !decide (dhL (L.getD k []) = List.replicate 32 0))] ∧ Cb w' (r + 1) 52 [.slice D' (m + 1) c'] ∧ OwnR (r + 1 + 1 + 1) w' D' (m + 1) c' (l ++ [dhL (L.getD k [])]) ∧ Below (r + 1) W w') := fun W k D m cc b l hk e h1 h2 h3 hm => by
    have h96 : (L.getD k []).length = 96 := by
      have hl : k < L.length := by rw [h.1]; exact hk
      have : L.getD k [] = L[k] := by simp [List.getD, hl]
      rw [this]
      exact h.2.2.2.1 _ (List.getElem_mem hl)
    obtain ⟨s, q, p, hx, hs, hq, hp⟩ := split96 h96
    rw [hx, dhL_app hs hq]
    exact coll_calls hs hq hp h1 h2 h3 (by omega) (by omega) h1.lt (by omega) (hP.ext e)
  have XL := Lib.hid (fun (W : World) (e : Ext w W) => h.ext e)
  have GL := Lib.hid (fun (W : World) (e : Ext w W) => hG.ext e)
  have LL := h.1
  have hc1 := h.2.1
  have hc2 : c ≤ 9223372036854775807 := h.2.2.1
  have h96 : Hid (∀ k, k < n → (cellsOf (L.getD k [])).length = 96) := fun k hk => by
    have hl : k < L.length := by rw [h.1]; exact hk
    have : L.getD k [] = L[k] := by simp [List.getD, hl]
    rw [cellsOf_len, this]
    exact h.2.2.2.1 _ (List.getElem_mem hl)
  have TK : Hid (∀ k, k < n → (L.take (k + 1)).map dhL = (L.take k).map dhL ++ [dhL (L.getD k [])]) := fun k hk => by
    rw [take_snoc (d := []) (by rw [LL]; exact hk), List.map_append]; rfl
  have WS : Hid (∀ k, k < n → agW ((L.take (k + 1)).map dhL) = (agW ((L.take k).map dhL) && !decide (dhL (L.getD k []) = List.replicate 32 0))) := fun k hk => by rw [TK.out k hk, agW_snoc]
  have JL : Hid (∀ W D cc, Rw W D n cc (L.map dhL) → Calls Tryd.prog 24 #[.slice D n cc] W (RetBs (joinL (L.map dhL)) W)) := fun W D cc hr => join_calls hr (by
    rw [joinL_len32 (fun x hx => by obtain ⟨y, _, rfl⟩ := List.mem_map.1 hx; exact comL_len _ _), List.length_map, LL]; omega)
  have DR : Hid (∀ W D m cc, Ext w W → Bs W D m cc (joinL (L.map dhL)) → Calls Tryd.prog 23 #[.agg (cellsOf (List.replicate 32 0)).toArray, .slice D m cc] W fun e w' => e = .returned (.agg (cellsOf (macL (List.replicate 32 0) (joinL (L.map dhL)))).toArray) ∧ Ext W w') := fun W D m cc e hb => draw_calls rfl hb (hG.ext e)
  have FT : Hid (L.take n = L) := List.take_of_length_le (by rw [LL]; exact Nat.le_refl _)
  have hV1 : Hid (agW (L.map dhL) = true → agV (L.map dhL) = macL (List.replicate 32 0) (joinL (L.map dhL)) ∧ agE (L.map dhL) = 0) := fun q => ⟨by unfold agV; rw [if_pos q], by unfold agE; rw [if_pos q]⟩
  have hV0 : Hid (agW (L.map dhL) = false → agV (L.map dhL) = List.replicate 32 0 ∧ agE (L.map dhL) = 12) := fun q => ⟨by unfold agV; rw [if_neg (by rw [q]; decide)], by unfold agE; rw [if_neg (by rw [q]; decide)]⟩
  have L_rv := macL_len (List.replicate 32 0) (joinL (L.map dhL))
  have he0 := Lib.hid exch_alloc
  have S96 := Z96x_size
  clear hG hP h LL
  have hal : ∀ w, (zeroValue 23).run Tryd.prog w = .ok (.agg (cellsOf (List.replicate 32 0)).toArray) w := fun w => by rw [zeros32_cells]; exact key_alloc w
  have hal2 := exch_alloc
  have hbz := Lib.hid zero_built
  have L_zk : (List.replicate 32 (0 : UInt8)).length = 32 := rfl
  generalize macL (List.replicate 32 0) (joinL (L.map dhL)) = rv at *
  generalize List.replicate 32 (0 : UInt8) = zk at *
  generalize Z96x = ZX at *
  have S_zk : (cellsOf zk).toArray.size = 32 := by simp [cellsOf_len, L_zk]
  have O_zk := cellsOf_one zk
  have S_rv : (cellsOf rv).toArray.size = 32 := by simp [cellsOf_len, L_rv]
  have O_rv := cellsOf_one rv
  have A0 : Hid (∀ v, Cb (((w.alloc (Obj.cells (cellsOf zk).toArray 23)).alloc (Obj.cells #[.slice none 0 0] 52)).alloc (Obj.cells #[v] 4)) (w.heap.size + 1 + 1) 4 [v] ∧ Cb (((w.alloc (Obj.cells (cellsOf zk).toArray 23)).alloc (Obj.cells #[.slice none 0 0] 52)).alloc (Obj.cells #[v] 4)) (w.heap.size + 1) 52 [.slice none 0 0] ∧ Ky (((w.alloc (Obj.cells (cellsOf zk).toArray 23)).alloc (Obj.cells #[.slice none 0 0] 52)).alloc (Obj.cells #[v] 4)) w.heap.size zk ∧ Ext w (((w.alloc (Obj.cells (cellsOf zk).toArray 23)).alloc (Obj.cells #[.slice none 0 0] 52)).alloc (Obj.cells #[v] 4))) :=
    fun v => ⟨heap_alloc32 _ _ _ _, heap_alloc31 _ _ _ _, ⟨heap_alloc30 _ _ _ _, L_zk⟩, (((Ext.refl w).alloc _).alloc _).alloc _⟩
  go_enter Tryd.func15, Tryd.ntmps15
  go_upto_region 3 with fail
  refine wp_gen (fun W => Cb W (r + 1 + 1) 4 [.bool true] ∧ Cb W (r + 1) 52 [.slice none 0 0] ∧ Ky W r zk ∧ Ext w W) (by rw [hr]; exact A0.out (.bool true)) ?_
  clear A0
  rintro w0 ⟨p1, p2, p3, p4⟩
  rw [← hr]
  have hle : w.heap.size ≤ r := Nat.le_of_eq hr.symm
  replace hr := Lib.hid hr
  replace p1 := Lib.hid p1
  replace p2 := Lib.hid p2
  replace p3 := Lib.hid p3
  replace p4 := Lib.hid p4
  go_wp2_with fail
  go_loopw [12] (fun iv wr => ∃ (k : Nat) (D : Option Addr) (cc : Nat), k ≤ n ∧ iv = .int .i64 (k : Int) ∧ Cb wr (r + 1 + 1) 4 [.bool (agW ((L.take k).map dhL))] ∧ Cb wr (r + 1) 52 [.slice D k cc] ∧ OwnR (r + 1 + 1 + 1) wr D k cc ((L.take k).map dhL) ∧ Ky wr r zk ∧ Ext w wr) (fun iv _ => ((n : Int) - intOf iv).toNat)
  case atStart => exact ⟨0, none, 0, Nat.zero_le _, rfl, p1.out, p2.out, OwnR.nil _ _, p3.out, p4.out⟩
  case round =>
    clear p1 p2 p3 p4
    obtain ⟨k, D, cc, hk, rfl, p1, p2, p3, p4, p5⟩ := hrel
    by_cases hlt : k < n
    · have u1 : decide ((k : Int) < (n : Int)) = true := decide_eq_true (by omega)
      have ad : IntKind.i64.wrap ((k : Int) + 1) = (k : Int) + 1 := IntWalk.i64_in _ (by omega)
      have hme : Hid (((n : Int) - ((k : Int) + 1)).toNat < ((n : Int) - (k : Int)).toNat) := by unfold Hid; omega
      have hk1 : Hid (k + 1 ≤ n) := hlt
      have kb : (k : Int) < (n : Int) := by omega
      obtain ⟨b, rfl, hb, hc⟩ := (XL.out _ p5).2.2.2.2 (by omega)
      have hx := Lib.hid (fun i v hv => hc k i v hlt hv)
      have C_x := h96.out k hlt
      have CLk := Lib.hid (fun W D' c' e q1 q2 q3 => CL.out W k D' k c' (agW ((L.take k).map dhL)) ((L.take k).map dhL) hlt e q1 q2 q3 (by omega))
      have TKk := Lib.hid (TK.out k hlt)
      have WSk := Lib.hid (WS.out k hlt)
      generalize dhL (L.getD k []) = dk at *
      generalize L.getD k [] = xk at *
      have S_x : (cellsOf xk).toArray.size = 96 := by simpa using C_x
      have O_x := cellsOf_one xk
      have F := Lib.hid (And.intro p1 (And.intro p2 (And.intro p3 (And.intro p4 p5))))
      clear p1 p2 p3 p4 p5 CL TK WS JL DR hV1 hV0 FT h96 hc hb
      have a1 : Hid ((wr.alloc (Obj.cells ZX 49)).heap[wr.heap.size]? = some (.cells ZX 49 (0, 0))) := heap_alloc_new _ _
      have E_ : Ext wr ((wr.alloc (Obj.cells ZX 49)).setRow wr.heap.size (cellsOf xk).toArray) := below_setRow ((Ext.refl wr).alloc _) (Nat.le_refl _) _
      go_upto_region 7 with (first
        | (refine wpList_load_mid rfl (g := b) (off := k * 96) (ys := cellsOf xk) rfl rfl hx.out rfl rfl (by rw [C_x]; rfl) ?_; simp only [Act.put, List.setIfInBounds_toArray, List.set_cons_zero, List.set_cons_succ])
        | (refine wpList_load_mid rfl (g := b) (off := 0 + k * 96) (ys := cellsOf xk) rfl rfl (by rw [Nat.zero_add]; exact hx.out) rfl rfl (by rw [C_x]; rfl) ?_; simp only [Act.put, List.setIfInBounds_toArray, List.set_cons_zero, List.set_cons_succ])
        | (refine wpList_store_row rfl 49 _ _ rfl wr.heap.size (cellsOf xk).toArray rfl rfl 49 _ a1.out (by rw [S_x]; rfl) (by rw [S_x, S96]) O_x ?_; simp only [Act.put]))
      obtain ⟨g8, hg_⟩ : ∃ g, g = wr.heap.size := ⟨_, rfl⟩
      refine wp_gen (fun W => Cb W g8 49 (cellsOf xk) ∧ Cb W (r + 1 + 1) 4 [.bool (agW ((L.take k).map dhL))] ∧ Cb W (r + 1) 52 [.slice D k cc] ∧ OwnR (r + 1 + 1 + 1) W D k cc ((L.take k).map dhL) ∧ Ky W r zk ∧ Ext w W) ⟨by rw [hg_]; exact setRow_heap _ _ _ _ _ _ a1.out, F.out.1.ext E_, F.out.2.1.ext E_, F.out.2.2.1.ext E_, F.out.2.2.2.1.ext E_, F.out.2.2.2.2.trans E_⟩ ?_
      rw [← hg_]
      clear hg_ a1 E_ F hx
      rintro v1 ⟨k8, p1, p2, p3, p4, p5⟩
      have CK := Lib.hid (CLk.out _ _ _ p5 p1 p2 p3)
      replace k8 := Lib.hid k8
      replace p4 := Lib.hid p4
      replace p5 := Lib.hid p5
      clear CLk p1 p2 p3
      go_wp2_with (refine wpList_load_row rfl 49 _ rfl g8 rfl 49 (cellsOf xk).toArray (0, 0) _ k8.out rfl rfl (by rw [S_x]; rfl) ?_; simp only [Act.put, List.setIfInBounds_toArray, List.set_cons_zero, List.set_cons_succ])
      refine CK.out.mono ?_
      rintro e v2 ⟨rfl, D', c', q1, q2, q3, q4⟩
      have G : Hid (Cb v2 (r + 1 + 1) 4 [.bool (agW ((L.take (k + 1)).map dhL))] ∧ Cb v2 (r + 1) 52 [.slice D' (k + 1) c'] ∧ OwnR (r + 1 + 1 + 1) v2 D' (k + 1) c' ((L.take (k + 1)).map dhL) ∧ Ky v2 r zk ∧ Ext w v2) :=
        ⟨by rw [WSk.out]; exact q1, q2, by rw [TKk.out]; exact q3, ⟨(q4.block _ (by omega)).trans p4.out.1, L_zk⟩, Below.trans p5.out (q4.mono (by omega))⟩
      clear CK q1 q2 q3 q4 p4 p5 k8
      go_wp2_with fail
      exact ⟨⟨k + 1, D', c', hk1.out, rfl, G.out⟩, by simpa [intOf] using hme.out⟩
    · obtain rfl : k = n := by omega
      have u1 : decide ((k : Int) < (k : Int)) = false := decide_eq_false (by omega)
      rw [FT.out] at p1 p3
      have bc := p1.cell (j := 0) rfl
      have EX := Lib.hid p5
      have kz := Lib.hid p4
      by_cases hw : agW (L.map dhL) = true
      · rw [hw] at bc
        obtain ⟨v1, v2⟩ := hV1.out hw
        have fin : Hid (agV (L.map dhL) = rv ∧ agE (L.map dhL) = 0) := ⟨v1, v2⟩
        have sc := p2.cell (j := 0) rfl
        have JLk := Lib.hid (JL.out wr D cc p3.rw)
        have DRk := DR
        clear p1 p2 p3 p4 p5 CL XL h96 TK WS JL hV1 hV0 hw v1 v2 FT
        go_wp2_with (refine wpList_build_as rfl _ _ rfl (cellsOf zk).toArray (by simp only [List.map_toArray, List.map_nil]; exact hbz.out) ?_; simp only [Act.put, List.setIfInBounds_toArray, List.set_cons_zero, List.set_cons_succ])
        refine JLk.out.mono ?_
        rintro e v1 ⟨A7, n7, c7, rfl, b7, e7⟩
        have DK := Lib.hid (DR.out _ _ _ _ (EX.out.trans e7) b7)
        have kz7 := Lib.hid (kz.out.ext e7)
        have EX7 := Lib.hid (EX.out.trans e7)
        clear JLk DR DRk e7 b7 kz EX bc sc
        go_wp2_with fail
        refine DK.out.mono ?_
        rintro e v8 ⟨rfl, e8⟩
        have kz8 := Lib.hid (kz7.out.ext e8)
        have EX8 := Lib.hid (EX7.out.trans e8)
        clear DK kz7 EX7 e8
        go_wp2_with (refine wpList_store_row rfl 23 _ _ rfl r (cellsOf rv).toArray rfl rfl 23 _ kz8.out.1 (by rw [S_rv]; rfl) (by rw [S_rv, S_zk]) O_rv ?_; simp only [Act.put])
        (try simp only [Exit.inBlock, Exit.then])
        refine bodyPost_ret (v := .tuple #[.agg (cellsOf rv).toArray, .int .i64 0]) ?_ rfl ?_
        · exact results_row_tmp rfl _ _ r 23 (cellsOf rv).toArray (0, 0) _ _ rfl rfl (setRow_heap _ _ _ _ _ _ kz8.out.1) rfl rfl (by rw [S_rv]; rfl)
        exact ⟨by rw [fin.out.1, fin.out.2], below_setRow EX8.out (by omega) _⟩
      · have hw' : agW (L.map dhL) = false := by simpa using hw
        rw [hw'] at bc
        obtain ⟨v1, v2⟩ := hV0.out hw'
        have fin : Hid (agV (L.map dhL) = zk ∧ agE (L.map dhL) = 12) := ⟨v1, v2⟩
        clear p1 p2 p3 p4 p5 CL XL h96 TK WS JL DR hV1 hV0 hw hw' v1 v2 FT
        go_wp2_with (first
          | (refine wpList_build_as rfl _ _ rfl (cellsOf zk).toArray (by simp only [List.map_toArray, List.map_nil]; exact hbz.out) ?_; simp only [Act.put, List.setIfInBounds_toArray, List.set_cons_zero, List.set_cons_succ])
          | (refine wpList_store_row rfl 23 _ _ rfl r (cellsOf zk).toArray rfl rfl 23 _ kz.out.1 (by rw [S_zk]; rfl) rfl O_zk ?_; simp only [Act.put]))
        (try simp only [Exit.inBlock, Exit.then])
        refine bodyPost_ret (v := .tuple #[.agg (cellsOf zk).toArray, .int .i64 12]) ?_ rfl ?_
        · exact results_row_tmp rfl _ _ r 23 (cellsOf zk).toArray (0, 0) _ _ rfl rfl (setRow_heap _ _ _ _ _ _ kz.out.1) rfl rfl (by rw [S_zk]; rfl)
        exact ⟨by rw [fin.out.1, fin.out.2], below_setRow EX.out (by omega) _⟩
end Go.Proofs.YtfhafednnnfmbaaDoor
