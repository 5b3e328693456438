import Derived.Test.YtfhafednnnfmbaaDoorDrawn
import Derived.Test.YtfhafednnnfmbaaDoorPkB
/-
  palfreyref09.Of: the key of rows.
-/
namespace Go.Proofs.YtfhafednnnfmbaaDoor
open Go.ChangeShapes Go.WideShapes Go.ChangeAt Go.RowKit Go.Deep
set_option maxRecDepth 100000

theorem wp_partE {P : Program} {c : Code} {Q : Exit → Act → World → Prop} {a : Act} {A' : Nat → Act} {w : World} (F : Nat → World → Prop) (h : c.wp P (fun x a' w' => x = .normal ∧ ∃ g, a' = A' g ∧ F g w') a w) (k : ∀ W g, F g W → Q .normal (A' g) W) : c.wp P Q a w :=
  Code.wp_mono (fun _ _ _ q => by obtain ⟨rfl, g, rfl, q⟩ := q; exact k _ _ q) h
theorem agW_bad {ks : List (List UInt8)} {k : List UInt8} (h : k ∈ ks) (hz : k = List.replicate 32 0) : agW ks = false := by
  unfold agW
  rw [List.all_eq_false]
  exact ⟨k, h, by simp [hz]⟩

set_option maxHeartbeats 8000000 in
theorem rof_calls {w : World} {A : Option Addr} {n c : Nat} {L : List (List UInt8)} (h : Xs w A n c L) (hn : n ≤ 4) :
    Calls Tryd.prog 11 #[.slice A n c] w fun e w' => e = .returned (.tuple #[.agg (cellsOf (agV (L.map dhL))).toArray, .int .i64 (agE (L.map dhL))]) ∧ Ext w w' := by
  obtain ⟨r, hr⟩ : ∃ r, r = w.heap.size := ⟨_, rfl⟩
  have CM : Hid (∀ (W : World) (s q p : List UInt8), s.length = 32 → q.length = 32 → p.length = 32 → Calls Tryd.prog 16 #[.agg (cellsOf (s ++ q)).toArray, .agg (cellsOf p).toArray] W fun e w' => e = .returned (.tuple #[.agg (cellsOf (comL s p)).toArray, .int .i64 (comE (comL s p))]) ∧ Ext W w') := fun W s q p hs hq hp => rcommon_calls hs hq hp
  have XL := Lib.hid (fun (W : World) (e : Ext w W) => h.ext e)
  have LL := h.1
  have hc1 := h.2.1
  have hc2 : c ≤ 9223372036854775807 := h.2.2.1
  have h96 : Hid (∀ k, k < n → (L.getD k []).length = 96) := fun k hk => by
    have hl : k < L.length := by rw [h.1]; exact hk
    have : L.getD k [] = L[k] := by simp [List.getD, hl]
    rw [this]
    exact h.2.2.2.1 _ (List.getElem_mem hl)
  have TK : Hid (∀ k, k < n → (L.take (k + 1)).map dhL = (L.take k).map dhL ++ [dhL (L.getD k [])]) := fun k hk => by
    rw [take_snoc (d := []) (by rw [LL]; exact hk), List.map_append]; rfl
  have WS : Hid (∀ k, k < n → agW ((L.take (k + 1)).map dhL) = (agW ((L.take k).map dhL) && !decide (dhL (L.getD k []) = List.replicate 32 0))) := fun k hk => by rw [TK.out k hk, agW_snoc]
  have BAD : Hid (∀ k, k < n → dhL (L.getD k []) = List.replicate 32 0 → agV (L.map dhL) = List.replicate 32 0 ∧ agE (L.map dhL) = 12) := fun k hk hz => by
    have hb : agW (L.map dhL) = false := agW_bad (List.mem_map.2 ⟨L.getD k [], by
      have hl : k < L.length := by rw [LL]; exact hk
      have : L.getD k [] = L[k] := by simp [List.getD, hl]
      rw [this]; exact List.getElem_mem hl, rfl⟩) hz
    exact ⟨by unfold agV; rw [if_neg (by rw [hb]; decide)], by unfold agE; rw [if_neg (by rw [hb]; decide)]⟩
  have JL : Hid (∀ W D cc, Rw W D n cc (L.map dhL) → Calls Tryd.prog 18 #[.slice D n cc] W (RetBs (joinL (L.map dhL)) W)) := fun W D cc hr => refJoin_calls hr (by
    rw [joinL_len32 (fun x hx => by obtain ⟨y, _, rfl⟩ := List.mem_map.1 hx; exact comL_len _ _), List.length_map, LL]; omega)
  have DR : Hid (∀ W D m cc, Bs W D m cc (joinL (L.map dhL)) → Calls Tryd.prog 17 #[.agg (cellsOf (List.replicate 32 0)).toArray, .slice D m cc] W fun e w' => e = .returned (.agg (cellsOf (macL (List.replicate 32 0) (joinL (L.map dhL)))).toArray) ∧ Ext W w') := fun W D m cc hb => refDraw_calls rfl hb (by
    have := hb.len
    rw [joinL_len32 (fun x hx => by obtain ⟨y, _, rfl⟩ := List.mem_map.1 hx; exact comL_len _ _), List.length_map, LL] at this; omega)
  have FT : Hid (L.take n = L) := List.take_of_length_le (by rw [LL]; exact Nat.le_refl _)
  have hV1 : Hid (agW (L.map dhL) = true → agV (L.map dhL) = macL (List.replicate 32 0) (joinL (L.map dhL)) ∧ agE (L.map dhL) = 0) := fun q => ⟨by unfold agV; rw [if_pos q], by unfold agE; rw [if_pos q]⟩
  have L_rv := macL_len (List.replicate 32 0) (joinL (L.map dhL))
  have EC : Hid (∀ k : List UInt8, comE k = if k = List.replicate 32 0 then 12 else 0) := fun k => rfl
  clear h LL
  have hal : ∀ w, (zeroValue 23).run Tryd.prog w = .ok (.agg (cellsOf (List.replicate 32 0)).toArray) w := fun w => by rw [zeros32_cells]; exact key_alloc w
  have hbz := Lib.hid zero_built
  have L_zk : (List.replicate 32 (0 : UInt8)).length = 32 := rfl
  generalize macL (List.replicate 32 0) (joinL (L.map dhL)) = rv at *
  generalize List.replicate 32 (0 : UInt8) = zk at *
  have S_zk : (cellsOf zk).toArray.size = 32 := by simp [cellsOf_len, L_zk]
  have O_zk := cellsOf_one zk
  have S_rv : (cellsOf rv).toArray.size = 32 := by simp [cellsOf_len, L_rv]
  have O_rv := cellsOf_one rv
  have A0 : Hid (Ky (w.alloc (Obj.cells (cellsOf zk).toArray 23)) w.heap.size zk ∧ Ext w (w.alloc (Obj.cells (cellsOf zk).toArray 23))) := ⟨⟨heap_alloc_new _ _, L_zk⟩, (Ext.refl w).alloc _⟩
  go_enter Tryd.func11, Tryd.ntmps11
  go_upto_region 1 with fail
  refine wp_gen (fun W => Ky W r zk ∧ Ext w W) (by rw [hr]; exact A0.out) ?_
  clear A0
  rintro w0 ⟨p3, p4⟩
  rw [← hr]
  have hle : w.heap.size ≤ r := Nat.le_of_eq hr.symm
  replace hr := Lib.hid hr
  replace p3 := Lib.hid p3
  replace p4 := Lib.hid p4
  go_wp2_with fail
  go_loopw [4, 5] (fun sv iv wr => ∃ (k : Nat) (D : Option Addr) (cc : Nat), k ≤ n ∧ sv = .slice D k cc ∧ iv = .int .i64 (k : Int) ∧ agW ((L.take k).map dhL) = true ∧ OwnR (r + 1) wr D k cc ((L.take k).map dhL) ∧ Ky wr r zk ∧ Ext w wr) (fun _ iv _ => ((n : Int) - intOf iv).toNat)
  case atStart => exact ⟨0, none, 0, Nat.zero_le _, rfl, rfl, rfl, OwnR.nil _ _, p3.out, p4.out⟩
  case round =>
    clear p3 p4
    obtain ⟨k, D, cc, hk, rfl, rfl, hw, p2, p4, p5⟩ := hrel
    by_cases hlt : k < n
    · have u1 : decide ((k : Int) < (n : Int)) = true := decide_eq_true (by omega)
      have ad : IntKind.i64.wrap ((k : Int) + 1) = (k : Int) + 1 := IntWalk.i64_in _ (by omega)
      have hme : Hid (((n : Int) - ((k : Int) + 1)).toNat < ((n : Int) - (k : Int)).toNat) := by unfold Hid; omega
      have hk1 : Hid (k + 1 ≤ n) := hlt
      have kb : (k : Int) < (n : Int) := by omega
      obtain ⟨b, rfl, hb, hc⟩ := (XL.out _ p5).2.2.2.2 (by omega)
      have hx := Lib.hid (fun i v hv => hc k i v hlt hv)
      have C_x := h96.out k hlt
      have TKk := Lib.hid (TK.out k hlt)
      have WSk := Lib.hid (WS.out k hlt)
      have BADk := Lib.hid (BAD.out k hlt)
      obtain ⟨s, q, p, hxe, hs, hq, hp⟩ := split96 C_x
      have dke : dhL (L.getD k []) = comL s p := by rw [hxe, dhL_app hs hq]
      rw [dke] at TKk WSk BADk
      have CMk := Lib.hid (fun W => CM.out W s q p hs hq hp)
      have hx1 : Hid (∀ i v, (cellsOf (s ++ q))[i]? = some v → wr.cell? ⟨b, k * 96 + i, none⟩ = some v) := fun i v hv => hx.out i v (by rw [hxe, cellsOf_app, List.getElem?_append_left (List.getElem?_eq_some_iff.1 hv).1]; exact hv)
      have hx2 : Hid (∀ i v, (cellsOf p)[i]? = some v → wr.cell? ⟨b, k * 96 + 64 + i, none⟩ = some v) := fun i v hv => by
        have := hx.out (64 + i) v (by rw [hxe, cellsOf_app, List.getElem?_append_right (by simp [cellsOf_len, hs, hq]), show 64 + i - (cellsOf (s ++ q)).length = i by simp [cellsOf_len, hs, hq]]; exact hv)
        rwa [← Nat.add_assoc] at this
      have ECk := Lib.hid (EC.out (comL s p))
      have L_dk := comL_len s p
      clear CM TK WS BAD hx hc h96 dke hxe XL
      generalize comL s p = dk at *
      generalize comE dk = ce at *
      have L_o : (s ++ q).length = 64 := by rw [List.length_append, hs, hq]
      generalize s ++ q = oo at *
      have C_o : (cellsOf oo).length = 64 := by rw [cellsOf_len, L_o]
      have C_p : (cellsOf p).length = 32 := by rw [cellsOf_len, hp]
      have S_dk : (cellsOf dk).toArray.size = 32 := by simp [cellsOf_len, L_dk]
      have O_dk := cellsOf_one dk
      replace hw := Lib.hid (fun _ : Unit => hw)
      have p2blk : Hid (∀ b', Value.ownBlock (.slice D k cc) = some b' → b' < wr.heap.size) := p2.blk
      replace p2 := Lib.hid p2
      replace p4 := Lib.hid p4
      replace p5 := Lib.hid p5
      have zR : Hid (∀ W, Ext wr W → OwnR (r + 1) W D k cc ((L.take k).map dhL) ∧ Ky W r zk ∧ Ext w W) := fun W e => ⟨p2.out.ext e, p4.out.ext e, p5.out.trans e⟩
      clear p2 p4 p5
      go_upto_region 5 with fail
      apply wp_partE (F := fun g W => Ky W g dk ∧ wr.heap.size ≤ g ∧ Ext wr W)
      · skip
        refine wp_region_tree (R := Below wr.heap.size) (Below.refl _) (fun _ _ _ => Below.trans) (.rd 0 (.rd 1 (.rd 2 (.rd 3 (.rd 4 (.rd 5 (.rd 6 (.rd 7 (.rd 8 (.rd 9 (.alt 10 (.rd 11 (.rd 12 (.rd 13 (.alt 14 (.alt 15 (.rd 16 .nil) .stop) .stop)))) (.alt 14 (.alt 10 (.rd 11 (.rd 12 (.rd 13 (.alt 15 (.rd 16 .nil) .stop)))) .stop) .stop)))))))))))) [(0, 16, 2), (0, 17, 64), (3, 18, 196608), (4, 19, 262144), (8, 20, 524288), (0, 21, 2), (0, 22, 64), (96, 23, 6291456), (128, 24, 8388608), (256, 25, 16777216), (528, 26, 34603008), (1024, 15, 67108864), (2048, 27, 32768), (2048, 28, 32768), (0, 7, 0), (24575, 0, 134217856), (65535, 8, 268435456)] 17 (by kernel_rfl) (by kernel_rfl) (by kernel_rfl) rfl (by kernel_rfl) (by kernel_rfl) (fun _ _ _ _ _ h => absurd h.1 (fun q => by cases q)) ?_
        repeat (first | (refine seqT_read (fun _ => True) (fun _ _ => trivial) _ (v := ?_) rfl ?_ ?_ ?_; rotate_left; (· rfl); (· intro w' hF; go_simp; (try with_reducible rfl)); simp only [Act.put, List.setIfInBounds_toArray, List.set_cons_zero, List.set_cons_succ]) | (refine seqT_skip _ rfl ?_ ?_; (· rfl); simp only [Act.put, List.setIfInBounds_toArray, List.set_cons_zero, List.set_cons_succ]))
        refine seqT_read (fun s' => ∀ i v, (cellsOf oo)[i]? = some v → s'.cell? ⟨b, k * 96 + i, none⟩ = some v) (fun s' e => fun i v hv => (Ext.cell (show Ext wr s' from ((Below.refl wr.heap.size wr).drew.trans e)) hb).trans (hx1.out i v hv)) _ (v := .agg (cellsOf oo).toArray) rfl (by rfl) (fun s' hs' => exec_load_mid rfl rfl hs' rfl rfl (by rw [C_o]; rfl)) ?_
        simp only [Act.put, List.setIfInBounds_toArray, List.set_cons_zero, List.set_cons_succ]
        repeat (first | (refine seqT_read (fun _ => True) (fun _ _ => trivial) _ (v := ?_) rfl ?_ ?_ ?_; rotate_left; (· rfl); (· intro w' hF; go_simp; (try with_reducible rfl)); simp only [Act.put, List.setIfInBounds_toArray, List.set_cons_zero, List.set_cons_succ]) | (refine seqT_skip _ rfl ?_ ?_; (· rfl); simp only [Act.put, List.setIfInBounds_toArray, List.set_cons_zero, List.set_cons_succ]))
        refine seqT_read (fun s' => ∀ i v, (cellsOf p)[i]? = some v → s'.cell? ⟨b, k * 96 + 64 + i, none⟩ = some v) (fun s' e => fun i v hv => (Ext.cell (show Ext wr s' from ((Below.refl wr.heap.size wr).drew.trans e)) hb).trans (hx2.out i v hv)) _ (v := .agg (cellsOf p).toArray) rfl (by rfl) (fun s' hs' => exec_load_mid rfl rfl hs' rfl rfl (by rw [C_p]; rfl)) ?_
        simp only [Act.put, List.setIfInBounds_toArray, List.set_cons_zero, List.set_cons_succ]
        have X : Hid (Ext wr wr.drew) := (Ext.refl wr).drew
        have z0 : wr.heap.size ≤ wr.drew.heap.size := Nat.le_refl _
        generalize wr.drew = WC at *
        repeat' (first
          | exact seqT_stop
          | (refine seqT_do (i := 10) _ rfl ?_ ?_ (fun K1 hK1 => ?_)
             (· rfl)
             rotate_left
             go_simp
             refine (CMk.out _).mono ?_
             rintro e0 WC ⟨rfl, e⟩
             refine hK1.out _ _ (e.mono z0) ?_
             clear hK1 K1
             (try replace hA := Lib.hid ((e.block _ (heap_lt hA.out)).trans hA.out))
             replace X := Lib.hid (X.out.trans e)
             have z1 := Nat.le_trans z0 e.size
             clear z0 e
             have z0 := z1
             clear z1
             (try simp only [Act.put, List.setIfInBounds_toArray, List.set_cons_zero, List.set_cons_succ])
             repeat (first | (refine seqT_read (fun _ => True) (fun _ _ => trivial) _ (v := ?_) rfl ?_ ?_ ?_; rotate_left; (· rfl); (· intro w' hF; go_simp; (try with_reducible rfl)); simp only [Act.put, List.setIfInBounds_toArray, List.set_cons_zero, List.set_cons_succ]) | (refine seqT_skip _ rfl ?_ ?_; (· rfl); simp only [Act.put, List.setIfInBounds_toArray, List.set_cons_zero, List.set_cons_succ]))
             skip)
          | (refine seqT_do (i := 14) _ rfl ?_ ?_ (fun K1 hK1 => ?_)
             (· rfl)
             rotate_left
             go_simp
             have e : Ext WC (WC.alloc (Obj.cells (cellsOf zk).toArray 23)) := (Ext.refl WC).alloc _
             obtain ⟨g6, hg6⟩ : ∃ g, g = WC.heap.size := ⟨_, rfl⟩
             have hA' := Lib.hid (heap_alloc_new WC (Obj.cells (cellsOf zk).toArray 23))
             rw [← hg6] at hA' ⊢
             have lg6 : wr.heap.size ≤ g6 := by rw [hg6]; exact z0
             refine hK1.out _ (WC.alloc (Obj.cells (cellsOf zk).toArray 23)) (e.mono z0) ?_
             clear hK1 K1
             replace X := Lib.hid (X.out.trans e)
             have z1 := Nat.le_trans z0 e.size
             clear z0 e
             have z0 := z1
             clear z1
             have hA := hA'
             clear hA'
             replace hg6 := Lib.hid hg6
             generalize WC.alloc (Obj.cells (cellsOf zk).toArray 23) = WC at *
             (try simp only [Act.put, List.setIfInBounds_toArray, List.set_cons_zero, List.set_cons_succ])
             repeat (first | (refine seqT_read (fun _ => True) (fun _ _ => trivial) _ (v := ?_) rfl ?_ ?_ ?_; rotate_left; (· rfl); (· intro w' hF; go_simp; (try with_reducible rfl)); simp only [Act.put, List.setIfInBounds_toArray, List.set_cons_zero, List.set_cons_succ]) | (refine seqT_skip _ rfl ?_ ?_; (· rfl); simp only [Act.put, List.setIfInBounds_toArray, List.set_cons_zero, List.set_cons_succ]))
             skip)
          | (refine seqT_do (i := 15) _ rfl ?_ ?_ (fun K1 hK1 => ?_)
             (· rfl)
             rotate_left
             refine wp_store_row _ _ _ rfl g6 (cellsOf dk).toArray rfl rfl 23 (cellsOf zk).toArray hA.out (by rw [S_dk]; rfl) (by rw [S_dk, S_zk]) O_dk ?_
             refine hK1.out _ _ (below_setRow (Below.refl _ _) lg6 _) ?_
             clear hK1 K1
             (try simp only [Act.put, List.setIfInBounds_toArray, List.set_cons_zero, List.set_cons_succ])
             repeat (first | (refine seqT_read (fun _ => True) (fun _ _ => trivial) _ (v := ?_) rfl ?_ ?_ ?_; rotate_left; (· rfl); (· intro w' hF; go_simp; (try with_reducible rfl)); simp only [Act.put, List.setIfInBounds_toArray, List.set_cons_zero, List.set_cons_succ]) | (refine seqT_skip _ rfl ?_ ?_; (· rfl); simp only [Act.put, List.setIfInBounds_toArray, List.set_cons_zero, List.set_cons_succ]))
             refine seqT_done ?_
             exact ⟨rfl, g6, rfl, ⟨setRow_heap _ _ _ _ _ _ hA.out, L_dk⟩, lg6, below_setRow X.out lg6 _⟩))
      · intro W6 g6 ⟨kg, lg6, xe⟩
        (try dsimp only)
        obtain ⟨o6, z6, x6⟩ := zR.out _ xe
        have blk6 := Lib.hid (p2blk.out)
        clear zR
        by_cases hz : dk = zk
        · have hce : ce = 12 := by rw [ECk.out, if_pos hz]
          obtain ⟨v1, v2⟩ := BADk.out hz
          have fin : Hid (agV (L.map dhL) = zk ∧ agE (L.map dhL) = 12) := ⟨v1, v2⟩
          subst hce
          replace z6 := Lib.hid z6
          replace x6 := Lib.hid x6
          clear ECk BADk TKk WSk hz o6 kg xe v1 v2 JL DR hV1 FT EC
          go_wp2_with (first
            | (refine wpList_build_as rfl _ _ rfl (cellsOf zk).toArray (by simp only [List.map_toArray, List.map_nil]; exact hbz.out) ?_; simp only [Act.put, List.setIfInBounds_toArray, List.set_cons_zero, List.set_cons_succ])
            | (refine wpList_store_row rfl 23 _ _ rfl r (cellsOf zk).toArray rfl rfl 23 _ z6.out.1 (by rw [S_zk]; rfl) rfl O_zk ?_; simp only [Act.put]))
          (try simp only [Exit.inBlock, Exit.then])
          refine bodyPost_ret (v := .tuple #[.agg (cellsOf zk).toArray, .int .i64 12]) ?_ rfl ?_
          · exact results_row_tmp rfl _ _ r 23 (cellsOf zk).toArray (0, 0) _ _ rfl rfl (setRow_heap _ _ _ _ _ _ z6.out.1) rfl rfl (by rw [S_zk]; rfl)
          exact ⟨by rw [fin.out.1, fin.out.2], below_setRow x6.out (by omega) _⟩
        · have hce : ce = 0 := by rw [ECk.out, if_neg hz]
          subst hce
          have hw1 : Hid (∀ _ : Unit, agW ((L.take (k + 1)).map dhL) = true) := fun _ => by rw [WSk.out, hw.out (), decide_eq_false hz]; rfl
          have bs0 : Hid (∀ v, Bs (W6.alloc (.cells #[] v)) (some ⟨g6, 0, none⟩) 32 32 dk ∧ Ext W6 (W6.alloc (.cells #[] v))) := fun v => ⟨kg.bs.ext ((Ext.refl _).alloc _), (Ext.refl _).alloc _⟩
          replace o6 := Lib.hid o6
          replace z6 := Lib.hid z6
          replace x6 := Lib.hid x6
          have s6 := xe.size
          have rW : r + 1 ≤ W6.heap.size := heap_lt z6.out.1
          clear ECk BADk WSk hz kg xe JL DR hV1 FT EC hw
          go_wp2_with (first
            | (at_builtin; (with_reducible refine wpList_append_emptyN rfl (s := .tmp 33) (x := .tmp 34) rfl rfl rfl (bs0.out 5).1 (by omega) ?_); intro B2 d2 w3 b3 e3 n3; replace b3 := Lib.hid b3; replace e3 : Hid (Ext W6 w3) := (bs0.out 5).2.trans e3; replace n3 := Lib.hid n3; simp only [Act.put, List.setIfInBounds_toArray, List.set_cons_zero, List.set_cons_succ])
            | (at_builtin; (with_reducible refine wpList_append_rw rfl (B := r + 1) (s := .tmp 32) (x := .tmp 36) rfl rfl rfl (o6.out.ext (e3.out.alloc _)) ((Cb.new w3 45 [.slice B2 32 d2]).cell rfl) (b3.out.ext ((Ext.refl w3).alloc _)) (fun h0 a ha q => absurd (blk6.out _ q.symm) (by have := n3.out h0 a ha; rw [size_alloc] at this; omega)) (by omega) (Nat.le_trans rW (e3.out.alloc _).size) ?_); intro D5 c5 w5 o5 b5; replace o5 := Lib.hid o5; replace b5 := Lib.hid b5; simp only [Act.put, List.setIfInBounds_toArray, List.set_cons_zero, List.set_cons_succ]))
          have z5 : Hid (Ky w5 r zk ∧ Ext w w5) := ⟨⟨(b5.out.block _ (by omega)).trans (z6.out.ext (e3.out.alloc _)).1, L_zk⟩, Below.trans (x6.out.trans (e3.out.alloc _)) (b5.out.mono (by omega))⟩
          exact ⟨⟨k + 1, D5, c5, hk1.out, rfl, rfl, hw1.out (), by rw [TKk.out]; exact o5.out, z5.out⟩, by simpa [intOf] using hme.out⟩
    · obtain rfl : k = n := by omega
      have u1 : decide ((k : Int) < (k : Int)) = false := decide_eq_false (by omega)
      rw [FT.out] at p2 hw
      have EX := Lib.hid p5
      have kz := Lib.hid p4
      obtain ⟨v1, v2⟩ := hV1.out hw
      have fin : Hid (agV (L.map dhL) = rv ∧ agE (L.map dhL) = 0) := ⟨v1, v2⟩
      have JLk := Lib.hid (JL.out wr D cc p2.rw)
      clear p2 p4 p5 CM XL h96 TK WS JL hV1 hw v1 v2 FT BAD EC
      go_wp2_with (refine wpList_build_as rfl _ _ rfl (cellsOf zk).toArray (by simp only [List.map_toArray, List.map_nil]; exact hbz.out) ?_; simp only [Act.put, List.setIfInBounds_toArray, List.set_cons_zero, List.set_cons_succ])
      refine JLk.out.mono ?_
      rintro e v1 ⟨A7, n7, c7, rfl, b7, e7⟩
      have DK := Lib.hid (DR.out _ _ _ _ b7)
      have kz7 := Lib.hid (kz.out.ext e7)
      have EX7 := Lib.hid (EX.out.trans e7)
      clear JLk DR e7 b7 kz EX
      go_wp2_with fail
      refine DK.out.mono ?_
      rintro e v8 ⟨rfl, e8⟩
      have kz8 := Lib.hid (kz7.out.ext e8)
      have EX8 := Lib.hid (EX7.out.trans e8)
      clear DK kz7 EX7 e8
      go_wp2_with (refine wpList_store_row rfl 23 _ _ rfl r (cellsOf rv).toArray rfl rfl 23 _ kz8.out.1 (by rw [S_rv]; rfl) (by rw [S_rv, S_zk]) O_rv ?_; simp only [Act.put])
      (try simp only [Exit.inBlock, Exit.then])
      refine bodyPost_ret (v := .tuple #[.agg (cellsOf rv).toArray, .int .i64 0]) ?_ rfl ?_
      · exact results_row_tmp rfl _ _ r 23 (cellsOf rv).toArray (0, 0) _ _ rfl rfl (setRow_heap _ _ _ _ _ _ kz8.out.1) rfl rfl (by rw [S_rv]; rfl)
      exact ⟨by rw [fin.out.1, fin.out.2], below_setRow EX8.out (by omega) _⟩
end Go.Proofs.YtfhafednnnfmbaaDoor
