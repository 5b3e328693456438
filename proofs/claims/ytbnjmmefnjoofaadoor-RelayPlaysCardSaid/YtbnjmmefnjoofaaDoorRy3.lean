import Derived.Test.YtbnjmmefnjoofaaDoorPkJ
/-
  relay.Tag; relay.registered and Register.
-/
namespace Go.Proofs.YtbnjmmefnjoofaaDoor
open Go.ChangeShapes Go.WideShapes Go.ChangeAt Go.RowKit Go.Deep Go.Maps
set_option maxRecDepth 100000

/-- What an envelope is sent with. -/
def tgL (lk : List UInt8) (f t : Int) (cm pk : List UInt8) (p n : Int) (body : List UInt8) : List UInt8 := if okE f t p n body.length then macL lk (enX f t cm pk p n body) else zk
theorem tgL_len (lk : List UInt8) (f t : Int) (cm pk : List UInt8) (p n : Int) (body : List UInt8) : (tgL lk f t cm pk p n body).length = 32 := by
  unfold tgL
  split
  · exact macL_len _ _
  · rfl
theorem tgE_facts {lk : List UInt8} {f t : Int} {cm pk : List UInt8} {p n : Int} {body : List UInt8} : (okE f t p n body.length = true → tgL lk f t cm pk p n body = macL lk (enX f t cm pk p n body) ∧ enE f t p n body.length = 0) ∧ (okE f t p n body.length = false → tgL lk f t cm pk p n body = zk ∧ enE f t p n body.length = 1) := by
  refine ⟨fun h => ?_, fun h => ?_⟩
  · unfold tgL enE; rw [h]; exact ⟨rfl, rfl⟩
  · unfold tgL enE; rw [h]; exact ⟨rfl, rfl⟩
set_option maxHeartbeats 4000000 in
theorem tag20_calls {w : World} {lk : List UInt8} (ll : lk.length = 32) {f t p n : Int} {cm pk body : List UInt8} {A : Option Addr} {m c : Nat} (hc : cm.length = 32) (hk : pk.length = 32) (hb : Bs w A m c body) {tg : TypeId × Nat × Nat} (hG : Gl w tg) :
    Calls Tryd.prog 23 #[.agg (cellsOf lk).toArray, .agg (evC f t cm pk p n A m c).toArray] w fun e w' => e = .returned (.tuple #[.agg (cellsOf (tgL lk f t cm pk p n body)).toArray, .int .i64 (enE f t p n m)]) ∧ Ext w w' := by
  have lm := hb.len
  have HE : Hid (∀ W, Ext w W → Calls Tryd.prog 42 #[.agg (evC f t cm pk p n A m c).toArray] W (RetBsE (enX f t cm pk p n body) (enE f t p n m) W)) := fun W e => henv_calls hc hk (hb.ext e)
  have MC : Hid (∀ (W : World) (g : Nat) (A' : Option Addr) (k d : Nat), Ext w W → Ky W g lk → Bs W A' k d (enX f t cm pk p n body) → Calls Tryd.prog 43 #[.slice (some ⟨g, 0, none⟩) 32 32, .slice A' k d] W fun e w' => e = .returned (.tuple #[.agg (cellsOf (macL lk (enX f t cm pk p n body))).toArray, .int .i64 0]) ∧ Ext W w') := fun W g A' k d e q b => mac_calls q.bs b (by decide) (hG.kept e hG.lt)
  obtain ⟨F1, F0⟩ := tgE_facts (lk := lk) (f := f) (t := t) (cm := cm) (pk := pk) (p := p) (n := n) (body := body)
  rw [lm] at F1 F0
  replace F1 := Lib.hid F1
  replace F0 := Lib.hid F0
  have L_ev := evC_len hc hk f t p n A m c
  clear hb hG
  generalize tgL lk f t cm pk p n body = TL at *
  generalize enE f t p n m = ER at *
  have ML := macL_len lk (enX f t cm pk p n body)
  generalize macL lk (enX f t cm pk p n body) = D at *
  generalize enX f t cm pk p n body = X at *
  generalize evC f t cm pk p n A m c = ev at *
  have S_ev : ev.toArray.size = 69 := by rw [List.size_toArray, L_ev]
  have S_k : (cellsOf lk).toArray.size = 32 := by simp [cellsOf_len, ll]
  have S_D : (cellsOf D).toArray.size = 32 := by simp [cellsOf_len, ML]
  have O_D := cellsOf_one D
  have hal := key_alloc16
  have BZ := Lib.hid zeros32_built
  have S_Z := zeros32_size
  have O_Z := zeros32_one
  have ZZ : Hid (zeros32 = (cellsOf zk).toArray) := zeros32_cells.symm
  generalize zeros32 = Z at *
  obtain ⟨r, hr⟩ : ∃ x, x = w.heap.size := ⟨_, rfl⟩
  have B0 : Hid (Ky (((w.alloc (.cells (cellsOf lk).toArray 23)).alloc (.cells ev.toArray 37)).alloc (.cells Z 23)) r lk ∧ Cb (((w.alloc (.cells (cellsOf lk).toArray 23)).alloc (.cells ev.toArray 37)).alloc (.cells Z 23)) (r + 1) 37 ev ∧ (((w.alloc (.cells (cellsOf lk).toArray 23)).alloc (.cells ev.toArray 37)).alloc (.cells Z 23)).heap[r + 1 + 1]? = some (.cells Z 23 (0, 0)) ∧ Ext w (((w.alloc (.cells (cellsOf lk).toArray 23)).alloc (.cells ev.toArray 37)).alloc (.cells Z 23))) := by
    rw [hr]; exact ⟨⟨heap_alloc30 _ _ _ _, ll⟩, heap_alloc31 _ _ _ _, heap_alloc32 _ _ _ _, (((Ext.refl w).alloc _).alloc _).alloc _⟩
  go_enter Tryd.func23, Tryd.ntmps23
  go_upto_region 1 with fail
  refine wp_gen (fun W => Ky W r lk ∧ Cb W (r + 1) 37 ev ∧ W.heap[r + 1 + 1]? = some (.cells Z 23 (0, 0)) ∧ Ext w W) B0.out ?_
  rw [← hr]
  have wr : w.heap.size ≤ r := Nat.le_of_eq hr.symm
  replace hr := Lib.hid hr
  clear B0
  rintro w0 ⟨k0, k1, k2, x0⟩
  have HE0 := Lib.hid (HE.out w0 x0)
  replace k0 := Lib.hid k0
  replace k2 := Lib.hid k2
  replace x0 := Lib.hid x0
  clear HE
  go_wp2_with (first | ((with_reducible refine wpList_load_rowW (o := ⟨some 9, _, _, _, _, _⟩) ?_ 37 _ rfl (r + 1) ?_ 37 ev.toArray (0, 0) _ ?_ Tryd.underlying37 ?_ ?_ ?_); (· rfl); (· rfl); (· exact k1); (· rfl); (· rw [S_ev]; rfl); go_frame))
  refine HE0.out.mono ?_
  rintro e w1 ⟨A1, n1, c1, rfl, b1, x1⟩
  have X1 : Hid (Ext w w1) := x0.out.trans x1
  have K1 : Hid (Ky w1 r lk ∧ w1.heap[r + 1 + 1]? = some (.cells Z 23 (0, 0))) := ⟨k0.out.ext x1, (x1.block _ (heap_lt k2.out)).trans k2.out⟩
  replace b1 := Lib.hid b1
  clear k0 k1 k2 x0 x1 HE0
  have k2 := K1.out.2
  rcases q : okE f t p n m with _ | _
  · obtain ⟨p1, p2⟩ := F0.out q
    replace p1 : Hid ((cellsOf TL).toArray = Z) := by unfold Hid; rw [p1, ZZ.out]
    subst p2
    have FIN : Hid (Ext w (w1.setRow (r + 1 + 1) Z)) := below_setRow X1.out (by omega) _
    clear F1 F0 MC b1 K1 q
    go_wp2_with (first
      | (refine wpList_build_as rfl _ _ rfl Z (by simp only [List.map_toArray, List.map_nil]; exact BZ.out) ?_; go_frame)
      | (refine wpList_store_row rfl 23 _ _ rfl (r + 1 + 1) Z rfl rfl 23 Z k2 (by rw [S_Z]; rfl) rfl O_Z ?_; simp only [Act.put]))
    (try simp only [Exit.inBlock, Exit.then])
    refine bodyPost_ret (results_row_tmp rfl _ _ (r + 1 + 1) 23 Z (0, 0) _ _ rfl rfl (setRow_heap _ _ _ _ _ _ k2) rfl rfl (by rw [S_Z]; rfl)) rfl ?_
    exact ⟨by rw [p1.out]; rfl, FIN.out⟩
  · obtain ⟨p1, p2⟩ := F1.out q
    replace p1 : Hid (TL = D) := p1
    subst p2
    have MC1 := Lib.hid (MC.out w1 r A1 n1 c1 X1.out K1.out.1 b1.out)
    clear F1 F0 MC b1 q
    go_wp2_with fail
    refine MC1.out.mono ?_
    rintro e w2 ⟨rfl, x2⟩
    have k3 := (x2.block _ (heap_lt k2)).trans k2
    have FIN : Hid (Ext w (w2.setRow (r + 1 + 1) (cellsOf D).toArray)) := below_setRow (X1.out.trans x2) (by omega) _
    clear MC1 K1 k2 X1 x2
    go_wp2_with (first
      | (refine wpList_store_row rfl 23 _ _ rfl (r + 1 + 1) (cellsOf D).toArray rfl rfl 23 Z k3 (by rw [S_D]; rfl) (by rw [S_D, S_Z]) O_D ?_; simp only [Act.put]))
    (try simp only [Exit.inBlock, Exit.then])
    refine bodyPost_ret (results_row_tmp rfl _ _ (r + 1 + 1) 23 (cellsOf D).toArray (0, 0) _ _ rfl rfl (setRow_heap _ _ _ _ _ _ k3) rfl rfl (by rw [S_D]; rfl)) rfl ?_
    exact ⟨by rw [p1.out]; rfl, FIN.out⟩

theorem account_built {lk ib sb : List UInt8} (h1 : lk.length = 32) (h2 : ib.length = 32) (h3 : sb.length = 32) {A : Option Addr} {n c bx tk : Nat} :
    Tryd.prog.built 83 [(0, .bool true), (1, .agg (cellsOf lk).toArray), (2, .agg (bbC (ib ++ (sb ++ List.replicate 32 0)) false).toArray), (3, .slice A n c), (4, .pointer (some ⟨bx, 0, none⟩)), (5, .pointer (some ⟨tk, 0, none⟩))] = some (acL true lk (ib ++ (sb ++ zk)) false (.slice A n c) (.pointer (some ⟨bx, 0, none⟩)) (.pointer (some ⟨tk, 0, none⟩)) false).toArray := by
  have h : ∃ pl : Nat → Option (Nat × Nat), (pl 0 = some (0, 1) ∧ pl 1 = some (1, 32) ∧ pl 2 = some (33, 97) ∧ pl 3 = some (130, 1) ∧ pl 4 = some (131, 1) ∧ pl 5 = some (132, 1)) ∧ ∀ ps, Tryd.prog.built 83 ps = Instr.fill pl zA.toArray ps := ⟨(#[(0, 1), (1, 32), (33, 97), (130, 1), (131, 1), (132, 1), (133, 1)][·]?), ⟨rfl, rfl, rfl, rfl, rfl, rfl⟩, fun ps => by kernel_rfl⟩
  obtain ⟨pl, ⟨q0, q1, q2, q3, q4, q5⟩, hp⟩ := h
  rw [hp]
  have lb : (ib ++ (sb ++ List.replicate 32 0)).length = 96 := by simp [h2, h3]
  unfold zA acL
  show _ = some ([Value.bool true] ++ (cellsOf lk ++ (bbC (ib ++ (sb ++ List.replicate 32 0)) false ++ [Value.slice A n c, Value.pointer (some ⟨bx, 0, none⟩), Value.pointer (some ⟨tk, 0, none⟩), Value.bool false]))).toArray
  generalize ib ++ (sb ++ List.replicate 32 0) = bb at *
  have lz : (cellsOf zk).length = 32 := by rw [cellsOf_len]; rfl
  have lzb : (bbC (zk ++ (zk ++ zk)) false).length = 97 := by rw [bbC_len]; rfl
  have lk' : (cellsOf lk).length = 32 := by rw [cellsOf_len, h1]
  have lb' : (bbC bb false).length = 97 := by rw [bbC_len, lb]
  generalize cellsOf zk = Z1 at *
  generalize bbC (zk ++ (zk ++ zk)) false = Z2 at *
  generalize cellsOf lk = C1 at *
  generalize bbC bb false = C2 at *
  rw [fill_step q0 rfl (by simp [lz, lzb]), show (Value.bool true).cells.toList = [Value.bool true] from rfl, splice_zero (by simp)]
  rw [fill_step q1 (by rw [cells_agg, List.size_toArray, lk']) (by simp [lz, lzb]), cells_agg, List.toList_toArray, splice_mid (by simp) (by rw [lz, lk'])]
  rw [fill_step q2 (by rw [cells_agg, List.size_toArray, lb']) (by simp [lk', lzb]), cells_agg, List.toList_toArray, ← List.append_assoc [Value.bool true] C1, splice_mid (by simp [lk']) (by rw [lzb, lb'])]
  have e3 : ([Value.bool true] ++ C1) ++ (C2 ++ [Value.slice none 0 0, .pointer none, .pointer none, .bool false]) = (([Value.bool true] ++ C1) ++ C2) ++ ([Value.slice none 0 0] ++ [.pointer none, .pointer none, .bool false]) := by simp
  rw [e3, fill_step q3 rfl (by simp [lk', lb']), show (Value.slice A n c).cells.toList = [Value.slice A n c] from rfl, splice_mid (by simp [lk', lb']) (by simp)]
  have e4 : (([Value.bool true] ++ C1) ++ C2) ++ ([Value.slice A n c] ++ [.pointer none, .pointer none, .bool false]) = ((([Value.bool true] ++ C1) ++ C2) ++ [Value.slice A n c]) ++ ([Value.pointer none] ++ [.pointer none, .bool false]) := by simp
  rw [e4, fill_step q4 rfl (by simp [lk', lb']), show (Value.pointer (some ⟨bx, 0, none⟩)).cells.toList = [Value.pointer (some ⟨bx, 0, none⟩)] from rfl, splice_mid (by simp [lk', lb']) (by simp)]
  have e5 : ((([Value.bool true] ++ C1) ++ C2) ++ [Value.slice A n c]) ++ ([Value.pointer (some ⟨bx, 0, none⟩)] ++ [.pointer none, .bool false]) = (((([Value.bool true] ++ C1) ++ C2) ++ [Value.slice A n c]) ++ [Value.pointer (some ⟨bx, 0, none⟩)]) ++ ([Value.pointer none] ++ [.bool false]) := by simp
  rw [e5, fill_step q5 rfl (by simp [lk', lb']), show (Value.pointer (some ⟨tk, 0, none⟩)).cells.toList = [Value.pointer (some ⟨tk, 0, none⟩)] from rfl, splice_mid (by simp [lk', lb']) (by simp)]
  simp [Instr.fill]
/-- What is laid for one that is registered. -/
def Ac.new (a : Ac) (w w' : World) : Prop := a.lens ∧ Kc w' a.A a.n a.c a.K ∧ (∀ P, MBP 126 73 P w' a.bx [] 0) ∧ Bk w' a.tk 5 10 0 5 ∧ (w.heap.size ≤ a.bx ∧ w.heap.size ≤ a.tk) ∧ Ext w w'
theorem acc_alloc (w : World) : (zeroValue 83).run Tryd.prog w = .ok (.agg zA.toArray) w := by kernel_rfl
set_option maxHeartbeats 4000000 in
theorem registered_calls {w : World} {lk ib sb ob : List UInt8} {ho : Bool} (h1 : lk.length = 32) (h2 : ib.length = 32) (h3 : sb.length = 32) (h4 : ob.length = 32) {A : Option Addr} {n c : Nat} {K : List (List UInt8)} (hK : Cs w 32 A n c (K.map cellsOf)) (n8 : n ≤ 8) :
    Calls Tryd.prog 38 #[.agg (cellsOf lk).toArray, .agg (bbC (ib ++ (sb ++ ob)) ho).toArray, .slice A n c] w fun e w' => ∃ (A' : Option Addr) (c' bx tk : Nat), e = .returned (.agg (⟨lk, ib, sb, A', n, c', K, bx, tk, false, [], 0, 0, 5⟩ : Ac).C.toArray) ∧ (⟨lk, ib, sb, A', n, c', K, bx, tk, false, [], 0, 0, 5⟩ : Ac).new w w' := by
  have NB := Lib.hid (fun W : World => new_good (m := 5) (v := 10) (w := W) (by unfold bkSet; omega))
  have NW := Lib.hid (fun W : World => new_calls (w := W))
  have hal := acc_alloc
  have L_z := zA_len
  have S_k : (cellsOf lk).toArray.size = 32 := by simp [cellsOf_len, h1]
  have L_b : (bbC (ib ++ (sb ++ ob)) ho).length = 97 := by rw [bbC_len]; simp [h2, h3, h4]
  have L_i : (cellsOf ib).length = 32 := by rw [cellsOf_len, h2]
  have L_s : (cellsOf sb).length = 32 := by rw [cellsOf_len, h3]
  have E_b : Hid (bbC (ib ++ (sb ++ ob)) ho = cellsOf ib ++ (cellsOf sb ++ (cellsOf ob ++ [.bool ho]))) := by unfold Hid; simp [bbC, cellsOf_app]
  have BB := Lib.hid (bundle2 h2 h3)
  have AB := Lib.hid (fun (A' : Option Addr) (c' bx tk : Nat) => account_built (A := A') (n := n) (c := c') (bx := bx) (tk := tk) h1 h2 h3)
  have AC : Hid (∀ (A' : Option Addr) (c' bx tk : Nat), acL true lk (ib ++ (sb ++ zk)) false (.slice A' n c') (.pointer (some ⟨bx, 0, none⟩)) (.pointer (some ⟨tk, 0, none⟩)) false = (⟨lk, ib, sb, A', n, c', K, bx, tk, false, [], 0, 0, 5⟩ : Ac).C) := fun _ _ _ _ => rfl
  have AL : Hid (∀ (A' : Option Addr) (c' bx tk : Nat), (⟨lk, ib, sb, A', n, c', K, bx, tk, false, [], 0, 0, 5⟩ : Ac).lens) := fun _ _ _ _ => ⟨h1, h2, h3⟩
  have OW : Hid (∀ (A' : Option Addr) (c' bx tk : Nat), (acL true lk (ib ++ (sb ++ zk)) false (.slice A' n c') (.pointer (some ⟨bx, 0, none⟩)) (.pointer (some ⟨tk, 0, none⟩)) false).toArray.all (·.oneCell') = true) := fun _ _ _ _ => one_cells (acL_one rfl rfl rfl)
  have LA : ∀ (A' : Option Addr) (c' bx tk : Nat), (acL true lk (ib ++ (sb ++ zk)) false (.slice A' n c') (.pointer (some ⟨bx, 0, none⟩)) (.pointer (some ⟨tk, 0, none⟩)) false).length = 134 := fun _ _ _ _ => acL_len h1 (by simp [h2, h3, zk_len])
  replace LA := Lib.hid LA
  obtain ⟨G, hG⟩ : ∃ G : Option Addr → Nat → Nat → Nat → List Value, G = fun A' c' bx tk => acL true lk (ib ++ (sb ++ zk)) false (.slice A' n c') (.pointer (some ⟨bx, 0, none⟩)) (.pointer (some ⟨tk, 0, none⟩)) false := ⟨_, rfl⟩
  have hG' : ∀ A' c' bx tk, acL true lk (ib ++ (sb ++ zk)) false (.slice A' n c') (.pointer (some ⟨bx, 0, none⟩)) (.pointer (some ⟨tk, 0, none⟩)) false = G A' c' bx tk := fun _ _ _ _ => by rw [hG]
  simp only [hG'] at AB AC OW LA
  clear hG hG'
  have O1 : Hid (∀ x ∈ K.map cellsOf, ∀ u ∈ x, u.oneCell' = true) := fun x hx u hu => by
    obtain ⟨y, _, rfl⟩ := List.mem_map.1 hx
    exact one_mem y u hu
  have hn := hK.1.1
  have IK := infoK
  have ZS := zeros32_size
  generalize zeros32 = ZZ at *
  obtain ⟨BC, hBC⟩ : ∃ BC, BC = bbC (ib ++ (sb ++ ob)) ho := ⟨_, rfl⟩
  rw [← hBC] at L_b E_b ⊢
  clear hBC
  generalize zA = Z at *
  have S_b : BC.toArray.size = 97 := by rw [List.size_toArray, L_b]
  have S_z : Z.toArray.size = 134 := by rw [List.size_toArray, L_z]
  obtain ⟨r, hr⟩ : ∃ x, x = w.heap.size := ⟨_, rfl⟩
  have B0 : Hid (Ky (((w.alloc (.cells (cellsOf lk).toArray 23)).alloc (.cells BC.toArray 53)).alloc (.cells Z.toArray 83)) r lk ∧ Cb (((w.alloc (.cells (cellsOf lk).toArray 23)).alloc (.cells BC.toArray 53)).alloc (.cells Z.toArray 83)) (r + 1) 53 BC ∧ Cb (((w.alloc (.cells (cellsOf lk).toArray 23)).alloc (.cells BC.toArray 53)).alloc (.cells Z.toArray 83)) (r + 1 + 1) 83 Z ∧ Ext w (((w.alloc (.cells (cellsOf lk).toArray 23)).alloc (.cells BC.toArray 53)).alloc (.cells Z.toArray 83))) := by
    rw [hr]; exact ⟨⟨heap_alloc30 _ _ _ _, h1⟩, heap_alloc31 _ _ _ _, heap_alloc32 _ _ _ _, (((Ext.refl w).alloc _).alloc _).alloc _⟩
  go_enter Tryd.func38, Tryd.ntmps38
  go_upto_region 1 with fail
  refine wp_gen (fun W => Ky W r lk ∧ Cb W (r + 1) 53 BC ∧ Cb W (r + 1 + 1) 83 Z ∧ Ext w W) B0.out ?_
  rw [← hr]
  have wr : w.heap.size ≤ r := Nat.le_of_eq hr.symm
  replace hr := Lib.hid hr
  clear B0
  rintro w0 ⟨k0, k1, k2, x0⟩
  replace k0 := Lib.hid k0
  replace k1 := Lib.hid k1
  replace k2 := Lib.hid k2
  replace x0 := Lib.hid x0
  go_wp2_with fail
  refine (NB.out w0).mono ?_
  rintro e w1 ⟨rfl, b1, x1⟩
  have tk1 : w.heap.size ≤ w0.heap.size := x0.out.size
  obtain ⟨tk, htk⟩ : ∃ x, x = w0.heap.size := ⟨_, rfl⟩
  rw [← htk] at b1 tk1 ⊢
  replace htk := Lib.hid htk
  have X1 : Ext w w1 := x0.out.trans x1
  have K0 : Ky w1 r lk := k0.out.ext x1
  have K1 := k1.out.ext x1
  have K2 := k2.out.ext x1
  have r1lt := K2.lt
  have F : Hid (∀ s, Below (r + 1 + 1) w1.drew s → Ky s r lk ∧ (∀ j v, (cellsOf ib)[j]? = some v → s.cell? ⟨r + 1, 0 + j, none⟩ = some v) ∧ (∀ j v, (cellsOf sb)[j]? = some v → s.cell? ⟨r + 1, 32 + j, none⟩ = some v)) := fun s e => by
    have c1 : Cb s (r + 1) 53 BC := (e.block _ (by omega)).trans K1
    refine ⟨⟨(e.block _ (by omega)).trans K0.1, h1⟩, ?_, ?_⟩
    · exact c1.mid (p := []) (by rw [E_b.out]; rfl) rfl
    · exact c1.mid (p := cellsOf ib) (by rw [E_b.out]) L_i
  have K2' : Hid (Cb w1.drew (r + 1 + 1) 83 Z) := K2
  have b1' : Hid (Bk w1.drew tk 5 10 0 5) := b1
  have CS : Hid (Cs w1.drew 32 A n c (K.map cellsOf)) := (hK.ext X1).ext (Ext.refl w1).drew
  have X1' : Hid (Ext w w1.drew) := X1.drew
  have sz1 : r + 1 + 1 ≤ w1.drew.heap.size := Nat.le_of_lt r1lt
  clear k0 k1 k2 x0 x1 X1 K0 K1 K2 NB b1 hK r1lt
  go_wp2_with fail
  refine qgB (r+1+1) [0, 1, 2, 3, 4, 5, 6, 9, 7, 8, 10, 11] [7, 8, 11] ?_
  generalize w1.drew = V at *
  refine qV rfl (fun w' => w'.heap[r]? = some (.cells (cellsOf lk).toArray 23 (0, 0))) (fun w' e => (F.out w' e).1.1) (.agg (cellsOf lk).toArray) (fun w' hF => exec_load_row rfl rfl hF rfl rfl (by rw [S_k]; rfl)) ?_
  go_frame
  iterate 1 ((first | refine qR0 ?_ | refine qS ?_); go_frame)
  refine qV rfl (fun w' => ∀ q_ v, (cellsOf ib)[q_]? = some v → w'.cell? ⟨(r + 1), 0 + q_, none⟩ = some v) (fun w' e => (F.out w' e).2.1) (.agg (cellsOf ib).toArray) (fun w' hF => exec_load_mid rfl rfl hF rfl rfl (by rw [L_i]; rfl)) ?_
  go_frame
  iterate 1 ((first | refine qR0 ?_ | refine qS ?_); go_frame)
  refine qV rfl (fun w' => ∀ q_ v, (cellsOf sb)[q_]? = some v → w'.cell? ⟨(r + 1), 32 + q_, none⟩ = some v) (fun w' e => (F.out w' e).2.2) (.agg (cellsOf sb).toArray) (fun w' hF => exec_load_mid rfl rfl hF rfl rfl (by rw [L_s]; rfl)) ?_
  go_frame
  refine qV rfl (fun _ => True) (fun _ _ => trivial) (.agg (bbC (ib ++ (sb ++ List.replicate 32 0)) false).toArray) (fun w' _ => exec_build_as rfl (by simp only [List.map_toArray, List.map_cons, List.map_nil]; exact BB.out)) ?_
  go_frame
  iterate 2 ((first | refine qR0 ?_ | refine qS ?_); go_frame)
  refine qD fun K hK => ?_
  refine wp_append_cc2 (t := 38) (e := 23) (s := 32) Tryd.underlying38 IK (by rw [cells_agg, ZS]) (by omega) (by omega) rfl rfl rfl (OwnC.nil V.heap.size V 23 32) CS.out O1.out (by omega) (Nat.le_refl _) ?_
  intro A4 c4 w4 o4 g4 bl4 own4
  have X4 : Ext V w4 := bl4
  refine hK.out _ _ (Below.mono X4 sz1) ?_
  clear hK K
  try go_frame
  have X4w : Hid (Ext w w4) := X1'.out.trans X4
  have b4 : Hid (Bk w4 tk 5 10 0 5) := b1'.out.ext X4
  have K4 : Hid (Cb w4 (r + 1 + 1) 83 Z) := K2'.out.ext X4
  have KC : Hid (Kc w4 A4 (0 + n) c4 K) := by
    rw [List.nil_append] at o4
    refine ⟨o4.cs, fun h0 q hq => ?_⟩
    rcases o4.1.2 with ⟨hv, hn0⟩ | ⟨g', cap, cur, hv, _, hg, _⟩
    · omega
    · injection hv with hv
      rw [hv] at hq
      injection hq with hq
      subst hq
      exact ⟨_, hg⟩
  rw [Nat.zero_add] at KC
  have sz4 : r + 1 + 1 ≤ w4.heap.size := Nat.le_trans sz1 X4.size
  clear o4 g4 bl4 own4 X4 b1' K2' CS X1' F
  rw [Nat.zero_add]
  refine qD fun K hK => ?_
  go_simp
  refine (NW.out w4).mono ?_
  rintro e w5 ⟨rfl, mb5, x5⟩
  refine hK.out _ _ (Below.mono x5 sz4) ?_
  clear hK K
  try go_frame
  have bx1 : w.heap.size ≤ w4.heap.size := X4w.out.size
  have MBX : Hid (∀ P, MBP 126 73 P w5 w4.heap.size [] 0) := fun P => by
    obtain ⟨A0, n0, c0, q1, q2, q3⟩ := mb5 w5.heap.size
    refine ⟨A0, n0, c0, q1, ?_, fun k hk => ?_, fun x hx => by cases hx⟩
    · exact q2.mono (Nat.zero_le _)
    · have := q2.tag (S := fun x => x == 73) (by simp) k hk
      have hlt : k < w5.heap.size := by
        rcases q2.1.2 with ⟨hv, _⟩ | ⟨r', cap, cur, hv, hb, hg, q⟩
        · rw [hv] at hk; cases hk
        · rw [hv] at hk
          injection hk with hk
          subst hk
          exact heap_lt hg
      omega
  obtain ⟨bx, hbx⟩ : ∃ x, x = w4.heap.size := ⟨_, rfl⟩
  rw [← hbx] at MBX bx1 ⊢
  replace hbx := Lib.hid hbx
  have X5w : Hid (Ext w w5) := X4w.out.trans x5
  have b5 : Hid (Bk w5 tk 5 10 0 5) := b4.out.ext x5
  have K5 : Hid (Cb w5 (r + 1 + 1) 83 Z) := K4.out.ext x5
  have KC5 : Hid (Kc w5 A4 n c4 K) := KC.out.keep fun i cs q => (x5.block _ (heap_lt q)).trans q
  clear mb5 b4 K4 KC X4w
  have GB := AB.out A4 c4 bx tk
  have GC := AC.out A4 c4 bx tk
  have GO := OW.out A4 c4 bx tk
  have GL := LA.out A4 c4 bx tk
  have GN := AL.out A4 c4 bx tk
  replace GB := Lib.hid GB
  replace GN := Lib.hid GN
  have GC0 := Lib.hid (fun _ : Unit => GC)
  clear GC
  clear AB AC OW LA AL
  generalize G A4 c4 bx tk = GV at *
  have S_g : GV.toArray.size = 134 := by rw [List.size_toArray, GL]
  refine qV rfl (fun _ => True) (fun _ _ => trivial) (.agg GV.toArray) (fun w' _ => exec_build_as rfl (by simp only [List.map_toArray, List.map_cons, List.map_nil]; exact GB.out)) ?_
  go_frame
  refine qD fun K hK => ?_
  refine wp_store_row _ _ _ rfl (r + 1 + 1) GV.toArray rfl rfl 83 Z.toArray K5.out (by rw [S_g]; rfl) (by rw [S_g, S_z]) GO ?_
  refine hK.out _ _ (below_setRow (Below.refl _ _) (Nat.le_refl _) _) ?_
  clear hK K
  try simp only [Act.put]
  refine seq_done ?_
  have FIN : Hid ((⟨lk, ib, sb, A4, n, c4, K, bx, tk, false, [], 0, 0, 5⟩ : Ac).new w (w5.setRow (r + 1 + 1) GV.toArray)) := by
    have KK : ∀ (i : Nat) (cs : Array Value) (t : TypeId), w5.heap[i]? = some (Obj.cells cs t (0, 0)) → t ≠ 83 → (w5.setRow (r + 1 + 1) GV.toArray).heap[i]? = some (Obj.cells cs t (0, 0)) := fun i cs t q z => (setRow_other _ _ _ _ (cells_ne q K5.out z)).trans q
    refine ⟨GN.out, KC5.out.keep fun i cs q => KK i cs _ q (by decide), fun P => (MBX.out P).keep (fun _ _ z => z) fun i cs t q z => KK i cs t q (by rcases z with ⟨_, rfl⟩ | ⟨_, rfl⟩ | rfl <;> decide), KK _ _ _ b5.out (by decide), ⟨bx1, tk1⟩, below_setRow X5w.out (by omega) _⟩
  clear GN KC5 MBX b5 X5w
  go_wp2_with fail
  (try simp only [Exit.inBlock, Exit.then])
  refine bodyPost_ret (results_cell_row rfl _ _ (r + 1 + 1) 83 GV.toArray (0, 0) _ rfl (setRow_heap _ _ _ _ _ _ K5.out) rfl rfl (by rw [S_g]; rfl)) rfl ?_
  exact ⟨A4, c4, bx, tk, by rw [GC0.out ()], FIN.out⟩
end Go.Proofs.YtbnjmmefnjoofaaDoor
