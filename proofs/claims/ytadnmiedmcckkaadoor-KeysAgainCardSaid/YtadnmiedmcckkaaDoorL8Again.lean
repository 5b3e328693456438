import Derived.Test.YtadnmiedmcckkaaDoorPkB
/-
  KeysAgain: sources of the same seed tell the same.
-/
namespace Go.Proofs.YtadnmiedmcckkaaDoor
open Go.ChangeShapes Go.WideShapes Go.ChangeAt Go.RowKit Go.Deep
set_option maxRecDepth 100000

set_option maxHeartbeats 1000000 in
theorem keysAgain_out1 {w : World} {A : Option Addr} {n c : Nat} {z : Int} {xs : List UInt8} (h : Bs w A n c xs) {tg tp : TypeId × Nat × Nat} (hG : Gl w tg) (hP : Gp w tp) (q1 : 300 < n) :
    Calls Tryd.prog 11 #[.slice A n c, .int .i64 z] w fun e w' => e = .returned (.bool true) ∧ Ext w w' := by
  have AW := Lib.hid (fun (W : World) (e : Ext w W) => awake8_calls (hG.ext e) (hP.ext e))
  have t1 : decide ((300 : Int) < (n : Int)) = true := decide_eq_true (by omega)
  clear h hG hP
  go_enter Tryd.func11, Tryd.ntmps11
  go_wp2_with fail
  refine (AW.out _ (Ext.refl _)).mono ?_
  rintro e w1 ⟨rfl, e1⟩
  go_wp2_with fail
  go_ret
  exact ⟨rfl, e1⟩
set_option maxHeartbeats 1000000 in
theorem keysAgain_out2 {w : World} {A : Option Addr} {n c : Nat} {z : Int} {xs : List UInt8} (h : Bs w A n c xs) {tg tp : TypeId × Nat × Nat} (hG : Gl w tg) (hP : Gp w tp) (q1 : n ≤ 300) (q2 : z < 0) :
    Calls Tryd.prog 11 #[.slice A n c, .int .i64 z] w fun e w' => e = .returned (.bool true) ∧ Ext w w' := by
  have AW := Lib.hid (fun (W : World) (e : Ext w W) => awake8_calls (hG.ext e) (hP.ext e))
  have t1 : decide ((300 : Int) < (n : Int)) = false := decide_eq_false (by omega)
  have t2 : decide (z < (0 : Int)) = true := decide_eq_true (by omega)
  clear h hG hP
  go_enter Tryd.func11, Tryd.ntmps11
  go_wp2_with fail
  refine (AW.out _ (Ext.refl _)).mono ?_
  rintro e w1 ⟨rfl, e1⟩
  go_wp2_with fail
  go_ret
  exact ⟨rfl, e1⟩
set_option maxHeartbeats 1000000 in
theorem keysAgain_out3 {w : World} {A : Option Addr} {n c : Nat} {z : Int} {xs : List UInt8} (h : Bs w A n c xs) {tg tp : TypeId × Nat × Nat} (hG : Gl w tg) (hP : Gp w tp) (q1 : n ≤ 300) (q2 : 0 ≤ z) (q3 : 6 < z) :
    Calls Tryd.prog 11 #[.slice A n c, .int .i64 z] w fun e w' => e = .returned (.bool true) ∧ Ext w w' := by
  have AW := Lib.hid (fun (W : World) (e : Ext w W) => awake8_calls (hG.ext e) (hP.ext e))
  have t1 : decide ((300 : Int) < (n : Int)) = false := decide_eq_false (by omega)
  have t2 : decide (z < (0 : Int)) = false := decide_eq_false (by omega)
  have t3 : decide ((6 : Int) < z) = true := decide_eq_true (by omega)
  clear h hG hP
  go_enter Tryd.func11, Tryd.ntmps11
  go_wp2_with fail
  refine (AW.out _ (Ext.refl _)).mono ?_
  rintro e w1 ⟨rfl, e1⟩
  go_wp2_with fail
  go_ret
  exact ⟨rfl, e1⟩
theorem wpList_append_empty {w : World} {ops : Array Oper} {rest : List Oper} {o : Oper} {a : Act} {Q : Exit → Act → World → Prop} (hgd : o.guard = none) {p : Addr} {A' : Option Addr} {m c' : Nat} {ys : List UInt8} {s x : Operand}
    (ho : o.op = .call { callee := .builtin .append, args := #[s, x], argTypes := #[35, 35] }) (hs : a.eval s = .slice (some p) 0 0) (hx : a.eval x = .slice A' m c')
    (hr : Bs w A' m c' ys) (hm : m ≤ 100000000)
    (hK : ∀ A'' c'' w', Bs w' A'' m c'' ys → Ext w w' → wpList Tryd.prog ops Q rest (a.put o.dst (.slice A'' m c'')) w') : wpList Tryd.prog ops Q (o :: rest) a w :=
  wpList_plain hgd fun _ hK' => wp_append_empty ho hs hx hr hm fun A'' c'' w' h2 h3 => hK' _ _ (hK A'' c'' w' h2 h3)
set_option maxHeartbeats 8000000 in
theorem keysAgain_main {w : World} {A : Option Addr} {n c : Nat} {z : Int} {xs : List UInt8} (h : Bs w A n c xs) {tg tp : TypeId × Nat × Nat} (hG : Gl w tg) (hP : Gp w tp) {y : Nat} (hz : z = (y : Int)) (q1 : n ≤ 300) (q3 : y ≤ 6) :
    Calls Tryd.prog 11 #[.slice A n c, .int .i64 z] w fun e w' => e = .returned (.bool true) ∧ Ext w w' := by
  have AW := Lib.hid (fun (W : World) (e : Ext w W) => awake8_calls (hG.ext e) (hP.ext e))
  subst hz
  have t1 : decide ((300 : Int) < (n : Int)) = false := decide_eq_false (by omega)
  have t2 : decide ((y : Int) < (0 : Int)) = false := decide_eq_false (by omega)
  have t3 : decide ((6 : Int) < (y : Int)) = false := decide_eq_false (by omega)
  have NX : Hid (∀ (W : World) (B : Option Addr) (d : Nat), Ext w W → Bs W B n d xs → Calls Tryd.prog 25 #[.slice B n d] W fun e w' => ∃ g, e = .returned (.pointer (some ⟨g, 0, none⟩)) ∧ SrcSt w' W.heap.size g xs 0 ∧ Ext W w') := fun W B d e hb => new_calls hb (by omega) (hG.ext e)
  have KE : Hid (∀ (W : World) (lo g k : Nat), Ext w W → k < 1000 → SrcSt W lo g xs k → Calls Tryd.prog 28 #[.pointer (some ⟨g, 0, none⟩)] W fun e w' => e = .returned (.agg (cellsOf (srcK xs k)).toArray) ∧ W.grownBy w' (some g) ∧ SrcSt w' lo g xs (k + 1)) := fun W lo g k e hk s => skey_calls s (by omega) (hG.ext e)
  have glt := hP.lt
  have PE : Hid (∀ (W : World) (lo g k : Nat), Ext w W → w.heap.size ≤ lo → k < 1000 → SrcSt W lo g xs k → Calls Tryd.prog 27 #[.pointer (some ⟨g, 0, none⟩)] W fun e w' => e = .returned (.agg (cellsOf (pairL (srcK xs k))).toArray) ∧ W.grownBy w' (some g) ∧ SrcSt w' lo g xs (k + 1)) := fun W lo g k e hl hk s => spair_calls s (by omega) (hG.ext e) (hP.ext e) (by omega)
  have PA : Hid (∀ (W : World) (g : Nat), Ext w W → Ky W g (srcK xs y) → Calls Tryd.prog 23 #[.slice (some ⟨g, 0, none⟩) 32 32] W fun e w' => e = .returned (.agg (cellsOf (pairL (srcK xs y))).toArray) ∧ Ext W w') := fun W g e k => kpair_calls k.bs (hG.ext e) (hP.ext e)
  have hb0 := Lib.hid (fun (W : World) (e : Ext w W) => h.ext e)
  have t5 : (n : Nat) ≤ 100000000 := by omega
  clear hG hP h
  have hal : ∀ w, (zeroValue 23).run Tryd.prog w = .ok (.agg (cellsOf (List.replicate 32 0)).toArray) w := fun w => by rw [zeros32_cells]; exact key_alloc w
  have hal2 := apair_alloc
  have L_zk : (List.replicate 32 (0 : UInt8)).length = 32 := rfl
  have L_zp : (List.replicate 64 (0 : UInt8)).length = 64 := by simp
  generalize List.replicate 32 (0 : UInt8) = zk at *
  generalize List.replicate 64 (0 : UInt8) = zp at *
  have S_zk : (cellsOf zk).toArray.size = 32 := by simp [cellsOf_len, L_zk]
  have S_zp : (cellsOf zp).toArray.size = 64 := by simp [cellsOf_len, L_zp]
  go_enter Tryd.func11, Tryd.ntmps11
  go_wp2_with fail
  refine (AW.out _ (Ext.refl _)).mono ?_
  rintro e w1 ⟨rfl, x1⟩
  clear AW
  replace x1 := Lib.hid x1
  go_wp2_with fail
  refine (NX.out _ _ _ x1.out (hb0.out _ x1.out)).mono ?_
  rintro e w2 ⟨gx, rfl, sx, e2⟩
  have x2 := Lib.hid (x1.out.trans e2)
  obtain ⟨lx, hlx⟩ : ∃ l, l = w1.heap.size := ⟨_, rfl⟩
  rw [← hlx] at sx
  have wlx : w.heap.size ≤ lx := by rw [hlx]; exact x1.out.size
  have glx : lx ≤ gx := sx.1.2
  clear hlx e2 x1
  replace sx := Lib.hid sx
  have bb : Hid (Bs (w2.alloc (.cells #[] 5)) A n c xs ∧ Ext w2 (w2.alloc (.cells #[] 5))) := ⟨(hb0.out _ x2.out).ext ((Ext.refl _).alloc _), (Ext.refl _).alloc _⟩
  go_wp2_with (at_builtin; (with_reducible refine wpList_append_empty rfl (s := .tmp 28) (x := .tmp 29) rfl rfl rfl bb.out.1 t5 ?_); intro B2 d2 w3 b3 e3; replace b3 := Lib.hid b3; replace e3 : Hid (Ext w2 w3) := bb.out.2.trans e3; simp only [Act.put, List.setIfInBounds_toArray, List.set_cons_zero, List.set_cons_succ])
  refine (NX.out _ _ _ (x2.out.trans e3.out) b3.out).mono ?_
  rintro e w4 ⟨gy, rfl, sy, e4⟩
  have x4 := Lib.hid ((x2.out.trans e3.out).trans e4)
  obtain ⟨ly, hly⟩ : ∃ l, l = w3.heap.size := ⟨_, rfl⟩
  rw [← hly] at sy
  have wly : gx < ly := by rw [hly]; exact Nat.lt_of_lt_of_le sx.out.lt e3.out.size
  have gly : ly ≤ gy := sy.1.2
  replace sx := Lib.hid (sx.out.ext (e3.out.trans e4))
  clear hly NX e3 x2 b3 bb e4 hb0
  replace sy := Lib.hid sy
  go_wp2_with fail
  go_loopw [8] (fun iv wr => ∃ k : Nat, k ≤ y ∧ iv = .int .i64 (k : Int) ∧ SrcSt wr lx gx xs k ∧ SrcSt wr ly gy xs 0 ∧ Ext w wr) (fun iv _ => ((y : Int) - intOf iv).toNat)
  case atStart => exact ⟨0, Nat.zero_le _, rfl, sx.out, sy.out, x4.out⟩
  case round =>
    clear sx sy x4
    obtain ⟨k, hk, rfl, sx, sy, xr⟩ := hrel
    by_cases hlt : k < y
    · have ad : IntKind.i64.wrap ((k : Int) + 1) = (k : Int) + 1 := IntWalk.i64_in _ (by omega)
      have hme : Hid (((y : Int) - ((k : Int) + 1)).toNat < ((y : Int) - (k : Int)).toNat) := by unfold Hid; omega
      have hk1 : Hid (k + 1 ≤ y) := by unfold Hid; omega
      have KX := Lib.hid (KE.out _ _ _ _ xr (by omega) sx)
      replace sy := Lib.hid sy
      replace xr := Lib.hid xr
      clear KE PE PA sx hk
      go_wp2_with fail
      refine KX.out.mono ?_
      rintro e v1 ⟨rfl, g1, s1⟩
      have fin := Lib.hid (And.intro s1 (And.intro (sy.out.other g1 (.inl (by omega))) (ext_grown xr.out g1 (by omega))))
      clear KX s1 g1 sy xr
      go_wp2_with fail
      exact ⟨⟨k + 1, hk1.out, rfl, fin.out⟩, by simpa [intOf] using hme.out⟩
    · obtain rfl : k = y := by omega
      replace sx := Lib.hid sx
      replace sy := Lib.hid sy
      replace xr := Lib.hid xr
      go_wp2_with fail
      go_loopw [9] (fun iv ws => ∃ j : Nat, j ≤ k ∧ iv = .int .i64 (j : Int) ∧ SrcSt ws lx gx xs k ∧ SrcSt ws ly gy xs j ∧ Ext w ws) (fun iv _ => ((k : Int) - intOf iv).toNat)
      case atStart => exact ⟨0, Nat.zero_le _, rfl, sx.out, sy.out, xr.out⟩
      case round =>
        clear sx sy xr
        obtain ⟨j, hj, rfl, sx, sy, xr⟩ := hrel
        by_cases hlt2 : j < k
        · have ad : IntKind.i64.wrap ((j : Int) + 1) = (j : Int) + 1 := IntWalk.i64_in _ (by omega)
          have hme : Hid (((k : Int) - ((j : Int) + 1)).toNat < ((k : Int) - (j : Int)).toNat) := by unfold Hid; omega
          have hk1 : Hid (j + 1 ≤ k) := by unfold Hid; omega
          have KX := Lib.hid (PE.out _ _ _ _ xr (by omega) (by omega) sy)
          replace sx := Lib.hid sx
          replace xr := Lib.hid xr
          clear KE PE PA sy hj
          go_wp2_with fail
          refine KX.out.mono ?_
          rintro e v1 ⟨rfl, g1, s1⟩
          have fin := Lib.hid (And.intro (sx.out.other g1 (.inr (by omega))) (And.intro s1 (ext_grown xr.out g1 (by omega))))
          clear KX s1 g1 sx xr
          go_wp2_with fail
          exact ⟨⟨j + 1, hk1.out, rfl, fin.out⟩, by simpa [intOf] using hme.out⟩
        · obtain rfl : j = k := by omega
          have PX := Lib.hid (PE.out _ _ _ _ xr wlx (by omega) sx)
          have KY := Lib.hid (fun W e s => KE.out W ly gy j e (by omega) s)
          have L_pp := pairL_len (srcK xs j)
          have L_kk := srcK_len xs j
          clear KE PE sx
          replace sy := Lib.hid sy
          replace xr := Lib.hid xr
          generalize pairL (srcK xs j) = pp at *
          generalize srcK xs j = kk at *
          have S_pp : (cellsOf pp).toArray.size = 64 := by simp [cellsOf_len, L_pp]
          have O_pp := cellsOf_one pp
          have S_kk : (cellsOf kk).toArray.size = 32 := by simp [cellsOf_len, L_kk]
          have O_kk := cellsOf_one kk
          go_wp2_with fail
          refine PX.out.mono ?_
          rintro e v1 ⟨rfl, g1, s1⟩
          have xv1 := Lib.hid (ext_grown xr.out g1 (by omega))
          have y1 := Lib.hid (sy.out.other g1 (.inl (by omega)))
          have a1 : Hid ((v1.alloc (Obj.cells (cellsOf zp).toArray 37)).heap[v1.heap.size]? = some (.cells (cellsOf zp).toArray 37 (0, 0))) := heap_alloc_new _ _
          have E_ : Ext v1 ((v1.alloc (Obj.cells (cellsOf zp).toArray 37)).setRow v1.heap.size (cellsOf pp).toArray) := below_setRow ((Ext.refl v1).alloc _) (Nat.le_refl _) _
          clear sy xr g1 PX
          replace s1 := Lib.hid s1
          go_upto_region 17 with (refine wpList_store_row rfl 37 _ _ rfl v1.heap.size (cellsOf pp).toArray rfl rfl 37 _ a1.out (by rw [S_pp]; rfl) (by rw [S_pp, S_zp]) O_pp ?_; simp only [Act.put])
          obtain ⟨g10, hg_⟩ : ∃ g, g = v1.heap.size := ⟨_, rfl⟩
          have lt10 : gy < g10 := by rw [hg_]; exact y1.out.lt
          refine wp_gen (fun W => Kp W g10 pp ∧ SrcSt W lx gx xs (j + 1) ∧ SrcSt W ly gy xs j ∧ Ext w W) ⟨⟨by rw [hg_]; exact setRow_heap _ _ _ _ _ _ a1.out, L_pp⟩, s1.out.ext E_, y1.out.ext E_, xv1.out.trans E_⟩ ?_
          rw [← hg_]
          clear hg_ a1 E_ s1 y1 xv1
          rintro v2 ⟨k2, sx, sy, xr⟩
          have KYk := Lib.hid (KY.out _ xr sy)
          replace k2 := Lib.hid k2
          replace sx := Lib.hid sx
          replace xr := Lib.hid xr
          clear KY sy
          go_wp2_with fail
          refine KYk.out.mono ?_
          rintro e v3 ⟨rfl, g3, s3⟩
          have xv3 := Lib.hid (ext_grown xr.out g3 (by omega))
          have y3 := Lib.hid (sx.out.other g3 (.inr (by omega)))
          have k3 : Hid (Kp v3 g10 pp) := ⟨grown_keep g3 (by omega) k2.out.1, k2.out.2⟩
          have a1 : Hid ((v3.alloc (Obj.cells (cellsOf zk).toArray 23)).heap[v3.heap.size]? = some (.cells (cellsOf zk).toArray 23 (0, 0))) := heap_alloc_new _ _
          have E_ : Ext v3 ((v3.alloc (Obj.cells (cellsOf zk).toArray 23)).setRow v3.heap.size (cellsOf kk).toArray) := below_setRow ((Ext.refl v3).alloc _) (Nat.le_refl _) _
          clear sx xr g3 KYk k2
          replace s3 := Lib.hid s3
          go_upto_region 18 with (refine wpList_store_row rfl 23 _ _ rfl v3.heap.size (cellsOf kk).toArray rfl rfl 23 _ a1.out (by rw [S_kk]; rfl) (by rw [S_kk, S_zk]) O_kk ?_; simp only [Act.put])
          obtain ⟨g11, hg_⟩ : ∃ g, g = v3.heap.size := ⟨_, rfl⟩
          refine wp_gen (fun W => Kp W g10 pp ∧ Ky W g11 kk ∧ SrcSt W lx gx xs (j + 1) ∧ SrcSt W ly gy xs (j + 1) ∧ Ext w W) ⟨k3.out.ext E_, ⟨by rw [hg_]; exact setRow_heap _ _ _ _ _ _ a1.out, L_kk⟩, y3.out.ext E_, s3.out.ext E_, xv3.out.trans E_⟩ ?_
          rw [← hg_]
          clear hg_ a1 E_ s3 y3 xv3 k3
          rintro v4 ⟨k10, k11, sx, sy, xr⟩
          have PAk := Lib.hid (PA.out _ _ xr k11)
          replace k10 := Lib.hid k10
          replace sx := Lib.hid sx
          replace sy := Lib.hid sy
          replace xr := Lib.hid xr
          clear PA k11
          go_wp2_with fail
          refine PAk.out.mono ?_
          rintro e v5 ⟨rfl, e5⟩
          have a1 : Hid ((v5.alloc (Obj.cells (cellsOf zp).toArray 37)).heap[v5.heap.size]? = some (.cells (cellsOf zp).toArray 37 (0, 0))) := heap_alloc_new _ _
          have E_ : Ext v4 ((v5.alloc (Obj.cells (cellsOf zp).toArray 37)).setRow v5.heap.size (cellsOf pp).toArray) := e5.trans (below_setRow ((Ext.refl v5).alloc _) (Nat.le_refl _) _)
          clear e5 PAk
          go_upto_region 19 with (refine wpList_store_row rfl 37 _ _ rfl v5.heap.size (cellsOf pp).toArray rfl rfl 37 _ a1.out (by rw [S_pp]; rfl) (by rw [S_pp, S_zp]) O_pp ?_; simp only [Act.put])
          obtain ⟨g12, hg_⟩ : ∃ g, g = v5.heap.size := ⟨_, rfl⟩
          refine wp_gen (fun W => Kp W g10 pp ∧ Kp W g12 pp ∧ SrcSt W lx gx xs (j + 1) ∧ SrcSt W ly gy xs (j + 1) ∧ Ext w W) ⟨k10.out.ext E_, ⟨by rw [hg_]; exact setRow_heap _ _ _ _ _ _ a1.out, L_pp⟩, sx.out.ext E_, sy.out.ext E_, xr.out.trans E_⟩ ?_
          rw [← hg_]
          clear hg_ a1 E_ k10 sx sy xr
          rintro v6 ⟨k10, k12, sx, sy, xr⟩
          have MX := Lib.hid (many_calls sx)
          have MY : Hid (∀ W, Ext v6 W → Calls Tryd.prog 29 #[.pointer (some ⟨gy, 0, none⟩)] W fun e w' => e = .returned (.int .i64 ((j + 1 : Nat) : Int)) ∧ Ext W w') := fun W e => many_calls (sy.ext e)
          have heq : Hid (decide (pp = pp) = true) := decide_eq_true rfl
          replace k10 := Lib.hid k10
          replace k12 := Lib.hid k12
          replace xr := Lib.hid xr
          clear sx sy
          generalize ((j + 1 : Nat) : Int) = yy at *
          go_wp2_with (first
            | (refine wpList_load_rowW rfl 37 _ rfl g10 rfl 37 (cellsOf pp).toArray (0, 0) _ k10.out.1 rfl rfl (by rw [S_pp]; rfl) ?_; simp only [Act.put, List.setIfInBounds_toArray, List.set_cons_zero, List.set_cons_succ])
            | (refine wpList_load_rowW rfl 37 _ rfl g12 rfl 37 (cellsOf pp).toArray (0, 0) _ k12.out.1 rfl rfl (by rw [S_pp]; rfl) ?_; simp only [Act.put, List.setIfInBounds_toArray, List.set_cons_zero, List.set_cons_succ])
            | (refine wpList_exec rfl (exec_eql_pairB (xs := pp) (ys := pp) heq.out L_pp L_pp rfl rfl rfl) ?_; simp only [Act.put, List.setIfInBounds_toArray, List.set_cons_zero, List.set_cons_succ]))
          refine MX.out.mono ?_
          rintro e v7 ⟨rfl, e7⟩
          go_wp2_with fail
          refine (MY.out _ e7).mono ?_
          rintro e v8 ⟨rfl, e8⟩
          go_wp2_with fail
          go_ret
          exact ⟨rfl, (xr.out.trans e7).trans e8⟩
theorem keysAgain_calls {w : World} {A : Option Addr} {n c : Nat} {z : Int} {xs : List UInt8} (h : Bs w A n c xs) {tg tp : TypeId × Nat × Nat} (hG : Gl w tg) (hP : Gp w tp) :
    Calls Tryd.prog 11 #[.slice A n c, .int .i64 z] w fun e w' => e = .returned (.bool true) ∧ Ext w w' := by
  by_cases q1 : 300 < n
  · exact keysAgain_out1 h hG hP q1
  · by_cases q2 : z < 0
    · exact keysAgain_out2 h hG hP (by omega) q2
    · by_cases q3 : 6 < z
      · exact keysAgain_out3 h hG hP (by omega) (by omega) q3
      · exact keysAgain_main h hG hP (y := z.toNat) (by omega) (by omega) (by omega)
end Go.Proofs.YtadnmiedmcckkaaDoor
