import Derived.Test.YtadnmiedmcckkaaDoorPkE
import Derived.Test.YtadnmiedmcckkaaDoorPkB
/-
  KeysApart: what a source tells hangs on its own seed and number alone.
-/
namespace Go.Proofs.YtadnmiedmcckkaaDoor
open Go.ChangeShapes Go.WideShapes Go.ChangeAt Go.RowKit Go.Deep
set_option maxRecDepth 100000

set_option maxHeartbeats 1000000 in
theorem keysApart_out1 {w : World} {A B : Option Addr} {n c m d : Nat} {z : Int} {xs ys : List UInt8} (h : Bs w A n c xs) (h' : Bs w B m d ys) {tg tp : TypeId × Nat × Nat} (hG : Gl w tg) (hP : Gp w tp) (q1 : 200 < n) :
    Calls Tryd.prog 12 #[.slice A n c, .slice B m d, .int .i64 z] w fun e w' => e = .returned (.bool true) ∧ Ext w w' := by
  have AW := Lib.hid (fun (W : World) (e : Ext w W) => awake8_calls (hG.ext e) (hP.ext e))
  have t1 : decide ((200 : Int) < (n : Int)) = true := decide_eq_true (by omega)
  clear h h' hG hP
  go_enter Tryd.func12, Tryd.ntmps12
  go_wp2_with fail
  refine (AW.out _ (Ext.refl _)).mono ?_
  rintro e w1 ⟨rfl, e1⟩
  go_wp2_with fail
  go_ret
  exact ⟨rfl, e1⟩
set_option maxHeartbeats 1000000 in
theorem keysApart_out2 {w : World} {A B : Option Addr} {n c m d : Nat} {z : Int} {xs ys : List UInt8} (h : Bs w A n c xs) (h' : Bs w B m d ys) {tg tp : TypeId × Nat × Nat} (hG : Gl w tg) (hP : Gp w tp) (q1 : n ≤ 200) (q2 : 200 < m) :
    Calls Tryd.prog 12 #[.slice A n c, .slice B m d, .int .i64 z] w fun e w' => e = .returned (.bool true) ∧ Ext w w' := by
  have AW := Lib.hid (fun (W : World) (e : Ext w W) => awake8_calls (hG.ext e) (hP.ext e))
  have t1 : decide ((200 : Int) < (n : Int)) = false := decide_eq_false (by omega)
  have t2 : decide ((200 : Int) < (m : Int)) = true := decide_eq_true (by omega)
  clear h h' hG hP
  go_enter Tryd.func12, Tryd.ntmps12
  go_wp2_with fail
  refine (AW.out _ (Ext.refl _)).mono ?_
  rintro e w1 ⟨rfl, e1⟩
  go_wp2_with fail
  go_ret
  exact ⟨rfl, e1⟩
set_option maxHeartbeats 1000000 in
theorem keysApart_out3 {w : World} {A B : Option Addr} {n c m d : Nat} {z : Int} {xs ys : List UInt8} (h : Bs w A n c xs) (h' : Bs w B m d ys) {tg tp : TypeId × Nat × Nat} (hG : Gl w tg) (hP : Gp w tp) (q1 : n ≤ 200) (q2 : m ≤ 200) (q3 : z < 0) :
    Calls Tryd.prog 12 #[.slice A n c, .slice B m d, .int .i64 z] w fun e w' => e = .returned (.bool true) ∧ Ext w w' := by
  have AW := Lib.hid (fun (W : World) (e : Ext w W) => awake8_calls (hG.ext e) (hP.ext e))
  have t1 : decide ((200 : Int) < (n : Int)) = false := decide_eq_false (by omega)
  have t2 : decide ((200 : Int) < (m : Int)) = false := decide_eq_false (by omega)
  have t3 : decide (z < (0 : Int)) = true := decide_eq_true (by omega)
  clear h h' hG hP
  go_enter Tryd.func12, Tryd.ntmps12
  go_wp2_with fail
  refine (AW.out _ (Ext.refl _)).mono ?_
  rintro e w1 ⟨rfl, e1⟩
  go_wp2_with fail
  go_ret
  exact ⟨rfl, e1⟩
set_option maxHeartbeats 1000000 in
theorem keysApart_out4 {w : World} {A B : Option Addr} {n c m d : Nat} {z : Int} {xs ys : List UInt8} (h : Bs w A n c xs) (h' : Bs w B m d ys) {tg tp : TypeId × Nat × Nat} (hG : Gl w tg) (hP : Gp w tp) (q1 : n ≤ 200) (q2 : m ≤ 200) (q3 : 0 ≤ z) (q4 : 5 < z) :
    Calls Tryd.prog 12 #[.slice A n c, .slice B m d, .int .i64 z] w fun e w' => e = .returned (.bool true) ∧ Ext w w' := by
  have AW := Lib.hid (fun (W : World) (e : Ext w W) => awake8_calls (hG.ext e) (hP.ext e))
  have t1 : decide ((200 : Int) < (n : Int)) = false := decide_eq_false (by omega)
  have t2 : decide ((200 : Int) < (m : Int)) = false := decide_eq_false (by omega)
  have t3 : decide (z < (0 : Int)) = false := decide_eq_false (by omega)
  have t4 : decide ((5 : Int) < z) = true := decide_eq_true (by omega)
  clear h h' hG hP
  go_enter Tryd.func12, Tryd.ntmps12
  go_wp2_with fail
  refine (AW.out _ (Ext.refl _)).mono ?_
  rintro e w1 ⟨rfl, e1⟩
  go_wp2_with fail
  go_ret
  exact ⟨rfl, e1⟩
set_option maxHeartbeats 8000000 in
theorem keysApart_main {w : World} {A B : Option Addr} {n c m d : Nat} {z : Int} {xs ys : List UInt8} (h : Bs w A n c xs) (h' : Bs w B m d ys) {tg tp : TypeId × Nat × Nat} (hG : Gl w tg) (hP : Gp w tp) {y : Nat} (hz : z = (y : Int)) (q1 : n ≤ 200) (q2 : m ≤ 200) (q4 : y ≤ 5) :
    Calls Tryd.prog 12 #[.slice A n c, .slice B m d, .int .i64 z] w fun e w' => e = .returned (.bool true) ∧ Ext w w' := by
  have AW := Lib.hid (fun (W : World) (e : Ext w W) => awake8_calls (hG.ext e) (hP.ext e))
  subst hz
  have t1 : decide ((200 : Int) < (n : Int)) = false := decide_eq_false (by omega)
  have t2 : decide ((200 : Int) < (m : Int)) = false := decide_eq_false (by omega)
  have t3 : decide ((y : Int) < (0 : Int)) = false := decide_eq_false (by omega)
  have t4 : decide ((5 : Int) < (y : Int)) = false := decide_eq_false (by omega)
  have NX : Hid (∀ W, Ext w W → Calls Tryd.prog 25 #[.slice A n c] W fun e w' => ∃ g, e = .returned (.pointer (some ⟨g, 0, none⟩)) ∧ SrcSt w' W.heap.size g xs 0 ∧ Ext W w') := fun W e => new_calls (h.ext e) (by omega) (hG.ext e)
  have NY : Hid (∀ W, Ext w W → Calls Tryd.prog 25 #[.slice B m d] W fun e w' => ∃ g, e = .returned (.pointer (some ⟨g, 0, none⟩)) ∧ SrcSt w' W.heap.size g ys 0 ∧ Ext W w') := fun W e => new_calls (h'.ext e) (by omega) (hG.ext e)
  have KE : Hid (∀ (W : World) (lo g k : Nat) (zs : List UInt8), Ext w W → k < 1000 → SrcSt W lo g zs k → Calls Tryd.prog 28 #[.pointer (some ⟨g, 0, none⟩)] W fun e w' => e = .returned (.agg (cellsOf (srcK zs k)).toArray) ∧ W.grownBy w' (some g) ∧ SrcSt w' lo g zs (k + 1)) := fun W lo g k zs e hk s => skey_calls s (by omega) (hG.ext e)
  have RX : Hid (∀ (W : World) (k : Nat), Ext w W → k < 1000 → Calls Tryd.prog 26 #[.slice A n c, .int .i64 (k : Int)] W fun e w' => e = .returned (.agg (cellsOf (srcK xs k)).toArray) ∧ Ext W w') := fun W k e hk => rkey8_calls (h.ext e) (by omega) (by omega)
  have RY : Hid (∀ (W : World) (k : Nat), Ext w W → k < 1000 → Calls Tryd.prog 26 #[.slice B m d, .int .i64 (k : Int)] W fun e w' => e = .returned (.agg (cellsOf (srcK ys k)).toArray) ∧ Ext W w') := fun W k e hk => rkey8_calls (h'.ext e) (by omega) (by omega)
  clear hG hP
  have hal : ∀ w, (zeroValue 23).run Tryd.prog w = .ok (.agg (cellsOf (List.replicate 32 0)).toArray) w := fun w => by rw [zeros32_cells]; exact key_alloc w
  have hal2 := apair_alloc
  have L_zk : (List.replicate 32 (0 : UInt8)).length = 32 := rfl
  have L_zp : (List.replicate 64 (0 : UInt8)).length = 64 := by simp
  generalize List.replicate 32 (0 : UInt8) = zk at *
  generalize List.replicate 64 (0 : UInt8) = zp at *
  have S_zk : (cellsOf zk).toArray.size = 32 := by simp [cellsOf_len, L_zk]
  have S_zp : (cellsOf zp).toArray.size = 64 := by simp [cellsOf_len, L_zp]
  go_enter Tryd.func12, Tryd.ntmps12
  go_wp2_with fail
  refine (AW.out _ (Ext.refl _)).mono ?_
  rintro e w1 ⟨rfl, x1⟩
  clear AW h h'
  replace x1 := Lib.hid x1
  go_wp2_with fail
  refine (NX.out _ x1.out).mono ?_
  rintro e w2 ⟨gx, rfl, sx, e2⟩
  have x2 := Lib.hid (x1.out.trans e2)
  obtain ⟨lx, hlx⟩ : ∃ l, l = w1.heap.size := ⟨_, rfl⟩
  rw [← hlx] at sx
  have wlx : w.heap.size ≤ lx := by rw [hlx]; exact x1.out.size
  have glx : lx ≤ gx := sx.1.2
  clear hlx NX e2 x1
  replace sx := Lib.hid sx
  go_wp2_with fail
  refine (NY.out _ x2.out).mono ?_
  rintro e w3 ⟨gy, rfl, sy, e3⟩
  have x3 := Lib.hid (x2.out.trans e3)
  obtain ⟨ly, hly⟩ : ∃ l, l = w2.heap.size := ⟨_, rfl⟩
  rw [← hly] at sy
  have wly : gx < ly := by rw [hly]; exact sx.out.lt
  have gly : ly ≤ gy := sy.1.2
  replace sx := Lib.hid (sx.out.ext e3)
  clear hly NY e3 x2
  replace sy := Lib.hid sy
  go_wp2_with fail
  go_loopw [10] (fun iv wr => ∃ k : Nat, k ≤ y + 1 ∧ iv = .int .i64 (k : Int) ∧ SrcSt wr lx gx xs k ∧ SrcSt wr ly gy ys k ∧ Ext w wr) (fun iv _ => ((y : Int) + 1 - intOf iv).toNat)
  case atStart => exact ⟨0, Nat.zero_le _, rfl, sx.out, sy.out, x3.out⟩
  case round =>
    clear sx sy x3
    obtain ⟨k, hk, rfl, sx, sy, xr⟩ := hrel
    by_cases hlt : k ≤ y
    · have ad : IntKind.i64.wrap ((k : Int) + 1) = (k : Int) + 1 := IntWalk.i64_in _ (by omega)
      have hme : Hid (((y : Int) + 1 - ((k : Int) + 1)).toNat < ((y : Int) + 1 - (k : Int)).toNat) := by unfold Hid; omega
      have hk1 : Hid (k + 1 ≤ y + 1) := by unfold Hid; omega
      have KX := Lib.hid (KE.out _ _ _ _ _ xr (by omega) sx)
      have RXk := Lib.hid (fun W e => RX.out W k e (by omega))
      have RYk := Lib.hid (fun W e => RY.out W k e (by omega))
      have KYk := Lib.hid (fun W e s => KE.out W ly gy k ys e (by omega) s)
      have L_kx := srcK_len xs k
      have L_ky := srcK_len ys k
      replace sy := Lib.hid sy
      replace xr := Lib.hid xr
      clear KE RX RY sx hk
      generalize srcK xs k = kx at *
      generalize srcK ys k = ky at *
      have S_kx : (cellsOf kx).toArray.size = 32 := by simp [cellsOf_len, L_kx]
      have O_kx := cellsOf_one kx
      have S_ky : (cellsOf ky).toArray.size = 32 := by simp [cellsOf_len, L_ky]
      have O_ky := cellsOf_one ky
      go_wp2_with fail
      refine KX.out.mono ?_
      rintro e v1 ⟨rfl, g1, s1⟩
      have xv1 := Lib.hid (ext_grown xr.out g1 (by omega))
      have y1 := Lib.hid (sy.out.other g1 (.inl (by omega)))
      have a1 : Hid ((v1.alloc (Obj.cells (cellsOf zk).toArray 23)).heap[v1.heap.size]? = some (.cells (cellsOf zk).toArray 23 (0, 0))) := heap_alloc_new _ _
      have E_ : Ext v1 ((v1.alloc (Obj.cells (cellsOf zk).toArray 23)).setRow v1.heap.size (cellsOf kx).toArray) := below_setRow ((Ext.refl v1).alloc _) (Nat.le_refl _) _
      clear sy xr g1 KX
      replace s1 := Lib.hid s1
      go_upto_region 12 with (refine wpList_store_row rfl 23 _ _ rfl v1.heap.size (cellsOf kx).toArray rfl rfl 23 _ a1.out (by rw [S_kx]; rfl) (by rw [S_kx, S_zk]) O_kx ?_; simp only [Act.put])
      obtain ⟨g11, hg_⟩ : ∃ g, g = v1.heap.size := ⟨_, rfl⟩
      have lt11 : gy < g11 := by rw [hg_]; exact y1.out.lt
      refine wp_gen (fun W => Ky W g11 kx ∧ SrcSt W lx gx xs (k + 1) ∧ SrcSt W ly gy ys k ∧ Ext w W) ⟨⟨by rw [hg_]; exact setRow_heap _ _ _ _ _ _ a1.out, L_kx⟩, s1.out.ext E_, y1.out.ext E_, xv1.out.trans E_⟩ ?_
      rw [← hg_]
      clear hg_ a1 E_ s1 y1 xv1
      rintro v2 ⟨k2, sx, sy, xr⟩
      have KY := Lib.hid (KYk.out _ xr sy)
      replace k2 := Lib.hid k2
      replace sx := Lib.hid sx
      replace xr := Lib.hid xr
      clear KYk sy
      go_wp2_with fail
      refine KY.out.mono ?_
      rintro e v3 ⟨rfl, g3, s3⟩
      have xv3 := Lib.hid (ext_grown xr.out g3 (by omega))
      have y3 := Lib.hid (sx.out.other g3 (.inr (by omega)))
      have k3 : Hid (Ky v3 g11 kx) := ⟨grown_keep g3 (by omega) k2.out.1, k2.out.2⟩
      have a1 : Hid ((v3.alloc (Obj.cells (cellsOf zk).toArray 23)).heap[v3.heap.size]? = some (.cells (cellsOf zk).toArray 23 (0, 0))) := heap_alloc_new _ _
      have E_ : Ext v3 ((v3.alloc (Obj.cells (cellsOf zk).toArray 23)).setRow v3.heap.size (cellsOf ky).toArray) := below_setRow ((Ext.refl v3).alloc _) (Nat.le_refl _) _
      clear sx xr g3 KY k2
      replace s3 := Lib.hid s3
      go_upto_region 13 with (refine wpList_store_row rfl 23 _ _ rfl v3.heap.size (cellsOf ky).toArray rfl rfl 23 _ a1.out (by rw [S_ky]; rfl) (by rw [S_ky, S_zk]) O_ky ?_; simp only [Act.put])
      obtain ⟨g12, hg_⟩ : ∃ g, g = v3.heap.size := ⟨_, rfl⟩
      refine wp_gen (fun W => Ky W g11 kx ∧ Ky W g12 ky ∧ SrcSt W lx gx xs (k + 1) ∧ SrcSt W ly gy ys (k + 1) ∧ Ext w W) ⟨k3.out.ext E_, ⟨by rw [hg_]; exact setRow_heap _ _ _ _ _ _ a1.out, L_ky⟩, y3.out.ext E_, s3.out.ext E_, xv3.out.trans E_⟩ ?_
      rw [← hg_]
      clear hg_ a1 E_ s3 y3 xv3 k3
      rintro v4 ⟨k11, k12, sx, sy, xr⟩
      have Q4 : Hid (∀ s, Ext v4 s → Ky s g11 kx ∧ Ky s g12 ky ∧ SrcSt s lx gx xs (k + 1) ∧ SrcSt s ly gy ys (k + 1) ∧ Ext w s) := fun s e => ⟨k11.ext e, k12.ext e, sx.ext e, sy.ext e, xr.trans e⟩
      clear k11 k12 sx sy xr
      have nx : Hid ((!decide (kx = kx)) = false) := by unfold Hid; rw [decide_eq_true rfl]; rfl
      have ny : Hid ((!decide (ky = ky)) = false) := by unfold Hid; rw [decide_eq_true rfl]; rfl
      refine wp_region_free (R := Ext) Ext.refl (fun _ _ _ => Ext.trans) [0, 1, 2, 3, 4, 5, 6, 7, 8, 9, 10, 11] [] [0, 0, 0, 6, 15, 31, 63, 63, 63, 447, 1023, 2047] [true, true, true, true, true, true, true, true, true, true, true, true] [(0, 51, 4096), (0, 52, 2), (0, 53, 2048), (6, 54, 13510798882111488), (9, 55, 20266198323167232), (24, 56, 36028797018963968), (32, 57, 72057594037936128), (32, 58, 72057594037927940), (32, 59, 72057594037929984), (416, 60, 936748722493063168), (608, 61, 1369094286720630784), (1056, 62, 2377900603251621888)] (by kernel_rfl) (by kernel_rfl) (by kernel_rfl) (by kernel_rfl) ?_
      refine free_det (fun _ => Ext.refl _) _ rfl (v := .agg (cellsOf kx).toArray) (d := 51) rfl rfl ?_ ?_
      · intro a_ w_ hev hR hk
        have e11 : a_.eval (.tmp 11) = _ := hk 11 rfl
        exact (exec_load_row rfl e11 (Q4.out w_ (Ext.trans (Ext.refl _).drew hR)).1.1 rfl rfl (by rw [S_kx]; rfl))
      refine free_det (fun _ => Ext.refl _) _ rfl (v := ?_) (d := 52) rfl rfl ?_ ?_
      rotate_left
      · intro a_ w_ hev hR hk
        have e0 : a_.eval (.tmp 0) = _ := hk 0 rfl
        clear hk
        generalize a_.eval = ev at *
        obtain ⟨hev1, hev2, hev3⟩ := hev
        go_simp
        (try with_reducible rfl)
      refine free_det (fun _ => Ext.refl _) _ rfl (v := ?_) (d := 53) rfl rfl ?_ ?_
      rotate_left
      · intro a_ w_ hev hR hk
        have e10 : a_.eval (.tmp 10) = _ := hk 10 rfl
        clear hk
        generalize a_.eval = ev at *
        obtain ⟨hev1, hev2, hev3⟩ := hev
        go_simp
        (try with_reducible rfl)
      refine free_step _ rfl (fun u _ => u = .agg (cellsOf kx).toArray) (d := 54) rfl (fun _ _ _ h _ => h) rfl ?_ ?_
      · intro a_ w_ hev hR hk K1 hK1
        have e51 : a_.eval (.tmp 51) = _ := hk 51 rfl
        have e52 : a_.eval (.tmp 52) = _ := hk 52 rfl
        clear hk
        have f51 := ev_get.trans e51
        have f52 := ev_get.trans e52
        go_simp
        refine (RXk.out _ (Q4.out w_ (Ext.trans (Ext.refl _).drew hR)).2.2.2.2).mono ?_
        rintro e_ w2_ ⟨rfl, x_⟩
        exact hK1.out _ _ x_ rfl
      refine free_det (fun _ => Ext.refl _) _ rfl (v := .bool false) (d := 55) rfl rfl ?_ ?_
      · intro a_ w_ hev hR hk
        have e50 : a_.eval (.tmp 50) = _ := hk 50 rfl
        have e53 : a_.eval (.tmp 53) = _ := hk 53 rfl
        exact (exec_neq_keyB (xs := kx) (ys := kx) nx.out L_kx L_kx rfl e50 e53)
      refine free_det (fun _ => Ext.refl _) _ rfl (v := ?_) (d := 56) rfl rfl ?_ ?_
      rotate_left
      · intro a_ w_ hev hR hk
        have e54 : a_.eval (.tmp 54) = _ := hk 54 rfl
        clear hk
        generalize a_.eval = ev at *
        obtain ⟨hev1, hev2, hev3⟩ := hev
        go_simp
        (try with_reducible rfl)
      refine free_detG (fun _ => Ext.refl _) _ rfl (v := .agg (cellsOf ky).toArray) (d := 57) rfl 55 false rfl rfl (fun _ _ h => h) ?_ ?_
      · intro a_ w_ hev hR hk
        have e12 : a_.eval (.tmp 12) = _ := hk 12 rfl
        exact (exec_load_row rfl e12 (Q4.out w_ (Ext.trans (Ext.refl _).drew hR)).2.1.1 rfl rfl (by rw [S_ky]; rfl))
      refine free_detG (fun _ => Ext.refl _) _ rfl (v := ?_) (d := 58) rfl 55 false rfl rfl (fun _ _ h => h) ?_ ?_
      rotate_left
      · intro a_ w_ hev hR hk
        have e1 : a_.eval (.tmp 1) = _ := hk 1 rfl
        clear hk
        generalize a_.eval = ev at *
        obtain ⟨hev1, hev2, hev3⟩ := hev
        go_simp
        (try with_reducible rfl)
      refine free_detG (fun _ => Ext.refl _) _ rfl (v := ?_) (d := 59) rfl 55 false rfl rfl (fun _ _ h => h) ?_ ?_
      rotate_left
      · intro a_ w_ hev hR hk
        have e10 : a_.eval (.tmp 10) = _ := hk 10 rfl
        clear hk
        generalize a_.eval = ev at *
        obtain ⟨hev1, hev2, hev3⟩ := hev
        go_simp
        (try with_reducible rfl)
      refine free_stepG _ rfl (fun u _ => u = .agg (cellsOf ky).toArray) (d := 60) rfl (fun _ _ _ h _ => h) 55 false rfl rfl (fun _ _ h => h) ?_ ?_
      · intro a_ w_ hev hR hk K1 hK1
        have e57 : a_.eval (.tmp 57) = _ := hk 57 rfl
        have e58 : a_.eval (.tmp 58) = _ := hk 58 rfl
        clear hk
        have f57 := ev_get.trans e57
        have f58 := ev_get.trans e58
        go_simp
        refine (RYk.out _ (Q4.out w_ (Ext.trans (Ext.refl _).drew hR)).2.2.2.2).mono ?_
        rintro e_ w2_ ⟨rfl, x_⟩
        exact hK1.out _ _ x_ rfl
      refine free_detG (fun _ => Ext.refl _) _ rfl (v := .bool false) (d := 61) rfl 55 false rfl rfl (fun _ _ h => h) ?_ ?_
      · intro a_ w_ hev hR hk
        have e56 : a_.eval (.tmp 56) = _ := hk 56 rfl
        have e59 : a_.eval (.tmp 59) = _ := hk 59 rfl
        exact (exec_neq_keyB (xs := ky) (ys := ky) ny.out L_ky L_ky rfl e56 e59)
      refine free_det (fun _ => Ext.refl _) _ rfl (v := ?_) (d := 62) rfl rfl ?_ ?_
      rotate_left
      · intro a_ w_ hev hR hk
        have e55 : a_.eval (.tmp 55) = _ := hk 55 rfl
        have e60 : a_.eval (.tmp 60) = _ := hk 60 rfl
        clear hk
        generalize a_.eval = ev at *
        obtain ⟨hev1, hev2, hev3⟩ := hev
        go_simp
        (try with_reducible rfl)
      intro v_ v5 hR hV_ hN_
      obtain ⟨hv11, hv10, hv9, hv8, hv7, hv6, hv5, hv4, hv3, hv2, hv1, hv0, _⟩ := hV_
      replace hv0 : v_ 0 = _ := hv0
      replace hv1 : v_ 1 = _ := hv1
      replace hv2 : v_ 2 = _ := hv2
      replace hv3 : v_ 3 = _ := hv3
      replace hv4 : v_ 4 = _ := hv4
      replace hv5 : v_ 5 = _ := hv5
      replace hv6 : v_ 6 = _ := hv6
      replace hv7 : v_ 7 = _ := hv7
      replace hv8 : v_ 8 = _ := hv8
      replace hv9 : v_ 9 = _ := hv9
      replace hv10 : v_ 10 = _ := hv10
      replace hv11 : v_ 11 = _ := hv11
      dsimp only [putE, dOpt]
      clear hN_
      rw [hv0, hv1, hv2, hv3, hv4, hv5, hv6, hv7, hv8, hv9, hv10, hv11]
      simp only [Act.put, List.setIfInBounds_toArray, List.set_cons_zero, List.set_cons_succ]
      clear hv0 hv1 hv2 hv3 hv4 hv5 hv6 hv7 hv8 hv9 hv10 hv11
      have Q5 := Lib.hid (Q4.out v5 ((Ext.refl _).drew.trans hR))
      refine any_nil (by kernel_rfl) ?_
      clear hR Q4
      go_wp2_with fail
      exact ⟨⟨k + 1, hk1.out, rfl, Q5.out.2.2⟩, by simpa [intOf] using hme.out⟩
    · obtain rfl : k = y + 1 := by omega
      have u1 : ¬ ((y + 1 : Nat) : Int) ≤ (y : Int) := by omega
      have ad : IntKind.i64.wrap ((y : Int) + 1) = (y : Int) + 1 := IntWalk.i64_in _ (by omega)
      have ec : (((y + 1 : Nat) : Int) == (y : Int) + 1) = true := by simp
      have MX := Lib.hid (many_calls sx)
      have MY : Hid (∀ W, Ext wr W → Calls Tryd.prog 29 #[.pointer (some ⟨gy, 0, none⟩)] W fun e w' => e = .returned (.int .i64 ((y + 1 : Nat) : Int)) ∧ Ext W w') := fun W e => many_calls (sy.ext e)
      clear sx sy KE RX RY
      replace xr := Lib.hid xr
      generalize ((y + 1 : Nat) : Int) = yy at *
      go_wp2_with fail
      refine MX.out.mono ?_
      rintro e v1 ⟨rfl, e1⟩
      go_wp2_with fail
      refine (MY.out _ e1).mono ?_
      rintro e v2 ⟨rfl, e2⟩
      go_wp2_with fail
      go_ret
      exact ⟨rfl, (xr.out.trans e1).trans e2⟩
theorem keysApart_calls {w : World} {A B : Option Addr} {n c m d : Nat} {z : Int} {xs ys : List UInt8} (h : Bs w A n c xs) (h' : Bs w B m d ys) {tg tp : TypeId × Nat × Nat} (hG : Gl w tg) (hP : Gp w tp) :
    Calls Tryd.prog 12 #[.slice A n c, .slice B m d, .int .i64 z] w fun e w' => e = .returned (.bool true) ∧ Ext w w' := by
  by_cases q1 : 200 < n
  · exact keysApart_out1 h h' hG hP q1
  · by_cases q2 : 200 < m
    · exact keysApart_out2 h h' hG hP (by omega) q2
    · by_cases q3 : z < 0
      · exact keysApart_out3 h h' hG hP (by omega) (by omega) q3
      · by_cases q4 : 5 < z
        · exact keysApart_out4 h h' hG hP (by omega) (by omega) (by omega) q4
        · exact keysApart_main h h' hG hP (y := z.toNat) (by omega) (by omega) (by omega) (by omega)
end Go.Proofs.YtadnmiedmcckkaaDoor
