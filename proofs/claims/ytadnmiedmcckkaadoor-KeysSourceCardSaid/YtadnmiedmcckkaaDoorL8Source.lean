import Derived.Test.YtadnmiedmcckkaaDoorPkH
import Derived.Test.YtadnmiedmcckkaaDoorPkB
/-
  KeysSource: what any seed's source tells.
-/
namespace Go.Proofs.YtadnmiedmcckkaaDoor
open Go.ChangeShapes Go.WideShapes Go.ChangeAt Go.RowKit Go.Deep
set_option maxRecDepth 100000

theorem wp_part {P : Program} {c : Code} {Q : Exit → Act → World → Prop} {a A' : Act} {w : World} {F : World → Prop} (h : c.wp P (fun x a' w' => x = .normal ∧ a' = A' ∧ F w') a w) (k : ∀ W, F W → Q .normal A' W) : c.wp P Q a w :=
  Code.wp_mono (fun _ _ _ q => by obtain ⟨rfl, rfl, q⟩ := q; exact k _ q) h
set_option maxHeartbeats 1000000 in
theorem keysSource_out {w : World} {A B : Option Addr} {n c m d : Nat} {xs : List UInt8} {zs : List Int} (h : Bs w A n c xs) (hn : n ≤ 140737488355328) (hz : Is w B m d zs) {tg tp : TypeId × Nat × Nat} (hG : Gl w tg) (hP : Gp w tp) (q1 : 300 < n) :
    Calls Tryd.prog 9 #[.slice A n c, .slice B m d] w fun e w' => e = .returned (.bool true) ∧ Ext w w' := by
  have AW := Lib.hid (fun (W : World) (e : Ext w W) => awake8_calls (hG.ext e) (hP.ext e))
  have t1 : decide ((300 : Int) < (n : Int)) = true := decide_eq_true (by omega)
  have NX : Hid (∀ W, Ext w W → Calls Tryd.prog 25 #[.slice A n c] W fun e w' => ∃ g, e = .returned (.pointer (some ⟨g, 0, none⟩)) ∧ SrcSt w' W.heap.size g xs 0 ∧ Ext W w') := fun W e => new_calls (h.ext e) hn (hG.ext e)
  clear h hG hP
  go_enter Tryd.func9, Tryd.ntmps9
  go_wp2_with fail
  refine (AW.out _ (Ext.refl _)).mono ?_
  rintro e w1 ⟨rfl, e1⟩
  go_wp2_with fail
  refine (NX.out _ e1).mono ?_
  rintro e w2 ⟨g, rfl, s2, e2⟩
  replace s2 := Lib.hid s2
  go_wp2_with fail
  go_ret
  exact ⟨rfl, e1.trans e2⟩
set_option maxHeartbeats 8000000 in
theorem keysSource_main {w : World} {A B : Option Addr} {n c m d : Nat} {xs : List UInt8} {zs : List Int} (h : Bs w A n c xs) (hn : n ≤ 140737488355328) (hz : Is w B m d zs) {tg tp : TypeId × Nat × Nat} (hG : Gl w tg) (hP : Gp w tp) (q1 : n ≤ 300) :
    Calls Tryd.prog 9 #[.slice A n c, .slice B m d] w fun e w' => e = .returned (.bool true) ∧ Ext w w' := by
  have AW := Lib.hid (fun (W : World) (e : Ext w W) => awake8_calls (hG.ext e) (hP.ext e))
  have t1 : decide ((300 : Int) < (n : Int)) = false := decide_eq_false (by omega)
  have NX : Hid (∀ W, Ext w W → Calls Tryd.prog 25 #[.slice A n c] W fun e w' => ∃ g, e = .returned (.pointer (some ⟨g, 0, none⟩)) ∧ SrcSt w' W.heap.size g xs 0 ∧ Ext W w') := fun W e => new_calls (h.ext e) hn (hG.ext e)
  have KE : Hid (∀ (W : World) (lo g k : Nat), Ext w W → k < 1000 → SrcSt W lo g xs k → Calls Tryd.prog 28 #[.pointer (some ⟨g, 0, none⟩)] W fun e w' => e = .returned (.agg (cellsOf (srcK xs k)).toArray) ∧ W.grownBy w' (some g) ∧ SrcSt w' lo g xs (k + 1)) := fun W lo g k e hk s => skey_calls s (by omega) (hG.ext e)
  have glt := hP.lt
  have PE : Hid (∀ (W : World) (lo g k : Nat), Ext w W → w.heap.size ≤ lo → k < 1000 → SrcSt W lo g xs k → Calls Tryd.prog 27 #[.pointer (some ⟨g, 0, none⟩)] W fun e w' => e = .returned (.agg (cellsOf (pairL (srcK xs k))).toArray) ∧ W.grownBy w' (some g) ∧ SrcSt w' lo g xs (k + 1)) := fun W lo g k e hl hk s => spair_calls s (by omega) (hG.ext e) (hP.ext e) (by omega)
  have RX : Hid (∀ (W : World) (k : Nat), Ext w W → k < 1000 → Calls Tryd.prog 26 #[.slice A n c, .int .i64 (k : Int)] W fun e w' => e = .returned (.agg (cellsOf (srcK xs k)).toArray) ∧ Ext W w') := fun W k e hk => rkey8_calls (h.ext e) (by omega) (by omega)
  have RP : Hid (∀ (W : World) (g k : Nat), Ky W g (srcK xs k) → Calls Tryd.prog 24 #[.slice (some ⟨g, 0, none⟩) 32 32] W fun e w' => e = .returned (.agg (cellsOf (pairL (srcK xs k))).toArray) ∧ Ext W w') := fun W g k q => rpair_calls q.bs (by omega)
  have IZ : Hid (∀ W, Ext w W → Is W B m d zs) := fun W e => hz.ext e
  have m1 := hz.le
  have m2 := hz.cap
  clear hG hP h hz
  have hal : ∀ w, (zeroValue 23).run Tryd.prog w = .ok (.agg (cellsOf (List.replicate 32 0)).toArray) w := fun w => by rw [zeros32_cells]; exact key_alloc w
  have hal2 := apair_alloc
  have L_zk : (List.replicate 32 (0 : UInt8)).length = 32 := rfl
  have L_zp : (List.replicate 64 (0 : UInt8)).length = 64 := by simp
  generalize List.replicate 32 (0 : UInt8) = zk at *
  generalize List.replicate 64 (0 : UInt8) = zp at *
  have S_zk : (cellsOf zk).toArray.size = 32 := by simp [cellsOf_len, L_zk]
  have S_zp : (cellsOf zp).toArray.size = 64 := by simp [cellsOf_len, L_zp]
  go_enter Tryd.func9, Tryd.ntmps9
  go_wp2_with fail
  refine (AW.out _ (Ext.refl _)).mono ?_
  rintro e w1 ⟨rfl, x1⟩
  clear AW
  replace x1 := Lib.hid x1
  go_wp2_with fail
  refine (NX.out _ x1.out).mono ?_
  rintro e w2 ⟨g, rfl, sx, e2⟩
  have x2 := Lib.hid (x1.out.trans e2)
  obtain ⟨lx, hlx⟩ : ∃ l, l = w1.heap.size := ⟨_, rfl⟩
  rw [← hlx] at sx
  have wlx : w.heap.size ≤ lx := by rw [hlx]; exact x1.out.size
  have glx : lx ≤ g := sx.1.2
  clear hlx NX e2 x1
  replace sx := Lib.hid sx
  go_wp2_with fail
  go_loopw [7] (fun iv wr => ∃ k : Nat, k ≤ 12 ∧ k ≤ m ∧ iv = .int .i64 (k : Int) ∧ SrcSt wr lx g xs k ∧ Ext w wr) (fun iv _ => ((12 : Int) - intOf iv).toNat)
  case atStart => exact ⟨0, by omega, by omega, rfl, sx.out, x2.out⟩
  case round =>
    clear sx x2
    obtain ⟨k, hk, hkm, rfl, sx, xr⟩ := hrel
    by_cases hlt : k < m
    · by_cases h12 : k < 12
      · have u1 : decide ((k : Int) < (m : Int)) = true := decide_eq_true (by omega)
        have u2 : decide ((k : Int) < (12 : Int)) = true := decide_eq_true (by omega)
        have ad : IntKind.i64.wrap ((k : Int) + 1) = (k : Int) + 1 := IntWalk.i64_in _ (by omega)
        have hme : Hid (((12 : Int) - ((k : Int) + 1)).toNat < ((12 : Int) - (k : Int)).toNat) := by unfold Hid; omega
        have hk1 : Hid (k + 1 ≤ 12 ∧ k + 1 ≤ m) := by unfold Hid; omega
        have RXk := Lib.hid (RX.out wr k xr (by omega))
        have KEk : Hid (∀ W, Ext w W → SrcSt W lx g xs k → Calls Tryd.prog 28 #[.pointer (some ⟨g, 0, none⟩)] W fun e w' => e = .returned (.agg (cellsOf (srcK xs k)).toArray) ∧ W.grownBy w' (some g) ∧ SrcSt w' lx g xs (k + 1)) := fun W e s => KE.out W lx g k e (by omega) s
        have PEk : Hid (∀ W, Ext w W → SrcSt W lx g xs k → Calls Tryd.prog 27 #[.pointer (some ⟨g, 0, none⟩)] W fun e w' => e = .returned (.agg (cellsOf (pairL (srcK xs k))).toArray) ∧ W.grownBy w' (some g) ∧ SrcSt w' lx g xs (k + 1)) := fun W e s => PE.out W lx g k e wlx (by omega) s
        have RPk : Hid (∀ W gg, Ky W gg (srcK xs k) → Calls Tryd.prog 24 #[.slice (some ⟨gg, 0, none⟩) 32 32] W fun e w' => e = .returned (.agg (cellsOf (pairL (srcK xs k))).toArray) ∧ Ext W w') := fun W gg q => RP.out W gg k q
        have L_kk := srcK_len xs k
        have L_pp := pairL_len (srcK xs k)
        replace sx := Lib.hid sx
        replace xr := Lib.hid xr
        clear KE PE RX RP hk hkm
        generalize pairL (srcK xs k) = pp at *
        generalize srcK xs k = kk at *
        have S_kk : (cellsOf kk).toArray.size = 32 := by simp [cellsOf_len, L_kk]
        have O_kk := cellsOf_one kk
        go_wp2_with fail
        refine RXk.out.mono ?_
        rintro e v1 ⟨rfl, e1⟩
        have a1 : Hid ((v1.alloc (Obj.cells (cellsOf zk).toArray 23)).heap[v1.heap.size]? = some (.cells (cellsOf zk).toArray 23 (0, 0))) := heap_alloc_new _ _
        have E_ : Ext wr ((v1.alloc (Obj.cells (cellsOf zk).toArray 23)).setRow v1.heap.size (cellsOf kk).toArray) := e1.trans (below_setRow ((Ext.refl v1).alloc _) (Nat.le_refl _) _)
        clear RXk
        go_upto_region 9 with (refine wpList_store_row rfl 23 _ _ rfl v1.heap.size (cellsOf kk).toArray rfl rfl 23 _ a1.out (by rw [S_kk]; rfl) (by rw [S_kk, S_zk]) O_kk ?_; simp only [Act.put])
        obtain ⟨g8, hg_⟩ : ∃ g, g = v1.heap.size := ⟨_, rfl⟩
        have lt8 : g < g8 := by rw [hg_]; exact Nat.lt_of_lt_of_le sx.out.lt e1.size
        refine wp_gen (fun W => Ky W g8 kk ∧ SrcSt W lx g xs k ∧ Ext w W) ⟨⟨by rw [hg_]; exact setRow_heap _ _ _ _ _ _ a1.out, L_kk⟩, sx.out.ext E_, xr.out.trans E_⟩ ?_
        rw [← hg_]
        clear hg_ a1 E_ e1 sx xr
        rintro v2 ⟨K8, SX, XR⟩
        obtain ⟨b, off, rfl, hb, hc⟩ := (IZ.out _ XR).pos (by omega)
        have c1 := (hc k hlt).1
        have kb : (k : Int) < (m : Int) := by omega
        replace K8 := Lib.hid K8
        replace SX := Lib.hid SX
        replace XR := Lib.hid XR
        clear hc hb
        have MA : Hid (∀ W, SrcSt W lx g xs (k + 1) → Calls Tryd.prog 29 #[.pointer (some ⟨g, 0, none⟩)] W fun e w' => e = .returned (.int .i64 ((k + 1 : Nat) : Int)) ∧ Ext W w') := fun W s => many_calls s
        have ne1 : (((k + 1 : Nat) : Int) != (k : Int) + 1) = false := by simp
        by_cases hz0 : nat_at zs k = 0
        · rw [hz0] at c1
          go_upto_region 10 with fail
          refine wp_region_seq (R := fun a b => a.grownBy b (some g)) (fun w => World.grownBy.refl w _) (fun _ _ _ => gr_trans) [0, 2, 1, 3, 4] [1, 3] [(0, 43, 128), (1, 44, 8796093022208), (0, 45, 512), (6, 46, 35184372088832), (10, 47, 87960930222080)] (by kernel_rfl) (by kernel_rfl) (by kernel_rfl) rfl (by kernel_rfl) (by kernel_rfl) (fun _ _ d _ _ h => by cases d <;> exact h) ?_
          repeat (first | (refine seq_read (fun _ => True) (fun _ _ => trivial) _ (v := ?_) rfl rfl (by rfl) ?_ ?_; rotate_left; (· intro w' hF; go_simp; (try with_reducible rfl)); simp only [Act.put, List.setIfInBounds_toArray, List.set_cons_zero, List.set_cons_succ]) | (refine seq_skip _ rfl rfl (by rfl) ?_; simp only [Act.put, List.setIfInBounds_toArray, List.set_cons_zero, List.set_cons_succ]))
          replace K8 : Hid (Ky v2.drew g8 kk) := ⟨K8.out.1, K8.out.2⟩
          replace SX : Hid (SrcSt v2.drew lx g xs k) := SX.out.ext (Ext.refl v2).drew
          replace XR : Hid (Ext w v2.drew) := XR.out.drew
          clear c1
          generalize v2.drew = WC at *
          refine seq_do _ rfl rfl (by rfl) (fun K1 hK1 => ?_)
          go_simp
          refine (PEk.out _ XR.out SX.out).mono ?_
          rintro e0 WD ⟨rfl, g1, s1⟩
          refine hK1.out _ _ g1 ?_
          clear hK1 K1
          try simp only [Act.put, List.setIfInBounds_toArray, List.set_cons_zero, List.set_cons_succ]
          replace K8 : Hid (Ky WD g8 kk) := ⟨grown_keep g1 (by omega) K8.out.1, K8.out.2⟩
          replace XR := Lib.hid (ext_grown XR.out g1 (by omega))
          replace SX := Lib.hid s1
          clear g1 s1
          repeat (first | (refine seq_read (fun _ => True) (fun _ _ => trivial) _ (v := ?_) rfl rfl (by rfl) ?_ ?_; rotate_left; (· intro w' hF; go_simp; (try with_reducible rfl)); simp only [Act.put, List.setIfInBounds_toArray, List.set_cons_zero, List.set_cons_succ]) | (refine seq_skip _ rfl rfl (by rfl) ?_; simp only [Act.put, List.setIfInBounds_toArray, List.set_cons_zero, List.set_cons_succ]))
          refine seq_do _ rfl rfl (by rfl) (fun K1 hK1 => ?_)
          go_simp
          refine (RPk.out _ _ K8.out).mono ?_
          rintro e0 WE ⟨rfl, g1⟩
          refine hK1.out _ _ (grown_of_ext g1) ?_
          clear hK1 K1
          try simp only [Act.put, List.setIfInBounds_toArray, List.set_cons_zero, List.set_cons_succ]
          replace XR := Lib.hid (XR.out.trans g1)
          replace SX := Lib.hid (SX.out.ext g1)
          clear g1
          refine seq_read (fun _ => True) (fun _ _ => trivial) _ (v := .bool false) rfl rfl (by rfl) (fun w' _ => exec_neq_pairB (xs := pp) (ys := pp) (by rw [decide_eq_true rfl]; rfl) L_pp L_pp rfl rfl rfl) ?_
          simp only [Act.put, List.setIfInBounds_toArray, List.set_cons_zero, List.set_cons_succ]
          refine seq_done ?_
          refine gen_q (fun W => SrcSt W lx g xs (k + 1) ∧ Ext w W) ⟨SX.out, XR.out⟩ ?_
          clear SX XR K8
          rintro v3 ⟨s3, x3⟩
          have MAk := Lib.hid (MA.out _ s3)
          replace s3 := Lib.hid s3
          replace x3 := Lib.hid x3
          clear MA
          go_wp2_with fail
          refine MAk.out.mono ?_
          rintro e v4 ⟨rfl, e4⟩
          have s4 := Lib.hid (s3.out.ext e4)
          have x4 := Lib.hid (x3.out.trans e4)
          clear s3 x3 e4 MAk
          go_wp2_with fail
          exact ⟨⟨k + 1, hk1.out.1, hk1.out.2, rfl, s4.out, x4.out⟩, by simpa [intOf] using hme.out⟩
        · have zne : (nat_at zs k == 0) = false := by simpa using hz0
          go_upto_region 12 with fail
          refine wp_region_seq (R := fun a b => a.grownBy b (some g)) (fun w => World.grownBy.refl w _) (fun _ _ _ => gr_trans) [0, 2, 1, 3] [1] [(0, 48, 128), (1, 49, 281474976710656), (0, 50, 512), (6, 51, 1688849860263936)] (by kernel_rfl) (by kernel_rfl) (by kernel_rfl) rfl (by kernel_rfl) (by kernel_rfl) (fun _ _ d _ _ h => by cases d <;> exact h) ?_
          have H8 : Hid (∀ s, World.grownBy v2 s (some g) → Ky s g8 kk) := fun s e => ⟨grown_keep e (by omega) K8.out.1, K8.out.2⟩
          (first | (refine seq_read (fun _ => True) (fun _ _ => trivial) _ (v := ?_) rfl rfl (by rfl) ?_ ?_; rotate_left; (· intro w' hF; go_simp; (try with_reducible rfl)); simp only [Act.put, List.setIfInBounds_toArray, List.set_cons_zero, List.set_cons_succ]) | (refine seq_skip _ rfl rfl (by rfl) ?_; simp only [Act.put, List.setIfInBounds_toArray, List.set_cons_zero, List.set_cons_succ]))
          refine seq_read (fun s => Ky s g8 kk) (fun s e => H8.out s (grown_trans' (grown_drew (World.grownBy.refl _ _)) e)) _ (v := .agg (cellsOf kk).toArray) rfl rfl (by rfl) (fun s hs => exec_load_row rfl rfl hs.1 rfl rfl (by rw [S_kk]; rfl)) ?_
          simp only [Act.put, List.setIfInBounds_toArray, List.set_cons_zero, List.set_cons_succ]
          replace SX : Hid (SrcSt v2.drew lx g xs k) := SX.out.ext (Ext.refl v2).drew
          replace XR : Hid (Ext w v2.drew) := XR.out.drew
          clear c1 H8
          refine seq_do _ rfl rfl (by rfl) (fun K1 hK1 => ?_)
          go_simp
          refine (KEk.out _ XR.out SX.out).mono ?_
          rintro e0 WD ⟨rfl, g1, s1⟩
          refine hK1.out _ _ g1 ?_
          clear hK1 K1
          try simp only [Act.put, List.setIfInBounds_toArray, List.set_cons_zero, List.set_cons_succ]
          replace XR := Lib.hid (ext_grown XR.out g1 (by omega))
          replace SX := Lib.hid s1
          clear g1 s1
          refine seq_read (fun _ => True) (fun _ _ => trivial) _ (v := .bool false) rfl rfl (by rfl) (fun w' _ => exec_neq_keyB (xs := kk) (ys := kk) (by rw [decide_eq_true rfl]; rfl) L_kk L_kk rfl rfl rfl) ?_
          simp only [Act.put, List.setIfInBounds_toArray, List.set_cons_zero, List.set_cons_succ]
          refine seq_done ?_
          refine gen_q (fun W => SrcSt W lx g xs (k + 1) ∧ Ext w W) ⟨SX.out, XR.out⟩ ?_
          clear SX XR K8
          rintro v3 ⟨s3, x3⟩
          have MAk := Lib.hid (MA.out _ s3)
          replace s3 := Lib.hid s3
          replace x3 := Lib.hid x3
          clear MA
          go_wp2_with fail
          refine MAk.out.mono ?_
          rintro e v4 ⟨rfl, e4⟩
          have s4 := Lib.hid (s3.out.ext e4)
          have x4 := Lib.hid (x3.out.trans e4)
          clear s3 x3 e4 MAk
          go_wp2_with fail
          exact ⟨⟨k + 1, hk1.out.1, hk1.out.2, rfl, s4.out, x4.out⟩, by simpa [intOf] using hme.out⟩
      · obtain rfl : k = 12 := by omega
        have u1 : decide (((12 : Nat) : Int) < (m : Int)) = true := decide_eq_true (by omega)
        replace sx := Lib.hid sx
        replace xr := Lib.hid xr
        go_wp2_with fail
        go_ret
        exact ⟨rfl, xr.out⟩
    · have u1 : decide ((k : Int) < (m : Int)) = false := decide_eq_false (by omega)
      replace sx := Lib.hid sx
      replace xr := Lib.hid xr
      go_wp2_with fail
      go_ret
      exact ⟨rfl, xr.out⟩
theorem keysSource_calls {w : World} {A B : Option Addr} {n c m d : Nat} {xs : List UInt8} {zs : List Int} (h : Bs w A n c xs) (hn : n ≤ 140737488355328) (hz : Is w B m d zs) {tg tp : TypeId × Nat × Nat} (hG : Gl w tg) (hP : Gp w tp) :
    Calls Tryd.prog 9 #[.slice A n c, .slice B m d] w fun e w' => e = .returned (.bool true) ∧ Ext w w' := by
  by_cases q1 : 300 < n
  · exact keysSource_out h hn hz hG hP q1
  · exact keysSource_main h hn hz hG hP (by omega)
end Go.Proofs.YtadnmiedmcckkaaDoor
