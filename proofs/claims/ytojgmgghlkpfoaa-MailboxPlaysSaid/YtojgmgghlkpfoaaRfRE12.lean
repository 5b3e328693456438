import Derived.Test.YtojgmgghlkpfoaaRfRd12
import Derived.Test.YtojgmgghlkpfoaaRfE12
import Derived.Test.YtojgmgghlkpfoaaReadE
import Derived.Test.YtojgmgghlkpfoaaPkI
import Derived.Test.YtojgmgghlkpfoaaFree
/-
  palfreyref12.ReadEnvelope.
-/
namespace Go.Proofs.Ytojgmgghlkpfoaa
open Go.ChangeShapes Go.WideShapes Go.ChangeAt Go.RowKit Go.Deep
set_option maxRecDepth 100000

theorem env_built {f t p n : Int} {cm pk : List UInt8} {A : Option Addr} {m c : Nat} (hc : cm.length = 32) (hk : pk.length = 32) : Try.prog.built 35 [(0, .int .i64 f), (1, .int .i64 t), (2, .agg (cellsOf cm).toArray), (3, .agg (hdC pk p n).toArray), (4, .slice A m c)] = some (evC f t cm pk p n A m c).toArray := by
  have h : ∃ pl : Nat → Option (Nat × Nat), (pl 0 = some (0, 1) ∧ pl 1 = some (1, 1) ∧ pl 2 = some (2, 32) ∧ pl 3 = some (34, 34) ∧ pl 4 = some (68, 1)) ∧ ∀ ps, Try.prog.built 35 ps = Instr.fill pl evz.toArray ps := ⟨(#[(0, 1), (1, 1), (2, 32), (34, 34), (68, 1)][·]?), ⟨rfl, rfl, rfl, rfl, rfl⟩, fun ps => by kernel_rfl⟩
  obtain ⟨pl, ⟨h0, h1, h2, h3, h4⟩, hp⟩ := h
  have lz : (cellsOf (List.replicate 32 0)).length = (cellsOf cm).length := by rw [cellsOf_len, cellsOf_len, hc]; rfl
  have lh : (hdC (List.replicate 32 0) 0 0).length = (hdC pk p n).length := by rw [hdC_len hk, hdC_len rfl]
  have s0 : splice evz 0 [Value.int .i64 f] = .int .i64 f :: .int .i64 0 :: (cellsOf (List.replicate 32 0) ++ (hdC (List.replicate 32 0) 0 0 ++ [.slice none 0 0])) := rfl
  have s1 : ∀ R : List Value, splice (.int .i64 f :: .int .i64 0 :: R) 1 [Value.int .i64 t] = [.int .i64 f, .int .i64 t] ++ R := fun R => rfl
  have s2 : splice ([Value.int .i64 f, .int .i64 t] ++ (cellsOf (List.replicate 32 0) ++ (hdC (List.replicate 32 0) 0 0 ++ [.slice none 0 0]))) 2 (cellsOf cm) = ([.int .i64 f, .int .i64 t] ++ cellsOf cm) ++ (hdC (List.replicate 32 0) 0 0 ++ [.slice none 0 0]) := by
    refine (splice_mid (off := 2) (p := [Value.int .i64 f, .int .i64 t]) rfl lz).trans ?_
    rw [List.append_assoc]
  have l34 : ([Value.int .i64 f, .int .i64 t] ++ cellsOf cm).length = 34 := by simp [cellsOf_len, hc]
  have s3 : splice (([Value.int .i64 f, .int .i64 t] ++ cellsOf cm) ++ (hdC (List.replicate 32 0) 0 0 ++ [.slice none 0 0])) 34 (hdC pk p n) = (([.int .i64 f, .int .i64 t] ++ cellsOf cm) ++ hdC pk p n) ++ ([.slice none 0 0] ++ []) := by
    refine (splice_mid l34 lh).trans ?_
    simp
  have l68 : (([Value.int .i64 f, .int .i64 t] ++ cellsOf cm) ++ hdC pk p n).length = 68 := by rw [List.length_append, l34, hdC_len hk]
  have s4 : splice ((([Value.int .i64 f, .int .i64 t] ++ cellsOf cm) ++ hdC pk p n) ++ ([.slice none 0 0] ++ [])) 68 [Value.slice A m c] = evC f t cm pk p n A m c := by
    refine (splice_mid (y := [Value.slice none 0 0]) (q := []) (z := [Value.slice A m c]) l68 rfl).trans ?_
    simp [evC]
  rw [hp, fill_step h0 rfl (by rw [evz_len]; omega)]
  rw [show (Value.int .i64 f).cells.toList = [Value.int .i64 f] from rfl, s0, fill_step h1 rfl (by simp)]
  rw [show (Value.int .i64 t).cells.toList = [Value.int .i64 t] from rfl, s1, fill_step h2 (by rw [cells_agg, List.size_toArray, cellsOf_len, hc]) (by simp [cellsOf_len, hdC]), cells_agg, List.toList_toArray, s2]
  rw [fill_step h3 (by rw [cells_agg, List.size_toArray, hdC_len hk]) (by rw [List.length_append, l34, List.length_append, hdC_len rfl]; simp), cells_agg, List.toList_toArray, s3]
  rw [fill_step h4 rfl (by rw [List.length_append, l68]; simp), show (Value.slice A m c).cells.toList = [Value.slice A m c] from rfl, s4]
  rfl
theorem ev_one {f t p n : Int} {cm pk : List UInt8} {A : Option Addr} {m c : Nat} : (evC f t cm pk p n A m c).toArray.all (·.oneCell') = true := by
  refine one_cells fun v hv => ?_
  unfold evC hdC at hv
  simp only [List.mem_append, List.mem_cons, List.not_mem_nil, or_false] at hv
  rcases hv with (rfl | rfl) | q | (q | rfl | rfl) | rfl
  all_goals first | rfl | exact one_mem _ v q
theorem env_zero : Try.prog.built 35 [] = some evz.toArray := by kernel_rfl
theorem numN_bt {xs : List UInt8} (h : 0 < xs.length) : numN xs 1 = bt xs 0 := by
  match xs, h with
  | x :: r, _ => simp [numN, ofLowL, bt]
theorem Bs.from {w : World} {b off n c : Nat} {xs : List UInt8} (h : Bs w (some ⟨b, off, none⟩) n c xs) {i : Nat} (hk : i ≤ n) : Bs w (some ⟨b, off + i, none⟩) (n - i) (c - i) (xs.drop i) := by
  have := h.sub (i := i) (k := n - i) (by omega)
  rwa [List.take_of_length_le (by rw [List.length_drop, h.1]; omega)] at this
theorem results_rre {tmps : Array Value} {w : World} {r : Nat} {L : List Value} {z : Int} (h1 : tmps.getD 2 undef = .pointer (some ⟨r, 0, none⟩)) (h2 : tmps.getD 3 undef = .int .i64 z) (k : Cb w r 35 L) (l : L.length = 69) : (results Try.f20 tmps).run Try.prog w = .ok (.tuple #[.agg L.toArray, .int .i64 z]) w :=
  results_row_tmp Try.results20 tmps w r 35 L.toArray (0, 0) _ _ h1 h2 k rfl rfl (by rw [List.size_toArray, l]; rfl)
set_option maxHeartbeats 16000000 in
theorem rreadEnv_calls {w : World} {n c : Nat} {A : Option Addr} {xs : List UInt8} (hb : Bs w A n c xs) (hn : n ≤ 1000000) :
    Calls Try.prog 20 #[.slice A n c] w (RenvP xs w) := by
  have lx : Hid (xs.length = n) := hb.1
  have hle := hb.le
  have hcap := hb.cap
  have hal := env_alloc
  have hbz := Lib.hid env_zero
  have L_hz := evz_len
  have O_hz : Hid (evz.toArray.all (·.oneCell') = true) := ev_one
  have RA : Hid (n < 76 → reE xs = 3) := fun h => reE_a (by rw [lx.out]; exact h)
  have RB : Hid (76 ≤ n → n < 76 + numN (xs.drop 74) 2 → reE xs = 3) := fun h k => reE_b (by rw [lx.out]; exact h) (by rw [lx.out]; exact k)
  have RC : Hid (76 + numN (xs.drop 74) 2 < n → reE xs = 2) := fun h => reE_c (by rw [lx.out]; exact h)
  have RD : Hid (n = 76 + numN (xs.drop 74) 2 → okX xs = false → reE xs = 2) := fun h => reE_d (by rw [lx.out]; exact h)
  have RE : Hid (n = 76 + numN (xs.drop 74) 2 → okX xs = true → reE xs = 0) := fun h => reE_e (by rw [lx.out]; exact h)
  have SETTLE : Hid (∀ (z : Int) (w' : World), reE xs = z → z ≠ 0 → Ext w w' → RenvP xs w (.returned (.tuple #[.agg evz.toArray, .int .i64 z])) w') := fun z w' h1 h2 h3 => ⟨h3, .inl ⟨by rw [h1]; exact h2, by rw [h1]⟩⟩
  obtain ⟨ez, hez⟩ : ∃ ez, ez = evz := ⟨_, rfl⟩
  rw [← hez] at hal hbz L_hz O_hz SETTLE
  have S_hz : ez.toArray.size = 69 := by rw [List.size_toArray, L_hz]
  clear hez
  obtain ⟨r, hr⟩ : ∃ r, r = w.heap.size := ⟨_, rfl⟩
  have B0 : Hid (Cb (w.alloc (Obj.cells ez.toArray 35)) r 35 ez ∧ Ext w (w.alloc (Obj.cells ez.toArray 35))) := by rw [hr]; exact ⟨Cb.new _ _ _, (Ext.refl w).alloc _⟩
  rcases Nat.lt_or_ge n 76 with h1 | h1
  · have u1 : decide ((n : Int) < 76) = true := decide_eq_true (by omega)
    have E := Lib.hid (RA.out h1)
    clear RA RB RC RD RE hb
    go_enter Try.func20, Try.ntmps20
    go_upto_region 1 with fail
    refine wp_gen (fun W => Cb W r 35 ez ∧ Ext w W) B0.out ?_
    rw [← hr]
    have wr_ : w.heap.size ≤ r := Nat.le_of_eq hr.symm
    clear B0
    replace hr := Lib.hid hr
    rintro w0 ⟨k0, x0⟩
    replace k0 := Lib.hid k0
    replace x0 := Lib.hid x0
    go_wp2_with (first
      | (refine wpList_build_as rfl _ _ rfl ez.toArray (by simp only [List.map_toArray, List.map_nil]; exact hbz.out) ?_; simp only [Act.put, List.setIfInBounds_toArray, List.set_cons_zero, List.set_cons_succ])
      | (refine wpList_store_row rfl 35 _ _ rfl r ez.toArray rfl rfl 35 _ k0.out (by rw [S_hz]; rfl) rfl O_hz.out ?_; simp only [Act.put, List.setIfInBounds_toArray, List.set_cons_zero, List.set_cons_succ]))
    (try simp only [Exit.inBlock, Exit.then])
    refine bodyPost_ret (results_rre rfl rfl (setRow_heap _ _ _ _ _ _ k0.out) L_hz) rfl ?_
    exact SETTLE.out 3 _ E.out (by decide) (below_setRow x0.out wr_ _)
  obtain ⟨b, off, rfl, hbb, hcl⟩ := hb.pos (by omega)
  have u1 : decide ((n : Int) < 76) = false := decide_eq_false (by omega)
  have OA : Hid (∀ W, Ext w W → Calls Try.prog 46 #[.slice (some ⟨b, off + 74, none⟩) 2 (c - 74)] W fun e w' => e = .returned (.int .u64 (numN (xs.drop 74) 2 : Int)) ∧ Ext W w') := fun W e => by
    have := refOfHigh_calls (m := 2) ((hb.sub (i := 74) (k := 2) (by omega)).ext e) (by omega) (Nat.le_refl _) (.inl rfl)
    rw [List.take_take] at this
    exact this.mono fun e w' q => ⟨q.1, by rw [q.2]; exact Ext.refl _⟩
  have KEY : Hid (∀ W, Ext w W → Calls Try.prog 47 #[.slice (some ⟨b, off + 2, none⟩) (n - 2) (c - 2)] W fun e w' => e = .returned (.agg (cellsOf ((xs.drop 2).take 32)).toArray) ∧ Ext W w') := fun W e => rkey_calls ((hb.from (i := 2) (by omega)).ext e) (by omega)
  have OFH : Hid (∀ W, Ext w W → Calls Try.prog 39 #[.slice (some ⟨b, off + 34, none⟩) 40 (c - 34)] W fun e w' => e = .returned (.agg (hdC ((xs.drop 34).take 32) (numN (xs.drop 66) 4 : Int) (numN (xs.drop 70) 4 : Int)).toArray) ∧ Ext W w') := fun W e => by
    have := rof12_calls ((hb.sub (i := 34) (k := 40) (by omega)).ext e) (Nat.le_refl _)
    rw [List.take_take, List.drop_take, List.drop_take, List.drop_drop, List.drop_drop] at this
    unfold numN at this ⊢
    rw [List.take_take, List.take_take] at this
    exact this
  have BB : Hid (∀ W, Ext w W → Bs W (if c = 76 then some ⟨b, off, none⟩ else some ⟨b, off + 76, none⟩) (n - 76) (c - 76) (xs.drop 76)) := fun W e => by
    split
    · exact ⟨by rw [List.length_drop, lx.out], by omega, by unfold maxLen; omega, fun h => by omega⟩
    · exact (hb.from (i := 76) (by omega)).ext e
  have C0 : Hid (∀ W, Ext w W → W.cell? ⟨b, off, none⟩ = some (.int .u8 (numN xs 1 : Int)) ∧ W.cell? ⟨b, off + 1, none⟩ = some (.int .u8 (numN (xs.drop 1) 1 : Int))) := fun W e => ⟨by
    rw [numN_bt (by rw [lx.out]; omega)]; exact (e.cell hbb).trans (hcl 0 (by omega)), by
    rw [numN_bt (by rw [List.length_drop, lx.out]; omega), bt_drop]; exact (e.cell hbb).trans (hcl 1 (by omega))⟩
  have ltm := numN2_lt (xs.drop 74)
  have lt0 := numN1_lt xs
  have lt1 := numN1_lt (xs.drop 1)
  have L_cm : ((xs.drop 2).take 32).length = 32 := by rw [List.length_take, List.length_drop, lx.out]; omega
  have L_pk : ((xs.drop 34).take 32).length = 32 := by rw [List.length_take, List.length_drop, lx.out]; omega
  have FIN : Hid (∀ (A : Option Addr) (cc : Nat) (w' : World), reE xs = 0 → Ext w w' → Bs w' A (n - 76) cc (xs.drop 76) → RenvP xs w (.returned (.tuple #[.agg (evC (numN xs 1 : Int) (numN (xs.drop 1) 1 : Int) ((xs.drop 2).take 32) ((xs.drop 34).take 32) (numN (xs.drop 66) 4 : Int) (numN (xs.drop 70) 4 : Int) A (n - 76) cc).toArray, .int .i64 0])) w') := fun A cc w' h1 h2 h3 => ⟨h2, .inr ⟨h1, A, n - 76, cc, rfl, h3⟩⟩
  have VE : Hid (∀ (W : World) (A : Option Addr) (cc : Nat), Calls Try.prog 41 #[.agg (evC (numN xs 1 : Int) (numN (xs.drop 1) 1 : Int) ((xs.drop 2).take 32) ((xs.drop 34).take 32) (numN (xs.drop 66) 4 : Int) (numN (xs.drop 70) 4 : Int) A (n - 76) cc).toArray] W fun e w' => e = .returned (.bool (okX xs)) ∧ Ext W w') := fun W A cc => by
    have := rightEnvelope_calls (w := W) (f := (numN xs 1 : Int)) (t := (numN (xs.drop 1) 1 : Int)) (p := (numN (xs.drop 66) 4 : Int)) (n := (numN (xs.drop 70) 4 : Int)) (A := A) (m := n - 76) (c := cc) L_cm L_pk (by omega)
    unfold okX
    rw [lx.out]
    exact this
  have c1 : IntKind.i64.wrap (numN (xs.drop 74) 2 : Int) = (numN (xs.drop 74) 2 : Int) := IntWalk.i64_in _ (by omega)
  have c2 : IntKind.i64.wrap (numN xs 1 : Int) = (numN xs 1 : Int) := IntWalk.i64_in _ (by omega)
  have c3 : IntKind.i64.wrap (numN (xs.drop 1) 1 : Int) = (numN (xs.drop 1) 1 : Int) := IntWalk.i64_in _ (by omega)
  clear hb hcl RA
  generalize numN (xs.drop 74) 2 = m at *
  generalize numN xs 1 = v0 at *
  generalize numN (xs.drop 1) 1 = v1 at *
  generalize numN (xs.drop 66) 4 = vp at *
  generalize numN (xs.drop 70) 4 = vn at *
  generalize (xs.drop 2).take 32 = cm at *
  generalize (xs.drop 34).take 32 = pk at *
  generalize xs.drop 76 = body at *
  have c4 : IntKind.i64.wrap (76 + (m : Int)) = 76 + (m : Int) := IntWalk.i64_in _ (by omega)
  have q1 : (74 : Int) ≤ (c : Int) := by omega
  have q2 : (76 : Int) ≤ (c : Int) := by omega
  have q3 : ¬ c = 74 := by omega
  have q5 : (2 : Int) ≤ (n : Int) := by omega
  have q6 : (2 : Int) ≤ (c : Int) := by omega
  have q7 : ¬ c = 2 := by omega
  have q8 : ¬ c = 34 := by omega
  have q9 : (76 : Int) ≤ (n : Int) := by omega
  have qa : (1 : Int) < (n : Int) := by omega
  have qb : 0 < n := by omega
  go_enter Try.func20, Try.ntmps20
  go_upto_region 1 with fail
  refine wp_gen (fun W => Cb W r 35 ez ∧ Ext w W) B0.out ?_
  rw [← hr]
  have wr_ : w.heap.size ≤ r := Nat.le_of_eq hr.symm
  clear B0
  replace hr := Lib.hid hr
  rintro w0 ⟨k0, x0⟩
  have OA0 := Lib.hid (OA.out _ x0)
  replace k0 := Lib.hid k0
  replace x0 := Lib.hid x0
  go_wp2_with fail
  refine OA0.out.mono ?_
  rintro e w1 ⟨rfl, e1⟩
  replace k0 := Lib.hid (k0.out.ext e1)
  replace x0 := Lib.hid (x0.out.trans e1)
  clear OA0 e1
  rcases Nat.lt_or_ge n (76 + m) with h2 | h2
  · have u2 : decide ((n : Int) < 76 + (m : Int)) = true := decide_eq_true (by omega)
    have E := Lib.hid (RB.out h1 h2)
    clear RB RC RD RE
    go_wp2_with (first
      | (refine wpList_build_as rfl _ _ rfl ez.toArray (by simp only [List.map_toArray, List.map_nil]; exact hbz.out) ?_; simp only [Act.put, List.setIfInBounds_toArray, List.set_cons_zero, List.set_cons_succ])
      | (refine wpList_store_row rfl 35 _ _ rfl r ez.toArray rfl rfl 35 _ k0.out (by rw [S_hz]; rfl) rfl O_hz.out ?_; simp only [Act.put, List.setIfInBounds_toArray, List.set_cons_zero, List.set_cons_succ]))
    (try simp only [Exit.inBlock, Exit.then])
    refine bodyPost_ret (results_rre rfl rfl (setRow_heap _ _ _ _ _ _ k0.out) L_hz) rfl ?_
    exact SETTLE.out 3 _ E.out (by decide) (below_setRow x0.out wr_ _)
  have u2 : decide ((n : Int) < 76 + (m : Int)) = false := decide_eq_false (by omega)
  clear RB
  have hoff : off + 0 = off := rfl
  have L_ev : ∀ A cc, (evC (v0 : Int) (v1 : Int) cm pk (vp : Int) (vn : Int) A (n - 76) cc).length = 69 := fun A cc => evC_len L_cm L_pk _ _ _ _ _ _ _
  have BLT := Lib.hid (fun (A : Option Addr) (cc : Nat) => env_built (f := (v0 : Int)) (t := (v1 : Int)) (p := (vp : Int)) (n := (vn : Int)) (A := A) (m := n - 76) (c := cc) L_cm L_pk)
  have O_ev := Lib.hid (fun (A : Option Addr) (cc : Nat) => ev_one (f := (v0 : Int)) (t := (v1 : Int)) (cm := cm) (pk := pk) (p := (vp : Int)) (n := (vn : Int)) (A := A) (m := n - 76) (c := cc))
  replace L_ev := Lib.hid L_ev
  have Q1 : Hid (∀ s, Ext w1 s → Cb s r 35 ez ∧ Ext w s) := fun s e => ⟨k0.out.ext e, x0.out.trans e⟩
  have KZ0 : Hid (Cb w1.drew r 35 ez) := k0.out.ext (Ext.refl _).drew
  clear k0 x0
  go_upto_region 3 with fail
  obtain ⟨hd, hhd⟩ : ∃ hd, hd = hdC pk (vp : Int) (vn : Int) := ⟨_, rfl⟩
  replace hhd := Lib.hid (fun _ : Unit => hhd)
  refine wp_region_free (R := Ext) Ext.refl (fun _ _ _ => Ext.trans) [0, 1, 2, 3, 4, 5, 6, 7, 8, 9, 10, 11, 12, 13, 14, 15, 16, 17, 18, 19] [20] [0, 1, 3, 7, 0, 16, 48, 112, 0, 256, 768, 0, 2048, 7936, 0, 0, 32768, 130816, 262143, 0, 1048575] [true, true, true, true, true, true, true, true, true, true, true, true, true, true, true, true, true, true, true, true, false] [(0, 20, 2), (1, 21, 1048576), (2, 22, 2097152), (4, 23, 4194304), (0, 24, 2), (16, 25, 16777216), (32, 26, 33554432), (64, 27, 67108864), (0, 28, 2), (256, 29, 268435456), (512, 30, 536870912), (0, 31, 2), (2048, 32, 2147483648), (5120, 33, 4294967296), (0, 34, 0), (0, 35, 2), (32768, 36, 34359738368), (90112, 37, 85899345920), (140424, 38, 147245236224), (0, 5, 0), (1048575, 0, 274877906976)] (by kernel_rfl) (by kernel_rfl) (by kernel_rfl) (by kernel_rfl) ?_
  refine free_det (fun _ => Ext.refl _) _ rfl (v := ?_) (d := 20) rfl rfl ?_ ?_
  rotate_left
  · intro a_ w_ hev hR hk
    have e0 : a_.eval (.tmp 0) = _ := hk 0 rfl
    clear hk
    generalize a_.eval = ev at *
    obtain ⟨hev1, hev2, hev3⟩ := hev
    go_simp
    (try with_reducible rfl)
  refine free_det (fun _ => Ext.refl _) _ rfl (v := ?_) (d := 21) rfl rfl ?_ ?_
  rotate_left
  · intro a_ w_ hev hR hk
    have e19 : a_.eval (.tmp 19) = _ := hk 19 rfl
    clear hk
    generalize a_.eval = ev at *
    obtain ⟨hev1, hev2, hev3⟩ := hev
    go_simp
    (try with_reducible rfl)
  refine free_det (fun _ => Ext.refl _) _ rfl (v := ?_) (d := 22) rfl rfl ?_ ?_
  rotate_left
  · intro a_ w_ hev hR hk
    have e20 : a_.eval (.tmp 20) = _ := hk 20 rfl
    clear hk
    have hF := ((C0.out w_ (Q1.out w_ (Ext.trans (Ext.refl _).drew hR)).2).1)
    generalize a_.eval = ev at *
    obtain ⟨hev1, hev2, hev3⟩ := hev
    go_simp
    (try with_reducible rfl)
  refine free_det (fun _ => Ext.refl _) _ rfl (v := ?_) (d := 23) rfl rfl ?_ ?_
  rotate_left
  · intro a_ w_ hev hR hk
    have e21 : a_.eval (.tmp 21) = _ := hk 21 rfl
    clear hk
    generalize a_.eval = ev at *
    obtain ⟨hev1, hev2, hev3⟩ := hev
    go_simp
    (try with_reducible rfl)
  refine free_det (fun _ => Ext.refl _) _ rfl (v := ?_) (d := 24) rfl rfl ?_ ?_
  rotate_left
  · intro a_ w_ hev hR hk
    have e0 : a_.eval (.tmp 0) = _ := hk 0 rfl
    clear hk
    generalize a_.eval = ev at *
    obtain ⟨hev1, hev2, hev3⟩ := hev
    go_simp
    (try with_reducible rfl)
  refine free_det (fun _ => Ext.refl _) _ rfl (v := ?_) (d := 25) rfl rfl ?_ ?_
  rotate_left
  · intro a_ w_ hev hR hk
    have e23 : a_.eval (.tmp 23) = _ := hk 23 rfl
    clear hk
    generalize a_.eval = ev at *
    obtain ⟨hev1, hev2, hev3⟩ := hev
    go_simp
    (try with_reducible rfl)
  refine free_det (fun _ => Ext.refl _) _ rfl (v := ?_) (d := 26) rfl rfl ?_ ?_
  rotate_left
  · intro a_ w_ hev hR hk
    have e24 : a_.eval (.tmp 24) = _ := hk 24 rfl
    clear hk
    have hF := ((C0.out w_ (Q1.out w_ (Ext.trans (Ext.refl _).drew hR)).2).2)
    generalize a_.eval = ev at *
    obtain ⟨hev1, hev2, hev3⟩ := hev
    go_simp
    (try with_reducible rfl)
  refine free_det (fun _ => Ext.refl _) _ rfl (v := ?_) (d := 27) rfl rfl ?_ ?_
  rotate_left
  · intro a_ w_ hev hR hk
    have e25 : a_.eval (.tmp 25) = _ := hk 25 rfl
    clear hk
    generalize a_.eval = ev at *
    obtain ⟨hev1, hev2, hev3⟩ := hev
    go_simp
    (try with_reducible rfl)
  refine free_det (fun _ => Ext.refl _) _ rfl (v := ?_) (d := 28) rfl rfl ?_ ?_
  rotate_left
  · intro a_ w_ hev hR hk
    have e0 : a_.eval (.tmp 0) = _ := hk 0 rfl
    clear hk
    generalize a_.eval = ev at *
    obtain ⟨hev1, hev2, hev3⟩ := hev
    go_simp
    (try with_reducible rfl)
  refine free_det (fun _ => Ext.refl _) _ rfl (v := ?_) (d := 29) rfl rfl ?_ ?_
  rotate_left
  · intro a_ w_ hev hR hk
    have e27 : a_.eval (.tmp 27) = _ := hk 27 rfl
    clear hk
    generalize a_.eval = ev at *
    obtain ⟨hev1, hev2, hev3⟩ := hev
    go_simp
    (try with_reducible rfl)
  refine free_step _ rfl (fun u _ => u = .agg (cellsOf cm).toArray) (d := 30) rfl (fun _ _ _ h _ => h) rfl ?_ ?_
  · intro a_ w_ hev hR hk K1 hK1
    have e28 : a_.eval (.tmp 28) = _ := hk 28 rfl
    clear hk
    have f28 := ev_get.trans e28
    go_simp
    refine (KEY.out _ (Q1.out w_ (Ext.trans (Ext.refl _).drew hR)).2).mono ?_
    rintro e_ w2_ ⟨rfl, x_⟩
    exact hK1.out _ _ x_ rfl
  refine free_det (fun _ => Ext.refl _) _ rfl (v := ?_) (d := 31) rfl rfl ?_ ?_
  rotate_left
  · intro a_ w_ hev hR hk
    have e0 : a_.eval (.tmp 0) = _ := hk 0 rfl
    clear hk
    generalize a_.eval = ev at *
    obtain ⟨hev1, hev2, hev3⟩ := hev
    go_simp
    (try with_reducible rfl)
  refine free_det (fun _ => Ext.refl _) _ rfl (v := ?_) (d := 32) rfl rfl ?_ ?_
  rotate_left
  · intro a_ w_ hev hR hk
    have e30 : a_.eval (.tmp 30) = _ := hk 30 rfl
    clear hk
    generalize a_.eval = ev at *
    obtain ⟨hev1, hev2, hev3⟩ := hev
    go_simp
    (try with_reducible rfl)
  refine free_step _ rfl (fun u _ => u = .agg (hdC pk (vp : Int) (vn : Int)).toArray) (d := 33) rfl (fun _ _ _ h _ => h) rfl ?_ ?_
  · intro a_ w_ hev hR hk K1 hK1
    have e31 : a_.eval (.tmp 31) = _ := hk 31 rfl
    clear hk
    have f31 := ev_get.trans e31
    go_simp
    refine (OFH.out _ (Q1.out w_ (Ext.trans (Ext.refl _).drew hR)).2).mono ?_
    rintro e_ w2_ ⟨rfl, x_⟩
    exact hK1.out _ _ x_ rfl
  refine free_step _ rfl (fun u _ => ∃ p, u = .slice (some p) 0 0) (d := 34) rfl (fun _ _ _ h _ => h) rfl ?_ ?_
  · intro a_ w_ hev hR hk K1 hK1
    go_simp
    exact hK1.out _ _ ((Ext.refl _).alloc _) ⟨_, rfl⟩
  refine free_det (fun _ => Ext.refl _) _ rfl (v := ?_) (d := 35) rfl rfl ?_ ?_
  rotate_left
  · intro a_ w_ hev hR hk
    have e0 : a_.eval (.tmp 0) = _ := hk 0 rfl
    clear hk
    generalize a_.eval = ev at *
    obtain ⟨hev1, hev2, hev3⟩ := hev
    go_simp
    (try with_reducible rfl)
  refine free_det (fun _ => Ext.refl _) _ rfl (v := ?_) (d := 36) rfl rfl ?_ ?_
  rotate_left
  · intro a_ w_ hev hR hk
    have e34 : a_.eval (.tmp 34) = _ := hk 34 rfl
    clear hk
    generalize a_.eval = ev at *
    obtain ⟨hev1, hev2, hev3⟩ := hev
    go_simp
    (try with_reducible rfl)
  refine free_step _ rfl (fun u w_ => ∃ A cc, u = .slice A (n - 76) cc ∧ BsT w_ A (n - 76) cc body) (d := 37) rfl (fun _ _ _ h e => by obtain ⟨A, cc, h1, h2⟩ := h; exact ⟨A, cc, h1, h2.ext e⟩) rfl ?_ ?_
  · intro a_ w_ hev hR hk K1 hK1
    obtain ⟨p_, e33⟩ : ∃ p, a_.eval (.tmp 33) = .slice (some p) 0 0 := hk 33 rfl
    have e35 : a_.eval (.tmp 35) = _ := hk 35 rfl
    refine wp_append_emptyT rfl e33 e35 (BB.out _ (Q1.out w_ (Ext.trans (Ext.refl _).drew hR)).2) (by omega) ?_
    intro A2 c2 w2 b2 x2
    exact hK1.out _ _ x2 ⟨A2, c2, rfl, b2⟩
  refine free_step _ rfl (fun u w_ => ∃ A cc, u = .agg (evC (v0 : Int) (v1 : Int) cm pk (vp : Int) (vn : Int) A (n - 76) cc).toArray ∧ BsT w_ A (n - 76) cc body) (d := 38) rfl (fun _ _ _ h e => by obtain ⟨A, cc, h1, h2⟩ := h; exact ⟨A, cc, h1, h2.ext e⟩) rfl ?_ ?_
  · intro a_ w_ hev hR hk K1 hK1
    obtain ⟨A_, cc_, e36, b36⟩ : ∃ A cc, a_.eval (.tmp 36) = .slice A (n - 76) cc ∧ BsT w_ A (n - 76) cc body := hk 36 rfl
    have e22 : a_.eval (.tmp 22) = _ := hk 22 rfl
    have e26 : a_.eval (.tmp 26) = _ := hk 26 rfl
    have e29 : a_.eval (.tmp 29) = _ := hk 29 rfl
    have e32 : a_.eval (.tmp 32) = _ := hk 32 rfl
    unfold Oper.wp
    rw [exec_build_as rfl (by simp only [List.map_toArray, List.map_cons, List.map_nil, e22, e26, e29, e32, e36]; exact BLT.out A_ cc_)]
    exact hK1.out _ _ (Ext.refl _) ⟨A_, cc_, rfl, b36⟩
  refine free_new _ rfl (fun u w_ => ∃ g, u = .pointer (some ⟨g, 0, none⟩) ∧ w1.drew.heap.size ≤ g ∧ w_.heap[g]? = some (.cells ez.toArray 35 (0, 0))) (d := 5) rfl (fun _ _ _ h e => by obtain ⟨g, h1, h2, h3⟩ := h; exact ⟨g, h1, h2, (e.block g (heap_lt h3)).trans h3⟩) rfl (by decide) (fun _ _ h => by obtain ⟨g, h1, h2, h3⟩ := h; subst h1; exact ⟨g, rfl, heap_lt h3⟩) ?_ ?_
  · intro a_ w_ hev hR hk K1 hK1
    go_simp
    exact hK1.out _ _ ((Ext.refl _).alloc _) ⟨_, rfl, hR.size, heap_alloc_new _ _⟩ (fun _ q => by cases q; exact Nat.le_refl _)
  intro v_ w2 hR hV_ hN_
  obtain ⟨hv19, hv18, hv17, hv16, hv15, hv14, hv13, hv12, hv11, hv10, hv9, hv8, hv7, hv6, hv5, hv4, hv3, hv2, hv1, hv0, _⟩ := hV_
  replace hv0 : v_ 0 = _ := hv0
  replace hv1 : v_ 1 = _ := hv1
  replace hv2 : v_ 2 = _ := hv2
  replace hv3 : v_ 3 = _ := hv3
  replace hv4 : v_ 4 = _ := hv4
  replace hv5 : v_ 5 = _ := hv5
  replace hv6 : v_ 6 = _ := hv6
  replace hv7 : v_ 7 = _ := hv7
  replace hv8 : v_ 8 = _ := hv8
  replace hv9 : v_ 9 = _ := hv9
  replace hv10 : v_ 10 = _ := hv10
  replace hv11 : v_ 11 = _ := hv11
  replace hv12 : v_ 12 = _ := hv12
  replace hv13 : v_ 13 = _ := hv13
  skip
  replace hv15 : v_ 15 = _ := hv15
  replace hv16 : v_ 16 = _ := hv16
  skip
  skip
  skip
  dsimp only [putE, dOpt]
  obtain ⟨p_14, hv14⟩ := hv14
  obtain ⟨A_17, cc_17, hv17, hb17⟩ := hv17
  obtain ⟨A_18, cc_18, hv18, hb18⟩ := hv18
  obtain ⟨g_19, hv19, gb_19, gc_19⟩ := hv19
  clear hN_
  rw [hv0, hv1, hv2, hv3, hv4, hv5, hv6, hv7, hv8, hv9, hv10, hv11, hv12, hv13, hv14, hv15, hv16, hv17, hv18, hv19]
  simp only [Act.put, List.setIfInBounds_toArray, List.set_cons_zero, List.set_cons_succ]
  clear hv0 hv1 hv2 hv3 hv4 hv5 hv6 hv7 hv8 hv9 hv10 hv11 hv12 hv13 hv14 hv15 hv16 hv17 hv18 hv19
  have kz := Lib.hid (Q1.out w2 ((Ext.refl _).drew.trans hR))
  have L_e := L_ev.out A_18 cc_18
  have O_e : Hid ((evC (v0 : Int) (v1 : Int) cm pk (vp : Int) (vn : Int) A_18 (n - 76) cc_18).toArray.all (·.oneCell') = true) := O_ev.out A_18 cc_18
  obtain ⟨ev, hev⟩ : ∃ ev, ev = evC (v0 : Int) (v1 : Int) cm pk (vp : Int) (vn : Int) A_18 (n - 76) cc_18 := ⟨_, rfl⟩
  rw [← hev] at L_e O_e ⊢
  have S_e : ev.toArray.size = 69 := by rw [List.size_toArray, L_e]
  have kg := Lib.hid gc_19
  have hb18' := Lib.hid hb18
  have C8 : Hid (ev[68]? = some (.slice A_18 (n - 76) cc_18)) := by unfold Hid; rw [hev]; exact (ev_cells L_cm L_pk _ _ _ _ _ _ _).2.2.1
  have VEc : Hid (∀ (W : World), Calls Try.prog 41 #[.agg ev.toArray] W fun e w' => e = .returned (.bool (okX xs)) ∧ Ext W w') := fun W => by rw [hev]; exact VE.out W A_18 cc_18
  have FINc : Hid (∀ (w' : World), reE xs = 0 → Ext w w' → Bs w' A_18 (n - 76) cc_18 body → RenvP xs w (.returned (.tuple #[.agg ev.toArray, .int .i64 0])) w') := fun w' h1 h2 h3 => by rw [hev]; exact FIN.out A_18 cc_18 w' h1 h2 h3
  clear hb17 hb18 hR Q1 VE FIN BLT O_ev L_ev hev gc_19 hhd
  refine any_more (z := 20) _ rfl rfl (by kernel_rfl) ?_
  intro K1 hK1
  refine wp_store_row _ _ _ rfl g_19 ev.toArray rfl rfl 35 ez.toArray kg.out (by rw [S_e]; rfl) (by rw [S_e, S_hz]) O_e.out ?_
  refine hK1.out _ _ ?_
  clear hK1 K1
  refine any_nil (by kernel_rfl) ?_
  refine gen_q (fun W => Cb W g_19 35 ev ∧ Cb W r 35 ez ∧ BsT W A_18 (n - 76) cc_18 body ∧ Ext w W) ⟨setRow_heap _ _ _ _ _ _ kg.out, (setRow_other _ _ _ _ (by have := kz.out.1.lt; have := Nat.lt_of_lt_of_le (heap_lt KZ0.out) gb_19; omega)).trans kz.out.1, hb18'.out.row kg.out (by decide), below_setRow kz.out.2 (Nat.le_trans (Nat.le_of_lt (Nat.lt_of_le_of_lt wr_ (heap_lt KZ0.out))) gb_19) _⟩ ?_
  clear kz kg hb18' gb_19 KZ0
  rintro w3 ⟨k3, k0, b3, x0⟩
  have f3 := k3.cell C8.out
  have Q3 : Hid (∀ s, Ext w3 s → Cb s g_19 35 ev ∧ Cb s r 35 ez ∧ BsT s A_18 (n - 76) cc_18 body ∧ Ext w s) := fun s e => ⟨k3.ext e, k0.ext e, b3.ext e, x0.trans e⟩
  have F68 : Hid (∀ s, Ext w3 s → s.cell? ⟨g_19, 68, none⟩ = some (.slice A_18 (n - 76) cc_18)) := fun s e => (k3.ext e).cell C8.out
  clear k3 k0 b3 x0 f3
  have d1 : IntKind.i64.wrap (m : Int) = (m : Int) := c1
  clear BB
  generalize (if c = 76 then some (⟨b, off, none⟩ : Addr) else some ⟨b, off + 76, none⟩) = A35 at *
  rcases Nat.lt_or_ge (76 + m) n with h3 | h3
  · have u3 : (((n - 76 : Nat) : Int) != (m : Int)) = true := by simp; omega
    have E := Lib.hid (RC.out h3)
    clear RC RD RE VEc FINc
    go_upto_region 4 with fail
    refine wp_region_free (R := Ext) Ext.refl (fun _ _ _ => Ext.trans) [0, 1, 2, 3, 4, 5, 6, 7, 8, 9, 10, 11, 12] [] [0, 1, 3, 0, 8, 24, 56, 127, 255, 511, 1023, 2047, 4095] [true, true, true, true, true, true, true, true, true, true, true, true, true] [(0, 39, 32), (1, 40, 549755813888), (2, 41, 1099511627776), (0, 42, 2), (8, 43, 4398046511104), (16, 44, 8796093022208), (32, 45, 17592186044416), (68, 46, 37383395344384), (160, 47, 70368744177664), (256, 48, 140737488355360), (768, 49, 422212465065984), (1280, 50, 703687441776640), (2304, 51, 1266637395197952)] (by kernel_rfl) (by kernel_rfl) (by kernel_rfl) (by kernel_rfl) ?_
    refine free_det (fun _ => Ext.refl _) _ rfl (v := ?_) (d := 39) rfl rfl ?_ ?_
    rotate_left
    · intro a_ w_ hev hR hk
      have e4 : a_.eval (.tmp 4) = _ := hk 4 rfl
      clear hk
      generalize a_.eval = ev at *
      obtain ⟨hev1, hev2, hev3⟩ := hev
      go_simp
      (try with_reducible rfl)
    refine free_det (fun _ => Ext.refl _) _ rfl (v := ?_) (d := 40) rfl rfl ?_ ?_
    rotate_left
    · intro a_ w_ hev hR hk
      have e38 : a_.eval (.tmp 38) = _ := hk 38 rfl
      clear hk
      have hF := (F68.out w_ (Ext.trans (Ext.refl _).drew hR))
      generalize a_.eval = ev at *
      obtain ⟨hev1, hev2, hev3⟩ := hev
      go_simp
      (try with_reducible rfl)
    refine free_det (fun _ => Ext.refl _) _ rfl (v := ?_) (d := 41) rfl rfl ?_ ?_
    rotate_left
    · intro a_ w_ hev hR hk
      have e39 : a_.eval (.tmp 39) = _ := hk 39 rfl
      clear hk
      generalize a_.eval = ev at *
      obtain ⟨hev1, hev2, hev3⟩ := hev
      go_simp
      (try with_reducible rfl)
    refine free_det (fun _ => Ext.refl _) _ rfl (v := ?_) (d := 42) rfl rfl ?_ ?_
    rotate_left
    · intro a_ w_ hev hR hk
      have e0 : a_.eval (.tmp 0) = _ := hk 0 rfl
      clear hk
      generalize a_.eval = ev at *
      obtain ⟨hev1, hev2, hev3⟩ := hev
      go_simp
      (try with_reducible rfl)
    refine free_det (fun _ => Ext.refl _) _ rfl (v := ?_) (d := 43) rfl rfl ?_ ?_
    rotate_left
    · intro a_ w_ hev hR hk
      have e41 : a_.eval (.tmp 41) = _ := hk 41 rfl
      clear hk
      generalize a_.eval = ev at *
      obtain ⟨hev1, hev2, hev3⟩ := hev
      go_simp
      (try with_reducible rfl)
    refine free_step _ rfl (fun u _ => u = .int .u64 (m : Int)) (d := 44) rfl (fun _ _ _ h _ => h) rfl ?_ ?_
    · intro a_ w_ hev hR hk K1 hK1
      have e42 : a_.eval (.tmp 42) = _ := hk 42 rfl
      clear hk
      have f42 := ev_get.trans e42
      go_simp
      refine (OA.out _ (Q3.out w_ (Ext.trans (Ext.refl _).drew hR)).2.2.2).mono ?_
      rintro e_ w2_ ⟨rfl, x_⟩
      exact hK1.out _ _ x_ rfl
    refine free_det (fun _ => Ext.refl _) _ rfl (v := ?_) (d := 45) rfl rfl ?_ ?_
    rotate_left
    · intro a_ w_ hev hR hk
      have e43 : a_.eval (.tmp 43) = _ := hk 43 rfl
      clear hk
      generalize a_.eval = ev at *
      obtain ⟨hev1, hev2, hev3⟩ := hev
      go_simp
      (try with_reducible rfl)
    refine free_det (fun _ => Ext.refl _) _ rfl (v := ?_) (d := 46) rfl rfl ?_ ?_
    rotate_left
    · intro a_ w_ hev hR hk
      have e40 : a_.eval (.tmp 40) = _ := hk 40 rfl
      have e44 : a_.eval (.tmp 44) = _ := hk 44 rfl
      clear hk
      generalize a_.eval = ev at *
      obtain ⟨hev1, hev2, hev3⟩ := hev
      go_simp
      (try with_reducible rfl)
    refine free_det (fun _ => Ext.refl _) _ rfl (v := ?_) (d := 47) rfl rfl ?_ ?_
    rotate_left
    · intro a_ w_ hev hR hk
      have e45 : a_.eval (.tmp 45) = _ := hk 45 rfl
      clear hk
      generalize a_.eval = ev at *
      obtain ⟨hev1, hev2, hev3⟩ := hev
      go_simp
      (try with_reducible rfl)
    refine free_skip (fun _ => Ext.refl _) _ rfl (d := 48) rfl 46 false rfl rfl (fun _ _ h => h) ?_
    refine free_skip (fun _ => Ext.refl _) _ rfl (d := 49) rfl 46 false rfl rfl (fun _ _ h => h) ?_
    refine free_skip (fun _ => Ext.refl _) _ rfl (d := 50) rfl 46 false rfl rfl (fun _ _ h => h) ?_
    refine free_det (fun _ => Ext.refl _) _ rfl (v := ?_) (d := 51) rfl rfl ?_ ?_
    rotate_left
    · intro a_ w_ hev hR hk
      have e46 : a_.eval (.tmp 46) = _ := hk 46 rfl
      have e49 : a_.eval (.tmp 49) = _ := hk 49 rfl
      clear hk
      generalize a_.eval = ev at *
      obtain ⟨hev1, hev2, hev3⟩ := hev
      go_simp
      (try with_reducible rfl)
    intro v_ w4 hR hV_ hN_
    obtain ⟨hv12, hv11, hv10, hv9, hv8, hv7, hv6, hv5, hv4, hv3, hv2, hv1, hv0, _⟩ := hV_
    replace hv0 : v_ 0 = _ := hv0
    replace hv1 : v_ 1 = _ := hv1
    replace hv2 : v_ 2 = _ := hv2
    replace hv3 : v_ 3 = _ := hv3
    replace hv4 : v_ 4 = _ := hv4
    replace hv5 : v_ 5 = _ := hv5
    replace hv6 : v_ 6 = _ := hv6
    replace hv7 : v_ 7 = _ := hv7
    replace hv8 : v_ 8 = _ := hv8
    replace hv9 : v_ 9 = _ := hv9
    replace hv10 : v_ 10 = _ := hv10
    replace hv11 : v_ 11 = _ := hv11
    replace hv12 : v_ 12 = _ := hv12
    dsimp only [putE, dOpt]
    clear hN_
    rw [hv0, hv1, hv2, hv3, hv4, hv5, hv6, hv7, hv8, hv9, hv10, hv11, hv12]
    simp only [Act.put, List.setIfInBounds_toArray, List.set_cons_zero, List.set_cons_succ]
    clear hv0 hv1 hv2 hv3 hv4 hv5 hv6 hv7 hv8 hv9 hv10 hv11 hv12
    refine any_nil (by kernel_rfl) ?_
    have k0 := Lib.hid (Q3.out w4 ((Ext.refl _).drew.trans hR))
    clear hR Q3 F68
    go_wp2_with (first
      | (refine wpList_build_as rfl _ _ rfl ez.toArray (by simp only [List.map_toArray, List.map_nil]; exact hbz.out) ?_; simp only [Act.put, List.setIfInBounds_toArray, List.set_cons_zero, List.set_cons_succ])
      | (refine wpList_store_row rfl 35 _ _ rfl r ez.toArray rfl rfl 35 _ k0.out.2.1 (by rw [S_hz]; rfl) rfl O_hz.out ?_; simp only [Act.put, List.setIfInBounds_toArray, List.set_cons_zero, List.set_cons_succ]))
    (try simp only [Exit.inBlock, Exit.then])
    refine bodyPost_ret (results_rre rfl rfl (setRow_heap _ _ _ _ _ _ k0.out.2.1) L_hz) rfl ?_
    exact SETTLE.out 2 _ E.out (by decide) (below_setRow k0.out.2.2.2 wr_ _)
  have hnm : Hid (n = 76 + m) := by unfold Hid; omega
  have u3 : (((n - 76 : Nat) : Int) != (m : Int)) = false := by simp; omega
  obtain ⟨bo, hbo⟩ : ∃ b, b = okX xs := ⟨_, rfl⟩
  rw [← hbo] at VEc RD RE
  clear hbo
  go_upto_region 4 with fail
  refine wp_region_free (R := Ext) Ext.refl (fun _ _ _ => Ext.trans) [0, 1, 2, 3, 4, 5, 6, 7, 8, 9, 10, 11, 12] [] [0, 1, 3, 0, 8, 24, 56, 127, 255, 511, 1023, 2047, 4095] [true, true, true, true, true, true, true, true, true, true, true, true, true] [(0, 39, 32), (1, 40, 549755813888), (2, 41, 1099511627776), (0, 42, 2), (8, 43, 4398046511104), (16, 44, 8796093022208), (32, 45, 17592186044416), (68, 46, 37383395344384), (160, 47, 70368744177664), (256, 48, 140737488355360), (768, 49, 422212465065984), (1280, 50, 703687441776640), (2304, 51, 1266637395197952)] (by kernel_rfl) (by kernel_rfl) (by kernel_rfl) (by kernel_rfl) ?_
  refine free_det (fun _ => Ext.refl _) _ rfl (v := ?_) (d := 39) rfl rfl ?_ ?_
  rotate_left
  · intro a_ w_ hev hR hk
    have e4 : a_.eval (.tmp 4) = _ := hk 4 rfl
    clear hk
    generalize a_.eval = ev at *
    obtain ⟨hev1, hev2, hev3⟩ := hev
    go_simp
    (try with_reducible rfl)
  refine free_det (fun _ => Ext.refl _) _ rfl (v := ?_) (d := 40) rfl rfl ?_ ?_
  rotate_left
  · intro a_ w_ hev hR hk
    have e38 : a_.eval (.tmp 38) = _ := hk 38 rfl
    clear hk
    have hF := (F68.out w_ (Ext.trans (Ext.refl _).drew hR))
    generalize a_.eval = ev at *
    obtain ⟨hev1, hev2, hev3⟩ := hev
    go_simp
    (try with_reducible rfl)
  refine free_det (fun _ => Ext.refl _) _ rfl (v := ?_) (d := 41) rfl rfl ?_ ?_
  rotate_left
  · intro a_ w_ hev hR hk
    have e39 : a_.eval (.tmp 39) = _ := hk 39 rfl
    clear hk
    generalize a_.eval = ev at *
    obtain ⟨hev1, hev2, hev3⟩ := hev
    go_simp
    (try with_reducible rfl)
  refine free_det (fun _ => Ext.refl _) _ rfl (v := ?_) (d := 42) rfl rfl ?_ ?_
  rotate_left
  · intro a_ w_ hev hR hk
    have e0 : a_.eval (.tmp 0) = _ := hk 0 rfl
    clear hk
    generalize a_.eval = ev at *
    obtain ⟨hev1, hev2, hev3⟩ := hev
    go_simp
    (try with_reducible rfl)
  refine free_det (fun _ => Ext.refl _) _ rfl (v := ?_) (d := 43) rfl rfl ?_ ?_
  rotate_left
  · intro a_ w_ hev hR hk
    have e41 : a_.eval (.tmp 41) = _ := hk 41 rfl
    clear hk
    generalize a_.eval = ev at *
    obtain ⟨hev1, hev2, hev3⟩ := hev
    go_simp
    (try with_reducible rfl)
  refine free_step _ rfl (fun u _ => u = .int .u64 (m : Int)) (d := 44) rfl (fun _ _ _ h _ => h) rfl ?_ ?_
  · intro a_ w_ hev hR hk K1 hK1
    have e42 : a_.eval (.tmp 42) = _ := hk 42 rfl
    clear hk
    have f42 := ev_get.trans e42
    go_simp
    refine (OA.out _ (Q3.out w_ (Ext.trans (Ext.refl _).drew hR)).2.2.2).mono ?_
    rintro e_ w2_ ⟨rfl, x_⟩
    exact hK1.out _ _ x_ rfl
  refine free_det (fun _ => Ext.refl _) _ rfl (v := ?_) (d := 45) rfl rfl ?_ ?_
  rotate_left
  · intro a_ w_ hev hR hk
    have e43 : a_.eval (.tmp 43) = _ := hk 43 rfl
    clear hk
    generalize a_.eval = ev at *
    obtain ⟨hev1, hev2, hev3⟩ := hev
    go_simp
    (try with_reducible rfl)
  refine free_det (fun _ => Ext.refl _) _ rfl (v := ?_) (d := 46) rfl rfl ?_ ?_
  rotate_left
  · intro a_ w_ hev hR hk
    have e40 : a_.eval (.tmp 40) = _ := hk 40 rfl
    have e44 : a_.eval (.tmp 44) = _ := hk 44 rfl
    clear hk
    generalize a_.eval = ev at *
    obtain ⟨hev1, hev2, hev3⟩ := hev
    go_simp
    (try with_reducible rfl)
  refine free_det (fun _ => Ext.refl _) _ rfl (v := ?_) (d := 47) rfl rfl ?_ ?_
  rotate_left
  · intro a_ w_ hev hR hk
    have e45 : a_.eval (.tmp 45) = _ := hk 45 rfl
    clear hk
    generalize a_.eval = ev at *
    obtain ⟨hev1, hev2, hev3⟩ := hev
    go_simp
    (try with_reducible rfl)
  refine free_detG (fun _ => Ext.refl _) _ rfl (v := .agg ev.toArray) (d := 48) rfl 46 false rfl rfl (fun _ _ h => h) ?_ ?_
  · intro a_ w_ hev hR hk
    have e4 : a_.eval (.tmp 4) = _ := hk 4 rfl
    exact (exec_load_row rfl (hk 4 rfl : a_.eval (.tmp 4) = _) (Q3.out w_ (Ext.trans (Ext.refl _).drew hR)).1 rfl rfl (by rw [S_e]; rfl))
  refine free_stepG _ rfl (fun u _ => u = .bool bo) (d := 49) rfl (fun _ _ _ h _ => h) 46 false rfl rfl (fun _ _ h => h) ?_ ?_
  · intro a_ w_ hev hR hk K1 hK1
    have e47 : a_.eval (.tmp 47) = _ := hk 47 rfl
    clear hk
    have f47 := ev_get.trans e47
    go_simp
    refine (VEc.out _).mono ?_
    rintro e_ w2_ ⟨rfl, x_⟩
    exact hK1.out _ _ x_ rfl
  refine free_detG (fun _ => Ext.refl _) _ rfl (v := ?_) (d := 50) rfl 46 false rfl rfl (fun _ _ h => h) ?_ ?_
  rotate_left
  · intro a_ w_ hev hR hk
    have e48 : a_.eval (.tmp 48) = _ := hk 48 rfl
    clear hk
    generalize a_.eval = ev at *
    obtain ⟨hev1, hev2, hev3⟩ := hev
    go_simp
    (try with_reducible rfl)
  refine free_det (fun _ => Ext.refl _) _ rfl (v := ?_) (d := 51) rfl rfl ?_ ?_
  rotate_left
  · intro a_ w_ hev hR hk
    have e46 : a_.eval (.tmp 46) = _ := hk 46 rfl
    have e49 : a_.eval (.tmp 49) = _ := hk 49 rfl
    clear hk
    generalize a_.eval = ev at *
    obtain ⟨hev1, hev2, hev3⟩ := hev
    go_simp
    (try with_reducible rfl)
  intro v_ w4 hR hV_ hN_
  obtain ⟨hv12, hv11, hv10, hv9, hv8, hv7, hv6, hv5, hv4, hv3, hv2, hv1, hv0, _⟩ := hV_
  replace hv0 : v_ 0 = _ := hv0
  replace hv1 : v_ 1 = _ := hv1
  replace hv2 : v_ 2 = _ := hv2
  replace hv3 : v_ 3 = _ := hv3
  replace hv4 : v_ 4 = _ := hv4
  replace hv5 : v_ 5 = _ := hv5
  replace hv6 : v_ 6 = _ := hv6
  replace hv7 : v_ 7 = _ := hv7
  replace hv8 : v_ 8 = _ := hv8
  replace hv9 : v_ 9 = _ := hv9
  replace hv10 : v_ 10 = _ := hv10
  replace hv11 : v_ 11 = _ := hv11
  replace hv12 : v_ 12 = _ := hv12
  dsimp only [putE, dOpt]
  clear hN_
  rw [hv0, hv1, hv2, hv3, hv4, hv5, hv6, hv7, hv8, hv9, hv10, hv11, hv12]
  simp only [Act.put, List.setIfInBounds_toArray, List.set_cons_zero, List.set_cons_succ]
  clear hv0 hv1 hv2 hv3 hv4 hv5 hv6 hv7 hv8 hv9 hv10 hv11 hv12
  refine any_nil (by kernel_rfl) ?_
  have k0 := Lib.hid (Q3.out w4 ((Ext.refl _).drew.trans hR))
  clear hR Q3 F68
  rcases bo with _ | _
  · have E := Lib.hid (RD.out hnm.out rfl)
    go_wp2_with (first
      | (refine wpList_build_as rfl _ _ rfl ez.toArray (by simp only [List.map_toArray, List.map_nil]; exact hbz.out) ?_; simp only [Act.put, List.setIfInBounds_toArray, List.set_cons_zero, List.set_cons_succ])
      | (refine wpList_store_row rfl 35 _ _ rfl r ez.toArray rfl rfl 35 _ k0.out.2.1 (by rw [S_hz]; rfl) rfl O_hz.out ?_; simp only [Act.put, List.setIfInBounds_toArray, List.set_cons_zero, List.set_cons_succ]))
    (try simp only [Exit.inBlock, Exit.then])
    refine bodyPost_ret (results_rre rfl rfl (setRow_heap _ _ _ _ _ _ k0.out.2.1) L_hz) rfl ?_
    exact SETTLE.out 2 _ E.out (by decide) (below_setRow k0.out.2.2.2 wr_ _)
  · have E := Lib.hid (RE.out hnm.out rfl)
    go_wp2_with (first
      | (refine wpList_load_row rfl 35 _ rfl g_19 rfl 35 ev.toArray (0, 0) _ k0.out.1 rfl rfl (by rw [S_e]; rfl) ?_; simp only [Act.put, List.setIfInBounds_toArray, List.set_cons_zero, List.set_cons_succ])
      | (refine wpList_store_row rfl 35 _ _ rfl r ev.toArray rfl rfl 35 _ k0.out.2.1 (by rw [S_e]; rfl) (by rw [S_e, S_hz]) O_e.out ?_; simp only [Act.put, List.setIfInBounds_toArray, List.set_cons_zero, List.set_cons_succ]))
    (try simp only [Exit.inBlock, Exit.then])
    refine bodyPost_ret (results_rre rfl rfl (setRow_heap _ _ _ _ _ _ k0.out.2.1) L_e) rfl ?_
    exact FINc.out _ E.out (below_setRow k0.out.2.2.2 wr_ _) (k0.out.2.2.1.row k0.out.2.1 (by decide)).1
end Go.Proofs.Ytojgmgghlkpfoaa
