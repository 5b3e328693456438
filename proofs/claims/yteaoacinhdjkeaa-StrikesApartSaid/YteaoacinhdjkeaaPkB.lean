import Derived.Test.YteaoacinhdjkeaaSt23g
section
/-
  Strikes: Add, Clear.
-/
namespace Go.Proofs.Yteaoacinhdjkeaa
open Go.ChangeShapes Go.WideShapes Go.ChangeAt Go.RowKit Go.Deep Go.Maps
set_option maxRecDepth 100000

theorem accB_nat {a : Nat} (h : a < 8) : accB23 (a : Int) = true := by unfold accB23; simp; omega
theorem numB_nat {a : Nat} (h : a ≤ 1000000) : numB23 (a : Int) = true := by unfold numB23; simp; omega
theorem rk1_built (a b c : Int) : Try.prog.built 124 [(0, .int .i64 1), (1, .int .i64 a), (2, .int .i64 b), (3, .int .i64 c)] = some #[.int .i64 1, .int .i64 a, .int .i64 b, .int .i64 c] := by kernel_rfl
theorem rk2_built (a b c : Int) : Try.prog.built 124 [(0, .int .i64 2), (1, .int .i64 a), (2, .int .i64 b), (3, .int .i64 c)] = some #[.int .i64 2, .int .i64 a, .int .i64 b, .int .i64 c] := by kernel_rfl
set_option maxHeartbeats 4000000 in
theorem sadd_bad {w : World} {v : Value} {a i t : Int} (h : accB23 a = false ∨ numB23 i = false ∨ numB23 t = false) :
    Calls Try.prog 30 #[v, .int .i64 a, .int .i64 i, .int .i64 t] w fun e w' => e = .returned (.int .i64 1) ∧ w' = w := by
  have AC := Lib.hid (fun W : World => sacc_calls (w := W) (n := a))
  have NI := Lib.hid (fun W : World => snum_calls (w := W) (n := i))
  have NT := Lib.hid (fun W : World => snum_calls (w := W) (n := t))
  generalize accB23 a = ba at *
  generalize numB23 i = bi at *
  generalize numB23 t = bt_ at *
  replace h := Lib.hid h
  go_enter Try.func30, Try.ntmps30
  go_wp2_with fail
  refine (AC.out _).mono ?_
  rintro e w1 ⟨rfl, rfl⟩
  cases ba with
  | false =>
    go_wp2_with fail
    go_ret
    exact ⟨rfl, rfl⟩
  | true =>
    go_wp2_with fail
    refine (NI.out _).mono ?_
    rintro e w2 ⟨rfl, rfl⟩
    cases bi with
    | false =>
      go_wp2_with fail
      go_ret
      exact ⟨rfl, rfl⟩
    | true =>
      go_wp2_with fail
      refine (NT.out _).mono ?_
      rintro e w3 ⟨rfl, rfl⟩
      cases bt_ with
      | false =>
        go_wp2_with fail
        go_ret
        exact ⟨rfl, rfl⟩
      | true => exact absurd h.out (by simp)
set_option maxHeartbeats 4000000 in
theorem sadd_twice {w : World} {lg g lb : Nat} {K : List Sk} (h : LG w lg g lb K) {a i t : Nat} (ha : a < 8) (hi : i ≤ 1000000) (ht : t ≤ 1000000) {s : Sk} (hs : findS K (i : Int) = some s) :
    Calls Try.prog 30 #[.pointer (some ⟨lg, 0, none⟩), .int .i64 (a : Int), .int .i64 (i : Int), .int .i64 (t : Int)] w fun e w' => e = .returned (.int .i64 9) ∧ Ext w w' := by
  have AC := Lib.hid (fun W : World => sacc_calls (w := W) (n := (a : Int)))
  have NI := Lib.hid (fun W : World => snum_calls (w := W) (n := (i : Int)))
  have NT := Lib.hid (fun W : World => snum_calls (w := W) (n := (t : Int)))
  rw [accB_nat ha] at AC
  rw [numB_nat hi] at NI
  rw [numB_nat ht] at NT
  have hal := sk_alloc
  have LK := h.look (id := (i : Int)) (by omega)
  rw [hs] at LK
  have c1 : w.cell? ⟨lg, 1, none⟩ = some (.map (some lb)) := h.cb.cell rfl
  clear h hs
  have L_V := valS_len (some s)
  have O_V := one_cells (valS_one (some s))
  generalize valS (some s) = VV at *
  have S_V : VV.toArray.size = 3 := by rw [List.size_toArray, L_V]
  have S_Z : zSk.toArray.size = 3 := rfl
  generalize zSk = ZZ at *
  have K1 : Hid (Ext w ((w.alloc (.cells ZZ.toArray 117)).setRow w.heap.size VV.toArray)) := Ext.newRow _ _ _
  go_enter Try.func30, Try.ntmps30
  go_wp2_with fail
  refine (AC.out _).mono ?_
  rintro e w1 ⟨rfl, rfl⟩
  go_wp2_with fail
  refine (NI.out _).mono ?_
  rintro e w2 ⟨rfl, rfl⟩
  go_wp2_with fail
  refine (NT.out _).mono ?_
  rintro e w3 ⟨rfl, rfl⟩
  clear AC NI NT
  go_wp2_with (first
    | (refine wpList_lookup_mp rfl _ _ rfl rfl rfl LK ?_; go_frame)
    | (refine wpList_store_row rfl 117 _ _ rfl _ VV.toArray rfl rfl 117 ZZ.toArray (heap_alloc_new _ _) (by rw [S_V]; rfl) (by rw [S_V, S_Z]) O_V ?_; simp only [Act.put]))
  go_ret
  exact ⟨rfl, K1.out⟩
set_option maxHeartbeats 4000000 in
theorem sadd_ok {w W : World} {lg g dg r mb lb : Nat} {d : Ds} {B : Nat} {R : Nat → Prop} {D : Option Addr} {c : Nat} {L : List (List UInt8)} {K : List Sk} (h : SN w W lg g dg r mb lb d B R D c L K) (hL : L.length ≤ 64) {a i t : Nat} (ha : a < 8) (hi : i ≤ 1000000) (ht : t ≤ 1000000) (hs : findS K (i : Int) = none) :
    Calls Try.prog 30 #[.pointer (some ⟨lg, 0, none⟩), .int .i64 (a : Int), .int .i64 (i : Int), .int .i64 (t : Int)] W fun e W' => e = .returned (.int .i64 (d.jE L.length (bytesR ⟨1, a, i, t⟩))) ∧ ∃ W1, Ext W W1 ∧ Kept w W1 W' lg g dg r mb lb d B R D c L K ⟨1, a, i, t⟩ := by
  have AC := Lib.hid (fun W : World => sacc_calls (w := W) (n := (a : Int)))
  have NI := Lib.hid (fun W : World => snum_calls (w := W) (n := (i : Int)))
  have NT := Lib.hid (fun W : World => snum_calls (w := W) (n := (t : Int)))
  rw [accB_nat ha] at AC
  rw [numB_nat hi] at NI
  rw [numB_nat ht] at NT
  have hal := sk_alloc
  have LK := h.le.look (id := (i : Int)) (by omega)
  rw [hs] at LK
  have c1 : W.cell? ⟨lg, 1, none⟩ = some (.map (some lb)) := h.le.cb.cell rfl
  have KP : Hid (∀ s, Ext W s → Calls Try.prog 59 #[.pointer (some ⟨lg, 0, none⟩), .agg #[.int .i64 1, .int .i64 (a : Int), .int .i64 (i : Int), .int .i64 (t : Int)]] s fun e W' => e = .returned (.int .i64 (d.jE L.length (bytesR ⟨1, a, i, t⟩))) ∧ Kept w s W' lg g dg r mb lb d B R D c L K ⟨1, a, i, t⟩) := fun s e => skeep_calls (h.ext e) hL (x := ⟨1, a, i, t⟩) ⟨.inl rfl, ha, hi, ht⟩
  have BS := Lib.hid (rk1_built (a : Int) (i : Int) (t : Int))
  clear h hs
  generalize d.jE L.length (bytesR ⟨1, a, i, t⟩) = ee at *
  have S_Z : zSk.toArray.size = 3 := rfl
  have O_Z := one_cells (valS_one none)
  rw [show valS none = zSk from rfl] at LK O_Z
  generalize zSk = ZZ at *
  have K1 : Hid (Ext W ((W.alloc (.cells ZZ.toArray 117)).setRow W.heap.size ZZ.toArray)) := Ext.newRow _ _ _
  go_enter Try.func30, Try.ntmps30
  go_wp2_with fail
  refine (AC.out _).mono ?_
  rintro e w1 ⟨rfl, rfl⟩
  go_wp2_with fail
  refine (NI.out _).mono ?_
  rintro e w2 ⟨rfl, rfl⟩
  go_wp2_with fail
  refine (NT.out _).mono ?_
  rintro e w3 ⟨rfl, rfl⟩
  clear AC NI NT
  go_upto_region 6 with (first
    | (refine wpList_lookup_mp rfl _ _ rfl rfl rfl LK ?_; go_frame)
    | (refine wpList_store_row rfl 117 _ _ rfl _ ZZ.toArray rfl rfl 117 ZZ.toArray (heap_alloc_new _ _) (by rw [S_Z]; rfl) (by rw [S_Z]) O_Z ?_; simp only [Act.put]))
  refine wp_gen (fun s => Ext w3 s) K1.out ?_
  clear K1 c1 LK
  intro w4 x4
  have KP4 := Lib.hid (KP.out w4 x4)
  replace x4 := Lib.hid x4
  clear KP
  go_wp2_with (refine wpList_build_as rfl _ _ rfl #[.int .i64 1, .int .i64 (a : Int), .int .i64 (i : Int), .int .i64 (t : Int)] (by simp only [List.map_toArray, List.map_cons, List.map_nil]; exact BS.out) ?_; go_frame)
  refine KP4.out.mono ?_
  rintro e w5 ⟨rfl, k5⟩
  replace k5 := Lib.hid k5
  clear KP4
  go_wp2_with fail
  go_ret
  exact ⟨rfl, w4, x4.out, k5.out⟩
end Go.Proofs.Yteaoacinhdjkeaa
end

section
/-
  Strikes: Clear.
-/
namespace Go.Proofs.Yteaoacinhdjkeaa
open Go.ChangeShapes Go.WideShapes Go.ChangeAt Go.RowKit Go.Deep Go.Maps
set_option maxRecDepth 100000

set_option maxHeartbeats 4000000 in
theorem sclear_bad {w : World} {v : Value} {i t : Int} (h : numB23 i = false ∨ numB23 t = false) :
    Calls Try.prog 32 #[v, .int .i64 i, .int .i64 t] w fun e w' => e = .returned (.int .i64 1) ∧ w' = w := by
  have NI := Lib.hid (fun W : World => snum_calls (w := W) (n := i))
  have NT := Lib.hid (fun W : World => snum_calls (w := W) (n := t))
  generalize numB23 i = bi at *
  generalize numB23 t = bt_ at *
  replace h := Lib.hid h
  go_enter Try.func32, Try.ntmps32
  go_wp2_with fail
  refine (NI.out _).mono ?_
  rintro e w2 ⟨rfl, rfl⟩
  cases bi with
  | false =>
    go_wp2_with fail
    go_ret
    exact ⟨rfl, rfl⟩
  | true =>
    go_wp2_with fail
    refine (NT.out _).mono ?_
    rintro e w3 ⟨rfl, rfl⟩
    cases bt_ with
    | false =>
      go_wp2_with fail
      go_ret
      exact ⟨rfl, rfl⟩
    | true => exact absurd h.out (by simp)
set_option maxHeartbeats 4000000 in
theorem sclear_no {w : World} {lg g lb : Nat} {K : List Sk} (h : LG w lg g lb K) {i t : Nat} (hi : i ≤ 1000000) (ht : t ≤ 1000000) (hs : ∀ s, findS K (i : Int) = some s → s.rev = true) :
    Calls Try.prog 32 #[.pointer (some ⟨lg, 0, none⟩), .int .i64 (i : Int), .int .i64 (t : Int)] w fun e w' => e = .returned (.int .i64 (if (findS K (i : Int)).isSome then 5 else 7)) ∧ Ext w w' := by
  have NI := Lib.hid (fun W : World => snum_calls (w := W) (n := (i : Int)))
  have NT := Lib.hid (fun W : World => snum_calls (w := W) (n := (t : Int)))
  rw [numB_nat hi] at NI
  rw [numB_nat ht] at NT
  have hal := sk_alloc
  have LK := h.look (id := (i : Int)) (by omega)
  have c1 : w.cell? ⟨lg, 1, none⟩ = some (.map (some lb)) := h.cb.cell rfl
  clear h
  generalize findS K (i : Int) = oo at *
  have L_V := valS_len oo
  have O_V := one_cells (valS_one oo)
  have hV : Hid (∀ s, oo = some s → (valS oo)[2]? = some (.bool true)) := fun s q => by
    have := hs s q
    rw [q]
    show some (Value.bool s.rev) = _
    rw [this]
  obtain ⟨VV, hVV⟩ : ∃ q, q = valS oo := ⟨_, rfl⟩
  rw [← hVV] at LK L_V O_V hV
  clear hVV hs
  have S_V : VV.toArray.size = 3 := by rw [List.size_toArray, L_V]
  have S_Z : zSk.toArray.size = 3 := rfl
  generalize zSk = ZZ at *
  have K1 : Hid (Cb ((w.alloc (.cells ZZ.toArray 117)).setRow w.heap.size VV.toArray) w.heap.size 117 VV ∧ Ext w ((w.alloc (.cells ZZ.toArray 117)).setRow w.heap.size VV.toArray)) := ⟨(Cb.new w _ ZZ).set, Ext.newRow _ _ _⟩
  go_enter Try.func32, Try.ntmps32
  go_wp2_with fail
  refine (NI.out _).mono ?_
  rintro e w2 ⟨rfl, rfl⟩
  go_wp2_with fail
  refine (NT.out _).mono ?_
  rintro e w3 ⟨rfl, rfl⟩
  clear NI NT
  cases oo with
  | none =>
    go_wp2_with (first
      | (refine wpList_lookup_mp rfl _ _ rfl rfl rfl LK ?_; go_frame)
      | (refine wpList_store_row rfl 117 _ _ rfl _ VV.toArray rfl rfl 117 ZZ.toArray (heap_alloc_new _ _) (by rw [S_V]; rfl) (by rw [S_V, S_Z]) O_V ?_; simp only [Act.put]))
    go_ret
    exact ⟨rfl, K1.out.2⟩
  | some s =>
    have v2 := Lib.hid (hV.out s rfl)
    clear hV
    go_upto_region 6 with (first
      | (refine wpList_lookup_mp rfl _ _ rfl rfl rfl LK ?_; go_frame)
      | (refine wpList_store_row rfl 117 _ _ rfl _ VV.toArray rfl rfl 117 ZZ.toArray (heap_alloc_new _ _) (by rw [S_V]; rfl) (by rw [S_V, S_Z]) O_V ?_; simp only [Act.put]))
    refine wp_gen (fun W => Cb W w3.heap.size 117 VV ∧ Ext w3 W) K1.out ?_
    clear K1 c1 LK
    generalize w3.heap.size = g7 at *
    rintro w4 ⟨k4, x4⟩
    have c2 := k4.cell v2.out
    replace k4 := Lib.hid k4
    replace x4 := Lib.hid x4
    go_wp2_with fail
    go_ret
    exact ⟨rfl, x4.out⟩
set_option maxHeartbeats 4000000 in
theorem sclear_ok {w W : World} {lg g dg r mb lb : Nat} {d : Ds} {B : Nat} {R : Nat → Prop} {D : Option Addr} {c : Nat} {L : List (List UInt8)} {K : List Sk} (h : SN w W lg g dg r mb lb d B R D c L K) (hL : L.length ≤ 64) {i t : Nat} (hi : i ≤ 1000000) (ht : t ≤ 1000000) {s : Sk} (hs : findS K (i : Int) = some s) (hrev : s.rev = false) :
    Calls Try.prog 32 #[.pointer (some ⟨lg, 0, none⟩), .int .i64 (i : Int), .int .i64 (t : Int)] W fun e W' => e = .returned (.int .i64 (d.jE L.length (bytesR ⟨2, s.acc, i, t⟩))) ∧ ∃ W1, Ext W W1 ∧ Kept w W1 W' lg g dg r mb lb d B R D c L K ⟨2, s.acc, i, t⟩ := by
  have NI := Lib.hid (fun W : World => snum_calls (w := W) (n := (i : Int)))
  have NT := Lib.hid (fun W : World => snum_calls (w := W) (n := (t : Int)))
  rw [numB_nat hi] at NI
  rw [numB_nat ht] at NT
  have hal := sk_alloc
  have LK := h.le.look (id := (i : Int)) (by omega)
  rw [hs] at LK
  have hsa := (h.le.ok.ok s (findS_some hs).1).1
  have c1 : W.cell? ⟨lg, 1, none⟩ = some (.map (some lb)) := h.le.cb.cell rfl
  have KP : Hid (∀ z, Ext W z → Calls Try.prog 59 #[.pointer (some ⟨lg, 0, none⟩), .agg #[.int .i64 2, .int .i64 (s.acc : Int), .int .i64 (i : Int), .int .i64 (t : Int)]] z fun e W' => e = .returned (.int .i64 (d.jE L.length (bytesR ⟨2, s.acc, i, t⟩))) ∧ Kept w z W' lg g dg r mb lb d B R D c L K ⟨2, s.acc, i, t⟩) := fun z e => skeep_calls (h.ext e) hL (x := ⟨2, s.acc, i, t⟩) ⟨.inr rfl, hsa, hi, ht⟩
  have BS := Lib.hid (rk2_built (s.acc : Int) (i : Int) (t : Int))
  clear h hs
  generalize d.jE L.length (bytesR ⟨2, s.acc, i, t⟩) = ee at *
  have L_V := valS_len (some s)
  have O_V := one_cells (valS_one (some s))
  have hV : Hid ((valS (some s))[0]? = some (.int .i64 (s.acc : Int)) ∧ (valS (some s))[2]? = some (.bool false)) := ⟨rfl, by
    show some (Value.bool s.rev) = _
    rw [hrev]⟩
  obtain ⟨VV, hVV⟩ : ∃ q, q = valS (some s) := ⟨_, rfl⟩
  rw [← hVV] at LK L_V O_V hV
  clear hVV hrev
  have S_V : VV.toArray.size = 3 := by rw [List.size_toArray, L_V]
  have S_Z : zSk.toArray.size = 3 := rfl
  generalize zSk = ZZ at *
  have K1 : Hid (Cb ((W.alloc (.cells ZZ.toArray 117)).setRow W.heap.size VV.toArray) W.heap.size 117 VV ∧ Ext W ((W.alloc (.cells ZZ.toArray 117)).setRow W.heap.size VV.toArray)) := ⟨(Cb.new W _ ZZ).set, Ext.newRow _ _ _⟩
  go_enter Try.func32, Try.ntmps32
  go_wp2_with fail
  refine (NI.out _).mono ?_
  rintro e w2 ⟨rfl, rfl⟩
  go_wp2_with fail
  refine (NT.out _).mono ?_
  rintro e w3 ⟨rfl, rfl⟩
  clear NI NT
  go_upto_region 6 with (first
    | (refine wpList_lookup_mp rfl _ _ rfl rfl rfl LK ?_; go_frame)
    | (refine wpList_store_row rfl 117 _ _ rfl _ VV.toArray rfl rfl 117 ZZ.toArray (heap_alloc_new _ _) (by rw [S_V]; rfl) (by rw [S_V, S_Z]) O_V ?_; simp only [Act.put]))
  refine wp_gen (fun z => Cb z w3.heap.size 117 VV ∧ Ext w3 z) K1.out ?_
  clear K1 c1 LK
  generalize w3.heap.size = g7 at *
  rintro w4 ⟨k4, x4⟩
  have q0 := k4.cell hV.out.1
  have q2 := k4.cell hV.out.2
  have KP4 := Lib.hid (KP.out w4 x4)
  replace x4 := Lib.hid x4
  replace k4 := Lib.hid k4
  clear KP
  go_wp2_with (refine wpList_build_as rfl _ _ rfl #[.int .i64 2, .int .i64 (s.acc : Int), .int .i64 (i : Int), .int .i64 (t : Int)] (by simp only [List.map_toArray, List.map_cons, List.map_nil]; exact BS.out) ?_; go_frame)
  refine KP4.out.mono ?_
  rintro e w5 ⟨rfl, k5⟩
  replace k5 := Lib.hid k5
  clear KP4
  go_wp2_with fail
  go_ret
  exact ⟨rfl, w4, x4.out, k5.out⟩
end Go.Proofs.Yteaoacinhdjkeaa
end
