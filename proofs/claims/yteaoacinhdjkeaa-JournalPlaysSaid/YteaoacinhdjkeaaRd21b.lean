import Derived.Test.YteaoacinhdjkeaaPkC
import Derived.Test.YteaoacinhdjkeaaSeqT
import Derived.Deep.DeepCutAuto
/-
  palfreyref21: New of a disk that may be, burn, Fuse.
-/
namespace Go.Proofs.Yteaoacinhdjkeaa
open Go.ChangeShapes Go.WideShapes Go.ChangeAt Go.RowKit Go.Deep Go.Maps
set_option maxRecDepth 100000

theorem newD_isC (n : Nat) : (newD n).isC = List.replicate n (Value.bool false) := by
  unfold Ds.isC newD
  simp only [List.length_replicate, Option.isSome_none]
  apply List.ext_getElem?
  intro i
  rw [List.getElem?_map, List.getElem?_replicate]
  by_cases h : i < n
  · rw [List.getElem?_range h, if_pos h]; rfl
  · rw [List.getElem?_eq_none (by rw [List.length_range]; omega), if_neg h]; rfl
set_option maxHeartbeats 2000000 in
theorem rnew_ok {w : World} {n : Nat} (n1 : 1 ≤ n) (n64 : n ≤ 64) :
    Calls Try.prog 13 #[.int .i64 (n : Int)] w fun e w' => ∃ (g r m i : Nat) (X : List (List UInt8)), e = .returned (.tuple #[.pointer (some ⟨g, 0, none⟩), .int .i64 0]) ∧ (w.heap.size ≤ g ∧ w.heap.size ≤ r ∧ w.heap.size ≤ m ∧ w.heap.size ≤ i) ∧ RD w' g r m i (newD n) X ∧ Ext w w' := by
  have u1 : decide ((n : Int) < 1) = false := decide_eq_false (by omega)
  have u2 : decide (64 < (n : Int)) = false := decide_eq_false (by omega)
  have hmS := fun w => makeRS n (by omega) w
  have hmB := fun w => makeB21 n (by omega) w
  obtain ⟨C, hC⟩ : ∃ C, C = (List.replicate n zS64).flatten := ⟨_, rfl⟩
  obtain ⟨D, hD⟩ : ∃ D, D = List.replicate n (Value.bool false) := ⟨_, rfl⟩
  simp only [← hC] at hmS
  simp only [← hD] at hmB
  have BL : Hid (∀ a b c : Nat, Try.prog.built 89 [(0, .slice (some ⟨a, 0, none⟩) n n), (1, .slice (some ⟨b, 0, none⟩) n n), (2, .slice (some ⟨c, 0, none⟩) n n), (3, .int .i64 (-1))] = some #[.slice (some ⟨a, 0, none⟩) n n, .slice (some ⟨b, 0, none⟩) n n, .slice (some ⟨c, 0, none⟩) n n, .int .i64 (-1), .bool false]) := fun a b c => by kernel_rfl
  have FIN : Hid (∀ (W : World) (a b c : Nat), Cb W a 48 C → Cb W b 48 C → Cb W c 4 D → a ≠ b → RD (W.alloc (.cells #[.slice (some ⟨a, 0, none⟩) n n, .slice (some ⟨b, 0, none⟩) n n, .slice (some ⟨c, 0, none⟩) n n, .int .i64 (-1), .bool false] 89)) W.heap.size a b c (newD n) (newD n).S) := fun W a b c h1 h2 h3 hne => by
    have eS : ((newD n).S.map cellsOf).flatten = C := by rw [hC]; simp [newD, zS64]
    have c1 := Cb.new W 89 ((newD n).rcells a b c)
    have ec : (newD n).rcells a b c = [.slice (some ⟨a, 0, none⟩) n n, .slice (some ⟨b, 0, none⟩) n n, .slice (some ⟨c, 0, none⟩) n n, .int .i64 (-1), .bool false] := by simp [Ds.rcells, newD, Ds.lit]
    have x := (Ext.refl W).alloc (.cells #[.slice (some ⟨a, 0, none⟩) n n, .slice (some ⟨b, 0, none⟩) n n, .slice (some ⟨c, 0, none⟩) n n, .int .i64 (-1), .bool false] 89)
    refine ⟨?_, by rw [eS]; exact h1.ext x, by rw [eS]; exact h2.ext x, by rw [newD_isC, ← hD]; exact h3.ext x, hne, newD_ok n1 n64, rfl, (newD_ok n1 n64).sl, fun j s q => by cases q⟩
    rw [ec] at c1 ⊢
    exact c1
  replace hC := Lib.hid (fun _ : Unit => hC)
  replace hD := Lib.hid (fun _ : Unit => hD)
  go_enter Try.func13, Try.ntmps13
  go_upto_region 3 with fail
  go_cut [2, 3] from 4 to 17 (fun s2 s3 wx => s3 = .int .i64 0 ∧ ∃ (g r m i : Nat) (X : List (List UInt8)), s2 = .pointer (some ⟨g, 0, none⟩) ∧ (w.heap.size ≤ g ∧ w.heap.size ≤ r ∧ w.heap.size ≤ m ∧ w.heap.size ≤ i) ∧ RD wx g r m i (newD n) X ∧ Ext w wx)
  case first =>
    refine qgT (R := Ext) Ext.refl (fun _ _ _ => Ext.trans) (.rd 0 (.rd 2 (.rd 4 (.alt 1 (.alt 3 (.alt 5 (.rd 6 (.alt 7 (.rd 8 (.rd 9 .nil)) .stop)) .stop) (.alt 5 (.alt 3 (.rd 6 (.alt 7 (.rd 8 (.rd 9 .nil)) .stop)) .stop) .stop)) (.alt 3 (.alt 1 (.alt 5 (.rd 6 (.alt 7 (.rd 8 (.rd 9 .nil)) .stop)) .stop) (.alt 5 (.alt 1 (.rd 6 (.alt 7 (.rd 8 (.rd 9 .nil)) .stop)) .stop) .stop)) (.alt 5 (.alt 1 (.alt 3 (.rd 6 (.alt 7 (.rd 8 (.rd 9 .nil)) .stop)) .stop) (.alt 3 (.alt 1 (.rd 6 (.alt 7 (.rd 8 (.rd 9 .nil)) .stop)) .stop) .stop)) .stop)))))) 10 ?_
    repeat ((first | refine qtR0 ?_ | refine qtS ?_); go_frame)
    have SE : Hid (Ext w w.drew) := (Ext.refl w).drew
    generalize w.drew = WC at *
    repeat' (first
      | exact seqT_stop
      | (refine seqT_do (i := 1) _ rfl ?_ ?_ (fun K1 hK1 => ?_)
         (· rfl)
         rotate_left
         go_simp
         have hA := Lib.hid (And.intro (Cb.new WC 48 C) SE.out.size)
         have e := (Ext.refl WC).alloc (Obj.cells C.toArray 48)
         obtain ⟨aA, haA⟩ : ∃ g, g = WC.heap.size := ⟨_, rfl⟩
         (try have NE : Hid (aA ≠ aB) := Lib.hid (by rw [haA]; exact Nat.ne_of_gt (Cb.lt hB.out.1)))
         rw [← haA] at hA ⊢
         refine hK1.out _ _ e ?_
         clear hK1 K1
         replace haA := Lib.hid haA
         (try replace hB := Lib.hid (And.intro (Cb.ext hB.out.1 e) hB.out.2))
         (try replace hI := Lib.hid (And.intro (Cb.ext hI.out.1 e) hI.out.2))
         replace SE := Lib.hid (SE.out.trans e)
         clear e
         generalize WC.alloc (Obj.cells C.toArray 48) = WC at *
         (try go_frame)
         skip)
      | (refine seqT_do (i := 3) _ rfl ?_ ?_ (fun K1 hK1 => ?_)
         (· rfl)
         rotate_left
         go_simp
         have hB := Lib.hid (And.intro (Cb.new WC 48 C) SE.out.size)
         have e := (Ext.refl WC).alloc (Obj.cells C.toArray 48)
         obtain ⟨aB, haB⟩ : ∃ g, g = WC.heap.size := ⟨_, rfl⟩
         (try have NE : Hid (aA ≠ aB) := Lib.hid (by rw [haB]; exact Nat.ne_of_lt (Cb.lt hA.out.1)))
         rw [← haB] at hB ⊢
         refine hK1.out _ _ e ?_
         clear hK1 K1
         replace haB := Lib.hid haB
         (try replace hA := Lib.hid (And.intro (Cb.ext hA.out.1 e) hA.out.2))
         (try replace hI := Lib.hid (And.intro (Cb.ext hI.out.1 e) hI.out.2))
         replace SE := Lib.hid (SE.out.trans e)
         clear e
         generalize WC.alloc (Obj.cells C.toArray 48) = WC at *
         (try go_frame)
         skip)
      | (refine seqT_do (i := 5) _ rfl ?_ ?_ (fun K1 hK1 => ?_)
         (· rfl)
         rotate_left
         go_simp
         have hI := Lib.hid (And.intro (Cb.new WC 4 D) SE.out.size)
         have e := (Ext.refl WC).alloc (Obj.cells D.toArray 4)
         obtain ⟨aI, haI⟩ : ∃ g, g = WC.heap.size := ⟨_, rfl⟩
         rw [← haI] at hI ⊢
         refine hK1.out _ _ e ?_
         clear hK1 K1
         replace haI := Lib.hid haI
         (try replace hA := Lib.hid (And.intro (Cb.ext hA.out.1 e) hA.out.2))
         (try replace hB := Lib.hid (And.intro (Cb.ext hB.out.1 e) hB.out.2))
         replace SE := Lib.hid (SE.out.trans e)
         clear e
         generalize WC.alloc (Obj.cells D.toArray 4) = WC at *
         (try go_frame)
         skip)
      | (refine seqT_read (i := 6) (fun _ => True) (fun _ _ => trivial) _ (v := .agg #[.slice (some ⟨aA, 0, none⟩) n n, .slice (some ⟨aB, 0, none⟩) n n, .slice (some ⟨aI, 0, none⟩) n n, .int .i64 (-1), .bool false]) rfl (by rfl) (fun w' _ => exec_build_as rfl (by simp only [List.map_toArray, List.map_cons, List.map_nil]; exact BL.out _ _ _)) ?_
         go_frame)
      | (refine seqT_do (i := 7) _ rfl ?_ ?_ (fun K1 hK1 => ?_)
         (· rfl)
         rotate_left
         go_simp
         have F := Lib.hid (And.intro (FIN.out WC aA aB aI hA.out.1 hB.out.1 hI.out.1 NE.out) (And.intro SE.out.size (SE.out.alloc (Obj.cells #[.slice (some ⟨aA, 0, none⟩) n n, .slice (some ⟨aB, 0, none⟩) n n, .slice (some ⟨aI, 0, none⟩) n n, .int .i64 (-1), .bool false] 89))))
         refine hK1.out _ _ ((Ext.refl WC).alloc _) ?_
         clear hK1 K1
         (try go_frame)
         repeat ((first | refine qtR0 ?_ | refine qtS ?_); go_frame)
         refine seqT_done ?_
         go_wp2_with fail
         go_meet
         exact ⟨rfl, _, aA, aB, aI, _, rfl, ⟨F.out.2.1, hA.out.2, hB.out.2, hI.out.2⟩, F.out.1, F.out.2.2⟩)
      )
  case rest =>
    obtain ⟨rfl, g, r, m, i, X, rfl, hs, rd, x⟩ := hcut
    replace hs := Lib.hid hs
    replace rd := Lib.hid rd
    replace x := Lib.hid x
    go_wp2_with fail
    go_ret2
    exact ⟨g, r, m, i, X, rfl, hs.out, rd.out, x.out⟩
theorem rburn_calls {w : World} {g r m i : Nat} {d : Ds} {X : List (List UInt8)} (h : RD w g r m i d X) : Calls Try.prog 53 #[.pointer (some ⟨g, 0, none⟩)] w fun e w' => e = .returned (.bool (!d.fails)) ∧ RD w' g r m i d.burn X ∧ w.grownBy w' (some g) := by
  have c3 : w.cell? ⟨g, 3, none⟩ = some (.int .i64 d.lit) := h.cb.cell rfl
  have c4 : w.cell? ⟨g, 4, none⟩ = some (.bool d.dd) := h.cb.cell rfl
  have f3 := h.cb.frozen 3
  have f4 := h.cb.frozen 4
  have fl := h.ok.fl
  have D1 : Hid (d.fails = true → RD (w.setCell ⟨g, 4, none⟩ (.bool true)) g r m i d.burn X) := fun q => by
    unfold Ds.burn; rw [if_pos q]
    exact h.cell (d' := { d with dd := true }) rfl rfl rfl ⟨h.ok.low, h.ok.most, h.ok.sl, h.ok.nl, h.ok.fl⟩
  have D2 : Hid (d.fails = false → d.hf = true → d.f ≠ 0 → RD (w.setCell ⟨g, 3, none⟩ (.int .i64 (d.f - 1))) g r m i d.burn X) := fun q q2 q3 => by
    unfold Ds.burn; rw [q, if_neg (by decide), if_pos q2]
    exact h.cell (d' := { d with f := d.f - 1 }) (by simp [Ds.rcells, Ds.lit, q2]) rfl rfl ⟨h.ok.low, h.ok.most, h.ok.sl, h.ok.nl, by have := h.ok.fl; dsimp only; omega⟩
  have D3 : Hid (d.fails = false → d.hf = false → RD w g r m i d.burn X) := fun q q2 => by
    unfold Ds.burn; rw [q, if_neg (by decide), q2, if_neg (by decide)]
    exact h
  have HF : d.fails = (d.dd || (d.hf && d.f == 0)) := rfl
  have HL : d.lit = if d.hf then d.f else -1 := rfl
  clear h
  generalize d.lit = lt at *
  generalize d.burn = d2 at *
  generalize d.fails = fa at *
  generalize d.hf = hf at *
  generalize d.f = f at *
  generalize d.dd = dd at *
  rcases dd with _ | _
  · rcases hf with _ | _
    · obtain rfl : fa = false := HF
      obtain rfl : lt = -1 := HL
      have K := Lib.hid (D3.out rfl rfl)
      clear D1 D2 D3
      go_enter Try.func53, Try.ntmps53
      go_wp2_with fail
      go_ret
      exact ⟨rfl, K.out, World.grownBy.refl w _⟩
    · obtain rfl : lt = f := HL
      by_cases hz : lt = 0
      · obtain rfl : fa = true := by rw [HF, hz]; rfl
        have K := Lib.hid (D1.out rfl)
        subst hz
        clear D1 D2 D3 HF
        go_enter Try.func53, Try.ntmps53
        go_wp2_with fail
        go_ret
        exact ⟨rfl, K.out, gr_cell21 _ _ _ _⟩
      · have u1 : (lt == 0) = false := by simpa using hz
        obtain rfl : fa = false := by rw [HF, u1]; rfl
        have K := Lib.hid (D2.out rfl rfl hz)
        have u2 : decide (0 < lt) = true := decide_eq_true (by omega)
        have hw : IntKind.i64.wrap (lt - 1) = lt - 1 := IntWalk.i64_in _ (by omega)
        replace hz := Lib.hid hz
        clear D1 D2 D3 HF
        go_enter Try.func53, Try.ntmps53
        go_wp2_with fail
        go_ret
        exact ⟨rfl, K.out, gr_cell21 _ _ _ _⟩
  · obtain rfl : fa = true := HF
    have K := Lib.hid (D1.out rfl)
    clear D1 D2 D3
    go_enter Try.func53, Try.ntmps53
    go_wp2_with fail
    go_ret
    exact ⟨rfl, K.out, gr_cell21 _ _ _ _⟩
theorem rfuse_calls {w : World} {g r m i : Nat} {d : Ds} {X : List (List UInt8)} (h : RD w g r m i d X) {n : Int} (hn : -9223372036854775808 ≤ n ∧ n ≤ 9223372036854775807) : Calls Try.prog 19 #[.pointer (some ⟨g, 0, none⟩), .int .i64 n] w fun e w' => e = .returned (.tuple #[]) ∧ RD w' g r m i (d.fuse n) X ∧ w.grownBy w' (some g) := by
  have f3 := h.cb.frozen 3
  have c3 : w.cell? ⟨g, 3, none⟩ = some (.int .i64 d.lit) := h.cb.cell rfl
  obtain ⟨lv, hlv⟩ : ∃ q : Int, q = (if n < -1 then -1 else n) := ⟨_, rfl⟩
  have K : Hid (RD (w.setCell ⟨g, 3, none⟩ (.int .i64 lv)) g r m i (d.fuse n) X) := by
    refine h.cell (d' := d.fuse n) ?_ rfl rfl ⟨h.ok.low, h.ok.most, h.ok.sl, h.ok.nl, by dsimp only [Ds.fuse]; split <;> omega⟩
    have : (d.fuse n).lit = lv := by
      unfold Ds.lit Ds.fuse
      rw [hlv]
      by_cases q : 0 ≤ n
      · simp only [q, decide_true, if_true]
        split <;> split <;> omega
      · simp only [q, decide_false, Bool.false_eq_true, if_false]
        split <;> omega
    unfold Ds.rcells
    rw [this]
    rfl
  have u2 : (if (-1 : Int) > n then (-1 : Int) else n) = lv := by rw [hlv]
  have u3 : (if n < (-1 : Int) then (-1 : Int) else n) = lv := hlv.symm
  clear h
  replace hlv := Lib.hid hlv
  go_enter Try.func19, Try.ntmps19
  go_wp2_with fail
  go_end0
  exact ⟨rfl, K.out, gr_cell21 _ _ _ _⟩
end Go.Proofs.Yteaoacinhdjkeaa
