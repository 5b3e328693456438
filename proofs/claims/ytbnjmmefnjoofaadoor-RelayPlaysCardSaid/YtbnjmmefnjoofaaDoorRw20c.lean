import Derived.Test.YtbnjmmefnjoofaaDoorPkF
/-
  The document's relay: Fetch.
-/
namespace Go.Proofs.YtbnjmmefnjoofaaDoor
open Go.ChangeShapes Go.WideShapes Go.ChangeAt Go.RowKit Go.Deep Go.Maps
set_option maxRecDepth 100000

section
variable {B g ticks N : Nat} {w : World} {root : List UInt8} {h : Nat → Option Ra}
set_option maxHeartbeats 4000000 in
theorem rwfetch_no (k : RW B w g root ticks h N) {n : Int} (h1 : -9223372036854775808 ≤ n) (h2 : n ≤ 9223372036854775807) (hn : fdR h n = none) : Calls Tryd.prog 30 #[.pointer (some ⟨g, 0, none⟩), .int .i64 n] w fun e w' => e = .returned (.tuple #[.agg (bbC (List.replicate 96 0) false).toArray, .int .i64 7]) ∧ Ext w w' := by
  have hal := bundle_alloc
  have BZ : Hid (Tryd.prog.built 53 [] = some (bbC (List.replicate 96 0) false).toArray) := by unfold Hid; kernel_rfl
  have L_z : (bbC (List.replicate 96 0) false).length = 97 := rfl
  have O_z : (bbC (List.replicate 96 0) false).toArray.all (·.oneCell') = true := bbC_one _ _
  generalize bbC (List.replicate 96 0) false = Z at *
  have S_z : Z.toArray.size = 97 := by rw [List.size_toArray, L_z]
  have FN := Lib.hid (of_no (k.ext ((Ext.refl w).alloc (.cells Z.toArray 53))) h1 h2 hn)
  have k0 : (w.alloc (.cells Z.toArray 53)).heap[w.heap.size]? = some (.cells Z.toArray 53 (0, 0)) := heap_alloc_new _ _
  have FIN : Hid (Ext w ((w.alloc (.cells Z.toArray 53)).setRow w.heap.size Z.toArray)) := below_setRow ((Ext.refl w).alloc _) (Nat.le_refl _) _
  clear k h1 h2 hn
  go_enter Tryd.func30, Tryd.ntmps30
  go_wp2_with fail
  refine FN.out.mono ?_
  rintro e w1 ⟨rfl, hw1⟩
  subst hw1
  go_wp2_with (first
    | (refine wpList_build_as rfl _ _ rfl Z.toArray (by simp only [List.map_toArray, List.map_nil]; exact BZ.out) ?_; go_frame)
    | (refine wpList_store_row rfl 53 _ _ rfl w.heap.size Z.toArray rfl rfl 53 Z.toArray k0 (by rw [S_z]; rfl) rfl O_z ?_; simp only [Act.put]))
  (try simp only [Exit.inBlock, Exit.then])
  refine bodyPost_ret (results_row_tmp rfl _ _ w.heap.size 53 Z.toArray (0, 0) _ _ rfl rfl (setRow_heap _ _ _ _ _ _ k0) rfl rfl (by rw [S_z]; rfl)) rfl ?_
  exact ⟨rfl, FIN.out⟩
theorem RW.fet (k : RW B w g root ticks h N) {j : Nat} {a : Ra} (hj : h j = some a) {k0 : List UInt8} {ks : List (List UInt8)} (hk : a.K = k0 :: ks) :
    RW B (w.setCell ⟨a.bk, 129, none⟩ (.slice (if a.c = 1 then a.A else a.A.map (·.add (1 * 32))) (a.n - 1) (a.c - 1))) g root ticks (updR h j (some { a with A := (if a.c = 1 then a.A else a.A.map (·.add (1 * 32))), n := a.n - 1, c := a.c - 1, K := ks })) N ∧ Tb B tagX w (w.setCell ⟨a.bk, 129, none⟩ (.slice (if a.c = 1 then a.A else a.A.map (·.add (1 * 32))) (a.n - 1) (a.c - 1))) := by
  have hkc := (k.acc hj).2.2.1
  have n1 : 1 ≤ a.n := by
    have := hkc.1.1.1
    rw [hk] at this
    simp at this
    omega
  have hkc' : Kc w (if a.c = 1 then a.A else a.A.map (·.add (1 * 32))) (a.n - 1) (a.c - 1) ks := by
    refine ⟨by have := hkc.1.cut n1; rw [hk] at this; exact this, fun h0 q hq => ?_⟩
    have hcn : ¬ a.c = 1 := by have := hkc.1.2.1.1; omega
    rw [if_neg hcn] at hq
    obtain ⟨p, hp, rfl⟩ := Option.map_eq_some_iff.1 hq
    obtain ⟨cs, hcs⟩ := hkc.2 (by omega) p hp
    exact ⟨cs, by rw [show (p.add (1 * 32)).block = p.block by unfold Addr.add; split <;> rfl]; exact hcs⟩
  obtain ⟨own, k⟩ := k
  have kA := k.ac j a hj
  generalize (if a.c = 1 then a.A else a.A.map (·.add (1 * 32))) = A' at *
  have hx : w.grownBy (w.setCell ⟨a.bk, 129, none⟩ (.slice A' (a.n - 1) (a.c - 1))) (some a.bk) := (World.grownBy.refl w _).set _ _
  have KT : ∀ (i : Nat) (cs : Array Value) (t : TypeId), w.heap[i]? = some (Obj.cells cs t (0, 0)) → t ≠ 100 → (w.setCell ⟨a.bk, 129, none⟩ (.slice A' (a.n - 1) (a.c - 1))).heap[i]? = some (Obj.cells cs t (0, 0)) := fun i cs t y z => (hx.block i (heap_lt y) fun q => cells_ne y kA.cb z (Option.some.inj q)).trans y
  have hc := kA.cb.setCell (o := 129) (v := .slice A' (a.n - 1) (a.c - 1))
  rw [show a.C.set 129 (.slice A' (a.n - 1) (a.c - 1)) = ({ a with A := A', n := a.n - 1, c := a.c - 1, K := ks } : Ra).C from (raL_set kA.ln.1 (a.bb_len kA.ln) (out' := true)).1] at hc
  have := k.one (a' := { a with A := A', n := a.n - 1, c := a.c - 1, K := ks }) hj rfl kA.cb kA.oa (by decide) hx ⟨kA.ln, hc, kA.oa, hkc'.keep fun i cs y => KT i cs _ y (by decide), kA.mb.keep (fun _ _ z => z) fun i cs t y z => KT i cs t y (by rcases z with ⟨_, rfl⟩ | ⟨_, rfl⟩ | rfl <;> decide), kA.ob, KT _ _ _ kA.bu (by decide), kA.ok, kA.ot, kA.le⟩
  exact ⟨⟨own, this.1⟩, this.2⟩
/-- What the document's Fetch does. -/
def RfP (B : Nat) (w : World) (g : Nat) (root : List UInt8) (ticks : Nat) (h : Nat → Option Ra) (N j : Nat) (a : Ra) (e : Ending) (w' : World) : Prop :=
  (a.K = [] → e = .returned (.tuple #[.agg (bbC (a.ib ++ (a.sb ++ zk)) false).toArray, .int .i64 0]) ∧ Ext w w') ∧ (∀ k0 ks, a.K = k0 :: ks → e = .returned (.tuple #[.agg (bbC (a.ib ++ (a.sb ++ k0)) true).toArray, .int .i64 0]) ∧ (∃ A' n' c', RW B w' g root ticks (updR h j (some { a with A := A', n := n', c := c', K := ks })) N) ∧ Tb B tagX w w')
theorem RfP.nil {j : Nat} {a : Ra} {w' : World} (hk : a.K = []) (x : Ext w w') {BC : List Value} (hb : BC = bbC (a.ib ++ (a.sb ++ zk)) false) {e : Ending} (he : e = .returned (.tuple #[.agg BC.toArray, .int .i64 0])) : RfP B w g root ticks h N j a e w' := ⟨fun _ => ⟨by rw [he, hb], x⟩, fun k0 ks z => by rw [hk] at z; cases z⟩
theorem RfP.one {j : Nat} {a : Ra} {w' : World} {k0 : List UInt8} {ks : List (List UInt8)} (hk : a.K = k0 :: ks) {A' : Option Addr} {n' c' : Nat} (k : RW B w' g root ticks (updR h j (some { a with A := A', n := n', c := c', K := ks })) N) (t : Tb B tagX w w') {BC : List Value} (hb : BC = bbC (a.ib ++ (a.sb ++ k0)) true) {e : Ending} (he : e = .returned (.tuple #[.agg BC.toArray, .int .i64 0])) : RfP B w g root ticks h N j a e w' := ⟨fun z => by rw [hk] at z; (cases z), fun k1 ks1 z => by
  rw [hk] at z
  injection z with z1 z2
  subst z1 z2
  exact ⟨by rw [he, hb], ⟨A', n', c', k⟩, t⟩⟩
/-- Rows that are not the document's own may turn. -/
theorem RW.row (k : RW B w g root ticks h N) {w0 : World} {r : Nat} {t : TypeId} {L : List Value} {C : Array Value} (kc : Cb w r t L) (ht : tagX t = false ∧ t ≠ 5 ∧ t ≠ 23) (x : Tb B tagX w0 w) (hr : w0.heap.size ≤ r) : RW B (w.setRow r C) g root ticks h N ∧ Tb B tagX w0 (w.setRow r C) := by
  obtain ⟨own, k⟩ := k
  refine ⟨⟨own, k.keep (Nat.le_refl _) fun i cs t' y z => (setRow_other _ _ _ _ (cells_ne y kc ?_)).trans y⟩, ⟨x.1, x.2.1, x.2.2.1, by simpa using x.2.2.2.1, fun i o hi ho => (setRow_other _ _ _ _ (by have := heap_lt hi; omega)).trans (x.2.2.2.2 i o hi ho)⟩⟩
  rcases z with z | rfl | rfl
  · intro q
    subst q
    rw [ht.1] at z
    cases z
  · exact ht.2.1.symm
  · exact ht.2.2.symm
set_option maxHeartbeats 8000000 in
theorem rwfetch_ok (k : RW B w g root ticks h N) {j : Nat} {a : Ra} (hj : h j = some a) (j8 : j < 8) :
    Calls Tryd.prog 30 #[.pointer (some ⟨g, 0, none⟩), .int .i64 (j : Int)] w (RfP B w g root ticks h N j a) := by
  have hal := bundle_alloc
  have L_z : (bbC (List.replicate 96 0) false).length = 97 := rfl
  generalize bbC (List.replicate 96 0) false = Z at *
  have S_z : Z.toArray.size = 97 := by rw [List.size_toArray, L_z]
  have FN := Lib.hid (of_ok (k.ext ((Ext.refl w).alloc (.cells Z.toArray 53))) hj j8)
  have ln := (k.acc hj).1
  have L_i : (cellsOf a.ib).length = 32 := by rw [cellsOf_len, ln.2.1]
  have L_s : (cellsOf a.sb).length = 32 := by rw [cellsOf_len, ln.2.2.1]
  have BB := Lib.hid (bundle2 ln.2.1 ln.2.2.1)
  have lz : (a.ib ++ (a.sb ++ List.replicate 32 0)).length = 96 := by simp [ln.2.1, ln.2.2.1]
  have L_b : (bbC (a.ib ++ (a.sb ++ List.replicate 32 0)) false).length = 97 := by rw [bbC_len, lz]
  have O_b : (bbC (a.ib ++ (a.sb ++ List.replicate 32 0)) false).toArray.all (·.oneCell') = true := bbC_one _ _
  have E_b : Hid (bbC (a.ib ++ (a.sb ++ List.replicate 32 0)) false = (cellsOf a.ib ++ cellsOf a.sb) ++ (cellsOf zk ++ [.bool false])) := by unfold Hid; simp [bbC, cellsOf_app, zk]
  obtain ⟨BC, hBC⟩ : ∃ BC, BC = bbC (a.ib ++ (a.sb ++ List.replicate 32 0)) false := ⟨_, rfl⟩
  rw [← hBC] at L_b O_b E_b BB
  have S_b : BC.toArray.size = 97 := by rw [List.size_toArray, L_b]
  obtain ⟨r, hr⟩ : ∃ x, x = w.heap.size := ⟨_, rfl⟩
  have k0 : (w.alloc (.cells Z.toArray 53)).heap[w.heap.size]? = some (.cells Z.toArray 53 (0, 0)) := heap_alloc_new _ _
  have x0 : Hid (Ext w (w.alloc (.cells Z.toArray 53))) := (Ext.refl w).alloc _
  have s0 : (w.alloc (.cells Z.toArray 53)).heap.size = r + 1 := by rw [hr]; simp
  have alt := (k.acc hj).2.1.lt
  have CA : Hid (∀ u, Ext w u → (∀ i v, (cellsOf a.ib)[i]? = some v → u.cell? ⟨a.bk, 32 + i, none⟩ = some v) ∧ (∀ i v, (cellsOf a.sb)[i]? = some v → u.cell? ⟨a.bk, 64 + i, none⟩ = some v)) := fun u x => by
    have hc := (k.ext x).acc hj |>.2.1
    refine ⟨hc.mid (p := cellsOf a.lk) (y := cellsOf a.ib) (q := cellsOf a.sb ++ (cellsOf a.ob ++ ([.bool a.ho] ++ [.slice a.A a.n a.c, .pointer (some ⟨a.bx, 0, none⟩), .pointer (some ⟨a.tk, 0, none⟩), .bool a.out]))) (by simp [Ra.C, raL, Ra.bb, bbC, cellsOf_app]) (by rw [cellsOf_len, ln.1]), hc.mid (p := cellsOf a.lk ++ cellsOf a.ib) (y := cellsOf a.sb) (q := cellsOf a.ob ++ ([.bool a.ho] ++ [.slice a.A a.n a.c, .pointer (some ⟨a.bx, 0, none⟩), .pointer (some ⟨a.tk, 0, none⟩), .bool a.out])) (by simp [Ra.C, raL, Ra.bb, bbC, cellsOf_app]) (by simp [cellsOf_len, ln.1, ln.2.1])⟩
  replace k := Lib.hid k
  replace hj := Lib.hid hj
  replace hBC := Lib.hid (fun _ : Unit => hBC)
  rw [← hr] at k0
  have wr : w.heap.size ≤ r := Nat.le_of_eq hr.symm
  replace ln := Lib.hid ln
  obtain ⟨bk, hbk⟩ : ∃ b, b = a.bk := ⟨_, rfl⟩
  rw [← hbk] at CA FN alt
  replace hbk := Lib.hid (fun _ : Unit => hbk)
  go_enter Tryd.func30, Tryd.ntmps30
  go_wp2_with fail
  refine FN.out.mono ?_
  rintro e w1 ⟨rfl, rfl⟩
  rw [← hr]
  replace hr := Lib.hid hr
  generalize w.alloc (.cells Z.toArray 53) = w1 at *
  have K0 : Hid (Cb w1 r 53 Z) := k0
  have z1 : Hid (w1.heap.size = r + 1) := s0
  clear s0 k0 FN
  go_upto_region 4 with fail
  have FA : Hid (∀ s, Below (r + 1) w1.drew s → (∀ i v, (cellsOf a.ib)[i]? = some v → s.cell? ⟨bk, 32 + i, none⟩ = some v) ∧ (∀ i v, (cellsOf a.sb)[i]? = some v → s.cell? ⟨bk, 64 + i, none⟩ = some v)) := fun s x => CA.out s (Below.trans x0.out.drew (x.mono (by omega)))
  have sz1 : Hid (w1.drew.heap.size = r + 1) := z1.out
  have K0d : Hid (Cb w1.drew r 53 Z) := K0.out
  have x0d : Hid (Ext w w1.drew) := x0.out.drew
  clear CA K0 z1 x0
  refine qgB (r+1) [0, 1, 2, 3, 4, 5, 6, 7, 8, 9, 10, 11, 12] [11, 12] ?_
  generalize w1.drew = V at *
  iterate 4 ((first | refine qR0 ?_ | refine qS ?_); go_frame)
  refine qV rfl (fun w' => ∀ q_ v, (cellsOf a.ib)[q_]? = some v → w'.cell? ⟨bk, 32 + q_, none⟩ = some v) (fun w' e => (FA.out w' e).1) (.agg (cellsOf a.ib).toArray) (fun w' hF => exec_load_mid rfl rfl hF rfl rfl (by rw [L_i]; rfl)) ?_
  go_frame
  iterate 4 ((first | refine qR0 ?_ | refine qS ?_); go_frame)
  refine qV rfl (fun w' => ∀ q_ v, (cellsOf a.sb)[q_]? = some v → w'.cell? ⟨bk, 64 + q_, none⟩ = some v) (fun w' e => (FA.out w' e).2) (.agg (cellsOf a.sb).toArray) (fun w' hF => exec_load_mid rfl rfl hF rfl rfl (by rw [L_s]; rfl)) ?_
  go_frame
  refine qV rfl (fun _ => True) (fun _ _ => trivial) (.agg BC.toArray) (fun w' _ => exec_build_as rfl (by simp only [List.map_toArray, List.map_cons, List.map_nil]; exact BB.out)) ?_
  go_frame
  refine qD fun K_ hK => ?_
  go_simp
  have k8 : Hid (Cb (V.alloc (.cells Z.toArray 53)) (r + 1) 53 Z) := by rw [← sz1.out]; exact Cb.new _ _ _
  have x8 : Below (r + 1) V (V.alloc (.cells Z.toArray 53)) := ((Ext.refl V).alloc _).mono (Nat.le_of_eq sz1.out.symm)
  have x8e : Hid (Ext w (V.alloc (.cells Z.toArray 53)) ∧ Cb (V.alloc (.cells Z.toArray 53)) r 53 Z) := ⟨x0d.out.alloc _, K0d.out.ext ((Ext.refl _).alloc _)⟩
  (try rw [sz1.out])
  refine hK.out _ _ x8 ?_
  clear hK K_
  try go_frame
  clear x8 FA x0d K0d
  generalize V.alloc (.cells Z.toArray 53) = U at *
  refine qD fun K_ hK => ?_
  refine wp_store_row _ _ _ rfl (r + 1) BC.toArray (by first | rfl | (rw [← sz1.out]; rfl)) rfl 53 Z.toArray k8.out (by rw [S_b]; rfl) (by rw [S_b, S_z]) O_b ?_
  refine hK.out _ _ (below_setRow (Below.refl _ _) (Nat.le_refl _) _) ?_
  clear hK K_
  try simp only [Act.put]
  refine seq_done ?_
  have G8 : Hid (Cb (U.setRow (r + 1) BC.toArray) (r + 1) 53 BC ∧ Cb (U.setRow (r + 1) BC.toArray) r 53 Z ∧ Ext w (U.setRow (r + 1) BC.toArray)) := ⟨k8.out.set, (setRow_other _ _ _ _ (by omega)).trans x8e.out.2, below_setRow x8e.out.1 (by omega) _⟩
  refine gen_q (fun W => Cb W (r + 1) 53 BC ∧ Cb W r 53 Z ∧ Ext w W) G8.out ?_
  clear G8 k8 x8e BB
  rintro w2 ⟨k1, k0, x2⟩
  have h2 := k.out.ext x2
  have hA2 := h2.acc hj.out
  have kc2 := hA2.2.2.1
  have c1 := hA2.2.1.cell (a.a0 hA2.1).1
  have f1 := hA2.2.1.frozen 129
  rw [← hbk.out ()] at c1 f1
  have ncap := kc2.1.2.1
  have cm : a.c ≤ 9223372036854775807 := by have := ncap.2; unfold maxLen at this; omega
  have lK := kc2.1.1.1
  rw [List.length_map] at lK
  clear hA2
  rcases hk : a.K with _ | ⟨y, ks⟩
  · have n0 : a.n = 0 := by rw [hk] at lK; exact lK.symm
    have FIN : Hid (Ext w (w2.setRow r BC.toArray)) := below_setRow x2 wr _
    have RES : Hid (∀ (e : Ending), e = .returned (.tuple #[.agg BC.toArray, .int .i64 0]) → RfP B w g root ticks h N j a e (w2.setRow r BC.toArray)) := fun e q1 => RfP.nil hk FIN.out (hBC.out ()) q1
    rw [n0] at c1
    clear h2 kc2 x2 lK hk E_b hBC k hj n0 ncap cm FIN
    go_wp2_with (first
      | ((with_reducible refine wpList_load_rowW (o := ⟨some 47, _, _, _, _, _⟩) ?_ 53 _ rfl (r + 1) ?_ 53 BC.toArray (0, 0) _ ?_ Tryd.underlying53 ?_ ?_ ?_); (· rfl); (· rfl); (· exact k1); (· rfl); (· rw [S_b]; rfl); go_frame)
      | (refine wpList_store_row rfl 53 _ _ rfl r BC.toArray rfl rfl 53 Z.toArray k0 (by rw [S_b]; rfl) (by rw [S_b, S_z]) O_b ?_; simp only [Act.put]))
    (try simp only [Exit.inBlock, Exit.then])
    refine bodyPost_ret (results_row_tmp rfl _ _ r 53 BC.toArray (0, 0) _ _ rfl rfl (setRow_heap _ _ _ _ _ _ k0) rfl rfl (by rw [S_b]; rfl)) rfl ?_
    exact RES.out _ rfl
  · have nn : 0 < a.n := by rw [hk] at lK; simp at lK; omega
    obtain ⟨b, off, hA, hb, hc⟩ := kc2.1.at (j := 0) nn
    have hc' : ∀ i v, (cellsOf y)[i]? = some v → w2.cell? ⟨b, off + i, none⟩ = some v := fun i v hv => by
      have := hc i v (by rw [hk]; exact hv)
      rwa [show off + 0 * 32 + i = off + i by omega] at this
    have ly : y.length = 32 := by
      have := kc2.1.1.2 (cellsOf y) (by rw [hk]; exact List.mem_cons_self ..)
      rwa [cellsOf_len] at this
    have L_y : (cellsOf y).length = 32 := by rw [cellsOf_len, ly]
    have S_y : (cellsOf y).toArray.size = 32 := by rw [List.size_toArray, L_y]
    have O_y := cellsOf_one y
    have lis : (a.ib ++ (a.sb ++ y)).length = 96 := by simp [ln.out.2.1, ln.out.2.2.1, ly]
    have D_c : Cb (w2.setCells (r + 1) 64 (cellsOf y)) (r + 1) 53 (bbC (a.ib ++ (a.sb ++ y)) false) := by
      have e0 : BC = (cellsOf a.ib ++ cellsOf a.sb) ++ (cellsOf zk ++ [.bool false]) := E_b.out
      have := k1.put (z := cellsOf y) (off := 64) e0 (by simp [cellsOf_len, ln.out.2.1, ln.out.2.2.1]) (by rw [L_y, cellsOf_len]; rfl)
      have e : (cellsOf a.ib ++ cellsOf a.sb) ++ (cellsOf y ++ [Value.bool false]) = bbC (a.ib ++ (a.sb ++ y)) false := by simp [bbC, cellsOf_app]
      rwa [e] at this
    have D_d : Cb ((w2.setCells (r + 1) 64 (cellsOf y)).setCell ⟨r + 1, 96, none⟩ (.bool true)) (r + 1) 53 (bbC (a.ib ++ (a.sb ++ y)) true) := by
      have := D_c.setCell (o := 96) (v := .bool true)
      have e : (bbC (a.ib ++ (a.sb ++ y)) false).set 96 (.bool true) = bbC (a.ib ++ (a.sb ++ y)) true := by
        unfold bbC
        rw [List.set_append_right _ _ (by rw [cellsOf_len, lis]; omega), cellsOf_len, lis]
        rfl
      rwa [e] at this
    have c96 := D_c.cell (j := 96) (v := .bool false) (by
      unfold bbC
      rw [List.getElem?_append_right (by rw [cellsOf_len, lis]; omega), cellsOf_len, lis]
      rfl)
    have f96 := D_c.frozen 96
    have gr : w2.grownBy ((w2.setCells (r + 1) 64 (cellsOf y)).setCell ⟨r + 1, 96, none⟩ (.bool true)) (some (r + 1)) := grown_setCells.set _ _
    have th : Hid (w2.there (r + 1) 64 32) := k1.there (by rw [L_b]; omega)
    have G3 : Hid (Cb ((w2.setCells (r + 1) 64 (cellsOf y)).setCell ⟨r + 1, 96, none⟩ (.bool true)) (r + 1) 53 (bbC (a.ib ++ (a.sb ++ y)) true) ∧ Cb ((w2.setCells (r + 1) 64 (cellsOf y)).setCell ⟨r + 1, 96, none⟩ (.bool true)) r 53 Z ∧ Ext w ((w2.setCells (r + 1) 64 (cellsOf y)).setCell ⟨r + 1, 96, none⟩ (.bool true))) := by
      refine ⟨D_d, (gr.block _ k0.lt (fun z => by have := Option.some.inj z; omega)).trans k0, Below.trans x2 ⟨gr.os, gr.tape, gr.output, gr.size, fun i hi => gr.block i (Nat.lt_of_lt_of_le hi x2.size) (fun z => by have := Option.some.inj z; omega)⟩⟩
    obtain ⟨n1, hn1⟩ : ∃ m, a.n = m + 1 := ⟨a.n - 1, by omega⟩
    have e2 := hn1
    rw [hA, hn1] at c1
    replace hn1 := Lib.hid (fun _ : Unit => hn1)
    have hAH := Lib.hid (fun _ : Unit => hA)
    have L_r : (bbC (a.ib ++ (a.sb ++ y)) true).length = 97 := by rw [bbC_len, lis]
    have O_r : (bbC (a.ib ++ (a.sb ++ y)) true).toArray.all (·.oneCell') = true := bbC_one _ _
    obtain ⟨RC, hRC⟩ : ∃ RC, RC = bbC (a.ib ++ (a.sb ++ y)) true := ⟨_, rfl⟩
    rw [← hRC] at G3 L_r O_r
    have S_r : RC.toArray.size = 97 := by rw [List.size_toArray, L_r]
    replace hRC := Lib.hid (fun _ : Unit => hRC)
    replace hk := Lib.hid (fun _ : Unit => hk)
    clear D_d gr e2 k1 k0 x2 h2 kc2 f1 lK nn hb hc lis E_b hA hBC ly O_b S_b L_b
    generalize cellsOf y = YC at *
    go_upto_region 8 with (first
      | ((with_reducible refine wpList_load_mid (o := ⟨some 36, _, _, _, _, _⟩) (ty := 23) (g := b) (off := off) (ys := YC) ?_ rfl ?_ ?_ Tryd.underlying23 ?_ ?_ ?_); (· rfl); (· rfl); (· exact hc'); (· rfl); (· rw [L_y]; rfl); go_frame)
      | ((with_reducible refine wpList_store_mid (op := ⟨none, .store 23 (.tmp 37) (.tmp 36), _, _, _, _⟩) ?_ 23 _ _ rfl (r + 1) 64 YC.toArray ?_ ?_ ?_ ?_ ?_ ?_); (· rfl); (· rfl); (· rfl); (· rw [S_y]; exact th.out); (· rw [S_y]; rfl); (· exact O_y); go_frame))
    refine wp_gen (fun W => Cb W (r + 1) 53 RC ∧ Cb W r 53 Z ∧ Ext w W) G3.out ?_
    clear G3 th D_c c96 f96 c1 hc'
    rintro w3 ⟨k1, k0, x3⟩
    have h3 := k.out.ext x3
    have fet := h3.fet hj.out (hk.out ())
    have hA3 := h3.acc hj.out
    have c1 := hA3.2.1.cell (a.a0 hA3.1).1
    have f1 := hA3.2.1.frozen 129
    rw [← hbk.out ()] at c1 f1
    rw [hAH.out (), hn1.out ()] at fet c1
    clear hA3
    have gr : w3.grownBy (w3.setCell ⟨bk, 129, none⟩ (.slice (if a.c = 1 then some ⟨b, off, none⟩ else (some (⟨b, off, none⟩ : Addr)).map (·.add (1 * 32))) (n1 + 1 - 1) (a.c - 1))) (some bk) := (World.grownBy.refl w3 _).set _ _
    have hne : ∀ i, r ≤ i → some i ≠ some bk := fun i hi z => by have := Option.some.inj z; omega
    have G4 : Hid (Cb (w3.setCell ⟨bk, 129, none⟩ (.slice (if a.c = 1 then some ⟨b, off, none⟩ else (some (⟨b, off, none⟩ : Addr)).map (·.add (1 * 32))) (n1 + 1 - 1) (a.c - 1))) (r + 1) 53 RC ∧ Cb (w3.setCell ⟨bk, 129, none⟩ (.slice (if a.c = 1 then some ⟨b, off, none⟩ else (some (⟨b, off, none⟩ : Addr)).map (·.add (1 * 32))) (n1 + 1 - 1) (a.c - 1))) r 53 Z ∧ (∃ A' n' c', RW B (w3.setCell ⟨bk, 129, none⟩ (.slice (if a.c = 1 then some ⟨b, off, none⟩ else (some (⟨b, off, none⟩ : Addr)).map (·.add (1 * 32))) (n1 + 1 - 1) (a.c - 1))) g root ticks (updR h j (some { a with A := A', n := n', c := c', K := ks })) N) ∧ Tb B tagX w (w3.setCell ⟨bk, 129, none⟩ (.slice (if a.c = 1 then some ⟨b, off, none⟩ else (some (⟨b, off, none⟩ : Addr)).map (·.add (1 * 32))) (n1 + 1 - 1) (a.c - 1)))) := by
      refine ⟨(gr.block _ k1.lt (hne _ (by omega))).trans k1, (gr.block _ k0.lt (hne _ (Nat.le_refl _))).trans k0, ?_⟩
      rw [hbk.out ()]
      exact ⟨⟨_, _, _, fet.1⟩, (Tb.of_ext x3).trans fet.2⟩
    have hle1 : 1 ≤ n1 + 1 := by omega
    have hlec : n1 + 1 ≤ a.c := by rw [← hn1.out ()]; exact ncap.1
    clear fet gr h3 x3 k0 k1
    go_upto_region 9 with (first
      | (refine wpList_exec rfl (exec_fromC (s := 32) Tryd.underlying38 (by kernel_rfl) (k := 1) rfl rfl rfl hle1 hlec) ?_; go_frame))
    refine wp_gen (fun W => Cb W (r + 1) 53 RC ∧ Cb W r 53 Z ∧ (∃ A' n' c', RW B W g root ticks (updR h j (some { a with A := A', n := n', c := c', K := ks })) N) ∧ Tb B tagX w W) G4.out ?_
    clear G4 c1 f1
    rintro w4 ⟨k1, k0, ⟨A', n', c', ry⟩, tm⟩
    have FIN : Hid (∀ (e : Ending), e = .returned (.tuple #[.agg RC.toArray, .int .i64 0]) → RfP B w g root ticks h N j a e (w4.setRow r RC.toArray)) := by
      have := RW.row ry (C := RC.toArray) k0 (by decide) tm wr
      exact fun e he => RfP.one (hk.out ()) this.1 this.2 (hRC.out ()) he
    clear ry tm
    go_wp2_with (first
      | ((with_reducible refine wpList_load_rowW (o := ⟨some 47, _, _, _, _, _⟩) ?_ 53 _ rfl (r + 1) ?_ 53 RC.toArray (0, 0) _ ?_ Tryd.underlying53 ?_ ?_ ?_); (· rfl); (· rfl); (· exact k1); (· rfl); (· rw [S_r]; rfl); go_frame)
      | (refine wpList_store_row rfl 53 _ _ rfl r RC.toArray rfl rfl 53 Z.toArray k0 (by rw [S_r]; rfl) (by rw [S_r, S_z]) O_r ?_; simp only [Act.put]))
    all_goals (
      (try simp only [Exit.inBlock, Exit.then])
      refine bodyPost_ret (results_row_tmp rfl _ _ r 53 RC.toArray (0, 0) _ _ rfl rfl (setRow_heap _ _ _ _ _ _ k0) rfl rfl (by rw [S_r]; rfl)) rfl ?_
      exact FIN.out _ rfl)
end
end Go.Proofs.YtbnjmmefnjoofaaDoor
