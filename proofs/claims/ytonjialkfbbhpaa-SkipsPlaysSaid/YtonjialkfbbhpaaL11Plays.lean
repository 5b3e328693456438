/-
  The law SkipsPlays.
-/
import Derived.Test.YtonjialkfbbhpaaRtake11
import Derived.Test.YtonjialkfbbhpaaL11Whose
import Derived.Test.YtonjialkfbbhpaaL11Copies
namespace Go.Proofs.Ytonjialkfbbhpaa
open Go.ChangeShapes Go.WideShapes Go.ChangeAt Go.RowKit Go.Deep Go.Maps
set_option maxRecDepth 100000

theorem O11.C_len {o : O11} (h : o.ok) : o.C.length = 66 := by simp [O11.C, cellsOf_len, h.1, h.2.1]
theorem O11.one (o : O11) : ∀ v ∈ o.C, v.oneCell' = true := fun v hv => by
  simp only [O11.C, List.mem_append, List.mem_cons, List.not_mem_nil, or_false] at hv
  rcases hv with rfl | h | rfl | h
  · rfl
  · exact one_mem _ v h
  · rfl
  · exact one_mem _ v h
def zO11 : O11 := ⟨0, List.replicate 32 0, 0, List.replicate 32 0⟩
theorem op_alloc (w : World) : (zeroValue 33).run Try.prog w = .ok (.agg zO11.C.toArray) w := by kernel_rfl
theorem rstore_built : Try.prog.built 29 [] = some #[.slice none 0 0] := by kernel_rfl
/-- The whole i-th call. -/
theorem o11_all {w : World} {A : Option Addr} {n c : Nat} {L : List O11} (h : Cs w 66 A n c (L.map O11.C)) (ok : ∀ o ∈ L, o.ok) {i : Nat} (hi : i < n) :
    ∃ b off, ∃ o : O11, A = some ⟨b, off, none⟩ ∧ o.ok ∧ ∀ s, Ext w s → ∀ q v, o.C[q]? = some v → s.cell? ⟨b, off + i * 66 + q, none⟩ = some v := by
  have hl : L.length = n := by have := h.1.1; rwa [List.length_map] at this
  have hL : L[i]? = some (L[i]'(by omega)) := List.getElem?_eq_getElem _
  obtain ⟨b, off, hA, hb, hc⟩ := h.at hi
  have e1 : (L.map O11.C).getD i [] = (L[i]'(by omega)).C := by rw [List.getD_eq_getElem?_getD, List.getElem?_map, hL]; rfl
  rw [e1] at hc
  exact ⟨b, off, _, hA, ok _ (List.getElem_mem (show i < L.length by omega)), fun s e q v hv => (e.cell hb).trans (hc q v hv)⟩
set_option maxHeartbeats 16000000 in
theorem plays11_calls {w : World} {LO : List O11} {A : Option Addr} {len cap : Nat} (hl : Cs w 66 A len cap (LO.map O11.C)) (ol : ∀ o ∈ LO, o.ok) :
    Calls Try.prog 3 #[.slice A len cap] w fun e w' => e = .returned (.bool true) ∧ Ext w w' := by
  have AW := Lib.hid (fun (W : World) => awake11_calls (w := W))
  have NW := Lib.hid (fun (W : World) => snew_calls (w := W))
  have OA := Lib.hid (fun i (hi : i < len) => o11_all hl ol hi)
  have hal1 := op_alloc
  have hal3 : ∀ w, (zeroValue 31).run Try.prog w = .ok (.agg (cellsOf zk32).toArray) w := fun w => by kernel_rfl
  have S_z : (cellsOf zk32).toArray.size = 32 := by rfl
  have RB := Lib.hid rstore_built
  have ZOL : zO11.C.length = 66 := by kernel_rfl
  have q1 := hl.2.1
  have q2 : cap ≤ 9223372036854775807 := by have := q1.2; unfold maxLen at this; omega
  generalize zk32 = z at *
  generalize zO11.C = ZO at *
  have S_ZO : ZO.toArray.size = 66 := by rw [List.size_toArray, ZOL]
  clear hl ol
  go_enter Try.func3, Try.ntmps3
  go_wp2_with fail
  refine (AW.out _).mono ?_
  rintro e w1 ⟨rfl, x1⟩
  replace x1 := Lib.hid x1
  clear AW
  go_wp2_with fail
  refine (NW.out _).mono ?_
  rintro e w5 ⟨gs0, mb0, rfl, gg, gb0, s5, x5⟩
  have wgs0 : w.heap.size ≤ gs0 := Nat.le_trans x1.out.size gg
  have wmb0 : w.heap.size ≤ mb0 := Nat.le_trans x1.out.size gb0
  have X5 := x1.out.trans x5
  have K5 : Hid (SK (w5.alloc (.cells #[.slice none 0 0] 29)) gs0 mb0 [] 0 ∧ RK (w5.alloc (.cells #[.slice none 0 0] 29)) w5.heap.size [] ∧ Ext w (w5.alloc (.cells #[.slice none 0 0] 29))) :=
    ⟨s5.ext ((Ext.refl _).alloc _), ⟨none, 0, 0, Cb.new w5 _ [.slice none 0 0], ⟨⟨rfl, fun x hx => by cases hx⟩, ⟨Nat.le_refl _, Nat.zero_le _⟩, fun h => absurd h (by omega)⟩, fun h => absurd h (by omega), fun x hx => by cases hx⟩, X5.alloc _⟩
  have wgr : w.heap.size ≤ w5.heap.size := X5.size
  have ngs : gs0 < w5.heap.size := s5.cb.lt
  have nmb : mb0 < w5.heap.size := s5.mp.lt
  clear NW x1 x5 gg gb0 s5 X5
  go_upto_region 4 with (refine wpList_build_as rfl _ _ rfl #[.slice none 0 0] (by simp only [List.map_toArray, List.map_nil]; exact RB.out) ?_; simp only [Act.put, List.setIfInBounds_toArray, List.set_cons_zero, List.set_cons_succ])
  refine wp_gen (fun W => SK W gs0 mb0 [] 0 ∧ RK W w5.heap.size [] ∧ Ext w W) K5.out ?_
  generalize w5.heap.size = gr at *
  clear K5 RB w5
  rintro w6 K6
  replace K6 := Lib.hid K6
  go_wp2_with fail
  go_loopw [6, 4] (fun v sv wr => ∃ (i : Nat) (L : List Kp) (p : Int) (gs mb : Nat), i ≤ len ∧ i ≤ 120 ∧ v = .int .i64 (i : Int) ∧ sv = .pointer (some ⟨gs, 0, none⟩) ∧ SK wr gs mb L p ∧ RK wr gr L ∧ L.length ≤ 8 ∧ p ≤ i ∧ w.heap.size ≤ gs ∧ w.heap.size ≤ mb ∧ Ext w wr) (fun v _ _ => len - (intOf v).toNat)
  case atStart => exact ⟨0, [], 0, gs0, mb0, Nat.zero_le _, by omega, rfl, rfl, K6.out.1, K6.out.2.1, Nat.zero_le _, Int.le_refl _, wgs0, wmb0, K6.out.2.2⟩
  case round =>
    clear K6 ngs nmb wgs0 wmb0
    obtain ⟨i, L, p, gs, mb, hi, hi2, rfl, rfl, sk, rk, l8, pi, wgs, wmb, xr⟩ := hrel
    by_cases hlt : i < len
    case neg =>
      obtain rfl : i = len := by omega
      clear sk rk OA
      replace xr := Lib.hid xr
      go_wp2_with fail
      go_ret
      exact ⟨rfl, xr.out⟩
    by_cases h120 : i < 120
    case neg =>
      have u1 : decide ((i : Int) < 120) = false := decide_eq_false (by omega)
      clear sk rk OA
      replace xr := Lib.hid xr
      go_wp2_with fail
      go_ret
      exact ⟨rfl, xr.out⟩
    have u1 : decide ((i : Int) < 120) = true := decide_eq_true (by omega)
    obtain ⟨b0, off, o, rfl, hok, oc⟩ := OA.out i hlt
    have M0 := Lib.hid (oc wr xr)
    have L_O := O11.C_len hok
    have S_O : o.C.toArray.size = 66 := by rw [List.size_toArray, L_O]
    have O_O := one_cells o.one
    have K7 : Hid (Cb ((wr.alloc (.cells ZO.toArray 33)).setRow wr.heap.size o.C.toArray) wr.heap.size 33 o.C ∧ SK ((wr.alloc (.cells ZO.toArray 33)).setRow wr.heap.size o.C.toArray) gs mb L p ∧ RK ((wr.alloc (.cells ZO.toArray 33)).setRow wr.heap.size o.C.toArray) gr L ∧ Ext w ((wr.alloc (.cells ZO.toArray 33)).setRow wr.heap.size o.C.toArray)) :=
      ⟨(Cb.new wr _ ZO).set, sk.ext (Ext.newRow _ _ _), rk.ext (Ext.newRow _ _ _), xr.trans (Ext.newRow _ _ _)⟩
    have gs7 := sk.cb.lt
    have mb7 := sk.mp.lt
    have gr7 := rk.lt
    have hwi : IntKind.i64.wrap ((i : Int) + 1) = (i : Int) + 1 := IntWalk.i64_in _ (by omega)
    clear oc sk rk xr
    obtain ⟨OC, hOC⟩ : ∃ OC, OC = o.C := ⟨_, rfl⟩
    rw [← hOC] at M0 L_O S_O O_O K7
    replace hOC := Lib.hid hOC
    go_upto_region 11 with (first
      | ((with_reducible refine wpList_load_mid (o := ⟨some 33, _, _, _, _, _⟩) (ty := 33) (g := b0) (off := off + i * 66) (ys := OC) ?_ rfl ?_ ?_ Try.underlying33 ?_ ?_ ?_); (· rfl); (· rfl); (· exact M0.out); (· rfl); (· rw [L_O]; rfl); simp only [Act.put, List.setIfInBounds_toArray, List.set_cons_zero, List.set_cons_succ])
      | (refine wpList_store_row rfl 33 _ _ rfl wr.heap.size OC.toArray rfl rfl 33 ZO.toArray (heap_alloc_new _ _) (by rw [S_O]; rfl) (by rw [S_O, S_ZO]) O_O ?_; simp only [Act.put]))
    refine wp_gen (fun W => Cb W wr.heap.size 33 OC ∧ SK W gs mb L p ∧ RK W gr L ∧ Ext w W) K7.out ?_
    generalize wr.heap.size = r7 at *
    clear K7 M0 wr
    rintro u ⟨k7, sk, rk, xu⟩
    rw [hOC.out] at k7
    clear hOC
    obtain ⟨od, pk, n, k⟩ := o
    obtain ⟨lpk, lk, hn⟩ := hok
    dsimp only at lpk lk hn
    have C_pk : (cellsOf pk).length = 32 := by rw [cellsOf_len, lpk]
    have C_k : (cellsOf k).length = 32 := by rw [cellsOf_len, lk]
    have cd : u.cell? ⟨r7, 0, none⟩ = some (.int .i64 od) := k7.cell (O11.c0 ⟨od, pk, n, k⟩)
    replace k7 := Lib.hid k7
    replace sk := Lib.hid sk
    replace rk := Lib.hid rk
    replace xu := Lib.hid xu
    clear L_O S_O O_O
    rcases Decidable.em (od = 0) with d0 | d0
    · have v0 : (od == 0) = true := by rw [d0]; rfl
      replace d0 := Lib.hid d0
      have T : Hid (∀ s, Thr gs mb gr u.drew s → (∀ q v, (cellsOf pk)[q]? = some v → s.cell? ⟨r7, 1 + q, none⟩ = some v) ∧ s.cell? ⟨r7, 33, none⟩ = some (.int .i64 n) ∧ (∀ q v, (cellsOf k)[q]? = some v → s.cell? ⟨r7, 34 + q, none⟩ = some v)) := fun s e => by
        have kc : Cb s r7 33 (⟨od, pk, n, k⟩ : O11).C := e.block k7.out (by omega) (by omega) (by omega)
        exact ⟨fun q v hv => kc.cell (O11.c1 ⟨od, pk, n, k⟩ q v hv), kc.cell (O11.c33 (o := ⟨od, pk, n, k⟩) ⟨lpk, lk, hn⟩), fun q v hv => kc.cell (O11.c34 (o := ⟨od, pk, n, k⟩) ⟨lpk, lk, hn⟩ q v hv)⟩
      have S0 : Hid (SK u.drew gs mb L p) := sk.out.ext (Ext.refl u).drew
      have R0 : Hid (RK u.drew gr L) := rk.out.ext (Ext.refl u).drew
      have X0 : Hid (Ext w u.drew) := xu.out.drew
      clear k7 sk rk xu
      go_upto_region 20 with fail
      clear cd
      refine wp_region_seq (R := Thr gs mb gr) (Thr.refl _ _ _) (fun _ _ _ => Thr.trans) [0, 1, 2, 3, 4, 5, 6, 8, 9, 10, 11, 12, 13, 14, 7, 15, 16, 17] [7, 15] [(0, 57, 32), (0, 58, 256), (2, 59, 288230376151711744), (0, 60, 256), (8, 61, 1152921504606846976), (0, 62, 256), (32, 63, 4611686018427387904), (85, 64, 12249790986447749120), (0, 65, 64), (0, 66, 256), (512, 67, 73786976294838206464), (0, 68, 256), (2048, 69, 295147905179352825856), (0, 70, 256), (8192, 71, 1180591620717411303424), (21888, 72, 3135946492530623774720), (32896, 73, 4740813226943354765312), (131071, 9, 9444732965739290427392)] (by kernel_rfl) (by kernel_rfl) (by kernel_rfl) rfl (by kernel_rfl) (by kernel_rfl) (fun _ _ d _ _ h => by cases d <;> exact h) ?_
      generalize u.drew = W at *
      repeat (first | (refine seq_read (fun _ => True) (fun _ _ => trivial) _ (v := ?_) rfl rfl (by rfl) ?_ ?_; rotate_left; (· intro w' hF; go_simp; (try with_reducible rfl)); simp only [Act.put, List.setIfInBounds_toArray, List.set_cons_zero, List.set_cons_succ]) | (refine seq_skip _ rfl rfl (by rfl) ?_; simp only [Act.put, List.setIfInBounds_toArray, List.set_cons_zero, List.set_cons_succ]))
      refine seq_read (fun w' => ∀ q_ v, (cellsOf pk)[q_]? = some v → w'.cell? ⟨r7, 1 + q_, none⟩ = some v) (fun w' e => (T.out w' e).1) _ (v := .agg (cellsOf pk).toArray) rfl rfl (by rfl) (fun w' hF => exec_load_mid rfl rfl hF rfl rfl (by rw [C_pk]; rfl)) ?_
      simp only [Act.put, List.setIfInBounds_toArray, List.set_cons_zero, List.set_cons_succ]
      repeat (first | (refine seq_read _ (fun w' e => (T.out w' e).2.1) _ (v := ?_) rfl rfl (by rfl) ?_ ?_; rotate_left; (· intro w' hF; go_simp; (try with_reducible rfl)); simp only [Act.put, List.setIfInBounds_toArray, List.set_cons_zero, List.set_cons_succ]) | (refine seq_skip _ rfl rfl (by rfl) ?_; simp only [Act.put, List.setIfInBounds_toArray, List.set_cons_zero, List.set_cons_succ]))
      refine seq_read (fun w' => ∀ q_ v, (cellsOf k)[q_]? = some v → w'.cell? ⟨r7, 34 + q_, none⟩ = some v) (fun w' e => (T.out w' e).2.2) _ (v := .agg (cellsOf k).toArray) rfl rfl (by rfl) (fun w' hF => exec_load_mid rfl rfl hF rfl rfl (by rw [C_k]; rfl)) ?_
      simp only [Act.put, List.setIfInBounds_toArray, List.set_cons_zero, List.set_cons_succ]
      repeat (first | (refine seq_read (fun _ => True) (fun _ _ => trivial) _ (v := ?_) rfl rfl (by rfl) ?_ ?_; rotate_left; (· intro w' hF; go_simp; (try with_reducible rfl)); simp only [Act.put, List.setIfInBounds_toArray, List.set_cons_zero, List.set_cons_succ]) | (refine seq_skip _ rfl rfl (by rfl) ?_; simp only [Act.put, List.setIfInBounds_toArray, List.set_cons_zero, List.set_cons_succ]))
      refine seq_read (fun w' => ∀ q_ v, (cellsOf pk)[q_]? = some v → w'.cell? ⟨r7, 1 + q_, none⟩ = some v) (fun w' e => (T.out w' e).1) _ (v := .agg (cellsOf pk).toArray) rfl rfl (by rfl) (fun w' hF => exec_load_mid rfl rfl hF rfl rfl (by rw [C_pk]; rfl)) ?_
      simp only [Act.put, List.setIfInBounds_toArray, List.set_cons_zero, List.set_cons_succ]
      repeat (first | (refine seq_read _ (fun w' e => (T.out w' e).2.1) _ (v := ?_) rfl rfl (by rfl) ?_ ?_; rotate_left; (· intro w' hF; go_simp; (try with_reducible rfl)); simp only [Act.put, List.setIfInBounds_toArray, List.set_cons_zero, List.set_cons_succ]) | (refine seq_skip _ rfl rfl (by rfl) ?_; simp only [Act.put, List.setIfInBounds_toArray, List.set_cons_zero, List.set_cons_succ]))
      refine seq_read (fun w' => ∀ q_ v, (cellsOf k)[q_]? = some v → w'.cell? ⟨r7, 34 + q_, none⟩ = some v) (fun w' e => (T.out w' e).2.2) _ (v := .agg (cellsOf k).toArray) rfl rfl (by rfl) (fun w' hF => exec_load_mid rfl rfl hF rfl rfl (by rw [C_k]; rfl)) ?_
      simp only [Act.put, List.setIfInBounds_toArray, List.set_cons_zero, List.set_cons_succ]
      repeat (first | (refine seq_read (fun _ => True) (fun _ _ => trivial) _ (v := ?_) rfl rfl (by rfl) ?_ ?_; rotate_left; (· intro w' hF; go_simp; (try with_reducible rfl)); simp only [Act.put, List.setIfInBounds_toArray, List.set_cons_zero, List.set_cons_succ]) | (refine seq_skip _ rfl rfl (by rfl) ?_; simp only [Act.put, List.setIfInBounds_toArray, List.set_cons_zero, List.set_cons_succ]))
      refine seq_do _ rfl rfl (by rfl) (fun K hK => ?_)
      go_simp
      refine (sput_calls S0.out lpk lk hn l8 (by omega)).mono ?_
      rintro e v1 ⟨rfl, ⟨p', p1, p2, _, _, s1⟩, t1⟩
      refine hK.out _ _ (Thr.of_two t1) ?_
      clear hK K
      try simp only [Act.put, List.setIfInBounds_toArray, List.set_cons_zero, List.set_cons_succ]
      have R1 : Hid (RK v1 gr L) := R0.out.two S0.out t1
      have X1 : Hid (Ext w v1) := t1.ext X0.out wgs wmb
      replace s1 := Lib.hid s1
      clear T S0 R0 X0 t1
      repeat (first | (refine seq_read (fun _ => True) (fun _ _ => trivial) _ (v := ?_) rfl rfl (by rfl) ?_ ?_; rotate_left; (· intro w' hF; go_simp; (try with_reducible rfl)); simp only [Act.put, List.setIfInBounds_toArray, List.set_cons_zero, List.set_cons_succ]) | (refine seq_skip _ rfl rfl (by rfl) ?_; simp only [Act.put, List.setIfInBounds_toArray, List.set_cons_zero, List.set_cons_succ]))
      refine seq_do _ rfl rfl (by rfl) (fun K hK => ?_)
      go_simp
      refine (rput11_calls (X := ⟨pk, n, k, p⟩) R1.out ⟨lpk, lk, hn⟩ l8).mono ?_
      rintro e v2 ⟨rfl, rk2, g2⟩
      refine hK.out _ _ (Thr.of_grown g2) ?_
      clear hK K
      try simp only [Act.put, List.setIfInBounds_toArray, List.set_cons_zero, List.set_cons_succ]
      have sk2 := Lib.hid (s1.out.grown R1.out g2)
      have xu2 : Hid (Ext w v2) := Thr.ext (g := gr) (b := gr) X1.out (Thr.of_grown g2) wgr wgr wgr
      replace rk2 := Lib.hid rk2
      clear s1 R1 X1 g2
      repeat (first | (refine seq_read (fun _ => True) (fun _ _ => trivial) _ (v := ?_) rfl rfl (by rfl) ?_ ?_; rotate_left; (· intro w' hF; go_simp; (try with_reducible rfl)); simp only [Act.put, List.setIfInBounds_toArray, List.set_cons_zero, List.set_cons_succ]) | (refine seq_skip _ rfl rfl (by rfl) ?_; simp only [Act.put, List.setIfInBounds_toArray, List.set_cons_zero, List.set_cons_succ]))
      refine seq_done ?_
      have l82 := putR_len (x := ⟨pk, n, k, p⟩) l8
      have LE := Lib.hid (fun s (e : Ext v2 s) => slen_calls (sk2.out.ext e))
      obtain ⟨RA, rn, rc, rcb, hrn⟩ := rk2.out.len
      have CR : Hid (∀ s, Ext v2 s → s.cell? ⟨gr, 0, none⟩ = some (.slice RA rn rc)) := fun s e => (rcb.ext e).cell rfl
      have hnn : (((putR L ⟨pk, n, k, p⟩).length : Int) != (rn : Int)) = false := by rw [hrn]; simp
      have hKE : Hid (∀ s, Ext v2 s → SK s gs mb (putR L ⟨pk, n, k, p⟩) (p') ∧ RK s gr (putR L ⟨pk, n, k, p⟩) ∧ Ext w s) := fun s e => ⟨sk2.out.ext e, rk2.out.ext e, xu2.out.trans e⟩
      replace hrn := Lib.hid hrn
      clear rcb sk2 rk2 xu2
      go_upto_region 25 with fail
      refine wp_region_seq (R := Ext) Ext.refl (fun _ _ _ => Ext.trans) [0, 1, 2, 3, 5, 6, 7, 8, 9, 4, 10, 11] [4] [(0, 102, 512), (1, 103, 5070602400912917605986812821504), (2, 104, 10141204801825835211973625643008), (4, 105, 20282409603651670423947251286048), (12, 106, 60847228810955011271841753858048), (4, 107, 20282409603651670423947251286080), (36, 108, 182541686432865033815525261574144), (68, 109, 344800963262078397207103271862272), (132, 110, 669319516920505123990259292438528), (260, 111, 1318356624237358577556571333591040), (532, 112, 2697560477285672166384984421040128), (1028, 113, 5212579268138479298954443580506112)] (by kernel_rfl) (by kernel_rfl) (by kernel_rfl) rfl (by kernel_rfl) (by kernel_rfl) (fun _ _ d _ _ h => by cases d <;> exact h) ?_
      repeat (first | (refine seq_read _ (fun w' e => CR.out w' (Ext.trans (Ext.refl _).drew e)) _ (v := ?_) rfl rfl (by rfl) ?_ ?_; rotate_left; (· intro w' hF; go_simp; (try with_reducible rfl)); simp only [Act.put, List.setIfInBounds_toArray, List.set_cons_zero, List.set_cons_succ]) | (refine seq_skip _ rfl rfl (by rfl) ?_; simp only [Act.put, List.setIfInBounds_toArray, List.set_cons_zero, List.set_cons_succ]))
      have X0 : Hid (Ext v2 v2.drew) := (Ext.refl v2).drew
      generalize v2.drew = UU at *
      refine seq_do _ rfl rfl (by rfl) (fun K hK => ?_)
      go_simp
      refine (LE.out UU X0.out).mono ?_
      rintro e u2 ⟨rfl, y2⟩
      refine hK.out _ _ y2 ?_
      clear hK K
      try simp only [Act.put, List.setIfInBounds_toArray, List.set_cons_zero, List.set_cons_succ]
      repeat (first | (refine seq_read _ (fun w' e => CR.out w' ((X0.out.trans y2).trans e)) _ (v := ?_) rfl rfl (by rfl) ?_ ?_; rotate_left; (· intro w' hF; go_simp; (try with_reducible rfl)); simp only [Act.put, List.setIfInBounds_toArray, List.set_cons_zero, List.set_cons_succ]) | (refine seq_skip _ rfl rfl (by rfl) ?_; simp only [Act.put, List.setIfInBounds_toArray, List.set_cons_zero, List.set_cons_succ]))
      refine seq_done ?_
      have X2 := X0.out.trans y2
      obtain ⟨f1, f2, f3⟩ := hKE.out _ X2
      clear hKE CR LE X0 y2 X2
      go_wp2_with fail
      go_round
      case rel => exact ⟨i + 1, _, _, gs, mb, by omega, by omega, by go_num, rfl, f1, f2, l82, by omega, by omega, by omega, f3⟩
      case measure => simp [intOf]; omega
    rcases Decidable.em (od = 1) with d1 | d1
    · have v0 : (od == 0) = false := by rw [d1]; rfl
      have v1 : (od == 1) = true := by rw [d1]; rfl
      replace d0 := Lib.hid d0
      replace d1 := Lib.hid d1
      have T : Hid (∀ s, Thr gs mb gr u.drew s → (∀ q v, (cellsOf pk)[q]? = some v → s.cell? ⟨r7, 1 + q, none⟩ = some v) ∧ s.cell? ⟨r7, 33, none⟩ = some (.int .i64 n) ∧ (∀ q v, (cellsOf k)[q]? = some v → s.cell? ⟨r7, 34 + q, none⟩ = some v)) := fun s e => by
        have kc : Cb s r7 33 (⟨od, pk, n, k⟩ : O11).C := e.block k7.out (by omega) (by omega) (by omega)
        exact ⟨fun q v hv => kc.cell (O11.c1 ⟨od, pk, n, k⟩ q v hv), kc.cell (O11.c33 (o := ⟨od, pk, n, k⟩) ⟨lpk, lk, hn⟩), fun q v hv => kc.cell (O11.c34 (o := ⟨od, pk, n, k⟩) ⟨lpk, lk, hn⟩ q v hv)⟩
      have S0 : Hid (SK u.drew gs mb L p) := sk.out.ext (Ext.refl u).drew
      have R0 : Hid (RK u.drew gr L) := rk.out.ext (Ext.refl u).drew
      have X0 : Hid (Ext w u.drew) := xu.out.drew
      clear k7 sk rk xu
      go_upto_region 20 with fail
      clear cd
      refine wp_region_seq (R := Thr gs mb gr) (Thr.refl _ _ _) (fun _ _ _ => Thr.trans) [0, 1, 2, 3, 4, 5, 6, 8, 9, 10, 11, 12, 13, 14, 7, 15, 16, 17] [7, 15] [(0, 57, 32), (0, 58, 256), (2, 59, 288230376151711744), (0, 60, 256), (8, 61, 1152921504606846976), (0, 62, 256), (32, 63, 4611686018427387904), (85, 64, 12249790986447749120), (0, 65, 64), (0, 66, 256), (512, 67, 73786976294838206464), (0, 68, 256), (2048, 69, 295147905179352825856), (0, 70, 256), (8192, 71, 1180591620717411303424), (21888, 72, 3135946492530623774720), (32896, 73, 4740813226943354765312), (131071, 9, 9444732965739290427392)] (by kernel_rfl) (by kernel_rfl) (by kernel_rfl) rfl (by kernel_rfl) (by kernel_rfl) (fun _ _ d _ _ h => by cases d <;> exact h) ?_
      generalize u.drew = W at *
      repeat (first | (refine seq_read (fun _ => True) (fun _ _ => trivial) _ (v := ?_) rfl rfl (by rfl) ?_ ?_; rotate_left; (· intro w' hF; go_simp; (try with_reducible rfl)); simp only [Act.put, List.setIfInBounds_toArray, List.set_cons_zero, List.set_cons_succ]) | (refine seq_skip _ rfl rfl (by rfl) ?_; simp only [Act.put, List.setIfInBounds_toArray, List.set_cons_zero, List.set_cons_succ]))
      refine seq_read (fun w' => ∀ q_ v, (cellsOf pk)[q_]? = some v → w'.cell? ⟨r7, 1 + q_, none⟩ = some v) (fun w' e => (T.out w' e).1) _ (v := .agg (cellsOf pk).toArray) rfl rfl (by rfl) (fun w' hF => exec_load_mid rfl rfl hF rfl rfl (by rw [C_pk]; rfl)) ?_
      simp only [Act.put, List.setIfInBounds_toArray, List.set_cons_zero, List.set_cons_succ]
      repeat (first | (refine seq_read _ (fun w' e => (T.out w' e).2.1) _ (v := ?_) rfl rfl (by rfl) ?_ ?_; rotate_left; (· intro w' hF; go_simp; (try with_reducible rfl)); simp only [Act.put, List.setIfInBounds_toArray, List.set_cons_zero, List.set_cons_succ]) | (refine seq_skip _ rfl rfl (by rfl) ?_; simp only [Act.put, List.setIfInBounds_toArray, List.set_cons_zero, List.set_cons_succ]))
      refine seq_read (fun w' => ∀ q_ v, (cellsOf k)[q_]? = some v → w'.cell? ⟨r7, 34 + q_, none⟩ = some v) (fun w' e => (T.out w' e).2.2) _ (v := .agg (cellsOf k).toArray) rfl rfl (by rfl) (fun w' hF => exec_load_mid rfl rfl hF rfl rfl (by rw [C_k]; rfl)) ?_
      simp only [Act.put, List.setIfInBounds_toArray, List.set_cons_zero, List.set_cons_succ]
      repeat (first | (refine seq_read (fun _ => True) (fun _ _ => trivial) _ (v := ?_) rfl rfl (by rfl) ?_ ?_; rotate_left; (· intro w' hF; go_simp; (try with_reducible rfl)); simp only [Act.put, List.setIfInBounds_toArray, List.set_cons_zero, List.set_cons_succ]) | (refine seq_skip _ rfl rfl (by rfl) ?_; simp only [Act.put, List.setIfInBounds_toArray, List.set_cons_zero, List.set_cons_succ]))
      refine seq_read (fun w' => ∀ q_ v, (cellsOf pk)[q_]? = some v → w'.cell? ⟨r7, 1 + q_, none⟩ = some v) (fun w' e => (T.out w' e).1) _ (v := .agg (cellsOf pk).toArray) rfl rfl (by rfl) (fun w' hF => exec_load_mid rfl rfl hF rfl rfl (by rw [C_pk]; rfl)) ?_
      simp only [Act.put, List.setIfInBounds_toArray, List.set_cons_zero, List.set_cons_succ]
      repeat (first | (refine seq_read _ (fun w' e => (T.out w' e).2.1) _ (v := ?_) rfl rfl (by rfl) ?_ ?_; rotate_left; (· intro w' hF; go_simp; (try with_reducible rfl)); simp only [Act.put, List.setIfInBounds_toArray, List.set_cons_zero, List.set_cons_succ]) | (refine seq_skip _ rfl rfl (by rfl) ?_; simp only [Act.put, List.setIfInBounds_toArray, List.set_cons_zero, List.set_cons_succ]))
      refine seq_read (fun w' => ∀ q_ v, (cellsOf k)[q_]? = some v → w'.cell? ⟨r7, 34 + q_, none⟩ = some v) (fun w' e => (T.out w' e).2.2) _ (v := .agg (cellsOf k).toArray) rfl rfl (by rfl) (fun w' hF => exec_load_mid rfl rfl hF rfl rfl (by rw [C_k]; rfl)) ?_
      simp only [Act.put, List.setIfInBounds_toArray, List.set_cons_zero, List.set_cons_succ]
      repeat (first | (refine seq_read (fun _ => True) (fun _ _ => trivial) _ (v := ?_) rfl rfl (by rfl) ?_ ?_; rotate_left; (· intro w' hF; go_simp; (try with_reducible rfl)); simp only [Act.put, List.setIfInBounds_toArray, List.set_cons_zero, List.set_cons_succ]) | (refine seq_skip _ rfl rfl (by rfl) ?_; simp only [Act.put, List.setIfInBounds_toArray, List.set_cons_zero, List.set_cons_succ]))
      refine seq_do _ rfl rfl (by rfl) (fun K hK => ?_)
      go_simp
      refine (sput_calls S0.out lpk lk hn l8 (by omega)).mono ?_
      rintro e v1 ⟨rfl, ⟨p', p1, p2, _, _, s1⟩, t1⟩
      refine hK.out _ _ (Thr.of_two t1) ?_
      clear hK K
      try simp only [Act.put, List.setIfInBounds_toArray, List.set_cons_zero, List.set_cons_succ]
      have R1 : Hid (RK v1 gr L) := R0.out.two S0.out t1
      have X1 : Hid (Ext w v1) := t1.ext X0.out wgs wmb
      replace s1 := Lib.hid s1
      clear T S0 R0 X0 t1
      repeat (first | (refine seq_read (fun _ => True) (fun _ _ => trivial) _ (v := ?_) rfl rfl (by rfl) ?_ ?_; rotate_left; (· intro w' hF; go_simp; (try with_reducible rfl)); simp only [Act.put, List.setIfInBounds_toArray, List.set_cons_zero, List.set_cons_succ]) | (refine seq_skip _ rfl rfl (by rfl) ?_; simp only [Act.put, List.setIfInBounds_toArray, List.set_cons_zero, List.set_cons_succ]))
      refine seq_do _ rfl rfl (by rfl) (fun K hK => ?_)
      go_simp
      refine (rput11_calls (X := ⟨pk, n, k, p⟩) R1.out ⟨lpk, lk, hn⟩ l8).mono ?_
      rintro e v2 ⟨rfl, rk2, g2⟩
      refine hK.out _ _ (Thr.of_grown g2) ?_
      clear hK K
      try simp only [Act.put, List.setIfInBounds_toArray, List.set_cons_zero, List.set_cons_succ]
      have sk2 := Lib.hid (s1.out.grown R1.out g2)
      have xu2 : Hid (Ext w v2) := Thr.ext (g := gr) (b := gr) X1.out (Thr.of_grown g2) wgr wgr wgr
      replace rk2 := Lib.hid rk2
      clear s1 R1 X1 g2
      repeat (first | (refine seq_read (fun _ => True) (fun _ _ => trivial) _ (v := ?_) rfl rfl (by rfl) ?_ ?_; rotate_left; (· intro w' hF; go_simp; (try with_reducible rfl)); simp only [Act.put, List.setIfInBounds_toArray, List.set_cons_zero, List.set_cons_succ]) | (refine seq_skip _ rfl rfl (by rfl) ?_; simp only [Act.put, List.setIfInBounds_toArray, List.set_cons_zero, List.set_cons_succ]))
      refine seq_done ?_
      have l82 := putR_len (x := ⟨pk, n, k, p⟩) l8
      have LE := Lib.hid (fun s (e : Ext v2 s) => slen_calls (sk2.out.ext e))
      obtain ⟨RA, rn, rc, rcb, hrn⟩ := rk2.out.len
      have CR : Hid (∀ s, Ext v2 s → s.cell? ⟨gr, 0, none⟩ = some (.slice RA rn rc)) := fun s e => (rcb.ext e).cell rfl
      have hnn : (((putR L ⟨pk, n, k, p⟩).length : Int) != (rn : Int)) = false := by rw [hrn]; simp
      have hKE : Hid (∀ s, Ext v2 s → SK s gs mb (putR L ⟨pk, n, k, p⟩) (p') ∧ RK s gr (putR L ⟨pk, n, k, p⟩) ∧ Ext w s) := fun s e => ⟨sk2.out.ext e, rk2.out.ext e, xu2.out.trans e⟩
      replace hrn := Lib.hid hrn
      clear rcb sk2 rk2 xu2
      go_upto_region 25 with fail
      refine wp_region_seq (R := Ext) Ext.refl (fun _ _ _ => Ext.trans) [0, 1, 2, 3, 5, 6, 7, 8, 9, 4, 10, 11] [4] [(0, 102, 512), (1, 103, 5070602400912917605986812821504), (2, 104, 10141204801825835211973625643008), (4, 105, 20282409603651670423947251286048), (12, 106, 60847228810955011271841753858048), (4, 107, 20282409603651670423947251286080), (36, 108, 182541686432865033815525261574144), (68, 109, 344800963262078397207103271862272), (132, 110, 669319516920505123990259292438528), (260, 111, 1318356624237358577556571333591040), (532, 112, 2697560477285672166384984421040128), (1028, 113, 5212579268138479298954443580506112)] (by kernel_rfl) (by kernel_rfl) (by kernel_rfl) rfl (by kernel_rfl) (by kernel_rfl) (fun _ _ d _ _ h => by cases d <;> exact h) ?_
      repeat (first | (refine seq_read _ (fun w' e => CR.out w' (Ext.trans (Ext.refl _).drew e)) _ (v := ?_) rfl rfl (by rfl) ?_ ?_; rotate_left; (· intro w' hF; go_simp; (try with_reducible rfl)); simp only [Act.put, List.setIfInBounds_toArray, List.set_cons_zero, List.set_cons_succ]) | (refine seq_skip _ rfl rfl (by rfl) ?_; simp only [Act.put, List.setIfInBounds_toArray, List.set_cons_zero, List.set_cons_succ]))
      have X0 : Hid (Ext v2 v2.drew) := (Ext.refl v2).drew
      generalize v2.drew = UU at *
      refine seq_do _ rfl rfl (by rfl) (fun K hK => ?_)
      go_simp
      refine (LE.out UU X0.out).mono ?_
      rintro e u2 ⟨rfl, y2⟩
      refine hK.out _ _ y2 ?_
      clear hK K
      try simp only [Act.put, List.setIfInBounds_toArray, List.set_cons_zero, List.set_cons_succ]
      repeat (first | (refine seq_read _ (fun w' e => CR.out w' ((X0.out.trans y2).trans e)) _ (v := ?_) rfl rfl (by rfl) ?_ ?_; rotate_left; (· intro w' hF; go_simp; (try with_reducible rfl)); simp only [Act.put, List.setIfInBounds_toArray, List.set_cons_zero, List.set_cons_succ]) | (refine seq_skip _ rfl rfl (by rfl) ?_; simp only [Act.put, List.setIfInBounds_toArray, List.set_cons_zero, List.set_cons_succ]))
      refine seq_done ?_
      have X2 := X0.out.trans y2
      obtain ⟨f1, f2, f3⟩ := hKE.out _ X2
      clear hKE CR LE X0 y2 X2
      go_wp2_with fail
      go_round
      case rel => exact ⟨i + 1, _, _, gs, mb, by omega, by omega, by go_num, rfl, f1, f2, l82, by omega, by omega, by omega, f3⟩
      case measure => simp [intOf]; omega
    have v0 : (od == 0) = false := by simpa using d0
    have v1 : (od == 1) = false := by simpa using d1
    replace d0 := Lib.hid d0
    replace d1 := Lib.hid d1
    have M1 : Hid (∀ s, Cb s r7 33 (⟨od, pk, n, k⟩ : O11).C → (∀ q v, (cellsOf pk)[q]? = some v → s.cell? ⟨r7, 1 + q, none⟩ = some v) ∧ s.cell? ⟨r7, 33, none⟩ = some (.int .i64 n) ∧ (∀ q v, (cellsOf k)[q]? = some v → s.cell? ⟨r7, 34 + q, none⟩ = some v)) := fun s kc =>
      ⟨fun q v hv => kc.cell (O11.c1 ⟨od, pk, n, k⟩ q v hv), kc.cell (O11.c33 (o := ⟨od, pk, n, k⟩) ⟨lpk, lk, hn⟩), fun q v hv => kc.cell (O11.c34 (o := ⟨od, pk, n, k⟩) ⟨lpk, lk, hn⟩ q v hv)⟩
    obtain ⟨CO, hCO⟩ : ∃ CO, CO = (⟨od, pk, n, k⟩ : O11).C := ⟨_, rfl⟩
    rw [← hCO] at k7 M1
    replace hCO := Lib.hid hCO
    have m1 := Lib.hid (M1.out _ k7.out).1
    have c33 := (M1.out _ k7.out).2.1
    have m34 := Lib.hid (M1.out _ k7.out).2.2
    have r7l : r7 < u.heap.size := k7.out.lt
    have n1 : r7 ≠ gs := by omega
    have n2 : r7 ≠ mb := by omega
    have n3 : r7 ≠ gr := by omega
    rcases Decidable.em (od = 2) with d2 | d2
    · have v2 : (od == 2) = true := by rw [d2]; rfl
      replace d2 := Lib.hid d2
      have AP := Lib.hid sk.out.apart
      have TK := stake_calls sk.out lpk hn
      obtain ⟨is, his⟩ : ∃ q, q = hasK L pk n := ⟨_, rfl⟩
      obtain ⟨kk, hkk⟩ : ∃ q, q = (theK L pk n).k := ⟨_, rfl⟩
      have lkk : kk.length = 32 := by rw [hkk]; exact theK_k sk.out.ok
      have RT : Hid (∀ s, RK s gr L → Calls Try.prog 17 #[.pointer (some ⟨gr, 0, none⟩), .agg (cellsOf pk).toArray, .int .i64 n] s fun e w' => e = .returned (.tuple #[.agg (cellsOf kk).toArray, .bool is]) ∧ RK w' gr (takeL L pk n) ∧ s.grownBy w' (some gr)) := fun s q => by
        have := rtake11_calls q AP.out l8 lpk (n := n)
        rw [← his, ← hkk] at this
        exact this
      rw [← his, ← hkk] at TK
      replace TK := Lib.hid TK
      have S_kk : (cellsOf kk).toArray.size = 32 := by simp [cellsOf_len, lkk]
      have O_kk := one_cells (one_mem kk)
      have hii : (is == is) = true := by cases is <;> rfl
      have l82 := Nat.le_trans (takeL_len (L := L) (pk := pk) (n := n)) l8
      clear his hkk AP m34
      go_wp2_with ((with_reducible refine wpList_load_mid (o := ⟨some 78, _, _, _, _, _⟩) (ty := 31) (g := r7) (off := 1) (ys := cellsOf pk) ?_ rfl ?_ ?_ Try.underlying31 ?_ ?_ ?_); (· rfl); (· rfl); (· exact m1.out); (· rfl); (· rw [C_pk]; rfl); simp only [Act.put, List.setIfInBounds_toArray, List.set_cons_zero, List.set_cons_succ])
      refine TK.out.mono ?_
      rintro e v1_ ⟨rfl, s1, t1⟩
      have k71 := t1.cb k7.out n1 n2
      have rk1 := rk.out.two sk.out t1
      have xu1 := t1.ext xu.out wgs wmb
      have K1 : Hid (Cb ((v1_.alloc (.cells (cellsOf z).toArray 31)).setRow v1_.heap.size (cellsOf kk).toArray) r7 33 CO ∧ Cb ((v1_.alloc (.cells (cellsOf z).toArray 31)).setRow v1_.heap.size (cellsOf kk).toArray) v1_.heap.size 31 (cellsOf kk) ∧ SK ((v1_.alloc (.cells (cellsOf z).toArray 31)).setRow v1_.heap.size (cellsOf kk).toArray) gs mb (takeL L pk n) p ∧ RK ((v1_.alloc (.cells (cellsOf z).toArray 31)).setRow v1_.heap.size (cellsOf kk).toArray) gr L ∧ Ext w ((v1_.alloc (.cells (cellsOf z).toArray 31)).setRow v1_.heap.size (cellsOf kk).toArray)) :=
        ⟨k71.ext (Ext.newRow _ _ _), key_box, s1.ext (Ext.newRow _ _ _), rk1.ext (Ext.newRow _ _ _), xu1.trans (Ext.newRow _ _ _)⟩
      have gl9 : gr < v1_.heap.size := rk1.lt
      clear TK sk rk xu k7 m1 c33 cd t1 s1 k71 rk1 xu1
      go_upto_region 23 with (refine wpList_store_row rfl 31 _ _ rfl v1_.heap.size (cellsOf kk).toArray rfl rfl 31 (cellsOf z).toArray (heap_alloc_new _ _) (by rw [S_kk]; rfl) (by rw [S_kk, S_z]) O_kk ?_; simp only [Act.put])
      refine wp_gen (fun W => Cb W r7 33 CO ∧ Cb W v1_.heap.size 31 (cellsOf kk) ∧ SK W gs mb (takeL L pk n) p ∧ RK W gr L ∧ Ext w W) K1.out ?_
      generalize v1_.heap.size = r9 at *
      clear K1 v1_
      rintro u1 ⟨k7, k9, sk, rk, xu⟩
      have m1 := Lib.hid (M1.out _ k7).1
      have c33 := (M1.out _ k7).2.1
      have RT1 := Lib.hid (RT.out _ rk)
      replace k9 := Lib.hid k9
      replace sk := Lib.hid sk
      replace rk := Lib.hid rk
      replace xu := Lib.hid xu
      clear k7 RT
      go_wp2_with ((with_reducible refine wpList_load_mid (o := ⟨some 87, _, _, _, _, _⟩) (ty := 31) (g := r7) (off := 1) (ys := cellsOf pk) ?_ rfl ?_ ?_ Try.underlying31 ?_ ?_ ?_); (· rfl); (· rfl); (· exact m1.out); (· rfl); (· rw [C_pk]; rfl); simp only [Act.put, List.setIfInBounds_toArray, List.set_cons_zero, List.set_cons_succ])
      refine RT1.out.mono ?_
      rintro e v3 ⟨rfl, rk3, g3⟩
      have s3 := sk.out.grown rk.out g3
      have k93 : Cb v3 r9 31 (cellsOf kk) := (g3.block _ k9.out.lt (fun q => by have := Option.some.inj q; omega)).trans k9.out
      have xu3 : Ext w v3 := Thr.ext (g := gr) (b := gr) xu.out (Thr.of_grown g3) wgr wgr wgr
      have K3 : Hid (Cb ((v3.alloc (.cells (cellsOf z).toArray 31)).setRow v3.heap.size (cellsOf kk).toArray) r9 31 (cellsOf kk) ∧ Cb ((v3.alloc (.cells (cellsOf z).toArray 31)).setRow v3.heap.size (cellsOf kk).toArray) v3.heap.size 31 (cellsOf kk) ∧ SK ((v3.alloc (.cells (cellsOf z).toArray 31)).setRow v3.heap.size (cellsOf kk).toArray) gs mb (takeL L pk n) p ∧ RK ((v3.alloc (.cells (cellsOf z).toArray 31)).setRow v3.heap.size (cellsOf kk).toArray) gr (takeL L pk n) ∧ Ext w ((v3.alloc (.cells (cellsOf z).toArray 31)).setRow v3.heap.size (cellsOf kk).toArray)) :=
        ⟨k93.ext (Ext.newRow _ _ _), key_box, s3.ext (Ext.newRow _ _ _), rk3.ext (Ext.newRow _ _ _), xu3.trans (Ext.newRow _ _ _)⟩
      clear RT1 sk rk xu k9 m1 c33 g3 s3 k93 rk3 xu3
      go_upto_region 24 with (refine wpList_store_row rfl 31 _ _ rfl v3.heap.size (cellsOf kk).toArray rfl rfl 31 (cellsOf z).toArray (heap_alloc_new _ _) (by rw [S_kk]; rfl) (by rw [S_kk, S_z]) O_kk ?_; simp only [Act.put])
      refine wp_gen (fun W => Cb W r9 31 (cellsOf kk) ∧ Cb W v3.heap.size 31 (cellsOf kk) ∧ SK W gs mb (takeL L pk n) p ∧ RK W gr (takeL L pk n) ∧ Ext w W) K3.out ?_
      generalize v3.heap.size = r11 at *
      clear K3 v3
      rintro u3 ⟨k9, k11, sk3, rk3, xu3⟩
      replace k9 := Lib.hid k9
      replace k11 := Lib.hid k11
      replace sk3 := Lib.hid sk3
      replace rk3 := Lib.hid rk3
      replace xu3 := Lib.hid xu3
      go_upto_region 25 with (first
        | ((with_reducible refine wpList_load_rowW (o := ⟨some 93, _, _, _, _, _⟩) ?_ 31 _ rfl r9 ?_ 31 (cellsOf kk).toArray (0, 0) _ ?_ Try.underlying31 ?_ ?_ ?_); (· rfl); (· rfl); (· exact k9.out); (· rfl); (· rw [S_kk]; rfl); simp only [Act.put, List.setIfInBounds_toArray, List.set_cons_zero, List.set_cons_succ])
        | ((with_reducible refine wpList_load_rowW (o := ⟨some 94, _, _, _, _, _⟩) ?_ 31 _ rfl r11 ?_ 31 (cellsOf kk).toArray (0, 0) _ ?_ Try.underlying31 ?_ ?_ ?_); (· rfl); (· rfl); (· exact k11.out); (· rfl); (· rw [S_kk]; rfl); simp only [Act.put, List.setIfInBounds_toArray, List.set_cons_zero, List.set_cons_succ])
        | ((with_reducible refine wpList_eql_keyB (o := ⟨some 95, _, _, _, _, _⟩) ?_ _ _ _ rfl kk kk true ?_ ?_ ?_ lkk lkk ?_); (· rfl); (· exact (decide_eq_true rfl)); (· rfl); (· rfl); simp only [Act.put, List.setIfInBounds_toArray, List.set_cons_zero, List.set_cons_succ]))
      clear k9 k11
      have LE := Lib.hid (fun s (e : Ext u3 s) => slen_calls (sk3.out.ext e))
      obtain ⟨RA, rn, rc, rcb, hrn⟩ := rk3.out.len
      have CR : Hid (∀ s, Ext u3 s → s.cell? ⟨gr, 0, none⟩ = some (.slice RA rn rc)) := fun s e => (rcb.ext e).cell rfl
      have hnn : (((takeL L pk n).length : Int) != (rn : Int)) = false := by rw [hrn]; simp
      have hKE : Hid (∀ s, Ext u3 s → SK s gs mb (takeL L pk n) (p) ∧ RK s gr (takeL L pk n) ∧ Ext w s) := fun s e => ⟨sk3.out.ext e, rk3.out.ext e, xu3.out.trans e⟩
      replace hrn := Lib.hid hrn
      clear rcb sk3 rk3 xu3
      refine wp_region_seq (R := Ext) Ext.refl (fun _ _ _ => Ext.trans) [0, 1, 2, 3, 5, 6, 7, 8, 9, 4, 10, 11] [4] [(0, 102, 512), (1, 103, 5070602400912917605986812821504), (2, 104, 10141204801825835211973625643008), (4, 105, 20282409603651670423947251286048), (12, 106, 60847228810955011271841753858048), (4, 107, 20282409603651670423947251286080), (36, 108, 182541686432865033815525261574144), (68, 109, 344800963262078397207103271862272), (132, 110, 669319516920505123990259292438528), (260, 111, 1318356624237358577556571333591040), (532, 112, 2697560477285672166384984421040128), (1028, 113, 5212579268138479298954443580506112)] (by kernel_rfl) (by kernel_rfl) (by kernel_rfl) rfl (by kernel_rfl) (by kernel_rfl) (fun _ _ d _ _ h => by cases d <;> exact h) ?_
      repeat (first | (refine seq_read _ (fun w' e => CR.out w' (Ext.trans (Ext.refl _).drew e)) _ (v := ?_) rfl rfl (by rfl) ?_ ?_; rotate_left; (· intro w' hF; go_simp; (try with_reducible rfl)); simp only [Act.put, List.setIfInBounds_toArray, List.set_cons_zero, List.set_cons_succ]) | (refine seq_skip _ rfl rfl (by rfl) ?_; simp only [Act.put, List.setIfInBounds_toArray, List.set_cons_zero, List.set_cons_succ]))
      have X0 : Hid (Ext u3 u3.drew) := (Ext.refl u3).drew
      generalize u3.drew = UU at *
      refine seq_do _ rfl rfl (by rfl) (fun K hK => ?_)
      go_simp
      refine (LE.out UU X0.out).mono ?_
      rintro e u2 ⟨rfl, y2⟩
      refine hK.out _ _ y2 ?_
      clear hK K
      try simp only [Act.put, List.setIfInBounds_toArray, List.set_cons_zero, List.set_cons_succ]
      repeat (first | (refine seq_read _ (fun w' e => CR.out w' ((X0.out.trans y2).trans e)) _ (v := ?_) rfl rfl (by rfl) ?_ ?_; rotate_left; (· intro w' hF; go_simp; (try with_reducible rfl)); simp only [Act.put, List.setIfInBounds_toArray, List.set_cons_zero, List.set_cons_succ]) | (refine seq_skip _ rfl rfl (by rfl) ?_; simp only [Act.put, List.setIfInBounds_toArray, List.set_cons_zero, List.set_cons_succ]))
      refine seq_done ?_
      have X2 := X0.out.trans y2
      obtain ⟨f1, f2, f3⟩ := hKE.out _ X2
      clear hKE CR LE X0 y2 X2
      go_wp2_with fail
      go_round
      case rel => exact ⟨i + 1, _, _, gs, mb, by omega, by omega, by go_num, rfl, f1, f2, l82, by omega, by omega, by omega, f3⟩
      case measure => simp [intOf]; omega
    · have v2 : (od == 2) = false := by simpa using d2
      replace d2 := Lib.hid d2
      have CP := Lib.hid (scopy_calls sk.out (by omega))
      go_wp2_with fail
      refine CP.out.mono ?_
      rintro e v1_ ⟨gc, bc, rfl, gc1, bc1, sc, x1⟩
      have sk1 := sk.out.ext x1
      have rk1 := Lib.hid (rk.out.ext x1)
      have xu1 := Lib.hid (xu.out.trans x1)
      have k71 := Lib.hid (k7.out.ext x1)
      have gsl := sk.out.cb.lt
      have mbl := sk.out.mp.lt
      have o1 : gc ≠ gs := by omega
      have o2 : gc ≠ mb := by omega
      have o3 : bc ≠ gs := by omega
      have o4 : bc ≠ mb := by omega
      have wgc : w.heap.size ≤ gc := Nat.le_trans xu.out.size gc1
      have wbc : w.heap.size ≤ bc := Nat.le_trans xu.out.size bc1
      have m1' := Lib.hid (M1.out _ k71.out).1
      have m34' := Lib.hid (M1.out _ k71.out).2.2
      have PT := Lib.hid (sput_calls sk1 lpk lk (n := 77) (by omega) l8 (by omega))
      replace sk1 := Lib.hid sk1
      replace sc := Lib.hid sc
      clear CP sk rk xu k7 m1 m34 c33 cd x1 gsl mbl gc1 bc1
      go_wp2_with (first
        | ((with_reducible refine wpList_load_mid (o := ⟨some 42, _, _, _, _, _⟩) (ty := 31) (g := r7) (off := 1) (ys := cellsOf pk) ?_ rfl ?_ ?_ Try.underlying31 ?_ ?_ ?_); (· rfl); (· rfl); (· exact m1'.out); (· rfl); (· rw [C_pk]; rfl); simp only [Act.put, List.setIfInBounds_toArray, List.set_cons_zero, List.set_cons_succ])
        | ((with_reducible refine wpList_load_mid (o := ⟨some 44, _, _, _, _, _⟩) (ty := 31) (g := r7) (off := 34) (ys := cellsOf k) ?_ rfl ?_ ?_ Try.underlying31 ?_ ?_ ?_); (· rfl); (· rfl); (· exact m34'.out); (· rfl); (· rw [C_k]; rfl); simp only [Act.put, List.setIfInBounds_toArray, List.set_cons_zero, List.set_cons_succ]))
      refine PT.out.mono ?_
      rintro e v3 ⟨rfl, ⟨p', _, _, _, _, s3⟩, t3⟩
      have k73 := t3.cb k71.out n1 n2
      have m1 := Lib.hid (M1.out _ k73).1
      have c33 := (M1.out _ k73).2.1
      have sc3 := Lib.hid (sc.out.two t3 o1 o2 o3 o4)
      have rk3 := Lib.hid (rk1.out.two sk1.out t3)
      have xu3 := Lib.hid (t3.ext xu1.out wgs wmb)
      have TK := Lib.hid (stake_calls s3 lpk hn)
      replace s3 := Lib.hid s3
      clear PT sk1 sc rk1 xu1 k71 m1' m34' t3 k73
      go_wp2_with ((with_reducible refine wpList_load_mid (o := ⟨some 48, _, _, _, _, _⟩) (ty := 31) (g := r7) (off := 1) (ys := cellsOf pk) ?_ rfl ?_ ?_ Try.underlying31 ?_ ?_ ?_); (· rfl); (· rfl); (· exact m1.out); (· rfl); (· rw [C_pk]; rfl); simp only [Act.put, List.setIfInBounds_toArray, List.set_cons_zero, List.set_cons_succ])
      refine TK.out.mono ?_
      rintro e v5 ⟨rfl, s5, t5⟩
      have sc5 := Lib.hid (sc3.out.two t5 o1 o2 o3 o4)
      have rk5 := Lib.hid (rk3.out.two s3.out t5)
      have xu5 := Lib.hid (t5.ext xu3.out wgs wmb)
      clear TK s3 sc3 rk3 xu3 m1 c33 t5 s5
      have LE := Lib.hid (fun s (e : Ext v5 s) => slen_calls (sc5.out.ext e))
      obtain ⟨RA, rn, rc, rcb, hrn⟩ := rk5.out.len
      have CR : Hid (∀ s, Ext v5 s → s.cell? ⟨gr, 0, none⟩ = some (.slice RA rn rc)) := fun s e => (rcb.ext e).cell rfl
      have hnn : (((L).length : Int) != (rn : Int)) = false := by rw [hrn]; simp
      have hKE : Hid (∀ s, Ext v5 s → SK s gc bc (L) (p) ∧ RK s gr (L) ∧ Ext w s) := fun s e => ⟨sc5.out.ext e, rk5.out.ext e, xu5.out.trans e⟩
      replace hrn := Lib.hid hrn
      clear rcb sc5 rk5 xu5
      go_upto_region 25 with fail
      refine wp_region_seq (R := Ext) Ext.refl (fun _ _ _ => Ext.trans) [0, 1, 2, 3, 5, 6, 7, 8, 9, 4, 10, 11] [4] [(0, 102, 512), (1, 103, 5070602400912917605986812821504), (2, 104, 10141204801825835211973625643008), (4, 105, 20282409603651670423947251286048), (12, 106, 60847228810955011271841753858048), (4, 107, 20282409603651670423947251286080), (36, 108, 182541686432865033815525261574144), (68, 109, 344800963262078397207103271862272), (132, 110, 669319516920505123990259292438528), (260, 111, 1318356624237358577556571333591040), (532, 112, 2697560477285672166384984421040128), (1028, 113, 5212579268138479298954443580506112)] (by kernel_rfl) (by kernel_rfl) (by kernel_rfl) rfl (by kernel_rfl) (by kernel_rfl) (fun _ _ d _ _ h => by cases d <;> exact h) ?_
      repeat (first | (refine seq_read _ (fun w' e => CR.out w' (Ext.trans (Ext.refl _).drew e)) _ (v := ?_) rfl rfl (by rfl) ?_ ?_; rotate_left; (· intro w' hF; go_simp; (try with_reducible rfl)); simp only [Act.put, List.setIfInBounds_toArray, List.set_cons_zero, List.set_cons_succ]) | (refine seq_skip _ rfl rfl (by rfl) ?_; simp only [Act.put, List.setIfInBounds_toArray, List.set_cons_zero, List.set_cons_succ]))
      have X0 : Hid (Ext v5 v5.drew) := (Ext.refl v5).drew
      generalize v5.drew = UU at *
      refine seq_do _ rfl rfl (by rfl) (fun K hK => ?_)
      go_simp
      refine (LE.out UU X0.out).mono ?_
      rintro e u2 ⟨rfl, y2⟩
      refine hK.out _ _ y2 ?_
      clear hK K
      try simp only [Act.put, List.setIfInBounds_toArray, List.set_cons_zero, List.set_cons_succ]
      repeat (first | (refine seq_read _ (fun w' e => CR.out w' ((X0.out.trans y2).trans e)) _ (v := ?_) rfl rfl (by rfl) ?_ ?_; rotate_left; (· intro w' hF; go_simp; (try with_reducible rfl)); simp only [Act.put, List.setIfInBounds_toArray, List.set_cons_zero, List.set_cons_succ]) | (refine seq_skip _ rfl rfl (by rfl) ?_; simp only [Act.put, List.setIfInBounds_toArray, List.set_cons_zero, List.set_cons_succ]))
      refine seq_done ?_
      have X2 := X0.out.trans y2
      obtain ⟨f1, f2, f3⟩ := hKE.out _ X2
      clear hKE CR LE X0 y2 X2
      go_wp2_with fail
      go_round
      case rel => exact ⟨i + 1, _, _, gc, bc, by omega, by omega, by go_num, rfl, f1, f2, l8, by omega, by omega, by omega, f3⟩
      case measure => simp [intOf]; omega
end Go.Proofs.Ytonjialkfbbhpaa
