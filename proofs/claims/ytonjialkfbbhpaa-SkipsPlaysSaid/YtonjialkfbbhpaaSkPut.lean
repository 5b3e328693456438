/-
  skips.Put.
-/
import Derived.Test.YtonjialkfbbhpaaSkOld
namespace Go.Proofs.Ytonjialkfbbhpaa
open Go.ChangeShapes Go.WideShapes Go.ChangeAt Go.RowKit Go.Deep Go.Maps
set_option maxRecDepth 100000

theorem takeL_head {y : Kp} {r : List Kp} (ap : (y :: r).Pairwise fun x y => ¬(x.pk = y.pk ∧ x.n = y.n)) : takeL (y :: r) y.pk y.n = r := by
  obtain ⟨a1, a2⟩ := List.pairwise_cons.1 ap
  unfold takeL
  rw [List.filter_cons_of_neg (by simp [Kp.at]), List.filter_eq_self.2 fun x hx => ?_]
  cases q : x.at y.pk y.n
  · rfl
  · obtain ⟨e1, e2⟩ := Kp.at_iff.1 q
    exact absurd ⟨e1.symm, e2.symm⟩ (a1 x hx)
theorem SK.add {w : World} {g mb : Nat} {L : List Kp} {puts : Int} (h : SK w g mb L puts) {x : Kp} (hx : x.ok) (hf : hasK L x.pk x.n = false) (h8 : L.length ≤ 8) :
    ∃ w', (Instr.mapUpdate 78 (.map (some mb)) (.agg (knC x.pk x.n).toArray) (.agg (knC x.k x.wh).toArray)).run Try.prog w = .ok () w' ∧ Mp Try.prog 82 w' mb ((L ++ [x]).map Kp.ent) ∧ w.grownBy w' (some mb) := by
  obtain ⟨kl, hkl⟩ := place_key hx.1 hx.2.2
  have hm : ∀ p ∈ L.map Kp.ent, p.1 ≠ .agg (knC x.pk x.n).toArray := fun p hp => by
    obtain ⟨y, hy, rfl⟩ := List.mem_map.1 hp
    rw [hasK, List.any_eq_false] at hf
    exact ent_ne (h.ok y hy) hx.1 (by simpa using hf y hy)
  obtain ⟨w1, r1, r2, r3, _⟩ := h.mp.add place_law Try.underlying78 (by rw [List.length_map]; unfold maxLen; omega) hkl hm (.agg (knC x.k x.wh).toArray)
  exact ⟨w1, r1, by rw [List.map_append]; exact r2, r3⟩
theorem SK.after {w w' : World} {g mb : Nat} {L : List Kp} {puts : Int} {x : Kp} (h : SK w g mb L puts) (hx : x.ok) (hw : x.wh = puts) (cb : Cb w' g 80 [.map (some mb), .int .i64 (puts + 1)]) (mp : Mp Try.prog 82 w' mb ((L ++ [x]).map Kp.ent)) : SK w' g mb (L ++ [x]) (puts + 1) :=
  ⟨cb, mp, fun y hy => by
    rcases List.mem_append.1 hy with hy | hy
    · exact h.ok y hy
    · rw [List.mem_singleton.1 hy]; exact hx, by
    rw [List.pairwise_append]
    exact ⟨h.inc, List.pairwise_singleton _ _, fun a ha b hb => by rw [List.mem_singleton.1 hb, hw]; exact h.lt a ha⟩, fun y hy => by
    rcases List.mem_append.1 hy with hy | hy
    · have := h.lt y hy; omega
    · rw [List.mem_singleton.1 hy]; omega, by have := h.low; omega⟩
set_option maxHeartbeats 8000000 in
theorem sput_calls {w : World} {g mb : Nat} {L : List Kp} {puts : Int} (h : SK w g mb L puts) {pk k : List UInt8} (hp : pk.length = 32) (hk : k.length = 32) {n : Int} (hn : -9223372036854775808 ≤ n ∧ n ≤ 9223372036854775807) (h8 : L.length ≤ 8) (hq : puts ≤ 4611686018427387904) :
    Calls Try.prog 14 #[.pointer (some ⟨g, 0, none⟩), .agg (cellsOf pk).toArray, .int .i64 n, .agg (cellsOf k).toArray] w fun e w' => e = .returned (.int .i64 (putE L pk n)) ∧ (∃ p, puts ≤ p ∧ p ≤ puts + 1 ∧ (putE L pk n = 0 → p = puts + 1) ∧ (putE L pk n ≠ 0 → p = puts) ∧ SK w' g mb (putR L ⟨pk, n, k, puts⟩) p) ∧ Two g mb w w' := by
  have hal1 := place_alloc
  have hal2 := entry_alloc
  have BP := Lib.hid (place_built hp n)
  have BE := Lib.hid (entry_built hk puts)
  have L_ZK := zKN_len
  have S_pk : (cellsOf pk).toArray.size = 32 := by simp [cellsOf_len, hp]
  have S_k : (cellsOf k).toArray.size = 32 := by simp [cellsOf_len, hk]
  have L_PC := knC_len hp n
  have O_PC := one_cells (one_kn (pk := pk) (n := n))
  have L_kk := theK_k (pk := pk) (n := n) h.ok
  have L_EC := knC_len L_kk (theK L pk n).wh
  have O_EC := one_cells (one_kn (pk := (theK L pk n).k) (n := (theK L pk n).wh))
  have LK : Hid (∀ s, Ext w s → (Instr.lookup 78 (.map (some mb)) (.agg (knC pk n).toArray) true).run Try.prog s = .ok (.tuple #[.agg (knC (theK L pk n).k (theK L pk n).wh).toArray, .bool (hasK L pk n)]) s) := fun s e => (h.ext e).look hp hn
  have glt := h.cb.lt
  have blt := h.mp.lt
  have gnb := h.ne
  have low := h.low
  have C0 : Hid (∀ s, Ext w s → s.cell? ⟨g, 0, none⟩ = some (.map (some mb)) ∧ s.cell? ⟨g, 1, none⟩ = some (.int .i64 puts)) := fun s e => ⟨((h.ext e).cb).cell rfl, ((h.ext e).cb).cell rfl⟩
  have SE : Hid (∀ s, Ext w s → SK s g mb L puts) := fun s e => h.ext e
  obtain ⟨PE, hPE⟩ : ∃ PE, PE = putE L pk n := ⟨_, rfl⟩
  obtain ⟨RL, hRL⟩ : ∃ RL, RL = putR L ⟨pk, n, k, puts⟩ := ⟨_, rfl⟩
  rw [← hPE, ← hRL]
  have NP : Hid (PE ≠ 0 → RL = L) := fun q => by rw [hRL]; unfold putR; rw [if_neg (by rw [← hPE]; exact q)]
  have HN : Hid (n < 0 → PE = 1) := fun q => by rw [hPE]; unfold putE; rw [if_pos q]
  have HT : Hid (¬ n < 0 → hasK L pk n = true → PE = 9) := fun q r => by rw [hPE]; unfold putE; rw [if_neg q, if_pos r]
  have HZ : Hid (¬ n < 0 → hasK L pk n = false → PE = 0 ∧ RL = putL L ⟨pk, n, k, puts⟩) := fun q r => by
    have : putE L pk n = 0 := by unfold putE; rw [if_neg q, r]; rfl
    rw [hPE, hRL]
    unfold putR
    exact ⟨this, by rw [if_pos this]⟩
  replace hPE := Lib.hid (fun _ : Unit => hPE)
  replace hRL := Lib.hid (fun _ : Unit => hRL)
  have AD : Hid (hasK L pk n = false → ∀ s, Ext w s → ∃ w', (Instr.mapUpdate 78 (.map (some mb)) (.agg (knC pk n).toArray) (.agg (knC k puts).toArray)).run Try.prog s = .ok () w' ∧ Mp Try.prog 82 w' mb ((L ++ [(⟨pk, n, k, puts⟩ : Kp)]).map Kp.ent) ∧ s.grownBy w' (some mb)) := fun q s e => (h.ext e).add (x := ⟨pk, n, k, puts⟩) ⟨hp, hk, hn⟩ q h8
  have AF : Hid (∀ w', Cb w' g 80 [.map (some mb), .int .i64 (puts + 1)] → Mp Try.prog 82 w' mb ((L ++ [(⟨pk, n, k, puts⟩ : Kp)]).map Kp.ent) → SK w' g mb (L ++ [(⟨pk, n, k, puts⟩ : Kp)]) (puts + 1)) := fun w' q r => h.after ⟨hp, hk, hn⟩ rfl q r
  have LX : (L ++ [(⟨pk, n, k, puts⟩ : Kp)]).length = L.length + 1 := by rw [List.length_append]; rfl
  have PL : Hid (putL L ⟨pk, n, k, puts⟩ = if L.length < 8 then L ++ [(⟨pk, n, k, puts⟩ : Kp)] else L.drop 1 ++ [(⟨pk, n, k, puts⟩ : Kp)]) := rfl
  have DL : Hid (0 < L.length → L.drop 1 ++ [(⟨pk, n, k, puts⟩ : Kp)] = (L ++ [(⟨pk, n, k, puts⟩ : Kp)]).drop 1) := fun q => by rw [List.drop_append_of_le_length (by omega)]
  have L_NE := knC_len hk puts
  generalize (⟨pk, n, k, puts⟩ : Kp) = X at *
  generalize knC k puts = NE at *
  generalize hasK L pk n = is at *
  generalize (theK L pk n).k = kk at *
  generalize knC kk (theK L pk n).wh = EC at *
  generalize knC pk n = PC at *
  clear h hp hk L_kk
  generalize zKN = ZK at *
  have S_ZK : ZK.toArray.size = 33 := by rw [List.size_toArray, L_ZK]
  have S_PC : PC.toArray.size = 33 := by rw [List.size_toArray, L_PC]
  have S_EC : EC.toArray.size = 33 := by rw [List.size_toArray, L_EC]
  obtain ⟨r5, hr5⟩ : ∃ r, r = w.heap.size := ⟨_, rfl⟩
  have B0 : Hid (Cb ((w.alloc (Obj.cells (cellsOf pk).toArray 31)).alloc (Obj.cells (cellsOf k).toArray 31)) r5 31 (cellsOf pk) ∧ Cb ((w.alloc (Obj.cells (cellsOf pk).toArray 31)).alloc (Obj.cells (cellsOf k).toArray 31)) (r5 + 1) 31 (cellsOf k) ∧ Ext w ((w.alloc (Obj.cells (cellsOf pk).toArray 31)).alloc (Obj.cells (cellsOf k).toArray 31))) := by
    rw [hr5]; exact ⟨heap_alloc1 _ _ _, heap_alloc2 _ _ _, ((Ext.refl w).alloc _).alloc _⟩
  go_enter Try.func14, Try.ntmps14
  go_upto_region 1 with fail
  refine wp_gen (fun W => Cb W r5 31 (cellsOf pk) ∧ Cb W (r5 + 1) 31 (cellsOf k) ∧ Ext w W) B0.out ?_
  rw [← hr5]
  have wr : w.heap.size ≤ r5 := Nat.le_of_eq hr5.symm
  clear B0
  replace hr5 := Lib.hid hr5
  obtain ⟨r7, hr7⟩ : ∃ r, r = r5 + 1 := ⟨_, rfl⟩
  rw [← hr7]
  have wr7 : r5 < r7 := by omega
  replace hr7 := Lib.hid hr7
  rintro w0 ⟨k5, k7, x0⟩
  rcases Decidable.em (n < 0) with hneg | hneg
  · have u1 : decide (n < 0) = true := decide_eq_true hneg
    obtain rfl := HN.out hneg
    obtain rfl := NP.out (by decide)
    have FIN : Hid (SK w0 g mb RL puts ∧ Two g mb w w0) := ⟨SE.out _ x0, Two.of_ext x0⟩
    clear LK C0 SE NP HN HT HZ AD AF PL DL k5 k7 x0
    go_wp2_with fail
    go_ret
    first | exact ⟨rfl, ⟨puts, Int.le_refl _, by omega, FIN.out.1⟩, FIN.out.2⟩ | exact ⟨rfl, ⟨puts, Int.le_refl _, by omega, rfl, FIN.out.1⟩, FIN.out.2⟩ | exact ⟨rfl, ⟨puts, Int.le_refl _, by omega, (fun q => absurd q (by decide)), (fun _ => rfl), FIN.out.1⟩, FIN.out.2⟩
  have u1 : decide (n < 0) = false := decide_eq_false hneg
  have l7 := k7.lt
  have K1 : Hid (Cb ((w0.alloc (.cells ZK.toArray 82)).setRow w0.heap.size PC.toArray) r7 31 (cellsOf k) ∧ Cb ((w0.alloc (.cells ZK.toArray 82)).setRow w0.heap.size PC.toArray) w0.heap.size 82 PC ∧ Ext w ((w0.alloc (.cells ZK.toArray 82)).setRow w0.heap.size PC.toArray)) :=
    ⟨k7.ext (Ext.newRow _ _ _), (Cb.new w0 _ ZK).set, x0.trans (Ext.newRow _ _ _)⟩
  have lr9 : r7 < w0.heap.size := l7
  have wr9 : w.heap.size ≤ w0.heap.size := x0.size
  replace k5 := Lib.hid k5
  clear k7 x0 l7
  go_upto_region 4 with (first
    | ((with_reducible refine wpList_load_rowW (o := ⟨some 14, _, _, _, _, _⟩) ?_ 31 _ rfl r5 ?_ 31 (cellsOf pk).toArray (0, 0) _ ?_ Try.underlying31 ?_ ?_ ?_); (· rfl); (· rfl); (· exact k5.out); (· rfl); (· rw [S_pk]; rfl); simp only [Act.put, List.setIfInBounds_toArray, List.set_cons_zero, List.set_cons_succ])
    | (refine wpList_build_as rfl _ _ rfl PC.toArray (by simp only [List.map_toArray, List.map_cons, List.map_nil]; exact BP.out) ?_; simp only [Act.put, List.setIfInBounds_toArray, List.set_cons_zero, List.set_cons_succ])
    | (refine wpList_store_row rfl 82 _ _ rfl w0.heap.size PC.toArray rfl rfl 82 ZK.toArray (heap_alloc_new _ _) (by rw [S_PC]; rfl) (by rw [S_PC, S_ZK]) O_PC ?_; simp only [Act.put]))
  refine wp_gen (fun W => Cb W r7 31 (cellsOf k) ∧ Cb W w0.heap.size 82 PC ∧ Ext w W) K1.out ?_
  generalize w0.heap.size = r9 at *
  clear K1 k5 BP w0
  rintro w1 ⟨k7, k9, x1⟩
  have T1 : Hid (∀ s, Below w1.heap.size w1.drew s → s.cell? ⟨g, 0, none⟩ = some (.map (some mb)) ∧ Cb s r9 82 PC ∧ Ext w s ∧ Cb s r7 31 (cellsOf k)) := fun s e => by
    have e' : Ext w1 s := Below.trans (Below.drew (Below.refl _ _)) e
    exact ⟨(C0.out _ (x1.trans e')).1, k9.ext e', x1.trans e', k7.ext e'⟩
  clear k7 k9 x1
  have hB : w1.drew.heap.size = w1.heap.size := rfl
  refine wp_region_seq (R := Below w1.heap.size) (Below.refl _) (fun _ _ _ => Below.trans) [0, 1, 2, 3, 4, 5, 6, 7, 8, 9, 10, 11] [9, 10] [(0, 19, 2), (1, 20, 524288), (2, 21, 1048576), (4, 22, 2097152), (0, 23, 1024), (24, 24, 12582912), (32, 18, 16777216), (64, 25, 262144), (64, 26, 262144), (0, 11, 0), (767, 0, 33556480), (2047, 12, 67108864)] (by kernel_rfl) (by kernel_rfl) (by kernel_rfl) rfl (by kernel_rfl) (by kernel_rfl) (fun _ _ d _ _ h => by cases d <;> exact h) ?_
  generalize w1.heap.size = B1 at *
  generalize w1.drew = W at *
  clear w1
  repeat (first | (refine seq_read _ (fun w' e => (T1.out w' e).1) _ (v := ?_) rfl rfl (by rfl) ?_ ?_; rotate_left; (· intro w' hF; go_simp; (try with_reducible rfl)); simp only [Act.put, List.setIfInBounds_toArray, List.set_cons_zero, List.set_cons_succ]) | (refine seq_skip _ rfl rfl (by rfl) ?_; simp only [Act.put, List.setIfInBounds_toArray, List.set_cons_zero, List.set_cons_succ]))
  refine seq_read (fun w' => w'.heap[r9]? = some (.cells PC.toArray 82 (0, 0))) (fun w' e => (T1.out w' e).2.1) _ (v := .agg PC.toArray) rfl rfl (by rfl) (fun w' hF => exec_load_row rfl rfl hF rfl rfl (by rw [S_PC]; rfl)) ?_
  simp only [Act.put, List.setIfInBounds_toArray, List.set_cons_zero, List.set_cons_succ]
  refine seq_read (fun w' => Ext w w') (fun w' e => (T1.out w' e).2.2.1) _ (v := .tuple #[.agg EC.toArray, .bool is]) rfl rfl (by rfl) (fun w' hF => exec_lookup rfl rfl rfl (LK.out _ hF)) ?_
  simp only [Act.put, List.setIfInBounds_toArray, List.set_cons_zero, List.set_cons_succ]
  repeat (first | (refine seq_read (fun _ => True) (fun _ _ => trivial) _ (v := ?_) rfl rfl (by rfl) ?_ ?_; rotate_left; (· intro w' hF; go_simp; (try with_reducible rfl)); simp only [Act.put, List.setIfInBounds_toArray, List.set_cons_zero, List.set_cons_succ]) | (refine seq_skip _ rfl rfl (by rfl) ?_; simp only [Act.put, List.setIfInBounds_toArray, List.set_cons_zero, List.set_cons_succ]))
  refine seq_do _ rfl rfl (by rfl) (fun K hK => ?_)
  go_simp
  refine hK.out _ _ (Below.alloc (Below.refl _ _) (Nat.le_of_eq hB.symm) _) ?_
  clear hK K
  try simp only [Act.put, List.setIfInBounds_toArray, List.set_cons_zero, List.set_cons_succ]
  have c9 : Cb (W.alloc (.cells ZK.toArray 84)) B1 84 ZK := by rw [← hB]; exact Cb.new _ _ _
  refine seq_do _ rfl rfl (by rfl) (fun K hK => ?_)
  refine wp_store_row _ _ _ rfl B1 EC.toArray rfl rfl 84 ZK.toArray c9 (by rw [S_EC]; rfl) (by rw [S_EC, S_ZK]) O_EC ?_
  refine hK.out _ _ (below_setRow (Below.refl _ _) (Nat.le_refl _) _) ?_
  clear hK K
  try simp only [Act.put, List.setIfInBounds_toArray, List.set_cons_zero, List.set_cons_succ]
  repeat (first | (refine seq_read (fun _ => True) (fun _ _ => trivial) _ (v := ?_) rfl rfl (by rfl) ?_ ?_; rotate_left; (· intro w' hF; go_simp; (try with_reducible rfl)); simp only [Act.put, List.setIfInBounds_toArray, List.set_cons_zero, List.set_cons_succ]) | (refine seq_skip _ rfl rfl (by rfl) ?_; simp only [Act.put, List.setIfInBounds_toArray, List.set_cons_zero, List.set_cons_succ]))
  refine seq_done ?_
  have E2 : Below B1 W ((W.alloc (.cells ZK.toArray 84)).setRow B1 EC.toArray) := below_setRow (Below.alloc (Below.refl _ _) (Nat.le_of_eq hB.symm) _) (Nat.le_refl _) _
  refine gen_q (fun W => Cb W r7 31 (cellsOf k) ∧ Cb W r9 82 PC ∧ Ext w W) ⟨(T1.out _ E2).2.2.2, (T1.out _ E2).2.1, (T1.out _ E2).2.2.1⟩ ?_
  clear T1 E2 hB c9 W LK
  rintro w2 ⟨k7, k9, x2⟩
  rcases is with _ | _
  case true =>
    obtain rfl := HT.out hneg rfl
    obtain rfl := NP.out (by decide)
    have FIN : Hid (SK w2 g mb RL puts ∧ Two g mb w w2) := ⟨SE.out _ x2, Two.of_ext x2⟩
    clear C0 SE NP HN HT HZ AD AF PL DL k7 k9 x2
    go_wp2_with fail
    go_ret
    first | exact ⟨rfl, ⟨puts, Int.le_refl _, by omega, FIN.out.1⟩, FIN.out.2⟩ | exact ⟨rfl, ⟨puts, Int.le_refl _, by omega, rfl, FIN.out.1⟩, FIN.out.2⟩ | exact ⟨rfl, ⟨puts, Int.le_refl _, by omega, (fun q => absurd q (by decide)), (fun _ => rfl), FIN.out.1⟩, FIN.out.2⟩
  obtain ⟨rfl, rfl⟩ := HZ.out hneg rfl
  clear NP HN HT HZ
  have T2 : Hid (∀ s, w2.drew.grownBy s (some mb) → (s.cell? ⟨g, 0, none⟩ = some (.map (some mb)) ∧ s.cell? ⟨g, 1, none⟩ = some (.int .i64 puts)) ∧ Cb s r9 82 PC ∧ Cb s r7 31 (cellsOf k) ∧ Cb s g 80 [.map (some mb), .int .i64 puts] ∧ Two g mb w s) := fun s e => by
    have hb : ∀ i, i < w2.heap.size → i ≠ mb → s.heap[i]? = w2.heap[i]? := fun i hi hne => e.block i hi (fun q => hne (Option.some.inj q))
    have hg := hb g (Nat.lt_of_lt_of_le glt x2.size) gnb
    exact ⟨⟨(cell_of_heap hg _).trans (C0.out _ x2).1, (cell_of_heap hg _).trans (C0.out _ x2).2⟩, (hb r9 k9.lt (by omega)).trans k9, (hb r7 k7.lt (by omega)).trans k7, hg.trans (SE.out _ x2).cb, e.os.trans x2.os, e.tape.trans x2.tape, e.output.trans x2.output, Nat.le_trans x2.size e.size, fun i hi h1 h2 => (hb i (Nat.lt_of_lt_of_le hi x2.size) h2).trans (x2.block i hi)⟩
  have A2 := Lib.hid (AD.out rfl w2.drew x2.drew)
  clear AD k7 k9 C0 SE x2
  go_upto_region 7 with fail
  refine wp_region_seq (R := fun a b => a.grownBy b (some mb)) (fun w => World.grownBy.refl w _) (fun _ _ _ => gr_trans) [0, 1, 2, 3, 4, 5, 6, 7, 8, 9, 10, 11] [11] [(0, 28, 2), (1, 29, 268435456), (2, 30, 536870912), (4, 31, 1073741824), (0, 32, 1024), (0, 33, 256), (0, 34, 2), (64, 35, 17179869184), (128, 36, 34359738368), (256, 37, 68719476736), (544, 38, 146028888064), (2047, 0, 281320357888)] (by kernel_rfl) (by kernel_rfl) (by kernel_rfl) rfl (by kernel_rfl) (by kernel_rfl) (fun _ _ d _ _ h => by cases d <;> exact h) ?_
  generalize w2.drew = W at *
  clear w2
  repeat (first | (refine seq_read _ (fun w' e => (T2.out w' e).1) _ (v := ?_) rfl rfl (by rfl) ?_ ?_; rotate_left; (· intro w' hF; go_simp; (try with_reducible rfl)); simp only [Act.put, List.setIfInBounds_toArray, List.set_cons_zero, List.set_cons_succ]) | (refine seq_skip _ rfl rfl (by rfl) ?_; simp only [Act.put, List.setIfInBounds_toArray, List.set_cons_zero, List.set_cons_succ]))
  refine seq_read (fun w' => w'.heap[r9]? = some (.cells PC.toArray 82 (0, 0))) (fun w' e => (T2.out w' e).2.1) _ (v := .agg PC.toArray) rfl rfl (by rfl) (fun w' hF => exec_load_row rfl rfl hF rfl rfl (by rw [S_PC]; rfl)) ?_
  simp only [Act.put, List.setIfInBounds_toArray, List.set_cons_zero, List.set_cons_succ]
  refine seq_read (fun w' => w'.heap[r7]? = some (.cells (cellsOf k).toArray 31 (0, 0))) (fun w' e => (T2.out w' e).2.2.1) _ (v := .agg (cellsOf k).toArray) rfl rfl (by rfl) (fun w' hF => exec_load_row rfl rfl hF rfl rfl (by rw [S_k]; rfl)) ?_
  simp only [Act.put, List.setIfInBounds_toArray, List.set_cons_zero, List.set_cons_succ]
  repeat (first | (refine seq_read _ (fun w' e => (T2.out w' e).1) _ (v := ?_) rfl rfl (by rfl) ?_ ?_; rotate_left; (· intro w' hF; go_simp; (try with_reducible rfl)); simp only [Act.put, List.setIfInBounds_toArray, List.set_cons_zero, List.set_cons_succ]) | (refine seq_skip _ rfl rfl (by rfl) ?_; simp only [Act.put, List.setIfInBounds_toArray, List.set_cons_zero, List.set_cons_succ]))
  refine seq_read (fun _ => True) (fun _ _ => trivial) _ (v := .agg NE.toArray) rfl rfl (by rfl) (fun w' _ => (exec_build_as rfl (by simp only [List.map_toArray, List.map_cons, List.map_nil]; exact BE.out))) ?_
  simp only [Act.put, List.setIfInBounds_toArray, List.set_cons_zero, List.set_cons_succ]
  repeat (first | (refine seq_read (fun _ => True) (fun _ _ => trivial) _ (v := ?_) rfl rfl (by rfl) ?_ ?_; rotate_left; (· intro w' hF; go_simp; (try with_reducible rfl)); simp only [Act.put, List.setIfInBounds_toArray, List.set_cons_zero, List.set_cons_succ]) | (refine seq_skip _ rfl rfl (by rfl) ?_; simp only [Act.put, List.setIfInBounds_toArray, List.set_cons_zero, List.set_cons_succ]))
  refine seq_do _ rfl rfl (by rfl) (fun K hK => ?_)
  obtain ⟨w3, d1, d2, d3⟩ := A2.out
  refine wp_mapUpdate rfl rfl rfl rfl d1 ?_
  refine hK.out _ _ d3 ?_
  clear hK K
  try simp only [Act.put, List.setIfInBounds_toArray, List.set_cons_zero, List.set_cons_succ]
  repeat (first | (refine seq_read (fun _ => True) (fun _ _ => trivial) _ (v := ?_) rfl rfl (by rfl) ?_ ?_; rotate_left; (· intro w' hF; go_simp; (try with_reducible rfl)); simp only [Act.put, List.setIfInBounds_toArray, List.set_cons_zero, List.set_cons_succ]) | (refine seq_skip _ rfl rfl (by rfl) ?_; simp only [Act.put, List.setIfInBounds_toArray, List.set_cons_zero, List.set_cons_succ]))
  refine seq_done ?_
  refine gen_q (fun W => Cb W g 80 [.map (some mb), .int .i64 puts] ∧ Mp Try.prog 82 W mb ((L ++ [X]).map Kp.ent) ∧ Two g mb w W) ⟨(T2.out _ d3).2.2.2.1, d2, (T2.out _ d3).2.2.2.2⟩ ?_
  clear T2 A2 d1 d2 d3 w3 W BE
  rintro w3 ⟨cb, mp, t3⟩
  have c1 := cb.cell (j := 1) rfl
  have f1 := cb.frozen 1
  have hpw : IntKind.i64.wrap (puts + 1) = puts + 1 := IntWalk.i64_in _ (by omega)
  have K4 : Hid (SK (w3.setCell ⟨g, 1, none⟩ (.int .i64 (puts + 1))) g mb (L ++ [X]) (puts + 1) ∧ Two g mb w (w3.setCell ⟨g, 1, none⟩ (.int .i64 (puts + 1)))) :=
    ⟨AF.out _ cb.setCell (mp.stay (Below.heap_setCell _ _ _ _ (fun q => gnb q.symm))), t3.trans ⟨rfl, rfl, rfl, by simp [World.setCell], fun i _ h1 _ => Below.heap_setCell _ _ _ _ h1⟩⟩
  go_upto_region 9 with fail
  refine wp_gen (fun W => SK W g mb (L ++ [X]) (puts + 1) ∧ Two g mb w W) K4.out ?_
  clear K4 cb mp t3 c1 f1 hpw AF w3
  rintro w4 ⟨sk, t4⟩
  have c0 := sk.cb.cell (j := 0) rfl
  have hl := sk.mp.len Try.underlying78 0
  rw [List.length_map] at hl
  obtain ⟨m, hm⟩ : ∃ m, m = (L ++ [X]).length := ⟨_, rfl⟩
  rw [← hm] at hl LX
  have m9 : m ≤ 9 := by omega
  replace sk := Lib.hid sk
  replace t4 := Lib.hid t4
  rcases Decidable.em (m ≤ 8) with hm8 | hm8
  · have u2 : decide ((8 : Int) < (m : Int)) = false := decide_eq_false (by omega)
    have PL' : putL L X = L ++ [X] := by rw [PL.out, if_pos (by omega)]
    rw [← PL'] at sk
    clear PL PL' DL hm LX
    go_wp2_with (refine wpList_of_wp rfl fun K hK => ?_; refine wp_call_len rfl rfl hl ?_; refine hK _ _ ?_; simp only [Act.put, List.setIfInBounds_toArray, List.set_cons_zero, List.set_cons_succ])
    go_ret
    first | exact ⟨rfl, ⟨puts + 1, by omega, Int.le_refl _, rfl, sk.out⟩, t4.out⟩ | exact ⟨rfl, ⟨puts + 1, by omega, Int.le_refl _, rfl, (fun q => absurd rfl q), sk.out⟩, t4.out⟩ | exact ⟨rfl, ⟨puts + 1, by omega, Int.le_refl _, (fun _ => rfl), (fun q => absurd rfl q), sk.out⟩, t4.out⟩
  · have u2 : decide ((8 : Int) < (m : Int)) = true := decide_eq_true (by omega)
    have PL' : putL L X = (L ++ [X]).drop 1 := by rw [PL.out, if_neg (by omega), DL.out (by omega)]
    obtain ⟨y, l, hyl⟩ : ∃ y l, L ++ [X] = y :: l := by
      cases q : L ++ [X] with
      | nil => rw [q] at hm; simp at hm; omega
      | cons y l => exact ⟨y, l, rfl⟩
    rw [hyl, List.drop_one, List.tail_cons] at PL'
    rw [hyl] at sk
    have oky := sk.out.ok y (List.mem_cons_self ..)
    have OLD : Hid (∀ s, Ext w4 s → Calls Try.prog 37 #[.pointer (some ⟨g, 0, none⟩)] s fun e w' => e = .returned (.agg (knC y.pk y.n).toArray) ∧ Ext s w') := fun s e => sold_calls (sk.out.ext e) rfl
    have DR : Hid (∀ s, Ext w4 s → ∃ w', (Builtin.delete_ #[78, 82] 0 #[.map (some mb), .agg (knC y.pk y.n).toArray]).run Try.prog s = .ok (.tuple #[]) w' ∧ SK w' g mb (putL L X) (puts + 1) ∧ s.grownBy w' (some mb)) := fun s e => by
      have := (sk.out.ext e).drop oky.1 oky.2.2 0
      rw [takeL_head sk.out.apart, ← PL'] at this
      exact this
    have CE : Hid (∀ s, w4.drew.grownBy s (some mb) → s.cell? ⟨g, 0, none⟩ = some (.map (some mb))) := fun s e => (cell_of_heap (e.block g sk.out.cb.lt (fun q => gnb (Option.some.inj q))) _).trans (sk.out.cb.cell rfl)
    generalize knC y.pk y.n = YC at *
    clear PL PL' DL hm LX hyl oky sk
    go_upto_region 10 with (refine wpList_of_wp rfl fun K hK => ?_; refine wp_call_len rfl rfl hl ?_; refine hK _ _ ?_; simp only [Act.put, List.setIfInBounds_toArray, List.set_cons_zero, List.set_cons_succ])
    clear c0
    refine wp_region_seq (R := fun a b => a.grownBy b (some mb)) (fun w => World.grownBy.refl w _) (fun _ _ _ => gr_trans) [0, 1, 2, 3, 4, 5, 6] [5, 6] [(0, 52, 2), (1, 53, 4503599627370496), (2, 54, 9007199254740992), (4, 55, 18014398509481984), (0, 56, 2), (16, 57, 72057594037927936), (40, 0, 180143985094819840)] (by kernel_rfl) (by kernel_rfl) (by kernel_rfl) rfl (by kernel_rfl) (by kernel_rfl) (fun _ _ d _ _ h => by cases d <;> exact h) ?_
    have X4 : Hid (Ext w4 w4.drew) := (Ext.refl w4).drew
    generalize w4.drew = W at *
    repeat (first | (refine seq_read _ (fun w' e => CE.out w' e) _ (v := ?_) rfl rfl (by rfl) ?_ ?_; rotate_left; (· intro w' hF; go_simp; (try with_reducible rfl)); simp only [Act.put, List.setIfInBounds_toArray, List.set_cons_zero, List.set_cons_succ]) | (refine seq_skip _ rfl rfl (by rfl) ?_; simp only [Act.put, List.setIfInBounds_toArray, List.set_cons_zero, List.set_cons_succ]))
    refine seq_do _ rfl rfl (by rfl) (fun K hK => ?_)
    go_simp
    refine (OLD.out W X4.out).mono ?_
    rintro e w5 ⟨rfl, x5⟩
    have g5 : W.grownBy w5 (some mb) := ⟨x5.os, x5.tape, x5.output, x5.size, fun i hi _ => x5.block i hi⟩
    refine hK.out _ _ g5 ?_
    clear hK K
    try simp only [Act.put, List.setIfInBounds_toArray, List.set_cons_zero, List.set_cons_succ]
    repeat (first | (refine seq_read _ (fun w' e => CE.out w' (grown_trans' g5 e)) _ (v := ?_) rfl rfl (by rfl) ?_ ?_; rotate_left; (· intro w' hF; go_simp; (try with_reducible rfl)); simp only [Act.put, List.setIfInBounds_toArray, List.set_cons_zero, List.set_cons_succ]) | (refine seq_skip _ rfl rfl (by rfl) ?_; simp only [Act.put, List.setIfInBounds_toArray, List.set_cons_zero, List.set_cons_succ]))
    refine seq_do _ rfl rfl (by rfl) (fun K hK => ?_)
    obtain ⟨w6, d1, d2, d3⟩ := DR.out w5 (X4.out.trans x5)
    refine wp_delete rfl rfl rfl d1 ?_
    refine hK.out _ _ d3 ?_
    clear hK K
    try simp only [Act.put, List.setIfInBounds_toArray, List.set_cons_zero, List.set_cons_succ]
    repeat (first | (refine seq_read (fun _ => True) (fun _ _ => trivial) _ (v := ?_) rfl rfl (by rfl) ?_ ?_; rotate_left; (· intro w' hF; go_simp; (try with_reducible rfl)); simp only [Act.put, List.setIfInBounds_toArray, List.set_cons_zero, List.set_cons_succ]) | (refine seq_skip _ rfl rfl (by rfl) ?_; simp only [Act.put, List.setIfInBounds_toArray, List.set_cons_zero, List.set_cons_succ]))
    refine seq_done ?_
    have t6 : Two g mb w w6 := t4.out.trans (by
      have g6 := grown_trans' g5 d3
      have s4 := X4.out.size
      exact ⟨g6.os.trans X4.out.os, g6.tape.trans X4.out.tape, g6.output.trans X4.out.output, Nat.le_trans s4 g6.size, fun i hi h1 h2 => (g6.block i (Nat.lt_of_lt_of_le hi s4) (fun q => h2 (Option.some.inj q))).trans (X4.out.block i hi)⟩)
    replace d2 := Lib.hid d2
    replace t6 := Lib.hid t6
    clear g5 d1 d3 x5 X4 CE OLD DR t4
    go_wp2_with fail
    go_ret
    first | exact ⟨rfl, ⟨puts + 1, by omega, Int.le_refl _, rfl, d2.out⟩, t6.out⟩ | exact ⟨rfl, ⟨puts + 1, by omega, Int.le_refl _, rfl, (fun q => absurd rfl q), d2.out⟩, t6.out⟩ | exact ⟨rfl, ⟨puts + 1, by omega, Int.le_refl _, (fun _ => rfl), (fun q => absurd rfl q), d2.out⟩, t6.out⟩
end Go.Proofs.Ytonjialkfbbhpaa
