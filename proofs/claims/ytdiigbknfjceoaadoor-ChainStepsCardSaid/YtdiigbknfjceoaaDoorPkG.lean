import Derived.Test.YtdiigbknfjceoaaDoorKeysK
import Derived.Test.YtdiigbknfjceoaaDoorMid
import Derived.Test.YtdiigbknfjceoaaDoorAppStr
import Derived.Lib.ConvBytes
import Derived.Deep.AppendSrc
section
/-
  The law's awake (layer 3): two keys, reckoned out by the kernel.
-/
namespace Go.Proofs.YtdiigbknfjceoaaDoor
open Go.ChangeShapes Go.WideShapes Go.ChangeAt Go.RowKit Go.Deep

def key1 : List UInt8 := 1 :: List.replicate 31 0
def key1C : Array Value := #[Value.int .u8 1, Value.int .u8 0, Value.int .u8 0, Value.int .u8 0, Value.int .u8 0, Value.int .u8 0, Value.int .u8 0, Value.int .u8 0, Value.int .u8 0, Value.int .u8 0, Value.int .u8 0, Value.int .u8 0, Value.int .u8 0, Value.int .u8 0, Value.int .u8 0, Value.int .u8 0, Value.int .u8 0, Value.int .u8 0, Value.int .u8 0, Value.int .u8 0, Value.int .u8 0, Value.int .u8 0, Value.int .u8 0, Value.int .u8 0, Value.int .u8 0, Value.int .u8 0, Value.int .u8 0, Value.int .u8 0, Value.int .u8 0, Value.int .u8 0, Value.int .u8 0, Value.int .u8 0]
theorem key1_cells : (cellsOf key1).toArray = key1C := by kernel_rfl
theorem two_keys : decide (keyL key1 [97] = keyL key1 [98]) = false := by decide +kernel
theorem spread_bt {ks ps : List UInt8} {m j : Nat} (h : 32 ≤ m) (hj : j < 32) : bt (spreadL ks ps m) j = bt (keyL ks ps) j := by
  have := spreadL_take ks ps h
  rw [spreadL_32] at this
  unfold keyL
  rw [← this, bt_take hj]

set_option maxRecDepth 100000 in
set_option maxHeartbeats 1000000 in
theorem awake_calls {w : World} {tg : TypeId × Nat × Nat} (hG : Gl w tg) : Calls Tryd.prog 20 #[] w fun e w' => e = .returned (.bool true) ∧ Ext w w' := by
  have hC := Lib.hid key1_cells
  have hne := Lib.hid two_keys
  have h3 := Lib.hid (spread_bt (ks := key1) (ps := [97]) (m := 40) (j := 3) (by decide) (by decide))
  have HG := Lib.hid (fun W e => Gl.kept hG (w' := W) e hG.lt)
  clear hG
  have KL : key1.length = 32 := by decide
  have KC : (cellsOf key1).toArray.size = 32 := by simp [cellsOf_len, KL]
  generalize key1 = K at *
  have KEYS : Hid (∀ (W : World) o, Ext w W → Calls Tryd.prog 25 #[.agg (cellsOf K).toArray, .slice (some ⟨W.heap.size, 0, none⟩) 2 2] (W.alloc (.cells #[.string ⟨#[97]⟩, .string ⟨#[98]⟩] o)) (RetKs [keyL K [97], keyL K [98]] (W.alloc (.cells #[.string ⟨#[97]⟩, .string ⟨#[98]⟩] o)))) := fun W o e => by
    refine keys_calls (ks := K) (l := [[97], [98]]) KL ⟨rfl, fun _ => ⟨_, 0, rfl, by rw [size_alloc]; omega, fun j hj => ?_⟩⟩ (by omega) (fun j => ?_) (HG.out _ (e.alloc _))
    · rw [cell_of_row _ _ _ _ _ (0, 0) (heap_alloc_new _ _)]
      have : j = 0 ∨ j = 1 := by omega
      rcases this with rfl | rfl <;> rfl
    · match j with
      | 0 => decide
      | 1 => decide
      | j + 2 => simp [List.getD]
  have SPREAD : Hid (∀ W : World, Ext w W → Calls Tryd.prog 21 #[.agg (cellsOf K).toArray, .string ⟨#[97]⟩, .int .i64 40] W (RetBsE (spreadL K [97] 40) 0 W)) := fun W e => spread_calls (m := 40) (ps := [97]) KL (by decide) (by omega) (HG.out _ e)
  have SL := spreadL_len K [97] 40
  have K0 := keyL_len K [97]
  have K1 := keyL_len K [98]
  generalize spreadL K [97] 40 = sp at *
  generalize keyL K [97] = k0 at *
  generalize keyL K [98] = k1 at *
  rw [hC.out] at KEYS SPREAD
  clear hC KC
  go_enter Tryd.func20, Tryd.ntmps20
  go_wp2_with fail
  change Calls _ _ #[.agg key1C, _] _ _
  refine (KEYS.out _ _ (Ext.refl w)).mono ?_
  rintro e w1 ⟨g, rfl, hg, kr, e1⟩
  have E1 : Hid (Ext w w1) := ((Ext.refl w).alloc _).trans e1
  replace kr := Lib.hid kr
  clear KEYS hg e1
  go_wp2_with fail
  change Calls _ _ #[.agg key1C, _, _] _ _
  refine (SPREAD.out _ E1.out).mono ?_
  rintro e w2 ⟨A2, n2, c2, rfl, b2, e2⟩
  obtain rfl : n2 = 40 := by rw [← b2.len, SL]
  replace kr := Lib.hid (kr.out.ext e2)
  replace E1 := Lib.hid (E1.out.trans e2)
  clear SPREAD e2
  have n40 := b2.le
  obtain ⟨b, off, rfl, hb, hbc⟩ := b2.pos (by omega)
  have KEEP : Hid (∀ w', Ext w2 w' → w'.cell? ⟨b, off + 3, none⟩ = some (.int .u8 (bt k0 3 : Int)) ∧ w'.cell? ⟨g, 3, none⟩ = some (.int .u8 (bt k0 3 : Int))) := fun w' e => by
    have q1 := (e.cell (p := ⟨b, off + 3, none⟩) hb).trans (hbc 3 (by omega))
    rw [h3.out] at q1
    have q2 := (kr.out.ext e).cell (j := 0) (i := 3) (by simp) (by omega)
    exact ⟨q1, q2⟩
  have R0 : Hid (∀ w', Ext w2 w' → ∀ i v, (cellsOf k0)[i]? = some v → w'.cell? ⟨g, 0 + i, none⟩ = some v) := fun w' e => (kr.out.ext e).row (j := 0) (by simp)
  have R1 : Hid (∀ w', Ext w2 w' → ∀ i v, (cellsOf k1)[i]? = some v → w'.cell? ⟨g, 32 + i, none⟩ = some v) := fun w' e => (kr.out.ext e).row (j := 1) (by simp)
  have C0 : (cellsOf k0).length = 32 := by rw [cellsOf_len, K0]
  have C1 : (cellsOf k1).length = 32 := by rw [cellsOf_len, K1]
  have hnb : Hid ((!decide (k0 = k1)) = true) := by
    unfold Hid
    rw [hne.out]; rfl
  clear hbc h3 b2
  go_wp2_with fail
  refine wp_region_seq (R := Ext) Ext.refl (fun _ _ _ => Ext.trans) [0, 1, 2, 3, 4, 5, 6, 7, 8, 9, 10, 11, 12, 13, 14, 15, 16, 17, 18, 19, 20, 21, 22, 23, 24, 25, 26, 27, 28, 29, 30, 31] [] [(0, 13, 4), (1, 14, 8192), (2, 15, 16384), (4, 16, 32768), (8, 17, 65540), (24, 18, 196608), (40, 19, 327680), (8, 20, 65540), (136, 21, 1114112), (264, 22, 2162688), (584, 23, 4784128), (1032, 24, 8454144), (2056, 25, 16777216), (4096, 26, 33554448), (12288, 27, 100663296), (20480, 28, 167772160), (36864, 29, 268435456), (65536, 30, 536870920), (196608, 31, 1610612736), (327680, 32, 2684354560), (589824, 33, 4831838208), (1114112, 34, 8589934592), (2097152, 35, 17179869192), (6291456, 36, 51539607552), (10485760, 37, 85899345920), (2097152, 38, 17179869188), (35651584, 39, 292057776128), (69206016, 40, 566935683072), (136314880, 41, 1116691496960), (287309824, 42, 2353642078208), (538968064, 43, 4415226380288), (2147483647, 1, 8796093022208)] (by kernel_rfl) (by kernel_rfl) (by kernel_rfl) rfl (by kernel_rfl) (by kernel_rfl) (fun _ _ d _ _ h => by cases d <;> exact h) ?_
  repeat (first | (refine seq_read _ (fun w' e => KEEP.out w' ((Ext.refl _).drew.trans e)) _ (v := ?_) rfl rfl (by rfl) ?_ ?_; rotate_left; (· intro w' hF; go_simp; (try with_reducible rfl)); simp only [Act.put, List.setIfInBounds_toArray, List.set_cons_zero, List.set_cons_succ]) | (refine seq_skip _ rfl rfl (by rfl) ?_; simp only [Act.put, List.setIfInBounds_toArray, List.set_cons_zero, List.set_cons_succ]))
  refine seq_read (fun w' => ∀ j v, (cellsOf k0)[j]? = some v → w'.cell? ⟨g, 0 + j, none⟩ = some v) (fun w' e => R0.out w' ((Ext.refl _).drew.trans e)) _ (v := .agg (cellsOf k0).toArray) rfl rfl (by rfl) (fun w' hF => exec_load_mid rfl rfl hF rfl rfl (by rw [C0]; rfl)) ?_
  simp only [Act.put, List.setIfInBounds_toArray, List.set_cons_zero, List.set_cons_succ]
  repeat (first | (refine seq_read _ (fun w' e => KEEP.out w' ((Ext.refl _).drew.trans e)) _ (v := ?_) rfl rfl (by rfl) ?_ ?_; rotate_left; (· intro w' hF; go_simp; (try with_reducible rfl)); simp only [Act.put, List.setIfInBounds_toArray, List.set_cons_zero, List.set_cons_succ]) | (refine seq_skip _ rfl rfl (by rfl) ?_; simp only [Act.put, List.setIfInBounds_toArray, List.set_cons_zero, List.set_cons_succ]))
  refine seq_read (fun w' => ∀ j v, (cellsOf k1)[j]? = some v → w'.cell? ⟨g, 32 + j, none⟩ = some v) (fun w' e => R1.out w' ((Ext.refl _).drew.trans e)) _ (v := .agg (cellsOf k1).toArray) rfl rfl (by rfl) (fun w' hF => exec_load_mid rfl rfl hF rfl rfl (by rw [C1]; rfl)) ?_
  simp only [Act.put, List.setIfInBounds_toArray, List.set_cons_zero, List.set_cons_succ]
  refine seq_read (fun _ => True) (fun _ _ => trivial) _ (v := .bool true) rfl rfl (by rfl) (fun w' _ => exec_neq_keyB hnb.out K0 K1 rfl rfl rfl) ?_
  simp only [Act.put, List.setIfInBounds_toArray, List.set_cons_zero, List.set_cons_succ]
  repeat (first | (refine seq_read _ (fun w' e => KEEP.out w' ((Ext.refl _).drew.trans e)) _ (v := ?_) rfl rfl (by rfl) ?_ ?_; rotate_left; (· intro w' hF; go_simp; (try with_reducible rfl)); simp only [Act.put, List.setIfInBounds_toArray, List.set_cons_zero, List.set_cons_succ]) | (refine seq_skip _ rfl rfl (by rfl) ?_; simp only [Act.put, List.setIfInBounds_toArray, List.set_cons_zero, List.set_cons_succ]))
  refine seq_done ?_
  go_wp2_with fail
  go_ret
  exact ⟨rfl, E1.out.drew⟩
end Go.Proofs.YtdiigbknfjceoaaDoor
end

section
/-
  []byte(s), and one byte appended to it.
-/
namespace Go.Proofs.YtdiigbknfjceoaaDoor
open Go.ChangeShapes Go.WideShapes Go.ChangeAt Go.RowKit Go.Deep

/-- Block g holds the bytes of a string, and room; nothing of it is frozen. -/
def Cv (w : World) (g n c : Nat) (xs : List UInt8) : Prop :=
  xs.length = n ∧ n ≤ c ∧ c ≤ maxLen ∧ ∃ cur : Array Value, w.heap[g]? = some (.cells cur 5 (c, c + 1)) ∧ cur.size = c ∧ ∀ j, j < n → cur[j]? = some (.int .u8 (bt xs j : Int))
theorem Cv.ext {w w' : World} {g n c : Nat} {xs : List UInt8} (h : Cv w g n c xs) (e : Ext w w') : Cv w' g n c xs := by
  obtain ⟨h1, h2, h3, cur, h4, h5⟩ := h
  exact ⟨h1, h2, h3, cur, (e.block g (heap_lt h4)).trans h4, h5⟩
theorem Cv.bs {w : World} {g n c : Nat} {xs : List UInt8} (h : Cv w g n c xs) : Bs w (some ⟨g, 0, none⟩) n c xs := by
  obtain ⟨h1, h2, h3, cur, h4, h5, h6⟩ := h
  refine ⟨h1, h2, h3, fun _ => ⟨g, 0, rfl, heap_lt h4, fun j hj => ?_⟩⟩
  rw [Nat.zero_add, cell_of_row w g j _ _ _ h4, h6 j hj]
/-- []byte(s), in every world. -/
theorem conv_str (xs : List UInt8) (hx : xs.length ≤ 1000000) : ∃ (cp : World → Nat) (cw : World → World),
    (∀ w, (convert 9 22 (.string (strL xs))).run Tryd.prog w = .ok (.slice (some ⟨w.heap.size, 0, none⟩) xs.length (cp w)) (cw w)) ∧
    ∀ w, Ext w (cw w) ∧ Cv (cw w) w.heap.size xs.length (cp w) xs := by
  refine ⟨fun w => grownCap w (strL xs).size 0 5, fun w => Lib.bytesWorld w 5 (strL xs), fun w => ?_, fun w => ⟨⟨rfl, rfl, rfl, by rw [Lib.bytesWorld_size]; omega, fun i hi => Lib.bytesWorld_at_old w _ _ i hi⟩, rfl, ?_, ?_, ?_⟩⟩
  · have := Lib.run_convert_string_bytes (P := Tryd.prog) w 9 22 5 (strL xs) Tryd.underlying9 Tryd.underlying22 Tryd.underlying5
    rw [this, strL_size]
  · have := grownCap_ge w (strL xs).size 0 5
    rw [strL_size] at this ⊢
    exact this
  · exact grownCap_le_maxLen w _ _ _ (by rw [strL_size]; unfold maxLen; omega)
  · have hge := grownCap_ge w (strL xs).size 0 5
    have hs : (Lib.bytesCells w 5 (strL xs)).size = grownCap w (strL xs).size 0 5 := by
      simp only [Lib.bytesCells, Array.size_append, Array.size_map, Array.size_replicate]
      have : (strL xs).data.size = (strL xs).size := rfl
      omega
    refine ⟨Lib.bytesCells w 5 (strL xs), ?_, hs, fun j hj => ?_⟩
    · have := Lib.bytesWorld_at_new w 5 (strL xs)
      rw [hs] at this
      exact this
    · have h1 := Lib.bytesWorld_cell w 5 (strL xs) j (by rw [strL_size]; exact hj)
      rw [cell_of_row _ _ _ _ _ _ (Lib.bytesWorld_at_new w 5 (strL xs))] at h1
      rw [h1]
      simp [strL, bt]
theorem append_conv {w : World} {g n c : Nat} {xs : List UInt8} {y : UInt8} {A' : Option Addr} {c' : Nat} (ty : TypeId) (h : Cv w g n c xs) (hn : n ≤ 1000000) (hr : Bs w A' 1 c' [y]) :
    ∃ A'' c'' w', (Builtin.append_ #[22, 22] ty #[.slice (some ⟨g, 0, none⟩) n c, .slice A' 1 c']).run Tryd.prog w = .ok (.slice A'' (n + 1) c'') w' ∧ Bs w' A'' (n + 1) c'' (xs ++ [y]) ∧ w.grownBy w' (some g) := by
  have HB := h.bs
  obtain ⟨h1, h2, h3, cur, h4, h5, h6⟩ := h
  obtain ⟨i, hi, hz0, hz1, hz2⟩ := info_parts info8
  obtain ⟨b, o, rfl, hb, hcb⟩ := hr.pos (by omega)
  have src : Src Tryd.prog i.size 22 (.slice (some ⟨b, o, none⟩) 1 c') 1 [u8v y] w := Src.ofSlice w (e' := 5) Tryd.underlying22 _ _ _ _ (by rw [hz1]; rfl) (fun j u hu => by
    match j, hu with
    | 0, hu =>
      simp at hu
      subst hu
      have := hcb 0 (by omega)
      have hadd : (⟨b, o, none⟩ : Addr).add 0 = ⟨b, o + 0, none⟩ := by unfold Addr.add; split <;> simp_all
      rw [hadd, this]
      simp [u8v, bt]) (fun u hu => by simp at hu; subst hu; rfl)
  by_cases hroom : n + 1 ≤ c
  · have hr2 := run_append_room_src (P := Tryd.prog) w 22 22 ty 5 i Tryd.underlying22 hi g 0 n c _ 1 [u8v y] src hroom (fun j hj => by
      obtain rfl : j = 0 := by simpa using hj
      rw [hz1, cell_of_row w g _ _ _ _ h4, Nat.zero_add, Nat.mul_one, Nat.add_zero]
      simp; omega) (fun j hj => by
      obtain rfl : j = 0 := by simpa using hj
      simp only [World.frozen?, h4, hz1]
      simp
      omega)
    refine ⟨_, _, _, hr2, ?_, ?_⟩
    · simp only [World.setCells, hz1, Nat.mul_one, Nat.zero_add]
      refine ⟨by simp [h1], hroom, h3, fun _ => ⟨g, 0, rfl, by simpa [World.setCell] using heap_lt h4, fun j hj => ?_⟩⟩
      rw [Nat.zero_add, setCell_eq_setRow w g n cur _ _ _ h4, cell_of_row _ g j _ _ _ (setRow_heap w g cur _ _ _ h4)]
      by_cases q : j = n
      · have hjl : j < cur.size := by omega
        have hb' : bt (xs ++ [y]) j = y.toNat := by
          unfold bt
          simp only [List.getD]
          rw [List.getElem?_append_right (by omega), show j - xs.length = 0 by omega]
          rfl
        rw [hb', ← q, Array.getElem?_setIfInBounds_self_of_lt hjl]
        rfl
      · rw [Array.getElem?_setIfInBounds_ne (Ne.symm q), h6 j (by omega)]
        congr 2
        unfold bt
        simp only [List.getD]
        rw [List.getElem?_append_left (by omega)]
    · simp only [World.setCells, hz1, Nat.mul_one, Nat.zero_add]
      exact gr_set (gr_ext (Ext.refl w) _) _ _
  · have holds : ∀ j u, (xs.map u8v)[j]? = some u → w.drew.cell? ((⟨g, 0, none⟩ : Addr).add j) = some u := fun j u hu => by
      have hj : j < n := by
        have := (List.getElem?_eq_some_iff.1 hu).1
        rw [List.length_map] at this
        omega
      have hadd : (⟨g, 0, none⟩ : Addr).add j = ⟨g, j, none⟩ := by unfold Addr.add; split <;> simp_all
      rw [hadd, cell_of_row w.drew g j _ _ _ h4, h6 j hj, ← u8v_bt (by omega), hu]
    have hr2 := run_append_grow_src (P := Tryd.prog) w 22 22 ty 5 i (.int .u8 0) Tryd.underlying22 hi hz0 (some ⟨g, 0, none⟩) n c (xs.map u8v) (run_firstCells_some w.drew i.size n ⟨g, 0, none⟩ n c (xs.map u8v) (by rw [hz1]; simp [h1]) holds) _ 1 [u8v y] src (by omega) (by omega) (growslice_fits (by omega) (by rw [hz2]; omega))
    refine ⟨_, _, _, hr2, ?_, ⟨rfl, rfl, rfl, by simp, fun k hk _ => heap_alloc_old w.drew _ hk⟩⟩
    have hge := grownCap_ge w (n + 1) c 5
    have hcm : grownCap w (n + 1) c 5 ≤ maxLen := grownCap_le_maxLen w (n + 1) c 5 (by unfold maxLen; omega)
    have ho : Own 0 (w.drew.alloc (.cells ((xs.map u8v ++ [u8v y]).toArray ++ Builtin.zeroCells (Value.int .u8 0).cells (grownCap w (n + 1) c 5 - (n + 1))) 5)) (some ⟨w.heap.size, 0, none⟩) (n + 1) (grownCap w (n + 1) c 5) (xs ++ [y]) := by
      refine ⟨by simp [h1], .inr ⟨w.heap.size, _, _, rfl, Nat.zero_le _, heap_alloc_new w.drew _, hge, hcm, ?_, ?_⟩⟩
      · have hz1 : (Value.int IntKind.u8 0).cells.size = 1 := rfl
        simp only [Array.size_append, List.size_toArray, size_zeroCells, hz1, List.length_append, List.length_map, List.length_cons, List.length_nil, h1]
        omega
      · simp only [Array.toList_append, List.map_append, List.map_cons, List.map_nil]
        exact List.take_left' (by simp [h1])
    exact ho.bs
theorem wp_append_conv {w : World} {o : Oper} {a : Act} {K : Act → World → Prop} {Q : Exit → Act → World → Prop} {g n c : Nat} {xs : List UInt8} {y : UInt8} {A' : Option Addr} {c' : Nat} {s x : Operand}
    (ho : o.op = .call { callee := .builtin .append, args := #[s, x], argTypes := #[22, 22] }) (hs : a.eval s = .slice (some ⟨g, 0, none⟩) n c) (hx : a.eval x = .slice A' 1 c')
    (h : Cv w g n c xs) (hn : n ≤ 1000000) (hr : Bs w A' 1 c' [y])
    (hK : ∀ A'' c'' w', Bs w' A'' (n + 1) c'' (xs ++ [y]) → w.grownBy w' (some g) → K (a.put o.dst (.slice A'' (n + 1) c'')) w') : o.wp Tryd.prog a w K Q := by
  obtain ⟨A'', c'', w', hrun, h2, h3⟩ := append_conv o.type h hn hr
  unfold Oper.wp execOp
  simp only [ho, resolve, invoke, builtin, Sem.run_bind, Sem.run_pure, Result.andThen_ok, List.map_toArray, List.map_cons, List.map_nil, hs, hx, hrun]
  exact hK A'' c'' w' h2 h3
end Go.Proofs.YtdiigbknfjceoaaDoor
end
