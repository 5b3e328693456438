import Derived.Test.YtojgmgghlkpfoaaRfRE12
import Derived.Test.YtojgmgghlkpfoaaSame12
import Derived.Test.YtojgmgghlkpfoaaPkJ
import Derived.Test.YtojgmgghlkpfoaaKeyEq
import Derived.Lib.AppendStr
import Derived.Lib.AppendZerosOnto
import Derived.Lib.ConvBytes
import Derived.Deep.AppendSrc
section
/-
  Envelopes and heads as bytes, and back: plain mathematics.
-/
namespace Go.Proofs.Ytojgmgghlkpfoaa
open Go.ChangeShapes Go.WideShapes Go.ChangeAt Go.RowKit Go.Deep

theorem ofLowL_lowL : ∀ (m n : Nat), ofLowL (lowL n m) = n % 256 ^ m
  | 0, n => by simp [lowL, ofLowL, Nat.mod_one]
  | m + 1, n => by
    have h : lowL n (m + 1) = UInt8.ofNat n :: lowL (n / 256) m := by
      unfold lowL
      rw [List.range_succ_eq_map, List.map_cons, List.map_map]
      congr 1
      · simp
      · apply List.map_congr_left
        intro k _
        simp only [Function.comp, Nat.succ_eq_add_one]
        rw [Nat.pow_succ, Nat.mul_comm, Nat.div_div_eq_div_mul]
    have hp : 256 ^ (m + 1) = 256 * 256 ^ m := (Nat.pow_succ 256 m).trans (Nat.mul_comm _ _)
    rw [h, ofLowL, ofLowL_lowL m (n / 256), UInt8.toNat_ofNat', hp, Nat.mod_mul]
theorem lowL_ofLowL : ∀ (xs : List UInt8), lowL (ofLowL xs) xs.length = xs
  | [] => rfl
  | x :: r => by
    have h : ∀ n m, lowL n (m + 1) = UInt8.ofNat n :: lowL (n / 256) m := fun n m => by
      unfold lowL
      rw [List.range_succ_eq_map, List.map_cons, List.map_map]
      congr 1
      · simp
      · apply List.map_congr_left
        intro k _
        simp only [Function.comp, Nat.succ_eq_add_one]
        rw [Nat.pow_succ, Nat.mul_comm, Nat.div_div_eq_div_mul]
    have hx := x.toNat_lt
    rw [List.length_cons, h]
    have e1 : ofLowL (x :: r) = x.toNat + 256 * ofLowL r := rfl
    rw [e1, show (x.toNat + 256 * ofLowL r) / 256 = ofLowL r by omega, lowL_ofLowL r]
    congr 1
    apply UInt8.toNat_inj.1
    rw [UInt8.toNat_ofNat']
    omega
theorem numN_high {n m : Nat} {r : List UInt8} (hn : n < 256 ^ m) : numN ((lowL n m).reverse ++ r) m = n := by
  unfold numN
  rw [List.take_left' (by rw [List.length_reverse, lowL_len]), List.reverse_reverse, ofLowL_lowL, Nat.mod_eq_of_lt hn]
theorem high_numN {xs : List UInt8} {m : Nat} (h : m ≤ xs.length) : (lowL (numN xs m) m).reverse = xs.take m := by
  unfold numN
  have hl : (xs.take m).reverse.length = m := by rw [List.length_reverse, List.length_take]; omega
  have := lowL_ofLowL (xs.take m).reverse
  rw [hl] at this
  rw [this, List.reverse_reverse]
/-- What an envelope's bytes are read as. -/
theorem envL_parts {x y : UInt8} {cm pk body : List UInt8} {p n : Nat} (hc : cm.length = 32) (hk : pk.length = 32) (hp : p ≤ 1000000) (hn : n ≤ 1000000) (hb : body.length ≤ 600) :
    numN (envL x y cm pk p n body) 1 = x.toNat ∧ numN ((envL x y cm pk p n body).drop 1) 1 = y.toNat ∧ ((envL x y cm pk p n body).drop 2).take 32 = cm ∧ ((envL x y cm pk p n body).drop 34).take 32 = pk ∧
    numN ((envL x y cm pk p n body).drop 66) 4 = p ∧ numN ((envL x y cm pk p n body).drop 70) 4 = n ∧ numN ((envL x y cm pk p n body).drop 74) 2 = body.length ∧ (envL x y cm pk p n body).drop 76 = body ∧ ((envL x y cm pk p n body).drop 34).take 40 = headL pk p n := by
  have e : envL x y cm pk p n body = [x, y] ++ (cm ++ (pk ++ (high4 p ++ (high4 n ++ (high2 body.length ++ body))))) := by simp [envL, headL]
  have l4 := fun n => high4_len n
  have l2 := fun n => high2_len n
  have d2 : (envL x y cm pk p n body).drop 2 = cm ++ (pk ++ (high4 p ++ (high4 n ++ (high2 body.length ++ body)))) := by rw [e]; rfl
  have d34 : (envL x y cm pk p n body).drop 34 = pk ++ (high4 p ++ (high4 n ++ (high2 body.length ++ body))) := by
    rw [show 34 = 2 + 32 from rfl, ← List.drop_drop, d2, List.drop_left' hc]
  have d66 : (envL x y cm pk p n body).drop 66 = high4 p ++ (high4 n ++ (high2 body.length ++ body)) := by
    rw [show 66 = 34 + 32 from rfl, ← List.drop_drop, d34, List.drop_left' hk]
  have d70 : (envL x y cm pk p n body).drop 70 = high4 n ++ (high2 body.length ++ body) := by
    rw [show 70 = 66 + 4 from rfl, ← List.drop_drop, d66, List.drop_left' (l4 p)]
  have d74 : (envL x y cm pk p n body).drop 74 = high2 body.length ++ body := by
    rw [show 74 = 70 + 4 from rfl, ← List.drop_drop, d70, List.drop_left' (l4 n)]
  have d76 : (envL x y cm pk p n body).drop 76 = body := by
    rw [show 76 = 74 + 2 from rfl, ← List.drop_drop, d74, List.drop_left' (l2 _)]
  refine ⟨?_, ?_, ?_, ?_, ?_, ?_, ?_, d76, ?_⟩
  · rw [e]; simp [numN, ofLowL]
  · rw [e]; simp [numN, ofLowL]
  · rw [d2, List.take_left' hc]
  · rw [d34, List.take_left' hk]
  · rw [d66]; exact numN_high (by omega)
  · rw [d70]; exact numN_high (by omega)
  · rw [d74]; exact numN_high (by omega)
  · rw [d34]
    have : pk ++ (high4 p ++ (high4 n ++ (high2 body.length ++ body))) = headL pk p n ++ (high2 body.length ++ body) := by simp [headL]
    rw [this, List.take_left' (headL_len hk p n)]
/-- An envelope's bytes are read as it. -/
theorem envL_reE {x y : UInt8} {cm pk body : List UInt8} {p n : Nat} (hx : x.toNat ≤ 7) (hy : y.toNat ≤ 7) (hc : cm.length = 32) (hk : pk.length = 32) (hp : p ≤ 1000000) (hn : n ≤ 1000000) (hb : body.length ≤ 600) : reE (envL x y cm pk p n body) = 0 := by
  obtain ⟨q0, q1, q2, q3, q4, q5, q6, q7, _⟩ := envL_parts (x := x) (y := y) hc hk hp hn hb
  refine reE_e (by rw [q6, envL_len hc hk]) ?_
  unfold okX
  rw [q0, q1, q4, q5, envL_len hc hk]
  unfold okE okH upB
  simp only [Bool.and_eq_true, decide_eq_true_eq]
  omega
/-- Bytes that are read as an envelope are just its bytes. -/
theorem reE_back {xs : List UInt8} (h : reE xs = 0) : okE (numN xs 1 : Int) (numN (xs.drop 1) 1 : Int) (numN (xs.drop 66) 4 : Int) (numN (xs.drop 70) 4 : Int) (xs.drop 76).length = true ∧ 76 ≤ xs.length ∧ ∀ x y : UInt8, x.toNat = numN xs 1 → y.toNat = numN (xs.drop 1) 1 → envL x y ((xs.drop 2).take 32) ((xs.drop 34).take 32) (numN (xs.drop 66) 4) (numN (xs.drop 70) 4) (xs.drop 76) = xs := by
  unfold reE at h
  split at h
  · cases h
  split at h
  · cases h
  split at h
  · rename_i h1 h2 h3
    simp only [Bool.and_eq_true, decide_eq_true_eq] at h3
    obtain ⟨h3, h4⟩ := h3
    refine ⟨by rw [List.length_drop]; exact h4, by omega, fun x y hx hy => ?_⟩
    have lb : (xs.drop 76).length = numN (xs.drop 74) 2 := by rw [List.length_drop]; omega
    unfold envL headL high4 high2
    rw [lb, high_numN (by rw [List.length_drop]; omega), high_numN (by rw [List.length_drop]; omega), high_numN (by rw [List.length_drop]; omega)]
    match xs, h1 with
    | [], h1 => simp at h1
    | [_], h1 => simp at h1
    | a :: b :: r, h1 =>
      obtain rfl : x = a := UInt8.toNat_inj.1 (by rw [hx]; simp [numN, ofLowL])
      obtain rfl : y = b := UInt8.toNat_inj.1 (by rw [hy]; simp [numN, ofLowL])
      have J : ∀ (k m : Nat) (t : List UInt8), (t.drop k).take m ++ t.drop (k + m) = t.drop k := fun k m t => by rw [← List.drop_drop, List.take_append_drop]
      have hxy : ([x, y] : List UInt8) = (x :: y :: r).take 2 := rfl
      rw [hxy]
      generalize x :: y :: r = t at *
      simp only [List.append_assoc]
      rw [J 74 2, J 70 4, J 66 4, J 34 32, J 2 32, List.take_append_drop]
  · cases h
end Go.Proofs.Ytojgmgghlkpfoaa
end

section
/-
  append of a string's bytes, and of noughts, onto a row of the call's own.
-/
namespace Go.Proofs.Ytojgmgghlkpfoaa
open Go.ChangeShapes Go.WideShapes Go.ChangeAt Go.RowKit Go.Deep

/-- What a slice that owns a row looks like. -/
theorem own_form {w' : World} {B k : Nat} {v' : Value} {xs : List UInt8} (ho : w'.ownsRow B 5 1 v' k (xs.map u8v)) : ∃ A'' c'', v' = .slice A'' k c'' ∧ Own B w' A'' k c'' xs := by
  rcases ho.2 with ⟨hv, hn⟩ | ⟨g, cap, cur, hv, _⟩
  · refine ⟨none, 0, by rw [hv, hn], ?_⟩
    rw [hv] at ho
    unfold Own
    rw [show (Value.slice none k 0) = .slice none 0 0 by rw [hn]]
    exact ho
  · refine ⟨_, _, hv, ?_⟩
    rw [hv] at ho
    exact ho

theorem append_str {w : World} {B : Nat} {A : Option Addr} {n c : Nat} {xs ys : List UInt8} (ty : TypeId) (h : Own B w A n c xs) (hm : n + ys.length ≤ 140737488355328) (hB : B ≤ w.heap.size) :
    ∃ A'' c'' w', (Builtin.append_ #[26, 9] ty #[.slice A n c, .string (strL ys)]).run Try.prog w = .ok (.slice A'' (n + ys.length) c'') w' ∧ Own B w' A'' (n + ys.length) c'' (xs ++ ys) ∧ w.grownBy w' (Value.ownBlock (.slice A n c)) := by
  obtain ⟨i, hi, hz0, hz1, hz2⟩ := info_parts info8
  obtain ⟨v', w', hr, ho, hg, _⟩ := Lib.run_append_own_string (P := Try.prog) w B 26 9 ty 5 i Try.underlying26 Try.underlying9 hi hz0 hz1 hz2 (.slice A n c) n (xs.map u8v) h (strL ys) (by rw [strL_size]; unfold maxLen; omega) (by rw [strL_size]; exact hm) hB
  rw [strL_size] at ho
  have e : xs.map u8v ++ Lib.strCells (strL ys) = (xs ++ ys).map u8v := by
    rw [List.map_append]
    congr 1
  rw [e] at ho
  obtain ⟨A'', c'', rfl, ho'⟩ := own_form ho
  exact ⟨A'', c'', w', hr, ho', hg⟩

theorem wp_append_str {w : World} {o : Oper} {a : Act} {K : Act → World → Prop} {Q : Exit → Act → World → Prop} {B : Nat} {A : Option Addr} {n c : Nat} {xs ys : List UInt8} {s x : Operand}
    (ho : o.op = .call { callee := .builtin .append, args := #[s, x], argTypes := #[26, 9] }) (hs : a.eval s = .slice A n c) (hx : a.eval x = .string (strL ys))
    (h : Own B w A n c xs) (hm : n + ys.length ≤ 140737488355328) (hB : B ≤ w.heap.size)
    (hK : ∀ A'' c'' w', Own B w' A'' (n + ys.length) c'' (xs ++ ys) → w.grownBy w' (Value.ownBlock (.slice A n c)) → Below B w w' → K (a.put o.dst (.slice A'' (n + ys.length) c'')) w') : o.wp Try.prog a w K Q := by
  obtain ⟨A'', c'', w', hrun, h2, h3⟩ := append_str o.type h hm hB
  unfold Oper.wp execOp
  simp only [ho, resolve, invoke, builtin, Sem.run_bind, Sem.run_pure, Result.andThen_ok, List.map_toArray, List.map_cons, List.map_nil, hs, hx, hrun]
  exact hK A'' c'' w' h2 h3 ((Below.refl B w).grown h3 hB h.ge)

theorem wpList_append_str {w : World} {ops : Array Oper} {rest : List Oper} {o : Oper} {a : Act} {Q : Exit → Act → World → Prop} (hgd : o.guard = none) {B : Nat} {A : Option Addr} {n c : Nat} {xs ys : List UInt8} {s x : Operand}
    (ho : o.op = .call { callee := .builtin .append, args := #[s, x], argTypes := #[26, 9] }) (hs : a.eval s = .slice A n c) (hx : a.eval x = .string (strL ys))
    (h : Own B w A n c xs) (hm : n + ys.length ≤ 140737488355328) (hB : B ≤ w.heap.size)
    (hK : ∀ A'' c'' w', Own B w' A'' (n + ys.length) c'' (xs ++ ys) → w.grownBy w' (Value.ownBlock (.slice A n c)) → Below B w w' → wpList Try.prog ops Q rest (a.put o.dst (.slice A'' (n + ys.length) c'')) w') : wpList Try.prog ops Q (o :: rest) a w :=
  wpList_plain hgd fun _ hK' => wp_append_str ho hs hx h hm hB fun A'' c'' w' h2 h3 h4 => hK' _ _ (hK A'' c'' w' h2 h3 h4)

/-- One byte in a block of its own. -/
theorem Bs.one (w : World) (t : TypeId) (fr : Nat × Nat) (x : UInt8) : Bs (w.alloc (.cells #[.int .u8 (x.toNat : Int)] t fr)) (some ⟨w.heap.size, 0, none⟩) 1 1 [x] :=
  Bs.of_list rfl (heap_alloc_new _ _) ⟨rfl, by omega⟩
end Go.Proofs.Ytojgmgghlkpfoaa
end

section
/-
  []byte(s), and one byte appended to it.
-/
namespace Go.Proofs.Ytojgmgghlkpfoaa
open Go.ChangeShapes Go.WideShapes Go.ChangeAt Go.RowKit Go.Deep
set_option maxRecDepth 100000

/-- Block g holds the bytes of a string, and room; nothing of it is frozen. -/
def Cv (w : World) (g n c : Nat) (xs : List UInt8) : Prop :=
  xs.length = n ∧ n ≤ c ∧ c ≤ maxLen ∧ ∃ cur : Array Value, w.heap[g]? = some (.cells cur 5 (c, c + 1)) ∧ cur.size = c ∧ ∀ j, j < n → cur[j]? = some (.int .u8 (bt xs j : Int))
theorem Cv.ext {w w' : World} {g n c : Nat} {xs : List UInt8} (h : Cv w g n c xs) (e : Ext w w') : Cv w' g n c xs := by
  obtain ⟨h1, h2, h3, cur, h4, h5⟩ := h
  exact ⟨h1, h2, h3, cur, (e.block g (heap_lt h4)).trans h4, h5⟩
theorem Cv.bs {w : World} {g n c : Nat} {xs : List UInt8} (h : Cv w g n c xs) : Bs w (some ⟨g, 0, none⟩) n c xs := by
  obtain ⟨h1, h2, h3, cur, h4, h5, h6⟩ := h
  refine ⟨h1, h2, h3, fun _ => ⟨g, 0, rfl, heap_lt h4, fun j hj => ?_⟩⟩
  rw [Nat.zero_add, cell_of_row w g j _ _ _ h4, h6 j hj]
/-- []byte(s), in every world. -/
theorem conv_str (xs : List UInt8) (hx : xs.length ≤ 1000000) : ∃ (cp : World → Nat) (cw : World → World),
    (∀ w, (convert 9 26 (.string (strL xs))).run Try.prog w = .ok (.slice (some ⟨w.heap.size, 0, none⟩) xs.length (cp w)) (cw w)) ∧
    ∀ w, Ext w (cw w) ∧ Cv (cw w) w.heap.size xs.length (cp w) xs := by
  refine ⟨fun w => grownCap w (strL xs).size 0 5, fun w => Lib.bytesWorld w 5 (strL xs), fun w => ?_, fun w => ⟨⟨rfl, rfl, rfl, by rw [Lib.bytesWorld_size]; omega, fun i hi => Lib.bytesWorld_at_old w _ _ i hi⟩, rfl, ?_, ?_, ?_⟩⟩
  · have := Lib.run_convert_string_bytes (P := Try.prog) w 9 26 5 (strL xs) Try.underlying9 Try.underlying26 Try.underlying5
    rw [this, strL_size]
  · have := grownCap_ge w (strL xs).size 0 5
    rw [strL_size] at this ⊢
    exact this
  · exact grownCap_le_maxLen w _ _ _ (by rw [strL_size]; unfold maxLen; omega)
  · have hge := grownCap_ge w (strL xs).size 0 5
    have hs : (Lib.bytesCells w 5 (strL xs)).size = grownCap w (strL xs).size 0 5 := by
      simp only [Lib.bytesCells, Array.size_append, Array.size_map, Array.size_replicate]
      have : (strL xs).data.size = (strL xs).size := rfl
      omega
    refine ⟨Lib.bytesCells w 5 (strL xs), ?_, hs, fun j hj => ?_⟩
    · have := Lib.bytesWorld_at_new w 5 (strL xs)
      rw [hs] at this
      exact this
    · have h1 := Lib.bytesWorld_cell w 5 (strL xs) j (by rw [strL_size]; exact hj)
      rw [cell_of_row _ _ _ _ _ _ (Lib.bytesWorld_at_new w 5 (strL xs))] at h1
      rw [h1]
      simp [strL, bt]
theorem append_conv {w : World} {g n c : Nat} {xs : List UInt8} {y : UInt8} {A' : Option Addr} {c' : Nat} (ty : TypeId) (h : Cv w g n c xs) (hn : n ≤ 1000000) (hr : Bs w A' 1 c' [y]) :
    ∃ A'' c'' w', (Builtin.append_ #[26, 26] ty #[.slice (some ⟨g, 0, none⟩) n c, .slice A' 1 c']).run Try.prog w = .ok (.slice A'' (n + 1) c'') w' ∧ Bs w' A'' (n + 1) c'' (xs ++ [y]) ∧ w.grownBy w' (some g) := by
  have HB := h.bs
  obtain ⟨h1, h2, h3, cur, h4, h5, h6⟩ := h
  obtain ⟨i, hi, hz0, hz1, hz2⟩ := info_parts info8
  obtain ⟨b, o, rfl, hb, hcb⟩ := hr.pos (by omega)
  have src : Src Try.prog i.size 26 (.slice (some ⟨b, o, none⟩) 1 c') 1 [u8v y] w := Src.ofSlice w (e' := 5) Try.underlying26 _ _ _ _ (by rw [hz1]; rfl) (fun j u hu => by
    match j, hu with
    | 0, hu =>
      simp at hu
      subst hu
      have := hcb 0 (by omega)
      have hadd : (⟨b, o, none⟩ : Addr).add 0 = ⟨b, o + 0, none⟩ := by unfold Addr.add; split <;> simp_all
      rw [hadd, this]
      simp [u8v, bt]) (fun u hu => by simp at hu; subst hu; rfl)
  by_cases hroom : n + 1 ≤ c
  · have hr2 := run_append_room_src (P := Try.prog) w 26 26 ty 5 i Try.underlying26 hi g 0 n c _ 1 [u8v y] src hroom (fun j hj => by
      obtain rfl : j = 0 := by simpa using hj
      rw [hz1, cell_of_row w g _ _ _ _ h4, Nat.zero_add, Nat.mul_one, Nat.add_zero]
      simp; omega) (fun j hj => by
      obtain rfl : j = 0 := by simpa using hj
      simp only [World.frozen?, h4, hz1]
      simp
      omega)
    refine ⟨_, _, _, hr2, ?_, ?_⟩
    · simp only [World.setCells, hz1, Nat.mul_one, Nat.zero_add]
      refine ⟨by simp [h1], hroom, h3, fun _ => ⟨g, 0, rfl, by simpa [World.setCell] using heap_lt h4, fun j hj => ?_⟩⟩
      rw [Nat.zero_add, setCell_eq_setRow w g n cur _ _ _ h4, cell_of_row _ g j _ _ _ (setRow_heap w g cur _ _ _ h4)]
      by_cases q : j = n
      · have hjl : j < cur.size := by omega
        have hb' : bt (xs ++ [y]) j = y.toNat := by
          unfold bt
          simp only [List.getD]
          rw [List.getElem?_append_right (by omega), show j - xs.length = 0 by omega]
          rfl
        rw [hb', ← q, Array.getElem?_setIfInBounds_self_of_lt hjl]
        rfl
      · rw [Array.getElem?_setIfInBounds_ne (Ne.symm q), h6 j (by omega)]
        congr 2
        unfold bt
        simp only [List.getD]
        rw [List.getElem?_append_left (by omega)]
    · simp only [World.setCells, hz1, Nat.mul_one, Nat.zero_add]
      exact gr_set (gr_ext (Ext.refl w) _) _ _
  · have holds : ∀ j u, (xs.map u8v)[j]? = some u → w.drew.cell? ((⟨g, 0, none⟩ : Addr).add j) = some u := fun j u hu => by
      have hj : j < n := by
        have := (List.getElem?_eq_some_iff.1 hu).1
        rw [List.length_map] at this
        omega
      have hadd : (⟨g, 0, none⟩ : Addr).add j = ⟨g, j, none⟩ := by unfold Addr.add; split <;> simp_all
      rw [hadd, cell_of_row w.drew g j _ _ _ h4, h6 j hj, ← u8v_bt (by omega), hu]
    have hr2 := run_append_grow_src (P := Try.prog) w 26 26 ty 5 i (.int .u8 0) Try.underlying26 hi hz0 (some ⟨g, 0, none⟩) n c (xs.map u8v) (run_firstCells_some w.drew i.size n ⟨g, 0, none⟩ n c (xs.map u8v) (by rw [hz1]; simp [h1]) holds) _ 1 [u8v y] src (by omega) (by omega) (growslice_fits (by omega) (by rw [hz2]; omega))
    refine ⟨_, _, _, hr2, ?_, ⟨rfl, rfl, rfl, by simp, fun k hk _ => heap_alloc_old w.drew _ hk⟩⟩
    have hge := grownCap_ge w (n + 1) c 5
    have hcm : grownCap w (n + 1) c 5 ≤ maxLen := grownCap_le_maxLen w (n + 1) c 5 (by unfold maxLen; omega)
    have ho : Own 0 (w.drew.alloc (.cells ((xs.map u8v ++ [u8v y]).toArray ++ Builtin.zeroCells (Value.int .u8 0).cells (grownCap w (n + 1) c 5 - (n + 1))) 5)) (some ⟨w.heap.size, 0, none⟩) (n + 1) (grownCap w (n + 1) c 5) (xs ++ [y]) := by
      refine ⟨by simp [h1], .inr ⟨w.heap.size, _, _, rfl, Nat.zero_le _, heap_alloc_new w.drew _, hge, hcm, ?_, ?_⟩⟩
      · have hz1 : (Value.int IntKind.u8 0).cells.size = 1 := rfl
        simp only [Array.size_append, List.size_toArray, size_zeroCells, hz1, List.length_append, List.length_map, List.length_cons, List.length_nil, h1]
        omega
      · simp only [Array.toList_append, List.map_append, List.map_cons, List.map_nil]
        exact List.take_left' (by simp [h1])
    exact ho.bs
theorem wp_append_conv {w : World} {o : Oper} {a : Act} {K : Act → World → Prop} {Q : Exit → Act → World → Prop} {g n c : Nat} {xs : List UInt8} {y : UInt8} {A' : Option Addr} {c' : Nat} {s x : Operand}
    (ho : o.op = .call { callee := .builtin .append, args := #[s, x], argTypes := #[26, 26] }) (hs : a.eval s = .slice (some ⟨g, 0, none⟩) n c) (hx : a.eval x = .slice A' 1 c')
    (h : Cv w g n c xs) (hn : n ≤ 1000000) (hr : Bs w A' 1 c' [y])
    (hK : ∀ A'' c'' w', Bs w' A'' (n + 1) c'' (xs ++ [y]) → w.grownBy w' (some g) → K (a.put o.dst (.slice A'' (n + 1) c'')) w') : o.wp Try.prog a w K Q := by
  obtain ⟨A'', c'', w', hrun, h2, h3⟩ := append_conv o.type h hn hr
  unfold Oper.wp execOp
  simp only [ho, resolve, invoke, builtin, Sem.run_bind, Sem.run_pure, Result.andThen_ok, List.map_toArray, List.map_cons, List.map_nil, hs, hx, hrun]
  exact hK A'' c'' w' h2 h3
end Go.Proofs.Ytojgmgghlkpfoaa
end
