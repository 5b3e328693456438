import Derived.Test.YtmnohmhhmaeljaaDoorPkM
import Derived.Lib.LaidTab
import Derived.Test.YtmnohmhhmaeljaaDoorBase
import Derived.Deep.Matrix
import Derived.Test.YtmnohmhhmaeljaaDoorKeyEq
import Derived.Test.YtmnohmhhmaeljaaDoorEvC
import Derived.Deep.Fields
import Derived.Test.YtmnohmhhmaeljaaDoorMid
import Derived.Great.BuildSlice
import Derived.Maps.AppendAt
import Derived.OwnWalk
import Derived.Test.YtmnohmhhmaeljaaDoorFillS
import Derived.DeepKeys2
import Derived.Deep.Slices
section
/-
  What the row's list says of blake.initial.
-/
namespace Go.Proofs.YtmnohmhhmaeljaaDoor
open Go.ChangeShapes Go.WideShapes Go.ChangeAt Go.RowKit Go.Deep

def initZ : List Int := [1779033703, 3144134277, 1013904242, 2773480762, 1359893119, 2600822924, 528734635, 1541459225]
theorem gBlake : Tryd.prog.globalNamed "palfrey/blake.initial" = some 0 := by kernel_rfl
theorem gBlakeType : (Tryd.prog.globals[0]?).map (·.type) = some 170 := by kernel_rfl
theorem gl_of_tab {W : World} (h : Lib.TabIs Tryd.prog W "palfrey/blake.initial" .u32 initZ) : ∃ tg, Gl W tg := by
  unfold Lib.TabIs World.var? at h
  rw [gBlake] at h
  simp only [Option.bind_some] at h
  cases hh : W.heap[0]? with
  | none => rw [hh] at h; cases h
  | some o =>
    rw [hh] at h
    cases o with
    | cells cs t fr =>
      simp only [Option.some.injEq] at h
      subst h
      exact ⟨(t, fr), hh⟩
    | _ => cases h
theorem gl_of_laid {W : World} {rest : List (String × DataW Unit)} (h : laidMet Tryd.prog (("palfrey/blake.initial", Lib.tabData .u32 initZ) :: rest) W) : ∃ tg, Gl W tg :=
  gl_of_tab (Lib.tabIs_of_head (rest := rest) gBlake gBlakeType Tryd.underlying170 Tryd.underlying169 (by kernel_rfl) (by kernel_rfl) h)
end Go.Proofs.YtmnohmhhmaeljaaDoor
end

section
/-
  How the arguments of the statements read: a slice of bytes, of slices of bytes, of numbers. No conditions.
-/
namespace Go.Proofs.YtmnohmhhmaeljaaDoor
open Go.ChangeShapes Go.WideShapes Go.ChangeAt Go.RowKit Go.Deep

theorem bounds_i64 {a : Int} (h : (Lit.int .i64 a).wf = true) : -9223372036854775808 ≤ a ∧ a ≤ 9223372036854775807 := by
  simpa [Lit.wf, IntKind.min, IntKind.max, IntKind.signed, IntKind.bits] using h

section
variable {H : Type} {enc : TypeId × Value → H} {W : World} {P : Program}
theorem bs_of_trod {t e : TypeId} {a : Option Addr} {len cap : Nat} {d : DataW H} {p : List MemPlace} (ht : P.underlying t = some (.slice e)) (he : P.underlying e = some (.int .u8)) (hc : P.cellsOf e = 1)
    (h : DataW.Trod enc P W 0 (fun _ => true) true t (.slice a len cap) d p) : ∃ xs, Bs W a len cap xs := by
  obtain ⟨fuel, hf⟩ := h
  rcases open_ints ht he hc hf with ⟨hcs, _⟩ | ⟨x, l, c, zs, hcs, _, hl, hm, hz, _, hcell, hwz⟩
  · simp [Value.cells] at hcs
    obtain ⟨rfl, rfl, rfl⟩ := hcs
    exact ⟨[], Bs.nil W⟩
  · simp [Value.cells] at hcs
    obtain ⟨rfl, rfl, rfl⟩ := hcs
    exact bs_of_row (.inr ⟨_, rfl, hl, hm, by simpa using hz, hcell, hwz⟩)
end
end Go.Proofs.YtmnohmhhmaeljaaDoor
end

section
/-
  How an argument that is an array of bytes reads. No conditions.
-/
namespace Go.Proofs.YtmnohmhhmaeljaaDoor
open Go.ChangeShapes Go.WideShapes Go.ChangeAt Go.RowKit Go.Deep

section
variable {H : Type} {enc : TypeId × Value → H} {W : World} {P : Program}
theorem okWide_array {r : Reach} {b n : Nat} {t e : TypeId} {v : Value} (ht : P.underlying t = some (.array n e)) (h : Value.okWide P W r b t v) : ∃ cs, v = .agg cs ∧ cs.size = P.cellsOf t := by
  simp only [Value.okWide, ht] at h
  obtain ⟨cs, h1, h2, _⟩ := h
  exact ⟨cs, h1, h2⟩
def byteV : Option Value → Nat
  | some (.int _ z) => z.toNat
  | _ => 0
theorem bytes_of_trod {n fuel : Nat} {t e : TypeId} {cs : List Value} {x : DataW H × List MemPlace} (ht : P.underlying t = some (.array n e)) (he : P.underlying e = some (.int .u8)) (hce : P.cellsOf e = 1) (hct : P.cellsOf t = n)
    (hf : DataW.trod enc P W 0 (fun _ => true) true fuel t cs = some x) : ∃ xs, cs = cellsOf xs ∧ xs.length = n := by
  cases fuel with
  | zero => simp [DataW.trod] at hf
  | succ fuel =>
    simp only [DataW.trod, ht, hce, hct, Nat.mul_one] at hf
    split at hf
    · rename_i hl
      obtain ⟨xs, hm, hx⟩ := Option.map_eq_some_iff.1 hf
      have hcell : ∀ i, i < n → ∃ z : Int, cs[i]? = some (.int .u8 z) ∧ 0 ≤ z ∧ z ≤ 255 := fun i hi => by
        obtain ⟨y, hy, hfy⟩ := Lib.mapM_at hm i i (by simp [hi])
        obtain ⟨z, hc, rfl, hw⟩ := DataW.trod_int he hfy
        have h1 : cs[i]? = some (.int .u8 z) := by
          have := congrArg (·[0]?) hc
          simpa [List.getElem?_take, List.getElem?_drop] using this
        have hb : 0 ≤ z ∧ z ≤ 255 := by simpa [Lit.wf, IntKind.min, IntKind.max, IntKind.signed, IntKind.bits] using hw
        exact ⟨z, h1, hb⟩
      refine ⟨(List.range n).map fun i => UInt8.ofNat (byteV cs[i]?), ?_, by simp⟩
      apply List.ext_getElem?
      intro i
      by_cases hi : i < n
      · obtain ⟨z, h1, h2, h3⟩ := hcell i hi
        have h4 := cellsOf_get (xs := (List.range n).map fun i => UInt8.ofNat (byteV cs[i]?)) (j := i) (by simp; exact hi)
        rw [h1]
        refine Eq.trans ?_ h4.symm
        congr 2
        unfold bt
        simp [List.getD, hi, h1, byteV]
        omega
      · rw [List.getElem?_eq_none (by omega), List.getElem?_eq_none (by simp [cellsOf_len]; omega)]
    · cases hf
theorem key_of_trod {r : Reach} {b n : Nat} {t e : TypeId} {v : Value} {d : DataW H} {p : List MemPlace} (ht : P.underlying t = some (.array n e)) (he : P.underlying e = some (.int .u8)) (hce : P.cellsOf e = 1) (hct : P.cellsOf t = n)
    (hv : Value.okWide P W r b t v) (h : DataW.Trod enc P W 0 (fun _ => true) true t v d p) : ∃ xs, v = .agg (cellsOf xs).toArray ∧ xs.length = n := by
  obtain ⟨cs, rfl, hsz⟩ := okWide_array ht hv
  obtain ⟨fuel, hf⟩ := h
  obtain ⟨xs, hx, hl⟩ := bytes_of_trod ht he hce hct hf
  refine ⟨xs, ?_, hl⟩
  congr 1
  apply Array.ext'
  rw [← hx]; rfl
end
end Go.Proofs.YtmnohmhhmaeljaaDoor
end

section
/-
  How a head, and an envelope, read as arguments. No conditions.
-/
namespace Go.Proofs.YtmnohmhhmaeljaaDoor
open Go.ChangeShapes Go.WideShapes Go.ChangeAt Go.RowKit Go.Deep
set_option maxRecDepth 100000

section
variable {H : Type} {enc : TypeId × Value → H} {W : World}
theorem bs_of_cells {P : Program} {fuel : Nat} {t e : TypeId} {cs : List Value} {x : DataW H × List MemPlace} (ht : P.underlying t = some (.slice e)) (he : P.underlying e = some (.int .u8)) (hc : P.cellsOf e = 1)
    (hf : DataW.trod enc P W 0 (fun _ => true) true fuel t cs = some x) : ∃ a len cap xs, cs = [.slice a len cap] ∧ Bs W a len cap xs := by
  rcases open_ints ht he hc hf with ⟨hcs, _⟩ | ⟨x, l, c, zs, hcs, _, hl, hm, hz, _, hcell, hwz⟩
  · exact ⟨_, _, _, [], hcs, Bs.nil W⟩
  · obtain ⟨xs, h⟩ := bs_of_row (.inr ⟨_, rfl, hl, hm, by simpa using hz, hcell, hwz⟩)
    exact ⟨_, _, _, xs, hcs, h⟩
theorem cut_at {α : Type} (l : List α) (a b : Nat) : l.drop a = (l.drop a).take b ++ l.drop (a + b) := by
  rw [← List.drop_drop, List.take_append_drop]
theorem head_of_cells {n : Nat} {cs : List Value} {x : DataW H × List MemPlace} (hf : DataW.trod enc Tryd.prog W 0 (fun _ => true) true n 53 cs = some x) : ∃ pk p k, cs = hdC pk p k ∧ pk.length = 32 := by
  have hC : Tryd.prog.cellsOf 53 = 34 := by kernel_rfl
  obtain ⟨xs, n, _, hx, hl, hlen, hg⟩ := DataW.trod_struct Tryd.underlying53 hf
  rw [hC] at hl
  have c0 : Tryd.prog.cellsOf 24 = 32 := by kernel_rfl
  have ce : Tryd.prog.cellsOf 5 = 1 := by kernel_rfl
  have ci : Tryd.prog.cellsOf 3 = 1 := by kernel_rfl
  have g0 : DataW.trod enc Tryd.prog W 0 (fun _ => true) true n 24 ((cs.drop 0).take 32) = xs[0]? := by rw [← c0]; exact hg 0 _ rfl
  have g1 : DataW.trod enc Tryd.prog W 0 (fun _ => true) true n 3 ((cs.drop 32).take 1) = xs[1]? := by rw [← ci]; exact hg 1 _ rfl
  have g2 : DataW.trod enc Tryd.prog W 0 (fun _ => true) true n 3 ((cs.drop 33).take 1) = xs[2]? := by rw [← ci]; exact hg 2 _ rfl
  have hxl : xs.length = 3 := hlen
  rw [List.getElem?_eq_getElem (by omega)] at g0 g1 g2
  obtain ⟨ks, hk, lk⟩ := bytes_of_trod Tryd.underlying24 Tryd.underlying5 ce c0 g0
  obtain ⟨p, hp, _, _⟩ := DataW.trod_int Tryd.underlying3 g1
  obtain ⟨k, hk2, _, _⟩ := DataW.trod_int Tryd.underlying3 g2
  refine ⟨ks, p, k, ?_, lk⟩
  have e := (cut_at cs 0 32).trans (congrArg ((cs.drop 0).take 32 ++ ·) ((cut_at cs 32 1).trans (congrArg ((cs.drop 32).take 1 ++ ·) (cut_at cs 33 1))))
  have z : cs.drop 34 = [] := List.drop_eq_nil_of_le (by omega)
  simp only [hk, hp, hk2, Nat.reduceAdd, z, List.append_nil] at e
  exact e
theorem head_of_trod {r : Reach} {b : Nat} {v : Value} {d : DataW H} {p : List MemPlace} (hv : Value.okWide Tryd.prog W r b 53 v) (h : DataW.Trod enc Tryd.prog W 0 (fun _ => true) true 53 v d p) :
    ∃ pk q k, v = .agg (hdC pk q k).toArray ∧ pk.length = 32 := by
  obtain ⟨cs, rfl, hsz⟩ := okWide_struct Tryd.underlying53 hv
  obtain ⟨fuel, hf⟩ := h
  obtain ⟨pk, q, k, e, l⟩ := head_of_cells hf
  refine ⟨pk, q, k, ?_, l⟩
  congr 1
  apply Array.ext'
  exact e
theorem env_of_trod {r : Reach} {b : Nat} {v : Value} {d : DataW H} {p : List MemPlace} (hv : Value.okWide Tryd.prog W r b 55 v) (h : DataW.Trod enc Tryd.prog W 0 (fun _ => true) true 55 v d p) :
    ∃ f t cm pk q k A m c body, v = .agg (evC f t cm pk q k A m c).toArray ∧ cm.length = 32 ∧ pk.length = 32 ∧ Bs W A m c body := by
  obtain ⟨cs, rfl, hsz⟩ := okWide_struct Tryd.underlying55 hv
  have hC : Tryd.prog.cellsOf 55 = 69 := by kernel_rfl
  obtain ⟨fuel, hf⟩ := h
  obtain ⟨xs, n, _, hx, _, hlen, hg⟩ := DataW.trod_struct Tryd.underlying55 hf
  have c0 : Tryd.prog.cellsOf 24 = 32 := by kernel_rfl
  have ch : Tryd.prog.cellsOf 53 = 34 := by kernel_rfl
  have ce : Tryd.prog.cellsOf 5 = 1 := by kernel_rfl
  have ci : Tryd.prog.cellsOf 3 = 1 := by kernel_rfl
  have cl : Tryd.prog.cellsOf 22 = 1 := by kernel_rfl
  have hl : cs.toList.length = 69 := by rw [Array.length_toList, hsz, hC]
  have g0 : DataW.trod enc Tryd.prog W 0 (fun _ => true) true n 3 ((cs.toList.drop 0).take 1) = xs[0]? := by rw [← ci]; exact hg 0 _ rfl
  have g1 : DataW.trod enc Tryd.prog W 0 (fun _ => true) true n 3 ((cs.toList.drop 1).take 1) = xs[1]? := by rw [← ci]; exact hg 1 _ rfl
  have g2 : DataW.trod enc Tryd.prog W 0 (fun _ => true) true n 24 ((cs.toList.drop 2).take 32) = xs[2]? := by rw [← c0]; exact hg 2 _ rfl
  have g3 : DataW.trod enc Tryd.prog W 0 (fun _ => true) true n 53 ((cs.toList.drop 34).take 34) = xs[3]? := by rw [← ch]; exact hg 3 _ rfl
  have g4 : DataW.trod enc Tryd.prog W 0 (fun _ => true) true n 22 ((cs.toList.drop 68).take 1) = xs[4]? := by rw [← cl]; exact hg 4 _ rfl
  have hxl : xs.length = 5 := hlen
  rw [List.getElem?_eq_getElem (by omega)] at g0 g1 g2 g3 g4
  obtain ⟨f, h0, _, _⟩ := DataW.trod_int Tryd.underlying3 g0
  obtain ⟨t, h1, _, _⟩ := DataW.trod_int Tryd.underlying3 g1
  obtain ⟨cm, h2, lc⟩ := bytes_of_trod Tryd.underlying24 Tryd.underlying5 ce c0 g2
  obtain ⟨pk, q, k, h3, lk⟩ := head_of_cells g3
  obtain ⟨A, m, c, body, h4, hb⟩ := bs_of_cells Tryd.underlying22 Tryd.underlying5 ce g4
  refine ⟨f, t, cm, pk, q, k, A, m, c, body, ?_, lc, lk, hb⟩
  congr 1
  apply Array.ext'
  have e := (cut_at cs.toList 0 1).trans (congrArg ((cs.toList.drop 0).take 1 ++ ·) ((cut_at cs.toList 1 1).trans (congrArg ((cs.toList.drop 1).take 1 ++ ·) ((cut_at cs.toList 2 32).trans (congrArg ((cs.toList.drop 2).take 32 ++ ·) ((cut_at cs.toList 34 34).trans (congrArg ((cs.toList.drop 34).take 34 ++ ·) (cut_at cs.toList 68 1))))))))
  have z : cs.toList.drop 69 = [] := List.drop_eq_nil_of_le (by omega)
  simp only [h0, h1, h2, h3, h4, Nat.reduceAdd, z, List.append_nil] at e
  exact e
end
end Go.Proofs.YtmnohmhhmaeljaaDoor
end

section
/-
  A row of the call's own that is appended to, whose elements have several cells. No conditions.
-/
namespace Go.Proofs.YtmnohmhhmaeljaaDoor
open Go.ChangeShapes Go.WideShapes Go.ChangeAt Go.RowKit Go.Deep

/-- The slice owns a row from block B on, whose elements have the cells of L, s each. -/
def OwnC (B : Nat) (w : World) (e : TypeId) (s : Nat) (A : Option Addr) (n c : Nat) (L : List (List Value)) : Prop := w.ownsRow B e s (.slice A n c) n L.flatten ∧ (∀ x ∈ L, x.length = s) ∧ L.length = n
section
variable {B : Nat} {w w' : World} {e : TypeId} {s : Nat} {A : Option Addr} {n c : Nat} {L : List (List Value)}
theorem OwnC.nil (B : Nat) (w : World) (e : TypeId) (s : Nat) : OwnC B w e s none 0 0 [] := ⟨World.ownsRow_nil w B _ s, fun x hx => by simp at hx, rfl⟩
theorem OwnC.ge (h : OwnC B w e s A n c L) : ∀ g, Value.ownBlock (.slice A n c) = some g → B ≤ g := fun g hg => (World.ownsRow.lt h.1 g hg).1
theorem OwnC.ext (h : OwnC B w e s A n c L) (x : Ext w w') : OwnC B w' e s A n c L := by
  refine ⟨⟨h.1.1, ?_⟩, h.2⟩
  rcases h.1.2 with h | ⟨g, cap, cur, hv, hb, hg, r⟩
  · exact .inl h
  · exact .inr ⟨g, cap, cur, hv, hb, (x.block g (heap_lt hg)).trans hg, r⟩
theorem OwnC.kept {row : Option Nat} (h : OwnC B w e s A n c L) (hg : w.grownBy w' row) (hne : Value.ownBlock (.slice A n c) = none ∨ Value.ownBlock (.slice A n c) ≠ row) : OwnC B w' e s A n c L := by
  refine ⟨⟨h.1.1, ?_⟩, h.2⟩
  rcases h.1.2 with h | ⟨g, cap, cur, hv, hb, hgg, r⟩
  · exact .inl h
  · refine .inr ⟨g, cap, cur, hv, hb, (hg.block g (heap_lt hgg) ?_).trans hgg, r⟩
    intro q
    rw [hv] at hne
    rcases hne with q1 | q1
    · simp [Value.ownBlock] at q1
    · exact q1 (by simp [Value.ownBlock, q])
theorem OwnC.cap (h : OwnC B w e s A n c L) : n ≤ c ∧ c ≤ maxLen := by
  rcases h.1.2 with ⟨hv, hn⟩ | ⟨g, cap, cur, hv, hb, hg, hnc, hcm, _⟩
  · injection hv with _ _ q
    omega
  · injection hv with _ _ q
    subst q
    exact ⟨hnc, hcm⟩
theorem OwnC.cells (h : OwnC B w e s A n c L) : 0 < n → ∃ b, A = some ⟨b, 0, none⟩ ∧ b < w.heap.size ∧ B ≤ b ∧ ∀ q v, L.flatten[q]? = some v → w.cell? ⟨b, q, none⟩ = some v := fun h0 => by
  rcases h.1.2 with ⟨hv, hn⟩ | ⟨g, cap, cur, hv, hb, hg, hnc, hcm, hcs, htk⟩
  · omega
  · injection hv with h1 h2 h3
    subst h1
    refine ⟨g, rfl, heap_lt hg, hb, fun q v hq => ?_⟩
    rw [← htk, List.getElem?_take] at hq
    split at hq
    · rw [cell_of_row w g _ _ _ _ hg]
      simpa using hq
    · cases hq
end
theorem flat_at {α : Type} {s : Nat} : ∀ {L : List (List α)}, (∀ x ∈ L, x.length = s) → ∀ {j i : Nat}, j < L.length → i < s → L.flatten[j * s + i]? = (L.getD j [])[i]?
  | [], _, j, _, h, _ => absurd h (by simp)
  | x :: L, hl, 0, i, _, hi => by
    have hx := hl x (List.mem_cons_self ..)
    rw [List.flatten_cons, List.getElem?_append_left (by omega)]
    simp
  | x :: L, hl, j + 1, i, hj, hi => by
    have hx := hl x (List.mem_cons_self ..)
    rw [List.flatten_cons, List.getElem?_append_right (by rw [hx, Nat.add_mul]; omega), hx, show (j + 1) * s + i - s = j * s + i by rw [Nat.add_mul]; omega, flat_at (fun y hy => hl y (List.mem_cons_of_mem _ hy)) (by simpa using hj) hi]
    simp
theorem wpList_append_c {P : Program} {w : World} {ops : Array Oper} {rest : List Oper} {o : Oper} {a : Act} {Q : Exit → Act → World → Prop} (hgd : o.guard = none) {B : Nat} {t e te : TypeId} {s bytes : Nat} {z : Value} (ht : P.underlying t = some (.slice e)) (hinfo : (P.info? e).map (fun i => (i.zero, i.size, i.bytes)) = some (some z, s, bytes)) (hzs : z.cells.size = s) (s0 : 0 < s) (hbytes : bytes ≤ 1000000)
    {A : Option Addr} {n c g : Nat} {L : List (List Value)} {cs : List Value} {fr : Nat × Nat} {x y : Operand}
    (ho : o.op = .call { callee := .builtin .append, args := #[x, y], argTypes := #[t, t] }) (hx : a.eval x = .slice A n c) (hy : a.eval y = .slice (some ⟨g, 0, none⟩) 1 1)
    (h : OwnC B w e s A n c L) (hg : w.heap[g]? = some (.cells cs.toArray te fr)) (hk : cs.length = s) (h1 : ∀ u ∈ cs, u.oneCell' = true) (hm : n ≤ 1000) (hB : B ≤ w.heap.size)
    (hK : ∀ A'' c'' w', OwnC B w' e s A'' (n + 1) c'' (L ++ [cs]) → w.grownBy w' (Value.ownBlock (.slice A n c)) → Below B w w' → wpList P ops Q rest (a.put o.dst (.slice A'' (n + 1) c'')) w') : wpList P ops Q (o :: rest) a w := by
  refine wpList_plain hgd fun K hK' => ?_
  obtain ⟨i, hi, hz0, hz1, hz2⟩ := info_parts hinfo
  obtain ⟨v', w', hr, hown, hgr, _, _⟩ := run_append_own_at (P := P) w B t o.type e i z s bytes ht hi hz0 hz1 hz2 hzs s0 (.slice A n c) n L.flatten h.1 ⟨g, 0, none⟩ 1 1 cs (by rw [hk, Nat.one_mul]) (fun j u hu => by
    have hadd : (⟨g, 0, none⟩ : Addr).add j = ⟨g, j, none⟩ := by unfold Addr.add; split <;> simp_all
    rw [hadd, cell_of_row w g j _ _ _ hg]
    simpa using hu) h1 (by unfold maxLen; omega) (by
      have : (n + 1) * bytes ≤ 1001 * 1000000 := Nat.mul_le_mul (by omega) hbytes
      omega) hB
  have ee : L.flatten ++ cs = (L ++ [cs]).flatten := by simp
  rw [ee] at hown
  have hl1 : ∀ x ∈ L ++ [cs], x.length = s := fun x hx => by
    rcases List.mem_append.1 hx with q | q
    · exact h.2.1 x q
    · simp at q; subst q; exact hk
  have hl2 : (L ++ [cs]).length = n + 1 := by rw [List.length_append, h.2.2]; rfl
  have hform : ∃ A'' c'', v' = .slice A'' (n + 1) c'' := by
    rcases hown.2 with ⟨hv, hn⟩ | ⟨g', cap, cur, hv, _⟩
    · omega
    · exact ⟨_, _, hv⟩
  obtain ⟨A'', c'', rfl⟩ := hform
  unfold Oper.wp execOp
  simp only [ho, resolve, invoke, builtin, Sem.run_bind, Sem.run_pure, Result.andThen_ok, List.map_toArray, List.map_cons, List.map_nil, hx, hy, hr]
  exact hK' _ _ (hK A'' c'' w' ⟨hown, hl1, hl2⟩ hgr ((Below.refl B w).grown hgr hB h.ge))
/-- A slice of one element. -/
theorem wpList_slice_c {P : Program} {w : World} {ops : Array Oper} {rest : List Oper} {o : Oper} {a : Act} {Q : Exit → Act → World → Prop} (hgd : o.guard = none) {t e : TypeId} {s bytes : Nat} {z : Value} (ht : P.underlying t = some (.slice e)) (hinfo : (P.info? e).map (fun i => (i.zero, i.size, i.bytes)) = some (some z, s, bytes)) (hzs : z.cells.size = s) (s0 : 0 < s) (s1 : s ≤ 1000000)
    {cs : List Value} {x : Operand} {g : Nat} (hk : cs.length = s) (hg : w.heap.size = g)
    (ho : o.op = .buildSlice t 1 #[(0, x)]) (hx : (a.eval x).cells = cs.toArray)
    (h : wpList P ops Q rest (a.put o.dst (.slice (some ⟨g, 0, none⟩) 1 1)) (w.alloc (.cells cs.toArray e))) : wpList P ops Q (o :: rest) a w := by
  subst hg
  obtain ⟨i, hi, hz0, hz1, hz2⟩ := info_parts hinfo
  refine wpList_buildSlice hgd t e 1 _ ho cs.toArray i _ ht hi hz0 (by rw [hz1]; omega) (by rw [hz1]; omega) ?_ h
  rw [hz1]
  simp only [List.map_toArray, List.map_cons, List.map_nil]
  have := Great.fill_whole (s := s) s0 [a.eval x] ((Array.range (1 * s)).map (z.cells[· % z.cells.size]!)) (fun v hv => by
    simp only [List.mem_singleton] at hv
    subst hv
    rw [hx]
    simpa using hk) (by simp)
  simp only [List.zipIdx_cons, List.zipIdx_nil, List.map_cons, List.map_nil, List.flatMap_cons, List.flatMap_nil, List.append_nil, hx] at this
  exact this
end Go.Proofs.YtmnohmhhmaeljaaDoor
end

section
/-
  Slices whose elements have several cells: read. No conditions.
-/
namespace Go.Proofs.YtmnohmhhmaeljaaDoor
open Go.ChangeShapes Go.WideShapes Go.ChangeAt Go.RowKit Go.Deep
set_option maxRecDepth 100000

/-- The slice reads as elements with the cells of K, s each. -/
def Cs (w : World) (s : Nat) (A : Option Addr) (n c : Nat) (K : List (List Value)) : Prop :=
  (K.length = n ∧ (∀ x ∈ K, x.length = s)) ∧ (n ≤ c ∧ c ≤ maxLen) ∧ (0 < n → ∃ b off, A = some ⟨b, off, none⟩ ∧ b < w.heap.size ∧ ∀ q v, K.flatten[q]? = some v → w.cell? ⟨b, off + q, none⟩ = some v)
section
variable {w w' : World} {s : Nat} {A : Option Addr} {n c : Nat} {K : List (List Value)}
theorem Cs.ext (h : Cs w s A n c K) (e : Ext w w') : Cs w' s A n c K := ⟨h.1, h.2.1, fun h0 => by
  obtain ⟨b, off, hA, hb, hc⟩ := h.2.2 h0
  exact ⟨b, off, hA, Nat.lt_of_lt_of_le hb e.size, fun q v hq => (e.cell hb).trans (hc q v hq)⟩⟩
theorem flatten_len {α : Type} {s : Nat} : ∀ {L : List (List α)}, (∀ x ∈ L, x.length = s) → L.flatten.length = L.length * s
  | [], _ => by simp
  | x :: L, h => by
    rw [List.flatten_cons, List.length_append, h x (List.mem_cons_self ..), flatten_len fun y hy => h y (List.mem_cons_of_mem _ hy), List.length_cons, Nat.add_mul]
    omega
theorem OwnC.cs {B : Nat} {e : TypeId} (h : OwnC B w e s A n c K) : Cs w s A n c K := by
  refine ⟨⟨h.2.2, h.2.1⟩, h.cap, fun h0 => ?_⟩
  obtain ⟨b, hA, hb, _, hc⟩ := h.cells h0
  exact ⟨b, 0, hA, hb, fun q v hq => by rw [Nat.zero_add]; exact hc q v hq⟩
/-- Cell i of element j. -/
theorem Cs.at (h : Cs w s A n c K) {j : Nat} (hj : j < n) : ∃ b off, A = some ⟨b, off, none⟩ ∧ b < w.heap.size ∧ ∀ i v, (K.getD j [])[i]? = some v → w.cell? ⟨b, off + j * s + i, none⟩ = some v := by
  obtain ⟨b, off, hA, hb, hc⟩ := h.2.2 (by omega)
  refine ⟨b, off, hA, hb, fun i v hi => ?_⟩
  have hl : (K.getD j []).length = s := by
    have q : j < K.length := by rw [h.1.1]; exact hj
    rw [List.getD_eq_getElem?_getD, List.getElem?_eq_getElem q]
    exact h.1.2 _ (List.getElem_mem q)
  have his : i < s := by rw [← hl]; exact (List.getElem?_eq_some_iff.1 hi).1
  rw [Nat.add_assoc]
  exact hc _ _ ((flat_at h.1.2 (by rw [h.1.1]; exact hj) his).trans hi)
theorem Cs.take (h : Cs w s A n c K) {k : Nat} (hk : k ≤ n) : Cs w s A k c (K.take k) := by
  have h2 := h.2.1
  refine ⟨⟨by rw [List.length_take, h.1.1]; omega, fun x hx => h.1.2 x (List.mem_of_mem_take hx)⟩, ⟨by omega, h2.2⟩, fun h0 => ?_⟩
  obtain ⟨b, off, hA, hb, hc⟩ := h.2.2 (by omega)
  refine ⟨b, off, hA, hb, fun q v hq => hc q v ?_⟩
  have e : K.flatten = (K.take k).flatten ++ (K.drop k).flatten := by rw [← List.flatten_append, List.take_append_drop]
  rw [e, List.getElem?_append_left (List.getElem?_eq_some_iff.1 hq).1]
  exact hq
end
end Go.Proofs.YtmnohmhhmaeljaaDoor
end

section
/-
  How arguments read that are made of numbers, bools and slices of bytes, at whatever depth of structs and arrays; slices of such. No conditions.
-/
namespace Go.Proofs.YtmnohmhhmaeljaaDoor
open Go.ChangeShapes Go.WideShapes Go.ChangeAt Go.RowKit Go.Deep
set_option maxRecDepth 100000

/-- What a cell may be. -/
inductive Lf where
  | i (k : IntKind)
  | b
  | s8
  deriving DecidableEq
def Fit1 (W : World) : Lf → Value → Prop
  | .i k, v => ∃ n, v = .int k n ∧ (Lit.int k n).wf = true
  | .b, v => ∃ x, v = .bool x
  | .s8, v => ∃ A n c xs, v = .slice A n c ∧ Bs W A n c xs
def FitL (W : World) : List Lf → List Value → Prop
  | [], [] => True
  | l :: ls, v :: vs => Fit1 W l v ∧ FitL W ls vs
  | _, _ => False
section
variable {W : World}
theorem FitL.app : ∀ {a b : List Lf} {x y : List Value}, FitL W a x → FitL W b y → FitL W (a ++ b) (x ++ y)
  | [], _, [], _, _, h => h
  | [], _, _ :: _, _, h, _ => h.elim
  | _ :: _, _, [], _, h, _ => h.elim
  | l :: a, _, v :: x, _, h, k => ⟨h.1, FitL.app h.2 k⟩
theorem FitL.flat : ∀ {A : List (List Lf)} {X : List (List Value)}, A.length = X.length → (∀ (i : Nat) (a : List Lf) (x : List Value), A[i]? = some a → X[i]? = some x → FitL W a x) → FitL W A.flatten X.flatten
  | [], [], _, _ => trivial
  | [], _ :: _, h, _ => by simp at h
  | _ :: _, [], h, _ => by simp at h
  | a :: A, x :: X, h, k => by
    rw [List.flatten_cons, List.flatten_cons]
    exact (k 0 a x rfl rfl).app (FitL.flat (by simpa using h) fun i a' x' h1 h2 => k (i + 1) a' x' h1 h2)
theorem FitL.part : ∀ {a b : List Lf} {cs : List Value}, FitL W (a ++ b) cs → ∃ x y, cs = x ++ y ∧ FitL W a x ∧ FitL W b y
  | [], _, cs, h => ⟨[], cs, rfl, trivial, h⟩
  | _ :: _, _, [], h => h.elim
  | l :: a, _, v :: cs, h => by
    obtain ⟨x, y, rfl, h1, h2⟩ := FitL.part h.2
    exact ⟨v :: x, y, rfl, ⟨h.1, h1⟩, h2⟩
theorem FitL.nil {cs : List Value} (h : FitL W [] cs) : cs = [] := by
  cases cs with
  | nil => rfl
  | cons v r => exact h.elim
theorem FitL.one {l : Lf} {ls : List Lf} {cs : List Value} (h : FitL W (l :: ls) cs) : ∃ v r, cs = v :: r ∧ Fit1 W l v ∧ FitL W ls r := by
  cases cs with
  | nil => exact h.elim
  | cons v r => exact ⟨v, r, rfl, h.1, h.2⟩
theorem FitL.int {ls : List Lf} {cs : List Value} (h : FitL W (.i .i64 :: ls) cs) : ∃ n r, cs = .int .i64 n :: r ∧ (-9223372036854775808 ≤ n ∧ n ≤ 9223372036854775807) ∧ FitL W ls r := by
  obtain ⟨v, r, rfl, ⟨n, rfl, w⟩, h'⟩ := h.one
  exact ⟨n, r, rfl, bounds_i64 w, h'⟩
theorem FitL.u64 {ls : List Lf} {cs : List Value} (h : FitL W (.i .u64 :: ls) cs) : ∃ (n : Nat) (r : List Value), cs = .int .u64 (n : Int) :: r ∧ n < 18446744073709551616 ∧ FitL W ls r := by
  obtain ⟨v, r, rfl, ⟨n, rfl, w⟩, h'⟩ := h.one
  obtain ⟨z, rfl, hz⟩ := nat_u64 w
  exact ⟨z, r, rfl, hz, h'⟩
theorem FitL.u8 {ls : List Lf} {cs : List Value} (h : FitL W (.i .u8 :: ls) cs) : ∃ (n : UInt8) (r : List Value), cs = .int .u8 (n.toNat : Int) :: r ∧ FitL W ls r := by
  obtain ⟨v, r, rfl, ⟨n, rfl, w⟩, h'⟩ := h.one
  have hb : 0 ≤ n ∧ n ≤ 255 := by simpa [Lit.wf, IntKind.min, IntKind.max, IntKind.signed, IntKind.bits] using w
  exact ⟨UInt8.ofNat n.toNat, r, by congr 2; simp; omega, h'⟩
theorem FitL.bool {ls : List Lf} {cs : List Value} (h : FitL W (.b :: ls) cs) : ∃ x r, cs = .bool x :: r ∧ FitL W ls r := by
  obtain ⟨v, r, rfl, ⟨n, rfl⟩, h'⟩ := h.one
  exact ⟨n, r, rfl, h'⟩
theorem FitL.bs {ls : List Lf} {cs : List Value} (h : FitL W (.s8 :: ls) cs) : ∃ A n c xs r, cs = .slice A n c :: r ∧ Bs W A n c xs ∧ FitL W ls r := by
  obtain ⟨v, r, rfl, ⟨A, n, c, xs, rfl, q⟩, h'⟩ := h.one
  exact ⟨A, n, c, xs, r, rfl, q, h'⟩
theorem FitL.bytes : ∀ {n : Nat} {cs : List Value}, FitL W (List.replicate n (.i .u8)) cs → ∃ xs : List UInt8, cs = cellsOf xs ∧ xs.length = n
  | 0, cs, h => ⟨[], FitL.nil h, rfl⟩
  | n + 1, cs, h => by
    rw [List.replicate_succ] at h
    obtain ⟨x, r, rfl, h'⟩ := h.u8
    obtain ⟨xs, rfl, l⟩ := FitL.bytes h'
    exact ⟨x :: xs, by rw [cellsOf_map, cellsOf_map]; rfl, by rw [List.length_cons, l]⟩
theorem FitL.key {ls : List Lf} {cs : List Value} (h : FitL W (List.replicate 32 (.i .u8) ++ ls) cs) : ∃ (xs : List UInt8) (r : List Value), cs = cellsOf xs ++ r ∧ xs.length = 32 ∧ FitL W ls r := by
  obtain ⟨x, y, rfl, h1, h2⟩ := h.part
  obtain ⟨xs, rfl, l⟩ := h1.bytes
  exact ⟨xs, y, rfl, l, h2⟩
end
/-- The cells of a type, where they all are numbers, bools, slices of bytes. -/
def leafs (P : Program) : Nat → TypeId → Option (List Lf)
  | 0, _ => none
  | d + 1, t =>
    match P.underlying t with
    | some .bool => some [.b]
    | some (.int k) => some [.i k]
    | some (.slice e) => (match P.underlying e with | some (.int .u8) => if P.cellsOf e = 1 then some [.s8] else none | _ => none)
    | some (.array n e) => if P.cellsOf t = n * P.cellsOf e then (leafs P d e).map fun l => (List.replicate n l).flatten else none
    | some (.struct fs) => if P.runs 0 fs.toList = some (P.cellsOf t) then (fs.toList.mapM fun f => leafs P d f.type).map List.flatten else none
    | _ => none
theorem mapM_at' {α β : Type} {f : α → Option β} : ∀ {l : List α} {r : List β}, l.mapM f = some r → l.length = r.length ∧ ∀ (i : Nat) (a : α) (b : β), l[i]? = some a → r[i]? = some b → f a = some b
  | [], r, h => by
    obtain rfl : [] = r := by simpa using h
    exact ⟨rfl, fun i a b h => by simp at h⟩
  | x :: l, r, h => by
    rw [List.mapM_cons] at h
    obtain ⟨y, hy, h⟩ := Option.bind_eq_some_iff.1 h
    obtain ⟨ys, hys, h⟩ := Option.bind_eq_some_iff.1 h
    obtain rfl : y :: ys = r := by simpa using h
    obtain ⟨h1, h2⟩ := mapM_at' hys
    refine ⟨by simp [h1], fun i a b ha hb => ?_⟩
    cases i with
    | zero => simp at ha hb; subst ha; subst hb; exact hy
    | succ i => exact h2 i a b (by simpa using ha) (by simpa using hb)
section
variable {H : Type} {enc : TypeId × Value → H} {W : World} {P : Program}
theorem fit_of_trod : ∀ {d : Nat} {t : TypeId} {ls : List Lf}, leafs P d t = some ls → ∀ {fuel : Nat} {cs : List Value} {x : DataW H × List MemPlace}, DataW.trod enc P W 0 (fun _ => true) true fuel t cs = some x → FitL W ls cs
  | 0, _, _, h, _, _, _, _ => by cases h
  | d + 1, t, ls, h, fuel, cs, x, hf => by
    unfold leafs at h
    split at h
    · rename_i hu
      obtain rfl := Option.some.inj h
      obtain ⟨b, rfl, _⟩ := DataW.trod_bool hu hf
      exact ⟨⟨b, rfl⟩, trivial⟩
    · rename_i k hu
      obtain rfl := Option.some.inj h
      obtain ⟨n, rfl, _, w⟩ := DataW.trod_int hu hf
      exact ⟨⟨n, rfl, w⟩, trivial⟩
    · rename_i e hu
      split at h
      · rename_i hue
        split at h
        · rename_i he
          obtain rfl := Option.some.inj h
          rcases open_ints hu hue he hf with ⟨hcs, _⟩ | ⟨a, l, c, zs, hcs, _, hl, hm, hz, _, hcell, hwz⟩
          · subst hcs
            exact ⟨⟨_, _, _, [], rfl, Bs.nil W⟩, trivial⟩
          · subst hcs
            obtain ⟨xs, q⟩ := bs_of_row (.inr ⟨_, rfl, hl, hm, by simpa using hz, hcell, hwz⟩)
            exact ⟨⟨_, _, _, xs, rfl, q⟩, trivial⟩
        · cases h
      · cases h
    · rename_i n e hu
      split at h
      · rename_i hc
        obtain ⟨l, hl, rfl⟩ := Option.map_eq_some_iff.1 h
        obtain ⟨xs, m, _, _, hlen, hxl, hg⟩ := DataW.trod_array hu hf
        rw [← chunks_flatten (P.cellsOf e) n cs (by rw [hlen, hc])]
        refine FitL.flat (by simp) fun i a y ha hy => ?_
        have hi : i < n := by
          have := (List.getElem?_eq_some_iff.1 ha).1
          simpa using this
        obtain rfl : l = a := by rw [List.getElem?_replicate, if_pos hi] at ha; exact Option.some.inj ha
        obtain rfl : (cs.drop (i * P.cellsOf e)).take (P.cellsOf e) = y := by
          rw [List.getElem?_map, List.getElem?_range hi] at hy
          exact Option.some.inj hy
        have := hg i hi
        rw [List.getElem?_eq_getElem (by omega)] at this
        exact fit_of_trod hl this
      · cases h
    · rename_i fs hu
      split at h
      · rename_i hr
        obtain ⟨ll, hl, rfl⟩ := Option.map_eq_some_iff.1 h
        obtain ⟨xs, m, _, _, hlen, hxl, hg⟩ := DataW.trod_struct hu hf
        have e := fields_flatten cs fs.toList 0 _ hr hlen
        rw [List.drop_zero] at e
        rw [← e]
        obtain ⟨h1, h2⟩ := mapM_at' hl
        refine FitL.flat (by rw [List.length_map]; exact h1.symm) fun i a y ha hy => ?_
        obtain ⟨f, hfi, rfl⟩ : ∃ f, fs.toList[i]? = some f ∧ (cs.drop f.offset).take (P.cellsOf f.type) = y := by
          rw [List.getElem?_map] at hy
          exact Option.map_eq_some_iff.1 hy
        have := hg i f (by rwa [Array.getElem?_toList] at hfi)
        have hi : i < xs.length := by
          have := (List.getElem?_eq_some_iff.1 hfi).1
          rw [hxl]; simpa using this
        rw [List.getElem?_eq_getElem hi] at this
        exact fit_of_trod (h2 i f a hfi ha) this
      · cases h
    · cases h
theorem leaf_of_trod {t : TypeId} {v : Value} {r : Reach} {b : Nat} {dt : DataW H} {p : List MemPlace} (d : Nat) {ls : List Lf} (hl : leafs P d t = some ls) (hw : (match P.underlying t with | some (.struct _) | some (.array _ _) => true | _ => false) = true)
    (hv : Value.okWide P W r b t v) (h : DataW.Trod enc P W 0 (fun _ => true) true t v dt p) : ∃ cs, v = .agg cs.toArray ∧ FitL W ls cs := by
  obtain ⟨fuel, hf⟩ := h
  obtain ⟨cs, rfl⟩ : ∃ cs : Array Value, v = .agg cs := by
    split at hw
    · rename_i fs hu
      obtain ⟨cs, q, _⟩ := okWide_struct hu hv
      exact ⟨cs, q⟩
    · rename_i n e hu
      simp only [Value.okWide, hu] at hv
      obtain ⟨cs, q, _⟩ := hv
      exact ⟨cs, q⟩
    · cases hw
  exact ⟨cs.toList, by rw [Array.toArray_toList], fit_of_trod hl hf⟩
theorem leafs_of_trod {t e : TypeId} {a : Option Addr} {len cap : Nat} {dt : DataW H} {p : List MemPlace} (ht : P.underlying t = some (.slice e)) (d : Nat) {ls : List Lf} (hl : leafs P d e = some ls) {s : Nat} (hs : P.cellsOf e = s) (s0 : 0 < s)
    (h : DataW.Trod enc P W 0 (fun _ => true) true t (.slice a len cap) dt p) : ∃ K, Cs W s a len cap K ∧ ∀ x ∈ K, FitL W ls x := by
  subst hs
  obtain ⟨fuel, hf⟩ := h
  rcases open_slice ht hf with ⟨hcs, _⟩ | ⟨x, l, c, m, n, D, Pl, hcs, _, hlc, hcm, hm, _, hr⟩
  · simp [Value.cells] at hcs
    obtain ⟨rfl, rfl, rfl⟩ := hcs
    exact ⟨[], ⟨⟨rfl, fun x hx => by cases hx⟩, ⟨Nat.le_refl _, Nat.zero_le _⟩, fun h => absurd h (by omega)⟩, fun x hx => by cases hx⟩
  · simp [Value.cells] at hcs
    obtain ⟨rfl, rfl, rfl⟩ := hcs
    simp only [if_true] at hm
    subst hm
    have each : ∀ i, i < len → ∃ cs', W.cells? 0 (x.add (i * P.cellsOf e)) (P.cellsOf e) = some cs' ∧ FitL W ls cs' := fun i hi => by
      obtain ⟨cs', h1, h2⟩ := hr i (by omega)
      exact ⟨cs', h1, fit_of_trod hl h2⟩
    have cell : ∀ {a : Addr} {k : Nat} {cs' : List Value}, W.cells? 0 a k = some cs' → cs'.length = k ∧ ∀ q v, cs'[q]? = some v → W.cell? (a.add q) = some v := fun {a k cs'} q => by
      unfold World.cells? at q
      rw [if_pos (Nat.zero_le _)] at q
      obtain ⟨h1, h2⟩ := mapM_at' q
      rw [List.length_range] at h1
      refine ⟨h1.symm, fun i v hv => h2 i i v ?_ hv⟩
      rw [List.getElem?_range (by rw [h1]; exact (List.getElem?_eq_some_iff.1 hv).1)]
    refine ⟨(List.range len).map fun r => if h : r < len then (each r h).choose else [], ⟨⟨by simp, fun y hy => ?_⟩, ⟨hlc, hcm⟩, fun h0 => ?_⟩, fun y hy => ?_⟩
    · obtain ⟨i, hi, rfl⟩ := List.mem_map.1 hy
      rw [List.mem_range] at hi
      rw [dif_pos hi]
      exact (cell (each i hi).choose_spec.1).1
    · obtain ⟨b, off, spot⟩ := x
      have c0 := cell (each 0 h0).choose_spec.1
      obtain ⟨v0, hv0⟩ : ∃ v, (each 0 h0).choose[0]? = some v := ⟨_, List.getElem?_eq_getElem (by rw [c0.1]; exact s0)⟩
      have g0 := c0.2 0 v0 hv0
      have hsp : spot = none := by
        have := World.cell?_spot g0
        simpa [Addr.add] using this
      subst hsp
      have hplain : ∀ o j, (⟨b, o, none⟩ : Addr).add j = ⟨b, o + j, none⟩ := fun o j => by unfold Addr.add; split <;> simp_all
      refine ⟨b, off, rfl, ?_, fun q v hq => ?_⟩
      · rw [hplain, hplain] at g0
        exact World.block_lt_of_cell? W _ g0
      · have hL : ∀ y ∈ (List.range len).map (fun r => if h : r < len then (each r h).choose else []), y.length = P.cellsOf e := fun y hy => by
          obtain ⟨i, hi, rfl⟩ := List.mem_map.1 hy
          rw [List.mem_range] at hi
          rw [dif_pos hi]
          exact (cell (each i hi).choose_spec.1).1
        have hql := (List.getElem?_eq_some_iff.1 hq).1
        rw [flatten_len hL, List.length_map, List.length_range] at hql
        have hj : q / P.cellsOf e < len := Nat.div_lt_of_lt_mul (by rw [Nat.mul_comm]; exact hql)
        have hrm := Nat.mod_lt q s0
        have ee : q / P.cellsOf e * P.cellsOf e + q % P.cellsOf e = q := by rw [Nat.mul_comm]; exact Nat.div_add_mod q _
        have fa := flat_at hL (j := q / P.cellsOf e) (i := q % P.cellsOf e) (by rw [List.length_map, List.length_range]; exact hj) hrm
        rw [ee, hq, List.getD_eq_getElem?_getD, List.getElem?_map, List.getElem?_range hj, Option.map_some, Option.getD_some, dif_pos hj] at fa
        have := (cell (each _ hj).choose_spec.1).2 _ _ fa.symm
        rw [hplain, hplain, Nat.add_assoc, ee] at this
        exact this
    · obtain ⟨i, hi, rfl⟩ := List.mem_map.1 hy
      rw [List.mem_range] at hi
      rw [dif_pos hi]
      exact (each i hi).choose_spec.2
end
end Go.Proofs.YtmnohmhhmaeljaaDoor
end
