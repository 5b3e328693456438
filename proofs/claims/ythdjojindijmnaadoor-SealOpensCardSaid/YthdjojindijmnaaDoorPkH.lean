import Derived.Test.YthdjojindijmnaaDoorTagOf
import Derived.Test.YthdjojindijmnaaDoorPkM
import Derived.Test.YthdjojindijmnaaDoorPkL
import Derived.Test.YthdjojindijmnaaDoorPkJ
section
/-
  seal.Close.
-/
namespace Go.Proofs.YthdjojindijmnaaDoor
open Go.ChangeShapes Go.WideShapes Go.ChangeAt Go.RowKit Go.Deep
set_option maxRecDepth 100000

/-- Turned by a key's first one. -/
def sealT (ks bs : List UInt8) : List UInt8 := turnL (keyL ks turnS) non0 0 bs
/-- The tag of turned bytes. -/
def sealM (ks bs ts : List UInt8) : List UInt8 := macL (keyL ks tagS) (joinL [ks, bs, ts])
def sealL (ks bs ts : List UInt8) : List UInt8 := sealT ks ts ++ sealM ks bs (sealT ks ts)
theorem sealT_len (ks bs : List UInt8) : (sealT ks bs).length = bs.length := turnL_len _ _ _ _
theorem sealM_len (ks bs ts : List UInt8) : (sealM ks bs ts).length = 32 := macL_len _ _
theorem sealL_len (ks bs ts : List UInt8) : (sealL ks bs ts).length = ts.length + 32 := by unfold sealL; rw [List.length_append, sealT_len, sealM_len]
theorem sturn2_calls {A : Option Addr} {n c : Nat} {ks bs : List UInt8} {w : World} (h : Bs w A n c bs) (hn : n ≤ 100000000) :
    Calls Tryd.prog 34 #[.agg (cellsOf (slrL ks)).toArray, .slice A n c] w (RetOwn (sealT ks bs) w) := sturn_calls (keyL_len _ _) rfl h hn
theorem tagOf2_calls {A B : Option Addr} {n c m d : Nat} {ks bs ts : List UInt8} {w : World} (hk : ks.length = 32) (h : Bs w A n c bs) (h' : Bs w B m d ts) (hn : n ≤ 1000000) (hm : m ≤ 1000000) {tg : TypeId × Nat × Nat} (hG : Gl w tg) :
    Calls Tryd.prog 35 #[.agg (cellsOf (slrL ks)).toArray, .slice A n c, .slice B m d] w fun e w' => e = .returned (.agg (cellsOf (sealM ks bs ts)).toArray) ∧ Ext w w' := tagOf_calls (keyL_len _ _) (keyL_len _ _) hk rfl h h' hn hm hG

set_option maxHeartbeats 2000000 in
theorem close_calls {A B : Option Addr} {n c m d : Nat} {ks bs ts : List UInt8} {w : World} (hk : ks.length = 32) (h : Bs w A n c bs) (h' : Bs w B m d ts) (hn : n ≤ 1000000) (hm : m ≤ 1000000) {tg : TypeId × Nat × Nat} (hG : Gl w tg) :
    Calls Tryd.prog 22 #[.agg (cellsOf ks).toArray, .slice A n c, .slice B m d] w (RetOwn (sealL ks bs ts) w) := by
  have SEAL : Hid (∀ W, Ext w W → Calls Tryd.prog 33 #[.agg (cellsOf ks).toArray] W fun e w' => e = .returned (.agg (cellsOf (slrL ks)).toArray) ∧ Ext W w') := fun W e => sealerOf_calls hk (hG.kept e hG.lt)
  have TURN : Hid (∀ W, Ext w W → Calls Tryd.prog 34 #[.agg (cellsOf (slrL ks)).toArray, .slice B m d] W (RetOwn (sealT ks ts) W)) := fun W e => sturn2_calls (h'.ext e) (by omega)
  have TAG : Hid (∀ W C d', Ext w W → Bs W C m d' (sealT ks ts) → Calls Tryd.prog 35 #[.agg (cellsOf (slrL ks)).toArray, .slice A n c, .slice C m d'] W fun e w' => e = .returned (.agg (cellsOf (sealM ks bs (sealT ks ts))).toArray) ∧ Ext W w') := fun W C d' e b => tagOf2_calls hk (h.ext e) b hn hm (hG.kept e hG.lt)
  have TL := (sealT_len ks ts).trans h'.len
  have ML := sealM_len ks bs (sealT ks ts)
  have SL := slrL_len hk
  have z1 := h.le
  have z2 := h.cap
  have z3 := h'.le
  have z4 := h'.cap
  clear hG h h'
  unfold sealL
  generalize sealM ks bs (sealT ks ts) = M at *
  generalize sealT ks ts = T at *
  generalize slrL ks = S at *
  have KS : (cellsOf ks).toArray.size = 32 := by simp [cellsOf_len, hk]
  have MS : (cellsOf M).toArray.size = 32 := by simp [cellsOf_len, ML]
  have M1 := cellsOf_one M
  have SS : (cellsOf S).toArray.size = 96 := by simp [cellsOf_len, SL]
  have S1 := cellsOf_one S
  have ha1 := sealer_alloc
  have hz1 := Z96_size
  generalize Z96 = Y at *
  have ha2 := tag_alloc
  have hz2 := zeros32_size
  generalize zeros32 = Z at *
  have P0 : Hid (∀ s, Ext (w.alloc (Obj.cells (cellsOf ks).toArray 23)) s → Ky s w.heap.size ks ∧ Ext w s) := fun s e => ⟨(Ky.boxed w hk).ext e, ((Ext.refl w).alloc _).trans e⟩
  go_enter Tryd.func22, Tryd.ntmps22
  go_upto_region 1 with fail
  have k0 := Lib.hid (P0.out _ (Ext.refl _)).1
  go_wp2_with (refine wpList_load_row rfl 23 _ rfl w.heap.size rfl 23 (cellsOf ks).toArray (0, 0) _ k0.out.1 rfl rfl (by rw [KS]; rfl) ?_; simp only [Act.put, List.setIfInBounds_toArray, List.set_cons_zero, List.set_cons_succ])
  refine (SEAL.out _ (P0.out _ (Ext.refl _)).2).mono ?_
  rintro e v ⟨rfl, e1⟩
  have x1 := Lib.hid (P0.out _ e1).2
  clear P0 k0 SEAL e1
  have a1 : Hid ((v.alloc (Obj.cells Y 58)).heap[v.heap.size]? = some (.cells Y 58 (0, 0))) := heap_alloc_new _ _
  go_upto_region 2 with (refine wpList_store_row rfl 58 _ _ rfl v.heap.size (cellsOf S).toArray rfl rfl 58 Y a1.out (by rw [SS]; rfl) (by rw [SS]; exact hz1) S1 ?_; simp only [Act.put, List.setIfInBounds_toArray, List.set_cons_zero, List.set_cons_succ])
  obtain ⟨g, hg⟩ : ∃ g, g = v.heap.size := ⟨_, rfl⟩
  have e5 : Ext v ((v.alloc (Obj.cells Y 58)).setRow v.heap.size (cellsOf S).toArray) := below_setRow ((Ext.refl v).alloc _) (Nat.le_refl _) _
  refine wp_gen (fun W => w.heap.size ≤ g ∧ ∀ s, Ext W s → s.heap[g]? = some (.cells (cellsOf S).toArray 58 (0, 0)) ∧ Ext w s) ⟨by rw [hg]; exact x1.out.size, fun s e => ⟨(e.block _ (by simp [hg])).trans (by rw [hg]; exact setRow_heap _ _ _ _ _ _ a1.out), x1.out.trans (e5.trans e)⟩⟩ ?_
  rw [← hg]
  clear hg a1 x1 e5
  rintro w1 ⟨gg, P1⟩
  replace P1 := Lib.hid P1
  have k0 := Lib.hid (P1.out _ (Ext.refl _)).1
  go_wp2_with (refine wpList_load_row rfl 58 _ rfl g rfl 58 (cellsOf S).toArray (0, 0) _ k0.out rfl rfl (by rw [SS]; rfl) ?_; simp only [Act.put, List.setIfInBounds_toArray, List.set_cons_zero, List.set_cons_succ])
  refine (TURN.out _ (P1.out _ (Ext.refl _)).2).mono ?_
  rintro e w2 ⟨A2, n2, c2, rfl, o2, e2⟩
  obtain rfl : n2 = m := by rw [← o2.len, TL]
  have zs := (P1.out _ (Ext.refl _)).2.size
  replace o2 := Lib.hid (o2.lower zs)
  have P2 : Hid (∀ s, Ext w2 s → s.heap[g]? = some (.cells (cellsOf S).toArray 58 (0, 0)) ∧ Ext w s) := fun s e => P1.out s (e2.trans e)
  clear P1 k0 TURN e2 zs
  have k0 := Lib.hid (P2.out _ (Ext.refl _)).1
  go_wp2_with (refine wpList_load_row rfl 58 _ rfl g rfl 58 (cellsOf S).toArray (0, 0) _ k0.out rfl rfl (by rw [SS]; rfl) ?_; simp only [Act.put, List.setIfInBounds_toArray, List.set_cons_zero, List.set_cons_succ])
  refine (TAG.out _ _ _ (P2.out _ (Ext.refl _)).2 o2.out.bs).mono ?_
  rintro e v ⟨rfl, e3⟩
  have o3 := Lib.hid (o2.out.ext e3)
  have x3 := Lib.hid (P2.out _ e3).2
  clear P2 k0 TAG e3 o2
  have a1 : Hid ((v.alloc (Obj.cells Z 62)).heap[v.heap.size]? = some (.cells Z 62 (0, 0))) := heap_alloc_new _ _
  go_upto_region 4 with (refine wpList_store_row rfl 62 _ _ rfl v.heap.size (cellsOf M).toArray rfl rfl 62 Z a1.out (by rw [MS]; rfl) (by rw [MS]; exact hz2) M1 ?_; simp only [Act.put, List.setIfInBounds_toArray, List.set_cons_zero, List.set_cons_succ])
  obtain ⟨f, hf⟩ : ∃ f, f = v.heap.size := ⟨_, rfl⟩
  have e4 : Ext v ((v.alloc (Obj.cells Z 62)).setRow v.heap.size (cellsOf M).toArray) := below_setRow ((Ext.refl v).alloc _) (Nat.le_refl _) _
  refine wp_gen (fun W => Ext w W ∧ Own w.heap.size W A2 n2 c2 T ∧ Bs W (some ⟨f, 0, none⟩) 32 32 M) ⟨x3.out.trans e4, o3.out.ext e4, part_bs (t := 62) (p := []) (q := []) (by rw [hf]; exact setRow_heap _ _ _ _ _ _ a1.out) (by simp) rfl ML (by omega)⟩ ?_
  rw [← hf]
  clear hf a1 e4 x3 o3
  rintro w4 ⟨x4, o4, b4⟩
  replace x4 := Lib.hid x4
  replace o4 := Lib.hid o4
  replace b4 := Lib.hid b4
  go_wp2_with (at_builtin; (with_reducible refine wpList_append_bs rfl (B := w.heap.size) (s := .tmp 19) (x := .tmp 21) rfl rfl rfl o4.out b4.out (by omega) x4.out.size ?_); intro A5 c5 w5 o5 g5 b5; replace o5 := Lib.hid o5; clear g5; replace b5 := Lib.hid b5; simp only [Act.put, List.setIfInBounds_toArray, List.set_cons_zero, List.set_cons_succ])
  go_ret
  exact ⟨_, _, _, rfl, o5.out, Below.trans x4.out b5.out⟩
end Go.Proofs.YthdjojindijmnaaDoor
end

section
/-
  's[k:]' and 's[:k]' as operations of a region.
-/
namespace Go.Proofs.YthdjojindijmnaaDoor
open Go.ChangeShapes Go.WideShapes Go.ChangeAt Go.RowKit Go.Deep

theorem exec_from {w : World} {o : Oper} {a : Act} {x lo : Operand} {A : Option Addr} {n c k : Nat} {kd : IntKind} (ho : o.op = .slice 34 x (some lo) none none) (hx : a.eval x = .slice A n c) (hl : a.eval lo = .int kd (k : Int)) (hk : k ≤ n) (hnc : n ≤ c) :
    (execOp a.eval o).run Tryd.prog w = .ok (.value (.slice (if c = k then A else A.map (·.add k)) (n - k) (c - k))) w := by
  obtain ⟨dst, op, ty, pos, af, gd⟩ := o
  simp only at ho
  subst ho
  obtain ⟨i, hi', hsz⟩ := Option.map_eq_some_iff.1 size8
  have q1 : (k : Int) ≤ (n : Int) := by omega
  simp only [execOp, hx, hl, Option.map, Instr.sliceAt]
  go_simp
  cases A <;> rfl
theorem exec_to {w : World} {o : Oper} {a : Act} {x hi : Operand} {A : Option Addr} {n c k : Nat} {kd : IntKind} (ho : o.op = .slice 34 x none (some hi) none) (hx : a.eval x = .slice A n c) (hl : a.eval hi = .int kd (k : Int)) (hk : k ≤ c) :
    (execOp a.eval o).run Tryd.prog w = .ok (.value (.slice A k c)) w := by
  obtain ⟨dst, op, ty, pos, af, gd⟩ := o
  simp only at ho
  subst ho
  obtain ⟨i, hi', hsz⟩ := Option.map_eq_some_iff.1 size8
  have q1 : (k : Int) ≤ (c : Int) := by omega
  have q2 : (if c = 0 then A else A.map (·.add 0)) = A := by
    split
    · rfl
    · cases A <;> simp [Addr.add]
  simp only [execOp, hx, hl, Option.map, Instr.sliceAt]
  go_simp
end Go.Proofs.YthdjojindijmnaaDoor
end

section
/-
  commit.Pack.
-/
namespace Go.Proofs.YthdjojindijmnaaDoor
open Go.ChangeShapes Go.WideShapes Go.ChangeAt Go.RowKit Go.Deep

set_option maxRecDepth 100000 in
set_option maxHeartbeats 1000000 in
theorem pack_calls {A : Option Addr} {n c : Nat} {ks bs : List UInt8} {w : World} (hk : ks.length = 32) (h : Bs w A n c bs) (hn : n ≤ 100000000) :
    Calls Tryd.prog 18 #[.agg (cellsOf ks).toArray, .slice A n c] w (RetBs (ks ++ bs) w) := by
  have KB : Hid (Bs (w.alloc (Obj.cells (cellsOf ks).toArray 23)) (some ⟨w.heap.size, 0, none⟩) 32 32 ks) := Ky.bs (Ky.boxed w hk)
  have HB := Lib.hid (h.ext ((Ext.refl w).alloc (Obj.cells (cellsOf ks).toArray 23)))
  have E0 : Hid (Ext w (w.alloc (Obj.cells (cellsOf ks).toArray 23))) := (Ext.refl w).alloc _
  have c1 := h.le
  have c2 := h.cap
  clear h
  go_enter Tryd.func18, Tryd.ntmps18
  go_upto_region 1 with fail
  refine wp_gen (fun W => Bs W (some ⟨w.heap.size, 0, none⟩) 32 32 ks ∧ Bs W A n c bs ∧ Ext w W) ⟨KB.out, HB.out, E0.out⟩ ?_
  clear KB HB E0
  rintro w0 ⟨kb, hb, e0⟩
  replace kb := Lib.hid kb
  replace hb := Lib.hid hb
  replace e0 := Lib.hid e0
  have o0 := Lib.hid (Own.nil w0.heap.size w0)
  go_wp2_with (first
    | (at_builtin; (with_reducible refine wpList_append_bs rfl (B := w0.heap.size) (s := .const (.slice none 0 0)) (x := .tmp 6) rfl rfl rfl o0.out kb.out (by omega) (Nat.le_refl _) ?_); intro A1 c1' w1 o1 g1 b1; replace o1 := Lib.hid o1; clear g1; replace b1 : Hid (Ext w0 w1) := b1; rw [show 0 + 32 = 32 from rfl] at *; simp only [Act.put, List.setIfInBounds_toArray, List.set_cons_zero, List.set_cons_succ])
    | (at_builtin; (with_reducible refine wpList_append_bs rfl (B := w0.heap.size) (s := .tmp 8) (x := .tmp 9) rfl rfl rfl o1.out (hb.out.ext b1.out) (by omega) b1.out.size ?_); intro A2 c2' w2 o2 g2 b2; replace o2 := Lib.hid o2; clear g2; replace b2 : Hid (Ext w0 w2) := Below.trans b1.out b2; simp only [Act.put, List.setIfInBounds_toArray, List.set_cons_zero, List.set_cons_succ]))
  go_ret
  exact ⟨_, _, _, rfl, o2.out.bs, e0.out.trans b2.out⟩
end Go.Proofs.YthdjojindijmnaaDoor
end

section
/-
  Results that are two keys; regions in which two blocks turn.
-/
namespace Go.Proofs.YthdjojindijmnaaDoor
open Go.ChangeShapes Go.WideShapes Go.ChangeAt Go.RowKit Go.Deep

theorem results_rr {P : Program} {fn : Func} {p q : Tmp} {ty : TypeId} (h : fn.results = #[.cell p ty, .cell q ty]) (tmps : Array Value) (w : World) (g g' : Nat) (t t' : TypeId) (cs cs' : Array Value) (fr fr' : Nat × Nat) (d : TypeDesc)
    (hp : tmps.getD p undef = .pointer (some ⟨g, 0, none⟩)) (hq : tmps.getD q undef = .pointer (some ⟨g', 0, none⟩)) (hg : w.heap[g]? = some (.cells cs t fr)) (hg' : w.heap[g']? = some (.cells cs' t' fr'))
    (hu : P.underlying ty = some d) (hd : (match d with | .struct _ | .array _ _ => true | _ => false) = true) (hi : (P.info? ty).map (·.size) = some cs.size) (hi' : (P.info? ty).map (·.size) = some cs'.size) :
    (results fn tmps).run P w = .ok (.tuple #[.agg cs, .agg cs']) w := by
  have hp' : tmps[p]?.getD undef = .pointer (some ⟨g, 0, none⟩) := by simpa using hp
  have hq' : tmps[q]?.getD undef = .pointer (some ⟨g', 0, none⟩) := by simpa using hq
  simp [results, h, hp', hq', asAddr, run_loadVar_row w g t ty cs fr d hg hu hd hi, run_loadVar_row w g' t' ty cs' fr' d hg' hu hd hi', Sem.run_bind, Result.andThen]
theorem results_trt {P : Program} {fn : Func} {u p v : Tmp} {ty : TypeId} (h : fn.results = #[.tmp u, .cell p ty, .tmp v]) (tmps : Array Value) (w : World) (g : Nat) (t : TypeId) (cs : Array Value) (fr : Nat × Nat) (d : TypeDesc) (x y : Value)
    (hx : tmps.getD u undef = x) (hp : tmps.getD p undef = .pointer (some ⟨g, 0, none⟩)) (hy : tmps.getD v undef = y) (hg : w.heap[g]? = some (.cells cs t fr))
    (hu : P.underlying ty = some d) (hd : (match d with | .struct _ | .array _ _ => true | _ => false) = true) (hi : (P.info? ty).map (·.size) = some cs.size) :
    (results fn tmps).run P w = .ok (.tuple #[x, .agg cs, y]) w := by
  have hp' : tmps[p]?.getD undef = .pointer (some ⟨g, 0, none⟩) := by simpa using hp
  have hx' : tmps[u]?.getD undef = x := by simpa using hx
  have hy' : tmps[v]?.getD undef = y := by simpa using hy
  simp [results, h, hp', hx', hy', asAddr, run_loadVar_row w g t ty cs fr d hg hu hd hi, Sem.run_bind, Result.andThen]

/-- Only blocks g and g' turn. -/
def Two (g g' : Nat) (a b : World) : Prop := b.os = a.os ∧ b.tape = a.tape ∧ b.output = a.output ∧ a.heap.size ≤ b.heap.size ∧ ∀ i, i < a.heap.size → i ≠ g → i ≠ g' → b.heap[i]? = a.heap[i]?
theorem Two.refl (g g' : Nat) (w : World) : Two g g' w w := ⟨rfl, rfl, rfl, Nat.le_refl _, fun _ _ _ _ => rfl⟩
theorem Two.trans {g g' : Nat} {a b c : World} (h : Two g g' a b) (k : Two g g' b c) : Two g g' a c :=
  ⟨k.1.trans h.1, k.2.1.trans h.2.1, k.2.2.1.trans h.2.2.1, Nat.le_trans h.2.2.2.1 k.2.2.2.1, fun i hi h1 h2 => (k.2.2.2.2 i (Nat.lt_of_lt_of_le hi h.2.2.2.1) h1 h2).trans (h.2.2.2.2 i hi h1 h2)⟩
theorem Two.of_ext {g g' : Nat} {a b : World} (h : Ext a b) : Two g g' a b := ⟨h.os, h.tape, h.output, h.size, fun i hi _ _ => h.block i hi⟩
theorem Two.row {g g' : Nat} (w : World) (C : Array Value) : Two g g' w (w.setRow g C) := ⟨rfl, rfl, rfl, by simp, fun i _ h1 _ => setRow_other _ _ _ _ h1⟩
theorem Two.row' {g g' : Nat} (w : World) (C : Array Value) : Two g g' w (w.setRow g' C) := ⟨rfl, rfl, rfl, by simp, fun i _ _ h1 => setRow_other _ _ _ _ h1⟩
theorem Two.ext {g g' : Nat} {w0 a b : World} (h : Ext w0 a) (k : Two g g' a b) (h1 : w0.heap.size ≤ g) (h2 : w0.heap.size ≤ g') : Ext w0 b :=
  Below.trans h ⟨k.1, k.2.1, k.2.2.1, k.2.2.2.1, fun i hi => k.2.2.2.2 i (Nat.lt_of_lt_of_le hi h.size) (by omega) (by omega)⟩
theorem Two.block {g g' i : Nat} {a b : World} (k : Two g g' a b) {o : Obj} (h : a.heap[i]? = some o) (h1 : i ≠ g) (h2 : i ≠ g') : b.heap[i]? = some o := (k.2.2.2.2 i (heap_lt h) h1 h2).trans h
end Go.Proofs.YthdjojindijmnaaDoor
end
