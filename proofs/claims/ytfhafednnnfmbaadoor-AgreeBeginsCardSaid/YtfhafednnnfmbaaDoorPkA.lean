import Derived.Test.YtfhafednnnfmbaaDoorPkC
import Derived.Test.YtfhafednnnfmbaaDoorPkB
import Derived.Test.YtfhafednnnfmbaaDoorRof
import Derived.Test.YtfhafednnnfmbaaDoorRbegin
import Derived.Test.YtfhafednnnfmbaaDoorAwake9
import Derived.Test.YtfhafednnnfmbaaDoorPkO
import Derived.Lib.LaidTab
import Derived.Test.YtfhafednnnfmbaaDoorPkS
import Derived.Test.YtfhafednnnfmbaaDoorBase
import Derived.Deep.Matrix
import Derived.Test.YtfhafednnnfmbaaDoorPkT
import Derived.Deep.Fields
section
/-
  AgreeBegins: the key that comes of any keys, for who begins.
-/
namespace Go.Proofs.YtfhafednnnfmbaaDoor
open Go.ChangeShapes Go.WideShapes Go.ChangeAt Go.RowKit Go.Deep
set_option maxRecDepth 100000

set_option maxHeartbeats 8000000 in
theorem agreeBegins_calls {w : World} {id_ fr bi bs bo : List UInt8} {h : Bool} (L_id : id_.length = 64) (L_fr : fr.length = 64) (L_bi : bi.length = 32) (L_bs : bs.length = 32) (L_bo : bo.length = 32) {tg tp : TypeId × Nat × Nat} (hG : Gl w tg) (hP : Gp w tp) :
    Calls Tryd.prog 3 #[.agg (cellsOf id_).toArray, .agg (cellsOf fr).toArray, .agg (bbC (bi ++ (bs ++ bo)) h).toArray] w fun e w' => e = .returned (.bool true) ∧ Ext w w' := by
  have AW := Lib.hid (fun (W : World) (e : Ext w W) => awake9_calls (hG.ext e) (hP.ext e))
  have BE := Lib.hid (fun (W : World) (e : Ext w W) => begin_calls (h := h) L_id L_fr L_bi L_bs L_bo (hG.ext e) (hP.ext e))
  have RB := Lib.hid (fun (W : World) => rbegin_calls (w := W) (h := h) L_id L_fr L_bi L_bs L_bo)
  have L_bu : (bbC (bi ++ (bs ++ bo)) h).length = 97 := by rw [bbC_len]; simp [L_bi, L_bs, L_bo]
  clear hG hP
  generalize (([id_ ++ bs, fr ++ bi, fr ++ bs] ++ if h then [fr ++ bo] else []).map dhL) = ks at *
  have L_kv := agV_len ks
  generalize agV ks = kv at *
  generalize agE ks = ce at *
  generalize bbC (bi ++ (bs ++ bo)) h = bu at *
  have S_kv : (cellsOf kv).toArray.size = 32 := by simp [cellsOf_len, L_kv]
  have O_kv := cellsOf_one kv
  have S_id : (cellsOf id_).toArray.size = 64 := by simp [cellsOf_len, L_id]
  have O_id := cellsOf_one id_
  have S_fr : (cellsOf fr).toArray.size = 64 := by simp [cellsOf_len, L_fr]
  have O_fr := cellsOf_one fr
  have S_bu : bu.toArray.size = 97 := by rw [List.size_toArray, L_bu]
  have hal : ∀ w, (zeroValue 23).run Tryd.prog w = .ok (.agg (cellsOf (List.replicate 32 0)).toArray) w := fun w => by rw [zeros32_cells]; exact key_alloc w
  have hal2 := apair_alloc
  have hal3 := own_alloc
  have hal4 := bundle_alloc
  have hbz := Lib.hid zero_built
  have L_zk : (List.replicate 32 (0 : UInt8)).length = 32 := rfl
  have L_zp : (List.replicate 64 (0 : UInt8)).length = 64 := by simp
  have L_zo : (bbC (List.replicate 192 0) false).length = 193 := by rw [bbC_len]; simp
  have L_zb : (bbC (List.replicate 96 0) false).length = 97 := by rw [bbC_len]; simp
  generalize bbC (List.replicate 192 0) false = zo at *
  generalize bbC (List.replicate 96 0) false = zb at *
  generalize List.replicate 32 (0 : UInt8) = zk at *
  generalize List.replicate 64 (0 : UInt8) = zp at *
  have S_zk : (cellsOf zk).toArray.size = 32 := by simp [cellsOf_len, L_zk]
  have O_zk := cellsOf_one zk
  have S_zp : (cellsOf zp).toArray.size = 64 := by simp [cellsOf_len, L_zp]
  have O_zp := cellsOf_one zp
  have S_zo : zo.toArray.size = 193 := by rw [List.size_toArray, L_zo]
  have S_zb : zb.toArray.size = 97 := by rw [List.size_toArray, L_zb]
  obtain ⟨gi, hgi⟩ : ∃ g, g = w.heap.size := ⟨_, rfl⟩
  obtain ⟨gf, hgf⟩ : ∃ g, g = gi + 1 := ⟨_, rfl⟩
  obtain ⟨gb, hgb⟩ : ∃ g, g = gf + 1 := ⟨_, rfl⟩
  have B0 : Hid (Kp (((w.alloc (Obj.cells (cellsOf id_).toArray 25)).alloc (Obj.cells (cellsOf fr).toArray 25)).alloc (Obj.cells bu.toArray 27)) gi id_ ∧ Kp (((w.alloc (Obj.cells (cellsOf id_).toArray 25)).alloc (Obj.cells (cellsOf fr).toArray 25)).alloc (Obj.cells bu.toArray 27)) gf fr ∧ Cb (((w.alloc (Obj.cells (cellsOf id_).toArray 25)).alloc (Obj.cells (cellsOf fr).toArray 25)).alloc (Obj.cells bu.toArray 27)) gb 27 bu ∧ Ext w (((w.alloc (Obj.cells (cellsOf id_).toArray 25)).alloc (Obj.cells (cellsOf fr).toArray 25)).alloc (Obj.cells bu.toArray 27))) := by
    subst hgb
    subst hgf
    rw [hgi]
    exact ⟨⟨heap_alloc30 _ _ _ _, L_id⟩, ⟨heap_alloc31 _ _ _ _, L_fr⟩, heap_alloc32 _ _ _ _, (((Ext.refl w).alloc _).alloc _).alloc _⟩
  go_enter Tryd.func3, Tryd.ntmps3
  go_upto_region 1 with fail
  refine wp_gen (fun W => Kp W gi id_ ∧ Kp W gf fr ∧ Cb W gb 27 bu ∧ Ext w W) B0.out ?_
  rw [← hgi, ← hgf, ← hgb]
  clear B0
  replace hgi := Lib.hid hgi
  replace hgf := Lib.hid hgf
  replace hgb := Lib.hid hgb
  rintro w0 ⟨q_i, q_f, q_b, q_x⟩
  have Q0 : Hid (∀ s, Ext w0 s → Kp s gi id_ ∧ Kp s gf fr ∧ Cb s gb 27 bu ∧ Ext w s) := fun s e => ⟨q_i.ext e, q_f.ext e, q_b.ext e, q_x.trans e⟩
  clear q_i q_f q_b q_x
  go_wp2_with fail
  refine (AW.out _ ((Q0.out _ (Ext.refl _)).2.2.2)).mono ?_
  rintro e w1 ⟨rfl, e1⟩
  have Q1 : Hid (∀ s, Ext w1 s → Kp s gi id_ ∧ Kp s gf fr ∧ Cb s gb 27 bu ∧ Ext w s) := fun s e => Q0.out s (e1.trans e)
  clear Q0 e1
  go_wp2_with (first
    | (refine wpList_load_rowW rfl 25 _ rfl gi rfl 25 (cellsOf id_).toArray (0, 0) _ ((Q1.out _ (Ext.refl _)).1).1 rfl rfl (by rw [S_id]; rfl) ?_; simp only [Act.put, List.setIfInBounds_toArray, List.set_cons_zero, List.set_cons_succ])
    | (refine wpList_load_rowW rfl 25 _ rfl gf rfl 25 (cellsOf fr).toArray (0, 0) _ ((Q1.out _ (Ext.refl _)).2.1).1 rfl rfl (by rw [S_fr]; rfl) ?_; simp only [Act.put, List.setIfInBounds_toArray, List.set_cons_zero, List.set_cons_succ])
    | (refine wpList_load_rowW rfl 27 _ rfl gb rfl 27 bu.toArray (0, 0) _ ((Q1.out _ (Ext.refl _)).2.2.1) rfl rfl (by rw [S_bu]; rfl) ?_; simp only [Act.put, List.setIfInBounds_toArray, List.set_cons_zero, List.set_cons_succ]))
  refine (BE.out _ ((Q1.out _ (Ext.refl _)).2.2.2)).mono ?_
  rintro e u_ ⟨rfl, e1⟩
  have a1 : Hid ((u_.alloc (Obj.cells (cellsOf zk).toArray 23)).heap[u_.heap.size]? = some (.cells (cellsOf zk).toArray 23 (0, 0))) := heap_alloc_new _ _
  have E_ : Ext w1 ((u_.alloc (Obj.cells (cellsOf zk).toArray 23)).setRow u_.heap.size (cellsOf kv).toArray) := e1.trans (below_setRow ((Ext.refl u_).alloc _) (Nat.le_refl _) _)
  go_upto_region 3 with (refine wpList_store_row rfl 23 _ _ rfl u_.heap.size (cellsOf kv).toArray rfl rfl 23 _ a1.out (by rw [S_kv]; rfl) (by rw [S_kv, S_zk]) O_kv ?_; simp only [Act.put])
  obtain ⟨gk, hg_⟩ : ∃ g, g = u_.heap.size := ⟨_, rfl⟩
  refine wp_gen (fun W => Ky W gk kv ∧ Kp W gi id_ ∧ Kp W gf fr ∧ Cb W gb 27 bu ∧ Ext w W) ⟨⟨by rw [hg_]; exact setRow_heap _ _ _ _ _ _ a1.out, L_kv⟩, Q1.out _ E_⟩ ?_
  rw [← hg_]
  clear hg_ a1 E_ e1 Q1
  rintro w2 ⟨q_k, q_i, q_f, q_b, q_x⟩
  have Q2 : Hid (∀ s, Ext w2 s → Ky s gk kv ∧ Kp s gi id_ ∧ Kp s gf fr ∧ Cb s gb 27 bu ∧ Ext w s) := fun s e => ⟨q_k.ext e, q_i.ext e, q_f.ext e, q_b.ext e, q_x.trans e⟩
  clear q_k q_i q_f q_b q_x
  go_wp2_with (first
    | (refine wpList_load_rowW rfl 25 _ rfl gi rfl 25 (cellsOf id_).toArray (0, 0) _ ((Q2.out _ (Ext.refl _)).2.1).1 rfl rfl (by rw [S_id]; rfl) ?_; simp only [Act.put, List.setIfInBounds_toArray, List.set_cons_zero, List.set_cons_succ])
    | (refine wpList_load_rowW rfl 25 _ rfl gf rfl 25 (cellsOf fr).toArray (0, 0) _ ((Q2.out _ (Ext.refl _)).2.2.1).1 rfl rfl (by rw [S_fr]; rfl) ?_; simp only [Act.put, List.setIfInBounds_toArray, List.set_cons_zero, List.set_cons_succ])
    | (refine wpList_load_rowW rfl 27 _ rfl gb rfl 27 bu.toArray (0, 0) _ ((Q2.out _ (Ext.refl _)).2.2.2.1) rfl rfl (by rw [S_bu]; rfl) ?_; simp only [Act.put, List.setIfInBounds_toArray, List.set_cons_zero, List.set_cons_succ]))
  refine (RB.out _).mono ?_
  rintro e u_ ⟨rfl, e1⟩
  have a1 : Hid ((u_.alloc (Obj.cells (cellsOf zk).toArray 23)).heap[u_.heap.size]? = some (.cells (cellsOf zk).toArray 23 (0, 0))) := heap_alloc_new _ _
  have E_ : Ext w2 ((u_.alloc (Obj.cells (cellsOf zk).toArray 23)).setRow u_.heap.size (cellsOf kv).toArray) := e1.trans (below_setRow ((Ext.refl u_).alloc _) (Nat.le_refl _) _)
  go_upto_region 4 with (refine wpList_store_row rfl 23 _ _ rfl u_.heap.size (cellsOf kv).toArray rfl rfl 23 _ a1.out (by rw [S_kv]; rfl) (by rw [S_kv, S_zk]) O_kv ?_; simp only [Act.put])
  obtain ⟨gm, hg_⟩ : ∃ g, g = u_.heap.size := ⟨_, rfl⟩
  refine wp_gen (fun W => Ky W gm kv ∧ Ky W gk kv ∧ Kp W gi id_ ∧ Kp W gf fr ∧ Cb W gb 27 bu ∧ Ext w W) ⟨⟨by rw [hg_]; exact setRow_heap _ _ _ _ _ _ a1.out, L_kv⟩, Q2.out _ E_⟩ ?_
  rw [← hg_]
  clear hg_ a1 E_ e1 Q2
  rintro w3 ⟨q_m, q_k, q_i, q_f, q_b, q_x⟩
  have Q3 : Hid (∀ s, Ext w3 s → Ky s gm kv ∧ Ky s gk kv ∧ Kp s gi id_ ∧ Kp s gf fr ∧ Cb s gb 27 bu ∧ Ext w s) := fun s e => ⟨q_m.ext e, q_k.ext e, q_i.ext e, q_f.ext e, q_b.ext e, q_x.trans e⟩
  clear q_m q_k q_i q_f q_b q_x
  have heq : Hid (decide (kv = kv) = true) := decide_eq_true rfl
  have hec : Hid (decide (ce = ce) = true) := decide_eq_true rfl
  go_wp2_with (first
    | (refine wpList_load_rowW rfl 23 _ rfl gk rfl 23 (cellsOf kv).toArray (0, 0) _ ((Q3.out _ (Ext.refl _)).2.1).1 rfl rfl (by rw [S_kv]; rfl) ?_; simp only [Act.put, List.setIfInBounds_toArray, List.set_cons_zero, List.set_cons_succ])
    | (refine wpList_load_rowW rfl 23 _ rfl gm rfl 23 (cellsOf kv).toArray (0, 0) _ ((Q3.out _ (Ext.refl _)).1).1 rfl rfl (by rw [S_kv]; rfl) ?_; simp only [Act.put, List.setIfInBounds_toArray, List.set_cons_zero, List.set_cons_succ])
    | (refine wpList_eql_keyB rfl _ _ _ rfl kv kv true heq.out rfl rfl L_kv L_kv ?_; simp only [Act.put, List.setIfInBounds_toArray, List.set_cons_zero, List.set_cons_succ]))
  go_ret
  exact ⟨rfl, ((Q3.out _ (Ext.refl _)).2.2.2.2.2)⟩
end Go.Proofs.YtfhafednnnfmbaaDoor
end

section
/-
  What the row's list says of blake.initial.
-/
namespace Go.Proofs.YtfhafednnnfmbaaDoor
open Go.ChangeShapes Go.WideShapes Go.ChangeAt Go.RowKit Go.Deep

def initZ : List Int := [1779033703, 3144134277, 1013904242, 2773480762, 1359893119, 2600822924, 528734635, 1541459225]
theorem gBlake : Tryd.prog.globalNamed "palfrey/blake.initial" = some 0 := by kernel_rfl
theorem gBlakeType : (Tryd.prog.globals[0]?).map (·.type) = some 79 := by kernel_rfl
theorem gl_of_tab {W : World} (h : Lib.TabIs Tryd.prog W "palfrey/blake.initial" .u32 initZ) : ∃ tg, Gl W tg := by
  unfold Lib.TabIs World.var? at h
  rw [gBlake] at h
  simp only [Option.bind_some] at h
  cases hh : W.heap[0]? with
  | none => rw [hh] at h; cases h
  | some o =>
    rw [hh] at h
    cases o with
    | cells cs t fr =>
      simp only [Option.some.injEq] at h
      subst h
      exact ⟨(t, fr), hh⟩
    | _ => cases h
theorem gl_of_laid {W : World} {rest : List (String × DataW Unit)} (h : laidMet Tryd.prog (("palfrey/blake.initial", Lib.tabData .u32 initZ) :: rest) W) : ∃ tg, Gl W tg :=
  gl_of_tab (Lib.tabIs_of_head (rest := rest) gBlake gBlakeType Tryd.underlying79 Tryd.underlying76 (by kernel_rfl) (by kernel_rfl) h)
end Go.Proofs.YtfhafednnnfmbaaDoor
end

section
/-
  What the row's list says of field.prime.
-/
namespace Go.Proofs.YtfhafednnnfmbaaDoor
open Go.ChangeShapes Go.WideShapes Go.ChangeAt Go.RowKit Go.Deep
set_option maxRecDepth 100000

def primeZ : List Int := [4294967277, 4294967295, 4294967295, 4294967295, 4294967295, 4294967295, 4294967295, 2147483647]
theorem gPrime : Tryd.prog.globalNamed "palfrey/field.prime" = some 1 := by kernel_rfl
theorem gPrimeType : (Tryd.prog.globals[1]?).map (·.type) = some 79 := by kernel_rfl
theorem gp_of_tab {W : World} (h : Lib.TabIs Tryd.prog W "palfrey/field.prime" .u32 primeZ) : ∃ tg, Gp W tg := by
  unfold Lib.TabIs World.var? at h
  rw [gPrime] at h
  simp only [Option.bind_some] at h
  cases hh : W.heap[1]? with
  | none => rw [hh] at h; cases h
  | some o =>
    rw [hh] at h
    cases o with
    | cells cs t fr =>
      simp only [Option.some.injEq] at h
      subst h
      refine ⟨(t, fr), ?_⟩
      unfold Gp
      rw [← primeL_eq]
      exact hh
    | _ => cases h
theorem gp_of_laid {W : World} {rest : List (String × DataW Unit)} (h : laidMet Tryd.prog (("palfrey/field.prime", Lib.tabData .u32 primeZ) :: rest) W) : ∃ tg, Gp W tg :=
  gp_of_tab (Lib.tabIs_of_head (rest := rest) gPrime gPrimeType Tryd.underlying79 Tryd.underlying76 (by kernel_rfl) (by kernel_rfl) h)
end Go.Proofs.YtfhafednnnfmbaaDoor
end

section
/-
  What the row's list says of field.prime and blake.initial.
-/
namespace Go.Proofs.YtfhafednnnfmbaaDoor
open Go.ChangeShapes Go.WideShapes Go.ChangeAt Go.RowKit Go.Deep
set_option maxRecDepth 100000

theorem laidMet_tail {P : Program} {W : World} {x : String × DataW Unit} {rest : List (String × DataW Unit)} (h : laidMet P (x :: rest) W) : laidMet P rest W := by
  obtain ⟨n, d⟩ := x
  obtain ⟨ps, ⟨g, t, cs, fuel, p, q, _, _, _, _, hr, rfl⟩, hnd, hall⟩ := h
  exact ⟨q, hr, (List.nodup_append.1 hnd).2.1, fun b off hm => hall b off (List.mem_append_right _ hm)⟩
theorem both_of_laid {W : World} {rest : List (String × DataW Unit)} (h : laidMet Tryd.prog (("palfrey/field.prime", Lib.tabData .u32 primeZ) :: ("palfrey/blake.initial", Lib.tabData .u32 initZ) :: rest) W) : (∃ tp, Gp W tp) ∧ ∃ tg, Gl W tg :=
  ⟨gp_of_laid h, gl_of_laid (laidMet_tail h)⟩
end Go.Proofs.YtfhafednnnfmbaaDoor
end

section
/-
  How the arguments of the statements read: a slice of bytes, of slices of bytes, of numbers. No conditions.
-/
namespace Go.Proofs.YtfhafednnnfmbaaDoor
open Go.ChangeShapes Go.WideShapes Go.ChangeAt Go.RowKit Go.Deep

theorem bounds_i64 {a : Int} (h : (Lit.int .i64 a).wf = true) : -9223372036854775808 ≤ a ∧ a ≤ 9223372036854775807 := by
  simpa [Lit.wf, IntKind.min, IntKind.max, IntKind.signed, IntKind.bits] using h

section
variable {H : Type} {enc : TypeId × Value → H} {W : World} {P : Program}
theorem bs_of_trod {t e : TypeId} {a : Option Addr} {len cap : Nat} {d : DataW H} {p : List MemPlace} (ht : P.underlying t = some (.slice e)) (he : P.underlying e = some (.int .u8)) (hc : P.cellsOf e = 1)
    (h : DataW.Trod enc P W 0 (fun _ => true) true t (.slice a len cap) d p) : ∃ xs, Bs W a len cap xs := by
  obtain ⟨fuel, hf⟩ := h
  rcases open_ints ht he hc hf with ⟨hcs, _⟩ | ⟨x, l, c, zs, hcs, _, hl, hm, hz, _, hcell, hwz⟩
  · simp [Value.cells] at hcs
    obtain ⟨rfl, rfl, rfl⟩ := hcs
    exact ⟨[], Bs.nil W⟩
  · simp [Value.cells] at hcs
    obtain ⟨rfl, rfl, rfl⟩ := hcs
    exact bs_of_row (.inr ⟨_, rfl, hl, hm, by simpa using hz, hcell, hwz⟩)
end
end Go.Proofs.YtfhafednnnfmbaaDoor
end

section
/-
  How an argument that is an array of bytes reads. No conditions.
-/
namespace Go.Proofs.YtfhafednnnfmbaaDoor
open Go.ChangeShapes Go.WideShapes Go.ChangeAt Go.RowKit Go.Deep

section
variable {H : Type} {enc : TypeId × Value → H} {W : World} {P : Program}
theorem okWide_array {r : Reach} {b n : Nat} {t e : TypeId} {v : Value} (ht : P.underlying t = some (.array n e)) (h : Value.okWide P W r b t v) : ∃ cs, v = .agg cs ∧ cs.size = P.cellsOf t := by
  simp only [Value.okWide, ht] at h
  obtain ⟨cs, h1, h2, _⟩ := h
  exact ⟨cs, h1, h2⟩
def byteV : Option Value → Nat
  | some (.int _ z) => z.toNat
  | _ => 0
theorem bytes_of_trod {n fuel : Nat} {t e : TypeId} {cs : List Value} {x : DataW H × List MemPlace} (ht : P.underlying t = some (.array n e)) (he : P.underlying e = some (.int .u8)) (hce : P.cellsOf e = 1) (hct : P.cellsOf t = n)
    (hf : DataW.trod enc P W 0 (fun _ => true) true fuel t cs = some x) : ∃ xs, cs = cellsOf xs ∧ xs.length = n := by
  cases fuel with
  | zero => simp [DataW.trod] at hf
  | succ fuel =>
    simp only [DataW.trod, ht, hce, hct, Nat.mul_one] at hf
    split at hf
    · rename_i hl
      obtain ⟨xs, hm, hx⟩ := Option.map_eq_some_iff.1 hf
      have hcell : ∀ i, i < n → ∃ z : Int, cs[i]? = some (.int .u8 z) ∧ 0 ≤ z ∧ z ≤ 255 := fun i hi => by
        obtain ⟨y, hy, hfy⟩ := Lib.mapM_at hm i i (by simp [hi])
        obtain ⟨z, hc, rfl, hw⟩ := DataW.trod_int he hfy
        have h1 : cs[i]? = some (.int .u8 z) := by
          have := congrArg (·[0]?) hc
          simpa [List.getElem?_take, List.getElem?_drop] using this
        have hb : 0 ≤ z ∧ z ≤ 255 := by simpa [Lit.wf, IntKind.min, IntKind.max, IntKind.signed, IntKind.bits] using hw
        exact ⟨z, h1, hb⟩
      refine ⟨(List.range n).map fun i => UInt8.ofNat (byteV cs[i]?), ?_, by simp⟩
      apply List.ext_getElem?
      intro i
      by_cases hi : i < n
      · obtain ⟨z, h1, h2, h3⟩ := hcell i hi
        have h4 := cellsOf_get (xs := (List.range n).map fun i => UInt8.ofNat (byteV cs[i]?)) (j := i) (by simp; exact hi)
        rw [h1]
        refine Eq.trans ?_ h4.symm
        congr 2
        unfold bt
        simp [List.getD, hi, h1, byteV]
        omega
      · rw [List.getElem?_eq_none (by omega), List.getElem?_eq_none (by simp [cellsOf_len]; omega)]
    · cases hf
theorem key_of_trod {r : Reach} {b n : Nat} {t e : TypeId} {v : Value} {d : DataW H} {p : List MemPlace} (ht : P.underlying t = some (.array n e)) (he : P.underlying e = some (.int .u8)) (hce : P.cellsOf e = 1) (hct : P.cellsOf t = n)
    (hv : Value.okWide P W r b t v) (h : DataW.Trod enc P W 0 (fun _ => true) true t v d p) : ∃ xs, v = .agg (cellsOf xs).toArray ∧ xs.length = n := by
  obtain ⟨cs, rfl, hsz⟩ := okWide_array ht hv
  obtain ⟨fuel, hf⟩ := h
  obtain ⟨xs, hx, hl⟩ := bytes_of_trod ht he hce hct hf
  refine ⟨xs, ?_, hl⟩
  congr 1
  apply Array.ext'
  rw [← hx]; rfl
end
end Go.Proofs.YtfhafednnnfmbaaDoor
end

section
/-
  How a pair of keys reads as an argument. No conditions.
-/
namespace Go.Proofs.YtfhafednnnfmbaaDoor
open Go.ChangeShapes Go.WideShapes Go.ChangeAt Go.RowKit Go.Deep
set_option maxRecDepth 100000

section
variable {H : Type} {enc : TypeId × Value → H} {W : World}
theorem pair64_of_trod {r : Reach} {b : Nat} {v : Value} {d : DataW H} {p : List MemPlace} (hv : Value.okWide Tryd.prog W r b 25 v) (h : DataW.Trod enc Tryd.prog W 0 (fun _ => true) true 25 v d p) :
    ∃ xs ys, v = .agg (cellsOf (xs ++ ys)).toArray ∧ xs.length = 32 ∧ ys.length = 32 := by
  obtain ⟨cs, rfl, hsz⟩ := okWide_struct Tryd.underlying25 hv
  have hC : Tryd.prog.cellsOf 25 = 64 := by kernel_rfl
  obtain ⟨fuel, hf⟩ := h
  obtain ⟨xs, n, _, hx, _, hlen, hg⟩ := DataW.trod_struct Tryd.underlying25 hf
  have c0 : Tryd.prog.cellsOf 23 = 32 := by kernel_rfl
  have ce : Tryd.prog.cellsOf 5 = 1 := by kernel_rfl
  have hl : cs.toList.length = 64 := by rw [Array.length_toList, hsz, hC]
  have g0 : DataW.trod enc Tryd.prog W 0 (fun _ => true) true n 23 ((cs.toList.drop 0).take 32) = xs[0]? := by rw [← c0]; exact hg 0 _ rfl
  have g1 : DataW.trod enc Tryd.prog W 0 (fun _ => true) true n 23 ((cs.toList.drop 32).take 32) = xs[1]? := by rw [← c0]; exact hg 1 _ rfl
  have hxl : xs.length = 2 := hlen
  rw [List.getElem?_eq_getElem (by omega)] at g0 g1
  obtain ⟨ks, hk, lk⟩ := bytes_of_trod Tryd.underlying23 Tryd.underlying5 ce c0 g0
  obtain ⟨ns, hn, ln⟩ := bytes_of_trod Tryd.underlying23 Tryd.underlying5 ce c0 g1
  refine ⟨ks, ns, ?_, lk, ln⟩
  congr 1
  apply Array.ext'
  have e1 : cs.toList = (cs.toList.drop 0).take 32 ++ (cs.toList.drop 32).take 32 := by
    rw [List.drop_zero]
    conv => lhs; rw [← List.take_append_drop 32 cs.toList]
    congr 1
    rw [List.take_of_length_le (by simp; omega)]
  rw [e1, hk, hn, cellsOf_app]
end
end Go.Proofs.YtfhafednnnfmbaaDoor
end

section
/-
  How a bundle, and one's own keys, read as arguments. No conditions.
-/
namespace Go.Proofs.YtfhafednnnfmbaaDoor
open Go.ChangeShapes Go.WideShapes Go.ChangeAt Go.RowKit Go.Deep
set_option maxRecDepth 100000

section
variable {H : Type} {enc : TypeId × Value → H} {W : World}
theorem bool_of_trod {P : Program} {fuel : Nat} {t : TypeId} {cs : List Value} {x : DataW H × List MemPlace} (ht : P.underlying t = some .bool) (h : DataW.trod enc P W 0 (fun _ => true) true fuel t cs = some x) : ∃ b, cs = [.bool b] := by
  cases fuel with
  | zero => simp [DataW.trod] at h
  | succ fuel =>
    simp only [DataW.trod, ht] at h
    split at h <;> simp_all
theorem take4 {α : Type} (l : List α) (a b c : Nat) {n : Nat} (h : l.length = n) (hn : n = a + (b + (c + 1))) : l = l.take a ++ ((l.drop a).take b ++ ((l.drop (a + b)).take c ++ (l.drop (a + b + c)).take 1)) := by
  conv => lhs; rw [← List.take_append_drop a l]
  congr 1
  conv => lhs; rw [← List.take_append_drop b (l.drop a)]
  congr 1
  rw [List.drop_drop]
  conv => lhs; rw [← List.take_append_drop c (l.drop (a + b))]
  congr 1
  rw [List.drop_drop, List.take_of_length_le (by simp; omega)]
theorem bundle_of_trod {r : Reach} {b : Nat} {v : Value} {d : DataW H} {p : List MemPlace} (hv : Value.okWide Tryd.prog W r b 27 v) (h : DataW.Trod enc Tryd.prog W 0 (fun _ => true) true 27 v d p) :
    ∃ xs ys zs o, v = .agg (bbC (xs ++ (ys ++ zs)) o).toArray ∧ xs.length = 32 ∧ ys.length = 32 ∧ zs.length = 32 := by
  obtain ⟨cs, rfl, hsz⟩ := okWide_struct Tryd.underlying27 hv
  have hC : Tryd.prog.cellsOf 27 = 97 := by kernel_rfl
  obtain ⟨fuel, hf⟩ := h
  obtain ⟨xs, n, _, hx, _, hlen, hg⟩ := DataW.trod_struct Tryd.underlying27 hf
  have c0 : Tryd.prog.cellsOf 23 = 32 := by kernel_rfl
  have ce : Tryd.prog.cellsOf 5 = 1 := by kernel_rfl
  have cb : Tryd.prog.cellsOf 4 = 1 := by kernel_rfl
  have hl : cs.toList.length = 97 := by rw [Array.length_toList, hsz, hC]
  have g0 : DataW.trod enc Tryd.prog W 0 (fun _ => true) true n 23 ((cs.toList.drop 0).take 32) = xs[0]? := by rw [← c0]; exact hg 0 _ rfl
  have g1 : DataW.trod enc Tryd.prog W 0 (fun _ => true) true n 23 ((cs.toList.drop 32).take 32) = xs[1]? := by rw [← c0]; exact hg 1 _ rfl
  have g2 : DataW.trod enc Tryd.prog W 0 (fun _ => true) true n 23 ((cs.toList.drop 64).take 32) = xs[2]? := by rw [← c0]; exact hg 2 _ rfl
  have g3 : DataW.trod enc Tryd.prog W 0 (fun _ => true) true n 4 ((cs.toList.drop 96).take 1) = xs[3]? := by rw [← cb]; exact hg 3 _ rfl
  have hxl : xs.length = 4 := hlen
  rw [List.getElem?_eq_getElem (by omega)] at g0 g1 g2 g3
  obtain ⟨ks, hk, lk⟩ := bytes_of_trod Tryd.underlying23 Tryd.underlying5 ce c0 g0
  obtain ⟨ns, hn, ln⟩ := bytes_of_trod Tryd.underlying23 Tryd.underlying5 ce c0 g1
  obtain ⟨ms, hm, lm⟩ := bytes_of_trod Tryd.underlying23 Tryd.underlying5 ce c0 g2
  obtain ⟨o, ho⟩ := bool_of_trod Tryd.underlying4 g3
  refine ⟨ks, ns, ms, o, ?_, lk, ln, lm⟩
  congr 1
  apply Array.ext'
  have e1 := take4 cs.toList 32 32 32 hl rfl
  rw [List.drop_zero] at hk
  rw [e1, hk, hn, hm, ho, bbC, cellsOf_app, cellsOf_app]
  simp
theorem pair_of_cells {n : Nat} {cs : List Value} {x : DataW H × List MemPlace} (hf : DataW.trod enc Tryd.prog W 0 (fun _ => true) true n 25 cs = some x) : ∃ xs : List UInt8, cs = cellsOf xs ∧ xs.length = 64 := by
  have hC : Tryd.prog.cellsOf 25 = 64 := by kernel_rfl
  obtain ⟨xs, n, _, hx, hl, hlen, hg⟩ := DataW.trod_struct Tryd.underlying25 hf
  rw [hC] at hl
  have c0 : Tryd.prog.cellsOf 23 = 32 := by kernel_rfl
  have ce : Tryd.prog.cellsOf 5 = 1 := by kernel_rfl
  have g0 : DataW.trod enc Tryd.prog W 0 (fun _ => true) true n 23 ((cs.drop 0).take 32) = xs[0]? := by rw [← c0]; exact hg 0 _ rfl
  have g1 : DataW.trod enc Tryd.prog W 0 (fun _ => true) true n 23 ((cs.drop 32).take 32) = xs[1]? := by rw [← c0]; exact hg 1 _ rfl
  have hxl : xs.length = 2 := hlen
  rw [List.getElem?_eq_getElem (by omega)] at g0 g1
  obtain ⟨ks, hk, lk⟩ := bytes_of_trod Tryd.underlying23 Tryd.underlying5 ce c0 g0
  obtain ⟨ns, hn, ln⟩ := bytes_of_trod Tryd.underlying23 Tryd.underlying5 ce c0 g1
  refine ⟨ks ++ ns, ?_, by rw [List.length_append, lk, ln]⟩
  have e1 : cs = (cs.drop 0).take 32 ++ (cs.drop 32).take 32 := by
    rw [List.drop_zero]
    conv => lhs; rw [← List.take_append_drop 32 cs]
    congr 1
    rw [List.take_of_length_le (by simp; omega)]
  rw [e1, hk, hn, cellsOf_app]
theorem own_of_trod {r : Reach} {b : Nat} {v : Value} {d : DataW H} {p : List MemPlace} (hv : Value.okWide Tryd.prog W r b 34 v) (h : DataW.Trod enc Tryd.prog W 0 (fun _ => true) true 34 v d p) :
    ∃ xs ys zs o, v = .agg (bbC (xs ++ (ys ++ zs)) o).toArray ∧ xs.length = 64 ∧ ys.length = 64 ∧ zs.length = 64 := by
  obtain ⟨cs, rfl, hsz⟩ := okWide_struct Tryd.underlying34 hv
  have hC : Tryd.prog.cellsOf 34 = 193 := by kernel_rfl
  obtain ⟨fuel, hf⟩ := h
  obtain ⟨xs, n, _, hx, _, hlen, hg⟩ := DataW.trod_struct Tryd.underlying34 hf
  have c0 : Tryd.prog.cellsOf 25 = 64 := by kernel_rfl
  have cb : Tryd.prog.cellsOf 4 = 1 := by kernel_rfl
  have hl : cs.toList.length = 193 := by rw [Array.length_toList, hsz, hC]
  have g0 : DataW.trod enc Tryd.prog W 0 (fun _ => true) true n 25 ((cs.toList.drop 0).take 64) = xs[0]? := by rw [← c0]; exact hg 0 _ rfl
  have g1 : DataW.trod enc Tryd.prog W 0 (fun _ => true) true n 25 ((cs.toList.drop 64).take 64) = xs[1]? := by rw [← c0]; exact hg 1 _ rfl
  have g2 : DataW.trod enc Tryd.prog W 0 (fun _ => true) true n 25 ((cs.toList.drop 128).take 64) = xs[2]? := by rw [← c0]; exact hg 2 _ rfl
  have g3 : DataW.trod enc Tryd.prog W 0 (fun _ => true) true n 4 ((cs.toList.drop 192).take 1) = xs[3]? := by rw [← cb]; exact hg 3 _ rfl
  have hxl : xs.length = 4 := hlen
  rw [List.getElem?_eq_getElem (by omega)] at g0 g1 g2 g3
  obtain ⟨ks, hk, lk⟩ := pair_of_cells g0
  obtain ⟨ns, hn, ln⟩ := pair_of_cells g1
  obtain ⟨ms, hm, lm⟩ := pair_of_cells g2
  obtain ⟨o, ho⟩ := bool_of_trod Tryd.underlying4 g3
  refine ⟨ks, ns, ms, o, ?_, lk, ln, lm⟩
  congr 1
  apply Array.ext'
  have e1 := take4 cs.toList 64 64 64 hl rfl
  rw [List.drop_zero] at hk
  rw [e1, hk, hn, hm, ho, bbC, cellsOf_app, cellsOf_app]
  simp
end
end Go.Proofs.YtfhafednnnfmbaaDoor
end
