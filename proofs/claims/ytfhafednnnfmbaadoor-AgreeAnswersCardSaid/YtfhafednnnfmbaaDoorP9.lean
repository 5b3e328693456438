import Derived.Test.YtfhafednnnfmbaaDoorPkC
import Derived.Test.YtfhafednnnfmbaaDoorPkB
import Derived.Test.YtfhafednnnfmbaaDoorRof
import Derived.Test.YtfhafednnnfmbaaDoorRbegin
/-
  Contracts of pairs, for layer 9.
-/
namespace Go.Proofs.YtfhafednnnfmbaaDoor
open Go.ChangeShapes Go.WideShapes Go.ChangeAt Go.RowKit Go.Deep
set_option maxRecDepth 100000

def bunP (x y z : List UInt8) (h : Bool) : List Value := bbC (bunL (pubL x) (pubL y) (pubL z) h) h
def ownP (x y z : List UInt8) (h : Bool) : List Value := bbC (pairL x ++ (pairL y ++ pairL z)) h
theorem bunP_len (x y z : List UInt8) (h : Bool) : (bunP x y z h).length = 97 := by unfold bunP; rw [bbC_len, bunL_len (pubL_len _) (pubL_len _) (pubL_len _)]
theorem ownP_len (x y z : List UInt8) (h : Bool) : (ownP x y z h).length = 193 := by unfold ownP; rw [bbC_len]; simp [pairL_len]
theorem bunP_one (x y z : List UInt8) (h : Bool) : (bunP x y z h).toArray.all (·.oneCell') = true := bbC_one _ _
theorem ownP_one (x y z : List UInt8) (h : Bool) : (ownP x y z h).toArray.all (·.oneCell') = true := bbC_one _ _
theorem bundleP {w : World} (x y z : List UInt8) (h : Bool) : Calls Tryd.prog 12 #[.agg (ownP x y z h).toArray] w fun e w' => e = .returned (.agg (bunP x y z h).toArray) ∧ Ext w w' := by
  unfold ownP
  rw [pairL_eq, pairL_eq, pairL_eq]
  exact bundle_calls (macL_len _ _) (pubL_len _) (macL_len _ _) (pubL_len _) (macL_len _ _) (pubL_len _)
theorem beginP {w : World} (x y z a f : List UInt8) (h : Bool) {tg tp : TypeId × Nat × Nat} (hG : Gl w tg) (hP : Gp w tp) : Calls Tryd.prog 8 #[.agg (cellsOf (pairL a)).toArray, .agg (cellsOf (pairL f)).toArray, .agg (bunP x y z h).toArray] w fun e w' => e = .returned (.tuple #[.agg (cellsOf (agV (ksL x y z a f h))).toArray, .int .i64 (agE (ksL x y z a f h))]) ∧ Ext w w' := by
  have := begin_calls (w := w) (bo := if h then pubL z else List.replicate 32 0) (h := h) (pairL_len a) (pairL_len f) (pubL_len x) (pubL_len y) (by cases h <;> simp [pubL_len]) hG hP
  rw [ks_begin x y z a f _ h (fun q => by rw [if_pos q])] at this
  exact this
theorem answerP {w : World} (x y z a f : List UInt8) (h : Bool) {tg tp : TypeId × Nat × Nat} (hG : Gl w tg) (hP : Gp w tp) : Calls Tryd.prog 10 #[.agg (ownP x y z h).toArray, .agg (cellsOf (pubL a)).toArray, .agg (cellsOf (pubL f)).toArray] w fun e w' => e = .returned (.tuple #[.agg (cellsOf (agV (ksL x y z a f h))).toArray, .int .i64 (agE (ksL x y z a f h))]) ∧ Ext w w' := by
  have := answer_calls (w := w) (h := h) (pairL_len x) (pairL_len y) (pairL_len z) (pubL_len a) (pubL_len f) hG hP
  rw [ks_answer] at this
  exact this
theorem kp_pub {W : World} {g : Nat} {a : List UInt8} (h : Kp W g (pairL a)) : ∀ j v, (cellsOf (pubL a))[j]? = some v → W.cell? ⟨g, 32 + j, none⟩ = some v := by
  rw [pairL_eq] at h
  exact h.at32 (macL_len _ _)
set_option maxHeartbeats 4000000 in
theorem pair1_calls (x : UInt8) (v : Value) (hv : v = .int .u8 (x.toNat : Int)) (W : World) (tgs : Nat × Nat) : Calls Tryd.prog 14 #[.slice (some ⟨W.heap.size, 0, none⟩) 1 1] (W.alloc (.cells #[v] 5 tgs)) fun e w' => e = .returned (.agg (cellsOf (pairL [x])).toArray) ∧ Ext W w' := by
  subst hv
  have hb : Bs (W.alloc (.cells #[.int .u8 (x.toNat : Int)] 5 tgs)) (some ⟨W.heap.size, 0, none⟩) 1 1 [x] := Bs.of_list rfl (heap_alloc_new _ _) ⟨rfl, by omega⟩
  exact Calls.mono (rpair_calls hb (by omega)) (fun e2 w2 q => ⟨q.1, ((Ext.refl W).alloc _).trans q.2⟩)
set_option maxHeartbeats 4000000 in
theorem pair2_calls (x y : UInt8) (u v : Value) (hu : u = .int .u8 (x.toNat : Int)) (hv : v = .int .u8 (y.toNat : Int)) (W : World) (tgs : Nat × Nat) : Calls Tryd.prog 14 #[.slice (some ⟨W.heap.size, 0, none⟩) 2 2] (W.alloc (.cells #[u, v] 5 tgs)) fun e w' => e = .returned (.agg (cellsOf (pairL [x, y])).toArray) ∧ Ext W w' := by
  subst hu
  subst hv
  have hb : Bs (W.alloc (.cells #[.int .u8 (x.toNat : Int), .int .u8 (y.toNat : Int)] 5 tgs)) (some ⟨W.heap.size, 0, none⟩) 2 2 [x, y] := Bs.of_list rfl (heap_alloc_new _ _) ⟨rfl, by omega⟩
  exact Calls.mono (rpair_calls hb (by omega)) (fun e2 w2 q => ⟨q.1, ((Ext.refl W).alloc _).trans q.2⟩)
end Go.Proofs.YtfhafednnnfmbaaDoor
