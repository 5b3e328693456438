/-
  The message keys of a walk. No conditions.
-/
import Derived.Test.YthdjojindijmnaaDoorWalk
namespace Go.Proofs.YthdjojindijmnaaDoor

theorem msgL_len (ks : List UInt8) (m : Nat) : (msgL ks m).length = m := by simp [msgL]
theorem msgL_getD {ks : List UInt8} {m k : Nat} (h : k < m) : (msgL ks m).getD k [] = keyL (chAt ks k) msgS := by
  simp [msgL, List.getD, h]
end Go.Proofs.YthdjojindijmnaaDoor
