/-
  commit.Unpack of too few bytes; and all that it tells in one.
-/
import Derived.Test.YthdjojindijmnaaDoorUnpack
namespace Go.Proofs.YthdjojindijmnaaDoor
open Go.ChangeShapes Go.WideShapes Go.ChangeAt Go.RowKit Go.Deep
set_option maxRecDepth 100000

def unK (bs : List UInt8) : List UInt8 := if bs.length < 32 then List.replicate 32 0 else bs.take 32
def unT (bs : List UInt8) : List UInt8 := if bs.length < 32 then [] else bs.drop 32
def unE (bs : List UInt8) : Int := if bs.length < 32 then 3 else 0
theorem unK_len (bs : List UInt8) : (unK bs).length = 32 := by
  unfold unK
  split
  · simp
  · rw [List.length_take]; omega
theorem unT_len (bs : List UInt8) : (unT bs).length ≤ bs.length := by
  unfold unT
  split
  · simp
  · rw [List.length_drop]; omega

set_option maxHeartbeats 1000000 in
theorem unpack_err {A : Option Addr} {n c : Nat} {bs : List UInt8} {w : World} (h : Bs w A n c bs) (hn : n < 32) :
    Calls Tryd.prog 19 #[.slice A n c] w (RetUn (List.replicate 32 0) [] 3 w) := by
  have c1 := h.le
  have c2 := h.cap
  have hal := key_alloc
  have hb := zeros32_built
  have hs := zeros32_size
  have ho := zeros32_one
  have hc := Lib.hid zeros32_cells
  have hz : Hid ((w.alloc (Obj.cells zeros32 23)).heap[w.heap.size]? = some (Obj.cells zeros32 23)) := heap_alloc_new _ _
  have he : Hid (∀ C, Ext w ((w.alloc (Obj.cells zeros32 23)).setRow w.heap.size C)) := fun C => below_setRow ((Ext.refl w).alloc _) (Nat.le_refl _) _
  unfold RetUn
  rw [hc.out]
  clear hc
  generalize zeros32 = Z at *
  have q1' : decide ((n : Int) < 32) = true := decide_eq_true (by omega)
  clear h
  go_enter Tryd.func19, Tryd.ntmps19
  go_wp2_with (first
    | refine wpList_build_as rfl _ _ rfl Z hb ?_
    | refine wpList_store_row rfl 23 _ _ rfl w.heap.size Z rfl rfl 23 _ (by with_reducible exact hz.out) (by rw [hs]; rfl) rfl ho ?_)
  (try simp only [Exit.inBlock, Exit.then])
  refine bodyPost_ret (v := .tuple #[.agg Z, .slice none 0 0, .int .i64 3]) ?_ rfl ?_
  · exact results_ctt rfl _ _ w.heap.size 23 Z (0, 0) _ _ _ rfl rfl rfl (setRow_heap _ _ _ _ _ _ hz.out) rfl rfl (by rw [hs]; rfl)
  · exact ⟨none, 0, 0, rfl, Bs.nil _, he.out _⟩

theorem unpackAll_calls {A : Option Addr} {n c : Nat} {bs : List UInt8} {w : World} (h : Bs w A n c bs) (hm : n ≤ 100000000) :
    Calls Tryd.prog 19 #[.slice A n c] w (RetUn (unK bs) (unT bs) (unE bs) w) := by
  have hl := h.len
  unfold unK unT unE
  by_cases q : n < 32
  · rw [if_pos (by omega), if_pos (by omega), if_pos (by omega)]
    exact unpack_err h q
  · rw [if_neg (by omega), if_neg (by omega), if_neg (by omega)]
    exact unpack_calls h (by omega) hm
end Go.Proofs.YthdjojindijmnaaDoor
