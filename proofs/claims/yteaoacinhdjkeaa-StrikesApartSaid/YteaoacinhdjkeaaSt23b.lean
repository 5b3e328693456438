/-
  Strikes: bytesOf.
-/
import Derived.Test.YteaoacinhdjkeaaSt23
namespace Go.Proofs.Yteaoacinhdjkeaa
open Go.ChangeShapes Go.WideShapes Go.ChangeAt Go.RowKit Go.Deep Go.Maps
set_option maxRecDepth 100000

theorem own_two23 (w : World) (a b : UInt8) : Own w.heap.size (w.alloc (.cells #[.int .u8 (a.toNat : Int), .int .u8 (b.toNat : Int)] 5)) (some ⟨w.heap.size, 0, none⟩) 2 2 [a, b] :=
  ⟨rfl, .inr ⟨w.heap.size, 2, #[.int .u8 (a.toNat : Int), .int .u8 (b.toNat : Int)], rfl, Nat.le_refl _, heap_alloc_new _ _, Nat.le_refl _, by decide, rfl, rfl⟩⟩
set_option maxHeartbeats 4000000 in
theorem sbytes_calls {w : World} {r : Rk} (hr : r.kind < 256 ∧ r.acc < 256 ∧ r.id < 4294967296 ∧ r.time < 4294967296) :
    Calls Try.prog 72 #[.agg r.C.toArray] w (RetOwn (bytesR r) w) := by
  obtain ⟨h1, h2, h3, h4⟩ := hr
  obtain ⟨k, a, i, t⟩ := r
  dsimp only at h1 h2 h3 h4
  have HI : Hid (∀ (s : World) (n : Nat), n < 4294967296 → Calls Try.prog 66 #[.int .u64 (n : Int), .int .i64 4] s (RetOwn (lowL n 4).reverse s)) := fun s n hn => highO_calls (n := n) (m := 4) (many := 4) (w := s) (by omega) (by omega) (by omega) (by omega) (by omega)
  have m1 : IntKind.u8.wrap (k : Int) = (k : Int) := IntWalk.u8_in _ (by omega)
  have m2 : IntKind.u8.wrap (a : Int) = (a : Int) := IntWalk.u8_in _ (by omega)
  have m3 : IntKind.u64.wrap (i : Int) = (i : Int) := IntWalk.u64_in _ (by omega)
  have m4 : IntKind.u64.wrap (t : Int) = (t : Int) := IntWalk.u64_in _ (by omega)
  have V1 : ((UInt8.ofNat k).toNat : Int) = (k : Int) := by
    have : (UInt8.ofNat k).toNat = k := by simp; omega
    omega
  have V2 : ((UInt8.ofNat a).toNat : Int) = (a : Int) := by
    have : (UInt8.ofNat a).toNat = a := by simp; omega
    omega
  have HB : Hid (bytesR ⟨k, a, i, t⟩ = ([UInt8.ofNat k, UInt8.ofNat a] ++ (lowL i 4).reverse) ++ (lowL t 4).reverse) := rfl
  have Li : ((lowL i 4).reverse).length = 4 := by rw [List.length_reverse, lowL_len]
  have Lt : ((lowL t 4).reverse).length = 4 := by rw [List.length_reverse, lowL_len]
  generalize bytesR ⟨k, a, i, t⟩ = BR at *
  obtain ⟨g, hg⟩ : ∃ q, q = w.heap.size := ⟨_, rfl⟩
  have B0 : Hid (Cb (w.alloc (.cells (⟨k, a, i, t⟩ : Rk).C.toArray 124)) g 124 [.int .i64 (k : Int), .int .i64 (a : Int), .int .i64 (i : Int), .int .i64 (t : Int)] ∧ Ext w (w.alloc (.cells (⟨k, a, i, t⟩ : Rk).C.toArray 124))) := by rw [hg]; exact ⟨Cb.new _ _ _, (Ext.refl w).alloc _⟩
  go_enter Try.func72, Try.ntmps72
  go_upto_region 1 with fail
  refine wp_gen (fun W => Cb W g 124 [.int .i64 (k : Int), .int .i64 (a : Int), .int .i64 (i : Int), .int .i64 (t : Int)] ∧ Ext w W) B0.out ?_
  rw [← hg]
  replace hg := Lib.hid hg
  clear B0
  rintro w0 ⟨k0, x0⟩
  have CS : Hid (∀ s, Ext w0 s → s.cell? ⟨g, 0, none⟩ = some (.int .i64 (k : Int)) ∧ s.cell? ⟨g, 1, none⟩ = some (.int .i64 (a : Int)) ∧ s.cell? ⟨g, 2, none⟩ = some (.int .i64 (i : Int)) ∧ s.cell? ⟨g, 3, none⟩ = some (.int .i64 (t : Int))) := fun s e => ⟨(k0.ext e).cell rfl, (k0.ext e).cell rfl, (k0.ext e).cell rfl, (k0.ext e).cell rfl⟩
  have ot := own_two23 w0 (UInt8.ofNat k) (UInt8.ofNat a)
  rw [V1, V2] at ot
  have K1 : Hid (Own w0.heap.size (w0.alloc (.cells #[.int .u8 (k : Int), .int .u8 (a : Int)] 5)) (some ⟨w0.heap.size, 0, none⟩) 2 2 [UInt8.ofNat k, UInt8.ofNat a] ∧ Ext w0 (w0.alloc (.cells #[.int .u8 (k : Int), .int .u8 (a : Int)] 5))) := ⟨ot, (Ext.refl w0).alloc _⟩
  have c0 := CS.out w0 (Ext.refl w0)
  obtain ⟨c1, c2, _, _⟩ := c0
  replace x0 := Lib.hid x0
  clear ot k0
  go_upto_region 2 with fail
  refine wp_gen (fun W => Own w0.heap.size W (some ⟨w0.heap.size, 0, none⟩) 2 2 [UInt8.ofNat k, UInt8.ofNat a] ∧ Ext w0 W) K1.out ?_
  clear K1 c1 c2
  rintro w1 ⟨o1, x1⟩
  have c3 := (CS.out w1 x1).2.2.1
  replace o1 := Lib.hid o1
  replace x1 := Lib.hid x1
  go_wp2_with fail
  refine (HI.out w1 i h3).mono ?_
  rintro e w2 ⟨A2, n2, cc2, rfl, o2, x2⟩
  obtain rfl : n2 = 4 := by rw [← o2.len, Li]
  have o12 := Lib.hid (o1.out.ext x2)
  have b2 := Lib.hid o2.bs
  have X2 := Lib.hid (x1.out.trans x2)
  have sz2 : w0.heap.size ≤ w2.heap.size := X2.out.size
  clear o1 o2 x1 x2 c3
  go_upto_region 3 with (at_builtin; refine wpList_append_bs rfl (B := w0.heap.size) (s := .tmp 11) (x := .tmp 15) rfl rfl rfl o12.out b2.out (by omega) sz2 ?_; intro D3 cc3 w3 o3 hg3 hbl3; replace o3 := Lib.hid o3; have x3 := Lib.hid (X2.out.trans' hbl3))
  have c4 := (CS.out w3 x3.out).2.2.2
  clear o12 b2 X2 sz2 hg3 hbl3
  go_wp2_with fail
  refine (HI.out w3 t h4).mono ?_
  rintro e w4 ⟨A4, n4, cc4, rfl, o4, x4⟩
  obtain rfl : n4 = 4 := by rw [← o4.len, Lt]
  have o34 := Lib.hid (o3.out.ext x4)
  have b4 := Lib.hid o4.bs
  have X4 := Lib.hid (x3.out.trans x4)
  have sz4 : w0.heap.size ≤ w4.heap.size := X4.out.size
  clear o3 o4 x3 x4 c4
  go_wp2_with (at_builtin; refine wpList_append_bs rfl (B := w0.heap.size) (s := .tmp 17) (x := .tmp 21) rfl rfl rfl o34.out b4.out (by omega) sz4 ?_; intro D5 cc5 w5 o5 hg5 hbl5; replace o5 := Lib.hid o5; have x5 := Lib.hid (X4.out.trans' hbl5))
  go_ret
  exact ⟨D5, _, cc5, rfl, by rw [HB.out]; exact Own.mono o5.out x0.out.size, x0.out.trans x5.out⟩
end Go.Proofs.Yteaoacinhdjkeaa
