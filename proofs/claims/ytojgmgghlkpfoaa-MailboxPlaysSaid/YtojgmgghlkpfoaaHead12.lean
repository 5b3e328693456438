import Derived.Test.YtojgmgghlkpfoaaPkB
/-
  head.Bytes and head.Envelope, whole, and the document's; the law's awake (layer 12).
-/
namespace Go.Proofs.Ytojgmgghlkpfoaa
open Go.ChangeShapes Go.WideShapes Go.ChangeAt Go.RowKit Go.Deep
set_option maxRecDepth 100000

def hbE (p n : Int) : Int := if okH p n then 0 else 1
def hbX (pk : List UInt8) (p n : Int) : List UInt8 := if okH p n then headL pk p.toNat n.toNat else []
def enE (f t p n : Int) (m : Nat) : Int := if okE f t p n m then 0 else 1
def enX (f t : Int) (cm pk : List UInt8) (p n : Int) (body : List UInt8) : List UInt8 := if okE f t p n body.length then envL (UInt8.ofNat f.toNat) (UInt8.ofNat t.toNat) cm pk p.toNat n.toNat body else []
theorem okH_nat {p n : Int} (h : okH p n = true) : ∃ a b : Nat, p = (a : Int) ∧ n = (b : Int) ∧ a ≤ 1000000 ∧ b ≤ 1000000 := by
  unfold okH upB at h
  simp only [Bool.and_eq_true, decide_eq_true_eq] at h
  exact ⟨p.toNat, n.toNat, by omega, by omega, by omega, by omega⟩
theorem okE_nat {f t p n : Int} {m : Nat} (h : okE f t p n m = true) : ∃ (x y : UInt8) (a b : Nat), f = (x.toNat : Int) ∧ t = (y.toNat : Int) ∧ p = (a : Int) ∧ n = (b : Int) ∧ x.toNat ≤ 7 ∧ y.toNat ≤ 7 ∧ a ≤ 1000000 ∧ b ≤ 1000000 ∧ m ≤ 600 ∧ x = UInt8.ofNat f.toNat ∧ y = UInt8.ofNat t.toNat := by
  unfold okE at h
  simp only [Bool.and_eq_true] at h
  obtain ⟨h1, h2, h3, h4⟩ := h
  obtain ⟨a, b, rfl, rfl, ha, hb⟩ := okH_nat h3
  unfold upB at h1 h2
  simp only [Bool.and_eq_true, decide_eq_true_eq] at h1 h2 h4
  have e1 : (UInt8.ofNat f.toNat).toNat = f.toNat := by rw [UInt8.toNat_ofNat']; omega
  have e2 : (UInt8.ofNat t.toNat).toNat = t.toNat := by rw [UInt8.toNat_ofNat']; omega
  exact ⟨UInt8.ofNat f.toNat, UInt8.ofNat t.toNat, a, b, by omega, by omega, rfl, rfl, by omega, by omega, ha, hb, by omega, rfl, rfl⟩
theorem hbytes_calls {w : World} {pk : List UInt8} {p n : Int} (lp : pk.length = 32) : Calls Try.prog 13 #[.agg (hdC pk p n).toArray] w (RetBsE (hbX pk p n) (hbE p n) w) := by
  rcases h : okH p n with _ | _
  · unfold hbX hbE
    rw [h]
    exact (headBytes_bad lp h).mono fun e w' q => ⟨none, 0, 0, q.1, Bs.nil _, q.2⟩
  · obtain ⟨a, b, rfl, rfl, ha, hb⟩ := okH_nat h
    unfold hbX hbE
    rw [h]
    exact headBytes_ok lp ha hb
theorem rbytes_calls {w : World} {pk : List UInt8} {p n : Int} (lp : pk.length = 32) : Calls Try.prog 14 #[.agg (hdC pk p n).toArray] w (RetBsE (hbX pk p n) (hbE p n) w) := by
  rcases h : okH p n with _ | _
  · unfold hbX hbE
    rw [h]
    exact (refBytes_bad lp h).mono fun e w' q => ⟨none, 0, 0, q.1, Bs.nil _, q.2⟩
  · obtain ⟨a, b, rfl, rfl, ha, hb⟩ := okH_nat h
    unfold hbX hbE
    rw [h]
    exact refBytes_ok lp ha hb
theorem henv_calls {w : World} {f t p n : Int} {cm pk body : List UInt8} {A : Option Addr} {m c : Nat} (hc : cm.length = 32) (hk : pk.length = 32) (hb : Bs w A m c body) :
    Calls Try.prog 17 #[.agg (evC f t cm pk p n A m c).toArray] w (RetBsE (enX f t cm pk p n body) (enE f t p n m) w) := by
  have lm := hb.len
  have hm : m ≤ 9223372036854775807 := Nat.le_trans hb.le hb.cap
  rcases h : okE f t p n m with _ | _
  · unfold enX enE
    rw [lm, h]
    exact (envelope_bad hc hk hm h).mono fun e w' q => ⟨none, 0, 0, q.1, Bs.nil _, q.2⟩
  · obtain ⟨x, y, a, b, h1, h2, rfl, rfl, hx, hy, ha, hb', hm', e1, e2⟩ := okE_nat h
    unfold enX enE
    rw [lm, h, ← e1, ← e2, h1, h2]
    exact envelope_ok hc hk hx hy ha hb' hb hm'
theorem renv_calls {w : World} {f t p n : Int} {cm pk body : List UInt8} {A : Option Addr} {m c : Nat} (hc : cm.length = 32) (hk : pk.length = 32) (hb : Bs w A m c body) :
    Calls Try.prog 18 #[.agg (evC f t cm pk p n A m c).toArray] w (RetBsE (enX f t cm pk p n body) (enE f t p n m) w) := by
  have lm := hb.len
  have hm : m ≤ 9223372036854775807 := Nat.le_trans hb.le hb.cap
  rcases h : okE f t p n m with _ | _
  · unfold enX enE
    rw [lm, h]
    exact (refEnvelope_bad hc hk hm h).mono fun e w' q => ⟨none, 0, 0, q.1, Bs.nil _, q.2⟩
  · obtain ⟨x, y, a, b, h1, h2, rfl, rfl, hx, hy, ha, hb', hm', e1, e2⟩ := okE_nat h
    unfold enX enE
    rw [lm, h, ← e1, ← e2, h1, h2]
    exact refEnvelope_ok hc hk hx hy ha hb' hb hm'
theorem head5_built : Try.prog.built 25 [(2, .int .i64 5)] = some (hdC (List.replicate 32 0) 0 5).toArray := by kernel_rfl
theorem env1_built (A : Option Addr) : Try.prog.built 35 [(1, .int .i64 1), (4, .slice A 2 2)] = some (evC 0 1 (List.replicate 32 0) (List.replicate 32 0) 0 0 A 2 2).toArray := by kernel_rfl
theorem aw12_read : rhC (hbX (List.replicate 32 0) 0 5) = hdC (List.replicate 32 0) 0 5 ∧ reH (hbX (List.replicate 32 0) 0 5) = 0 := by
  have h : okH 0 5 = true := by decide
  have e : hbX (List.replicate 32 0) 0 5 = headL (List.replicate 32 0) 0 5 := by unfold hbX; rw [h]; rfl
  rw [e]
  have a : (headL (List.replicate 32 0) 0 5).length = 40 := by decide +kernel
  have b : numN ((headL (List.replicate 32 0) 0 5).drop 32) 4 = 0 := by decide +kernel
  have c : numN ((headL (List.replicate 32 0) 0 5).drop 36) 4 = 5 := by decide +kernel
  have d : (headL (List.replicate 32 0) 0 5).take 32 = List.replicate 32 0 := by decide +kernel
  obtain ⟨q1, q2⟩ := reH_d a (by unfold okY; rw [b, c]; decide)
  rw [q1, q2, b, c, d]
  exact ⟨rfl, rfl⟩
set_option maxHeartbeats 4000000 in
theorem awake12_calls {w : World} : Calls Try.prog 12 #[] w fun e w' => e = .returned (.bool true) ∧ Ext w w' := by
  have hcv := conv_const
  have HB : Hid (∀ (W : World), Calls Try.prog 13 #[.agg (hdC (List.replicate 32 0) 0 5).toArray] W (RetBsE (hbX (List.replicate 32 0) 0 5) 0 W)) := fun W => hbytes_calls rfl
  have HL : Hid ((hbX (List.replicate 32 0) 0 5).length = 40) := by unfold Hid; decide +kernel
  have RD : Hid (∀ (W : World) A n c, Bs W A n c (hbX (List.replicate 32 0) 0 5) → Calls Try.prog 15 #[.slice A n c] W fun e w' => e = .returned (.tuple #[.agg (hdC (List.replicate 32 0) 0 5).toArray, .int .i64 0]) ∧ Ext W w') := fun W A n c hb => by
    have := hread_calls hb
    rw [aw12_read.1, aw12_read.2] at this
    exact this
  have EN : Hid (∀ (W : World) A (body : List UInt8), body.length = 2 → Bs W A 2 2 body → Calls Try.prog 17 #[.agg (evC 0 1 (List.replicate 32 0) (List.replicate 32 0) 0 0 A 2 2).toArray] W fun e w' => ∃ A c, e = .returned (.tuple #[.slice A 78 c, .int .i64 0]) ∧ Ext W w') := fun W A body l hb => (henv_calls (body := body) rfl rfl hb).mono fun e w' q => by
    obtain ⟨A', n, c, h1, h2, h3⟩ := q
    have hl := h2.len
    unfold enX at hl
    rw [l, show okE 0 1 0 0 2 = true by decide, if_pos rfl, envL_len rfl rfl, l] at hl
    subst hl
    exact ⟨A', c, h1, h3⟩
  have B5 := Lib.hid head5_built
  have B1 := Lib.hid env1_built
  have hal := head_alloc
  have L_hz : (hdC (List.replicate 32 0) 0 0).length = 34 := hdC_len rfl 0 0
  have L_h5 : (hdC (List.replicate 32 0) 0 5).length = 34 := hdC_len rfl 0 5
  have O_h5 : Hid ((hdC (List.replicate 32 0) 0 5).toArray.all (·.oneCell') = true) := hd_one
  have C5 : Hid ((hdC (List.replicate 32 0) 0 5)[33]? = some (.int .i64 5)) := rfl
  generalize hbX (List.replicate 32 0) 0 5 = hb at *
  generalize hdC (List.replicate 32 0) 0 0 = hz at *
  generalize hdC (List.replicate 32 0) 0 5 = h5 at *
  have S_hz : hz.toArray.size = 34 := by rw [List.size_toArray, L_hz]
  have S_h5 : h5.toArray.size = 34 := by rw [List.size_toArray, L_h5]
  go_enter Try.func12, Try.ntmps12
  go_wp2_with (((with_reducible refine wpList_build_as (o := ⟨some 8, .build 25 _, _, _, _, _⟩) ?_ 25 _ rfl h5.toArray ?_ ?_); (· rfl); (· simp only [List.map_toArray, List.map_cons, List.map_nil]; exact B5.out); simp only [Act.put, List.setIfInBounds_toArray, List.set_cons_zero, List.set_cons_succ]))
  refine (HB.out _).mono ?_
  rintro e w1 ⟨A1, n1, c1, rfl, b1, e1⟩
  obtain rfl : n1 = 40 := by rw [← b1.len, HL.out]
  have RDc := Lib.hid (RD.out _ _ _ _ b1)
  replace e1 := Lib.hid e1
  clear HB RD b1
  go_wp2_with fail
  refine RDc.out.mono ?_
  rintro e u_ ⟨rfl, e2⟩
  have a1 : Hid ((u_.alloc (Obj.cells hz.toArray 25)).heap[u_.heap.size]? = some (.cells hz.toArray 25 (0, 0))) := heap_alloc_new _ _
  have E_ : Ext w ((u_.alloc (Obj.cells hz.toArray 25)).setRow u_.heap.size h5.toArray) := (e1.out.trans e2).trans (below_setRow ((Ext.refl u_).alloc _) (Nat.le_refl _) _)
  go_upto_region 3 with (((with_reducible refine wpList_store_row (o := ⟨none, .store 25 (.tmp 3) (.tmp 15), _, _, _, _⟩) ?_ 25 _ _ rfl u_.heap.size h5.toArray ?_ ?_ 25 hz.toArray ?_ ?_ ?_ ?_ ?_); (· rfl); (· rfl); (· rfl); (· exact a1.out); (· rw [S_h5]; rfl); (· rw [S_h5, S_hz]); (· exact O_h5.out); simp only [Act.put, List.setIfInBounds_toArray, List.set_cons_zero, List.set_cons_succ]))
  obtain ⟨g, hg_⟩ : ∃ g, g = u_.heap.size := ⟨_, rfl⟩
  refine wp_gen (fun W => Cb W g 25 h5 ∧ Ext w W) ⟨by rw [hg_]; exact setRow_heap _ _ _ _ _ _ a1.out, E_⟩ ?_
  rw [← hg_]
  clear hg_ a1 E_ e1 e2 RDc
  rintro w2 ⟨k2, x2⟩
  replace k2 := Lib.hid k2
  replace x2 := Lib.hid x2
  have BL : Hid (Bs (w2.alloc (.cells #[.int .u8 97, .int .u8 98] 5 (2, 3))) (some ⟨w2.heap.size, 0, none⟩) 2 2 [97, 98] ∧ Ext w2 (w2.alloc (.cells #[.int .u8 97, .int .u8 98] 5 (2, 3)))) := ⟨Bs.of_list rfl (heap_alloc_new _ _) ⟨rfl, by omega⟩, (Ext.refl w2).alloc _⟩
  have ENc := Lib.hid (EN.out _ _ _ rfl BL.out.1)
  clear EN
  have B1c := Lib.hid (B1.out (some ⟨w2.heap.size, 0, none⟩))
  clear B1
  generalize evC 0 1 (List.replicate 32 0) (List.replicate 32 0) 0 0 (some ⟨w2.heap.size, 0, none⟩) 2 2 = ev at *
  go_wp2_with (((with_reducible refine wpList_build_as (o := ⟨some 20, .build 35 _, _, _, _, _⟩) ?_ 35 _ rfl ev.toArray ?_ ?_); (· rfl); (· simp only [List.map_toArray, List.map_cons, List.map_nil]; exact B1c.out); simp only [Act.put, List.setIfInBounds_toArray, List.set_cons_zero, List.set_cons_succ]))
  refine ENc.out.mono ?_
  rintro e w3 ⟨A3, c3, rfl, e3⟩
  have k3 := (k2.out.ext (BL.out.2.trans e3)).cell C5.out
  have x3 := Lib.hid (x2.out.trans (BL.out.2.trans e3))
  clear ENc k2 x2 BL e3
  go_wp2_with fail
  go_ret
  exact ⟨rfl, x3.out⟩
end Go.Proofs.Ytojgmgghlkpfoaa
