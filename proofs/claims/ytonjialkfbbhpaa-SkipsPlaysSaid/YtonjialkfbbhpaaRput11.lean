/-
  palfreyref11.Put.
-/
import Derived.Test.YtonjialkfbbhpaaRk11
import Derived.Test.YtonjialkfbbhpaaSeqTZ
namespace Go.Proofs.Ytonjialkfbbhpaa
open Go.ChangeShapes Go.WideShapes Go.ChangeAt Go.RowKit Go.Deep Go.Maps
set_option maxRecDepth 100000

def zR11 : List Value := (⟨List.replicate 32 0, 0, List.replicate 32 0, 0⟩ : Kp).rC
theorem zR11_len : zR11.length = 65 := by kernel_rfl
theorem zR11_cells : (Value.agg zR11.toArray).cells.size = 65 := by rw [cells_agg, List.size_toArray, zR11_len]
theorem infoR11 : (Try.prog.info? 89).map (fun i => (i.zero, i.size, i.bytes)) = some (some (.agg zR11.toArray), 65, (Try.prog.info? 89).elim 0 (·.bytes)) := by kernel_rfl
theorem bytesR11 : (Try.prog.info? 89).elim 0 (·.bytes) ≤ 1000000 := by decide +kernel
theorem kept_built {x : Kp} (h : x.ok) : Try.prog.built 89 [(0, .agg (cellsOf x.pk).toArray), (1, .int .i64 x.n), (2, .agg (cellsOf x.k).toArray)] = some x.rC.toArray := by
  have hh : ∃ pl : Nat → Option (Nat × Nat), (pl 0 = some (0, 32) ∧ pl 1 = some (32, 1) ∧ pl 2 = some (33, 32)) ∧ ∀ ps, Try.prog.built 89 ps = Instr.fill pl zR11.toArray ps := ⟨(#[(0, 32), (32, 1), (33, 32)][·]?), ⟨rfl, rfl, rfl⟩, fun ps => by kernel_rfl⟩
  obtain ⟨pl, ⟨h0, h1, h2⟩, hp⟩ := hh
  have l1 : (cellsOf x.pk).length = 32 := by rw [cellsOf_len, h.1]
  have l2 : (cellsOf x.k).length = 32 := by rw [cellsOf_len, h.2.1]
  have z1 : (cellsOf (List.replicate 32 (0 : UInt8))).length = 32 := by rw [cellsOf_len]; rfl
  have e : zR11 = cellsOf (List.replicate 32 0) ++ ([.int .i64 0] ++ cellsOf (List.replicate 32 0)) := rfl
  rw [hp, fill_step h0 (by rw [cells_agg, List.size_toArray, l1]) (by rw [zR11_len]; omega), cells_agg, List.toList_toArray, e, splice_zero (by rw [l1, z1])]
  rw [fill_step h1 rfl (by rw [List.length_append, List.length_append, l1, z1]; simp), show (Value.int .i64 x.n).cells.toList = [Value.int .i64 x.n] from rfl, splice_mid (p := cellsOf x.pk) (y := [Value.int .i64 0]) (z := [Value.int .i64 x.n]) l1 rfl]
  rw [fill_step h2 (by rw [cells_agg, List.size_toArray, l2]) (by rw [List.length_append, List.length_append, l1, z1]; simp), cells_agg, List.toList_toArray, ← List.append_assoc, splice_last (p := cellsOf x.pk ++ [Value.int .i64 x.n]) (by rw [List.length_append, l1]; rfl) (by rw [l2, z1])]
  rw [List.append_assoc]
  rfl
/-- Where the keys lie. -/
def Ty11 (w : World) (A : Option Addr) (n : Nat) : Prop := 0 < n → ∀ q, A = some q → ∃ cs, w.heap[q.block]? = some (.cells cs 89 (0, 0))
theorem OwnC.ty {B : Nat} {w : World} {A : Option Addr} {n c : Nat} {L : List (List Value)} (h : OwnC B w 89 65 A n c L) : Ty11 w A n := fun h0 q hq => by
  rcases h.1.2 with ⟨hv, hn⟩ | ⟨g, cap, cur, hv, hb, hg, _⟩
  · omega
  · injection hv with e1 _ _
    rw [hq] at e1
    injection e1 with e1
    subst e1
    exact ⟨_, hg⟩
theorem RK.put {w : World} {g : Nat} {u : Value} {A : Option Addr} {n c : Nat} {L : List Kp} (kg : Cb w g 29 [u]) (cs : Cs w 65 A n c (L.map Kp.rC)) (ty : Ty11 w A n) (ok : ∀ x ∈ L, x.ok) :
    RK (w.setCell ⟨g, 0, none⟩ (.slice A n c)) g L ∧ Cs (w.setCell ⟨g, 0, none⟩ (.slice A n c)) 65 A n c (L.map Kp.rC) ∧ Ty11 (w.setCell ⟨g, 0, none⟩ (.slice A n c)) A n ∧ Cb (w.setCell ⟨g, 0, none⟩ (.slice A n c)) g 29 [.slice A n c] := by
  have ot : ∀ (i : Nat) (cc : Array Value), w.heap[i]? = some (Obj.cells cc 89 (0, 0)) → (w.setCell ⟨g, 0, none⟩ (.slice A n c)).heap[i]? = some (Obj.cells cc 89 (0, 0)) := fun i cc hi => (Below.heap_setCell _ _ _ _ (show i ≠ g from fun q => by
    subst q
    unfold Cb at kg
    rw [kg] at hi
    injection hi with hi
    injection hi with _ hi
    exact absurd hi (by decide))).trans hi
  have cs' : Cs (w.setCell ⟨g, 0, none⟩ (.slice A n c)) 65 A n c (L.map Kp.rC) := ⟨cs.1, cs.2.1, fun h0 => by
    obtain ⟨b, off, hA, hb, hc⟩ := cs.2.2 h0
    obtain ⟨cc, hcc⟩ := ty h0 _ hA
    have k := ot _ _ hcc
    exact ⟨b, off, hA, heap_lt k, fun q v hv => (cell_of_heap (k.trans hcc.symm) _).trans (hc q v hv)⟩⟩
  have ty' : Ty11 (w.setCell ⟨g, 0, none⟩ (.slice A n c)) A n := fun h0 q hq => by
    obtain ⟨cc, hcc⟩ := ty h0 q hq
    exact ⟨cc, ot _ _ hcc⟩
  have cb' : Cb (w.setCell ⟨g, 0, none⟩ (.slice A n c)) g 29 [.slice A n c] := kg.setCell
  exact ⟨⟨A, n, c, cb', cs', ty', ok⟩, cs', ty', cb'⟩
theorem Ty11.cut {w : World} {A : Option Addr} {n c k : Nat} (h : Ty11 w A n) (hk : k ≤ n) : Ty11 w (if c = k then A else A.map (·.add (k * 65))) (n - k) := fun h0 q hq => by
  by_cases e : c = k
  · rw [if_pos e] at hq
    exact h (by omega) q hq
  · rw [if_neg e] at hq
    cases A with
    | none => cases hq
    | some a =>
      injection hq with hq
      subst hq
      obtain ⟨cs, hcs⟩ := h (by omega) a rfl
      refine ⟨cs, ?_⟩
      have : (a.add (k * 65)).block = a.block := by unfold Addr.add; split <;> rfl
      rw [this]; exact hcs
theorem gr_cell (w : World) (g o : Nat) (v : Value) : w.grownBy (w.setCell ⟨g, o, none⟩ v) (some g) := ⟨rfl, rfl, rfl, by simp [World.setCell], fun i _ h => Below.heap_setCell _ _ _ _ (fun q => h (by rw [q]))⟩
theorem gr_ext11 {w w' : World} (g : Nat) (e : Ext w w') : w.grownBy w' (some g) := ⟨e.os, e.tape, e.output, e.size, fun i hi _ => e.block i hi⟩
theorem Own_ne_size {B : Nat} {w : World} {e : TypeId} {s : Nat} {A : Option Addr} {n c : Nat} {L : List (List Value)} (h : OwnC B w e s A n c L) : Value.ownBlock (.slice A n c) ≠ some w.heap.size := fun q => by
  have := (World.ownsRow.lt h.1 _ q).2
  omega
theorem lit_ne11 {g s n c : Nat} (h : g < s) : Value.ownBlock (.slice (some ⟨s, 0, none⟩) n c) ≠ some g := fun q => by
  have := Option.some.inj q
  simp only at this
  omega
theorem own_step11 {V V' : Value} {g s : Nat} (h : V.ownBlock ≠ some g) (hs : g < s) (h3 : V'.ownBlock = V.ownBlock ∨ V'.ownBlock = some s) : V'.ownBlock ≠ some g := fun q => by
  rcases h3 with e | e
  · exact h (e ▸ q)
  · rw [e] at q
    have := Option.some.inj q
    omega
theorem Cb.grown11 {w w' : World} {row : Option Nat} {g : Nat} {T : TypeId} {L : List Value} (t : w.grownBy w' row) (h : Cb w g T L) (hne : some g ≠ row) : Cb w' g T L := (t.block g h.lt hne).trans h
set_option maxHeartbeats 16000000 in
theorem rput11_calls {w : World} {g : Nat} {L : List Kp} (h : RK w g L) {X : Kp} (hx : X.ok) (hL : L.length ≤ 8) :
    Calls Try.prog 15 #[.pointer (some ⟨g, 0, none⟩), .agg (cellsOf X.pk).toArray, .int .i64 X.n, .agg (cellsOf X.k).toArray] w fun e w' => e = .returned (.int .i64 (putE L X.pk X.n)) ∧ RK w' g (putR L X) ∧ w.grownBy w' (some g) := by
  have RA : Hid (∀ s, Ext w s → Calls Try.prog 38 #[.pointer (some ⟨g, 0, none⟩), .agg (cellsOf X.pk).toArray, .int .i64 X.n] s fun e w' => ∃ r : Int, e = .returned (.int .i64 r) ∧ ((hasK L X.pk X.n = false ∧ r = -1) ∨ ∃ k : Nat, r = (k : Int) ∧ k < L.length ∧ (∃ x, L[k]? = some x ∧ x.at X.pk X.n = true) ∧ ∀ j x, j < k → L[j]? = some x → x.at X.pk X.n = false) ∧ Ext s w') := fun s e => rat_calls (h.ext e) (by omega) hx.1
  have BL := Lib.hid (kept_built hx)
  have S_p : (cellsOf X.pk).toArray.size = 32 := by simp [cellsOf_len, hx.1]
  have S_k : (cellsOf X.k).toArray.size = 32 := by simp [cellsOf_len, hx.2.1]
  have L_C := Kp.rC_len hx
  have O_C := Lib.hid (one_rC X)
  have SAME : Hid (∀ s, Ext w s → RK s g L ∧ w.grownBy s (some g)) := fun s e => ⟨h.ext e, gr_ext11 g e⟩
  have OKL : Hid (∀ x ∈ L ++ [X], x.ok) := fun x hx' => by
    obtain ⟨_, _, _, _, _, _, ok⟩ := h
    rcases List.mem_append.1 hx' with q | q
    · exact ok x q
    · rw [List.mem_singleton.1 q]; exact hx
  obtain ⟨A, n, c, hcb, how, hty, _⟩ := h
  have hLn : L.length = n := by have := how.1.1; rwa [List.length_map] at this
  have n8 : n ≤ 8 := by omega
  have hcap := how.2.1
  have c9 : c ≤ 9223372036854775807 := by have := hcap.2; unfold maxLen at this; omega
  have hcap1 := hcap.1
  have glt := hcb.lt
  obtain ⟨PE, hPE⟩ : ∃ PE, PE = putE L X.pk X.n := ⟨_, rfl⟩
  obtain ⟨RL, hRL⟩ : ∃ RL, RL = putR L X := ⟨_, rfl⟩
  rw [← hPE, ← hRL]
  have NP : Hid (PE ≠ 0 → RL = L) := fun q => by rw [hRL]; unfold putR; rw [if_neg (by rw [← hPE]; exact q)]
  have HN : Hid (X.n < 0 → PE = 1) := fun q => by rw [hPE]; unfold putE; rw [if_pos q]
  have HT : Hid (¬ X.n < 0 → hasK L X.pk X.n = true → PE = 9) := fun q r => by rw [hPE]; unfold putE; rw [if_neg q, if_pos r]
  have HZ : Hid (¬ X.n < 0 → hasK L X.pk X.n = false → PE = 0 ∧ RL = putL L X) := fun q r => by
    have : putE L X.pk X.n = 0 := by unfold putE; rw [if_neg q, r]; rfl
    rw [hPE, hRL]
    unfold putR
    exact ⟨this, by rw [if_pos this]⟩
  have PL : Hid (putL L X = if n < 8 then L ++ [X] else (L ++ [X]).drop 1) := by
    unfold Hid putL
    rw [hLn]
    split
    · rfl
    · rw [List.drop_append_of_le_length (by omega)]
  replace hPE := Lib.hid (fun _ : Unit => hPE)
  replace hRL := Lib.hid (fun _ : Unit => hRL)
  replace hLn := Lib.hid hLn
  have P7e : Hid (∀ s, Ext w s → Cb s g 29 [.slice A n c] ∧ Cs s 65 A n c (L.map Kp.rC)) := fun s e => ⟨hcb.ext e, how.ext e⟩
  have O_L : Hid (∀ x ∈ L.map Kp.rC, ∀ u ∈ x, u.oneCell' = true) := fun x hx u hu => by obtain ⟨z, _, rfl⟩ := List.mem_map.1 hx; exact one_rC z u hu
  have RC : Hid (∀ LL : List Kp, LL = L ++ [X] → LL.map Kp.rC = L.map Kp.rC ++ [X.rC]) := fun LL e => by rw [e, List.map_append]; rfl
  obtain ⟨LX, hLX⟩ : ∃ LX, LX = L ++ [X] := ⟨_, rfl⟩
  replace RC := Lib.hid (RC.out LX hLX)
  rw [← hLX] at OKL PL
  replace hLX := Lib.hid hLX
  clear hcb how hty hx
  generalize hxr : X.rC = XC at *
  clear hxr
  generalize X.pk = pk at *
  generalize X.n = xn at *
  generalize X.k = k at *
  obtain ⟨r5, hr5⟩ : ∃ r, r = w.heap.size := ⟨_, rfl⟩
  have B0 : Hid (Cb ((w.alloc (Obj.cells (cellsOf pk).toArray 31)).alloc (Obj.cells (cellsOf k).toArray 31)) r5 31 (cellsOf pk) ∧ Cb ((w.alloc (Obj.cells (cellsOf pk).toArray 31)).alloc (Obj.cells (cellsOf k).toArray 31)) (r5 + 1) 31 (cellsOf k) ∧ Ext w ((w.alloc (Obj.cells (cellsOf pk).toArray 31)).alloc (Obj.cells (cellsOf k).toArray 31))) := by
    rw [hr5]; exact ⟨heap_alloc1 _ _ _, heap_alloc2 _ _ _, ((Ext.refl w).alloc _).alloc _⟩
  go_enter Try.func15, Try.ntmps15
  go_upto_region 1 with fail
  refine wp_gen (fun W => Cb W r5 31 (cellsOf pk) ∧ Cb W (r5 + 1) 31 (cellsOf k) ∧ Ext w W) B0.out ?_
  rw [← hr5]
  have wr : w.heap.size ≤ r5 := Nat.le_of_eq hr5.symm
  clear B0
  replace hr5 := Lib.hid hr5
  obtain ⟨r7, hr7⟩ : ∃ r, r = r5 + 1 := ⟨_, rfl⟩
  rw [← hr7]
  have wr7 : r5 < r7 := by omega
  replace hr7 := Lib.hid hr7
  rintro w0 ⟨k5, k7, x0⟩
  rcases Decidable.em (xn < 0) with hneg | hneg
  · have u1 : decide (xn < 0) = true := decide_eq_true hneg
    obtain rfl := HN.out hneg
    obtain rfl := NP.out (by decide)
    have FIN := Lib.hid (SAME.out _ x0)
    clear NP HN HT HZ PL OKL SAME P7e O_L RC hLX RA BL O_C k5 k7 x0
    go_wp2_with fail
    go_ret
    exact ⟨rfl, FIN.out.1, FIN.out.2⟩
  have u1 : decide (xn < 0) = false := decide_eq_false hneg
  replace k5 := Lib.hid k5
  replace k7 := Lib.hid k7
  have RA0 := Lib.hid (RA.out _ x0)
  replace x0 := Lib.hid x0
  go_wp2_with ((with_reducible refine wpList_load_rowW (o := ⟨some 12, _, _, _, _, _⟩) ?_ 31 _ rfl r5 ?_ 31 (cellsOf pk).toArray (0, 0) _ ?_ Try.underlying31 ?_ ?_ ?_); (· rfl); (· rfl); (· exact k5.out); (· rfl); (· rw [S_p]; rfl); simp only [Act.put, List.setIfInBounds_toArray, List.set_cons_zero, List.set_cons_succ])
  refine RA0.out.mono ?_
  rintro e w1 ⟨r, rfl, hr, x1⟩
  clear RA RA0
  rcases hr with ⟨hf, rfl⟩ | ⟨q, rfl, hq, ⟨y, hy, hat⟩, _⟩
  case inr =>
    have hh : hasK L pk xn = true := List.any_eq_true.2 ⟨y, List.mem_of_getElem? hy, hat⟩
    obtain rfl := HT.out hneg hh
    obtain rfl := NP.out (by decide)
    have FIN := Lib.hid (SAME.out _ (x0.out.trans x1))
    clear NP HN HT HZ PL OKL SAME P7e O_L RC hLX BL O_C k5 k7 x0 x1 hy hat hh
    go_wp2_with fail
    go_ret
    exact ⟨rfl, FIN.out.1, FIN.out.2⟩
  obtain ⟨rfl, rfl⟩ := HZ.out hneg hf
  clear NP HN HT HZ SAME hf
  have XW := Lib.hid (x0.out.trans x1)
  have k5' := Lib.hid (k5.out.ext x1)
  have k7' := Lib.hid (k7.out.ext x1)
  clear k5 k7 x0 x1
  generalize w1 = W at *
  have sz : w.heap.size ≤ W.heap.size := XW.out.size
  have gW : g < W.heap.size := by omega
  have rW5 : r5 < W.heap.size := k5'.out.lt
  have rW7 : r7 < W.heap.size := k7'.out.lt
  have P7 : Hid (∀ s, Ext W s → s.cell? ⟨g, 0, none⟩ = some (.slice A n c)) := fun s q => ((P7e.out s (XW.out.trans q)).1).cell rfl
  have PK : Hid (∀ s, Ext W s → Cb s r5 31 (cellsOf pk) ∧ Cb s r7 31 (cellsOf k)) := fun s q => ⟨k5'.out.ext q, k7'.out.ext q⟩
  have CSL : Hid (∀ s, Ext W s → Cs s 65 A n c (L.map Kp.rC)) := fun s q => (P7e.out s (XW.out.trans q)).2
  have CG : Hid (∀ s, Ext W s → Cb s g 29 [.slice A n c] ∧ w.grownBy s (some g)) := fun s q => ⟨(P7e.out s (XW.out.trans q)).1, gr_ext11 g (XW.out.trans q)⟩
  have SE : Hid (Ext W W.drew) := (Ext.refl W).drew
  clear k5' k7' XW P7e
  go_upto_region 5 with fail
  refine wp_region_treeZ (R := Below W.heap.size) (Below.refl _) (fun _ _ _ => Below.trans) 15 (.rd 0 (.rd 2 (.rd 3 (.rd 4 (.rd 5 (.rd 7 (.rd 8 (.rd 9 (.rd 10 (.alt 1 (.alt 6 (.alt 11 (.alt 12 (.rd 13 (.rd 14 (.alt 15 .nil .stop))) .stop) .stop) (.alt 11 (.alt 6 (.alt 12 (.rd 13 (.rd 14 (.alt 15 .nil .stop))) .stop) .stop) .stop)) (.alt 11 (.alt 1 (.alt 6 (.alt 12 (.rd 13 (.rd 14 (.alt 15 .nil .stop))) .stop) .stop) .stop) .stop))))))))))) [(0, 17, 2), (0, 18, 0), (0, 19, 2), (4, 20, 524288), (8, 21, 1048576), (16, 22, 2097152), (34, 23, 4456448), (0, 24, 64), (0, 25, 8), (0, 26, 256), (896, 27, 117440512), (1024, 28, 134217728), (2112, 29, 276824064), (8191, 30, 131072), (16383, 31, 1073741824), (24575, 0, 2684354560)] 16 (by kernel_rfl) (by kernel_rfl) (by kernel_rfl) rfl (by kernel_rfl) (by kernel_rfl) (by kernel_rfl) (fun _ _ d _ _ h => by cases d <;> exact h) ?_
  repeat (refine seqTZ_read (by decide) _ (fun w' e => P7.out w' (Ext.trans (Ext.refl _).drew e)) _ (v := ?_) rfl ?_ ?_ ?_; rotate_left; (· rfl); (· intro w' hF; go_simp; (try with_reducible rfl)); simp only [Act.put, List.setIfInBounds_toArray, List.set_cons_zero, List.set_cons_succ])
  refine seqTZ_read (by decide) (fun w' => w'.heap[r5]? = some (.cells (cellsOf pk).toArray 31 (0, 0))) (fun w' e => (PK.out w' (Ext.trans (Ext.refl _).drew e)).1) _ (v := .agg (cellsOf pk).toArray) rfl (by rfl) (fun w' hF => exec_load_row rfl rfl hF rfl rfl (by rw [S_p]; rfl)) ?_
  simp only [Act.put, List.setIfInBounds_toArray, List.set_cons_zero, List.set_cons_succ]
  repeat (refine seqTZ_read (by decide) (fun _ => True) (fun _ _ => trivial) _ (v := ?_) rfl ?_ ?_ ?_; rotate_left; (· rfl); (· intro w' hF; go_simp; (try with_reducible rfl)); simp only [Act.put, List.setIfInBounds_toArray, List.set_cons_zero, List.set_cons_succ])
  refine seqTZ_read (by decide) (fun w' => w'.heap[r7]? = some (.cells (cellsOf k).toArray 31 (0, 0))) (fun w' e => (PK.out w' (Ext.trans (Ext.refl _).drew e)).2) _ (v := .agg (cellsOf k).toArray) rfl (by rfl) (fun w' hF => exec_load_row rfl rfl hF rfl rfl (by rw [S_k]; rfl)) ?_
  simp only [Act.put, List.setIfInBounds_toArray, List.set_cons_zero, List.set_cons_succ]
  refine seqTZ_read (by decide) (fun _ => True) (fun _ _ => trivial) _ (v := .agg XC.toArray) rfl (by rfl) (fun w' _ => exec_build_as rfl (by simp only [List.map_toArray, List.map_cons, List.map_nil]; exact BL.out)) ?_
  simp only [Act.put, List.setIfInBounds_toArray, List.set_cons_zero, List.set_cons_succ]
  generalize W.drew = WC at *
  have TM : Hid (∀ s A2 c2, Ext W s → OwnC W.heap.size s 89 65 A2 (n + 1) c2 (L.map Kp.rC ++ [XC]) → (RK (s.setCell ⟨g, 0, none⟩ (.slice A2 (n + 1) c2)) g LX ∧ Cs (s.setCell ⟨g, 0, none⟩ (.slice A2 (n + 1) c2)) 65 A2 (n + 1) c2 (LX.map Kp.rC) ∧ Ty11 (s.setCell ⟨g, 0, none⟩ (.slice A2 (n + 1) c2)) A2 (n + 1) ∧ Cb (s.setCell ⟨g, 0, none⟩ (.slice A2 (n + 1) c2)) g 29 [.slice A2 (n + 1) c2]) ∧ w.grownBy (s.setCell ⟨g, 0, none⟩ (.slice A2 (n + 1) c2)) (some g)) := fun s A2 c2 q o => by
    obtain ⟨g1, g2⟩ := CG.out s q
    refine ⟨RK.put g1 (by rw [RC.out]; exact o.cs) o.ty OKL.out, grown_trans' g2 (gr_cell _ _ _ _)⟩
  repeat' (first
    | exact seqTZ_stop
    | (refine seqTZ_do (i := 1) _ rfl ?_ ?_ (fun K1 hK1 => ?_)
       (· rfl)
       rotate_left
       go_simp
       have e : Ext WC (WC.alloc (Obj.cells #[] 89)) := (Ext.refl WC).alloc _
       have hO : Hid (OwnC W.heap.size (WC.alloc (Obj.cells #[] 89)) 89 65 (some ⟨WC.heap.size, 0, none⟩) 0 0 []) := ⟨World.ownsRow_lit WC #[] 0 SE.out.size (Nat.zero_le _) rfl, fun x hx => (by cases hx), rfl⟩
       (try have hn := Lib.hid (lit_ne11 (n := 0) (c := 0) hS.out.lt))
       refine hK1.out _ _ (Or.inr (e.mono SE.out.size)) ?_
       clear hK1 K1
       (try replace hS := Lib.hid (hS.out.ext e))
       replace SE := Lib.hid (SE.out.trans e)
       clear e
       generalize WC.alloc (Obj.cells #[] 89) = WC at *
       (try simp only [Act.put, List.setIfInBounds_toArray, List.set_cons_zero, List.set_cons_succ])
       repeat (refine seqTZ_read (by decide) (fun _ => True) (fun _ _ => trivial) _ (v := ?_) rfl ?_ ?_ ?_; rotate_left; (· rfl); (· intro w' hF; go_simp; (try with_reducible rfl)); simp only [Act.put, List.setIfInBounds_toArray, List.set_cons_zero, List.set_cons_succ])
       skip)
    | (refine seqTZ_do (i := 11) _ rfl ?_ ?_ (fun K1 hK1 => ?_)
       (· rfl)
       rotate_left
       refine wp_slice_c (t := 27) (e := 89) (s := 65) Try.underlying27 infoR11 zR11_cells (by omega) (by omega) (cs := XC) L_C rfl rfl ?_
       have e : Ext WC (WC.alloc (Obj.cells XC.toArray 89)) := (Ext.refl WC).alloc _
       have hS := Lib.hid (Cb.new WC 89 XC)
       (try have hn := Lib.hid (Own_ne_size hO.out))
       refine hK1.out _ _ (Or.inr (e.mono SE.out.size)) ?_
       clear hK1 K1
       (try replace hO := Lib.hid (hO.out.ext e))
       replace SE := Lib.hid (SE.out.trans e)
       clear e
       generalize WC.alloc (Obj.cells XC.toArray 89) = WC at *
       (try simp only [Act.put, List.setIfInBounds_toArray, List.set_cons_zero, List.set_cons_succ])
       repeat (refine seqTZ_read (by decide) (fun _ => True) (fun _ _ => trivial) _ (v := ?_) rfl ?_ ?_ ?_; rotate_left; (· rfl); (· intro w' hF; go_simp; (try with_reducible rfl)); simp only [Act.put, List.setIfInBounds_toArray, List.set_cons_zero, List.set_cons_succ])
       skip)
    | (refine seqTZ_do (i := 6) _ rfl ?_ ?_ (fun K1 hK1 => ?_)
       (· rfl)
       rotate_left
       refine wp_append_cc2 (t := 27) (e := 89) (s := 65) Try.underlying27 infoR11 zR11_cells (by omega) bytesR11 rfl rfl rfl hO.out (CSL.out _ SE.out) O_L.out (by omega) SE.out.size ?_
       intro A6 c6 WC o6 g6 b6 h6
       (try have hn' := Lib.hid (own_step11 hn.out hS.out.lt h6))
       (try have hS' := Lib.hid (Cb.grown11 g6 hS.out (fun q => hn.out q.symm)))
       (try clear hn)
       (try clear hS)
       (try have hn := hn')
       (try have hS := hS')
       (try clear hn')
       (try clear hS')
       refine hK1.out _ _ (Or.inr b6) ?_
       have SE' : Hid (Ext W WC) := Below.trans SE.out b6
       clear hK1 K1 h6 g6 b6 SE hO
       have SE := SE'
       clear SE'
       simp only [Nat.zero_add, List.nil_append] at o6 ⊢
       (try simp only [Nat.zero_add] at hn)
       have hO := Lib.hid o6
       clear o6
       (try simp only [Act.put, List.setIfInBounds_toArray, List.set_cons_zero, List.set_cons_succ])
       repeat (refine seqTZ_read (by decide) (fun _ => True) (fun _ _ => trivial) _ (v := ?_) rfl ?_ ?_ ?_; rotate_left; (· rfl); (· intro w' hF; go_simp; (try with_reducible rfl)); simp only [Act.put, List.setIfInBounds_toArray, List.set_cons_zero, List.set_cons_succ])
       skip)
    | (refine seqTZ_do (i := 12) _ rfl ?_ ?_ (fun K1 hK1 => ?_)
       (· rfl)
       rotate_left
       have cs3 := cs_one hS.out
       rw [L_C] at cs3
       refine wp_append_cc2 (t := 27) (e := 89) (s := 65) Try.underlying27 infoR11 zR11_cells (by omega) bytesR11 rfl rfl rfl hO.out cs3 (fun x hx u hu => by rw [List.mem_singleton.1 hx] at hu; exact O_C.out u hu) (by omega) SE.out.size ?_
       intro A7 c7 w7 o7 g7 b7 h7
       refine hK1.out _ _ (Or.inr b7) ?_
       have SE' : Hid (Ext W w7) := Below.trans SE.out b7
       have m7 := Lib.hid (TM.out w7 A7 c7 SE'.out o7)
       have kg := (CG.out w7 SE'.out).1
       have c0_ := kg.cell (j := 0) rfl
       have f0_ := kg.frozen 0
       have cc7 := o7.cap
       clear hK1 K1 h7 g7 b7 SE hO o7 cs3 hn hS kg SE'
       (try simp only [Act.put, List.setIfInBounds_toArray, List.set_cons_zero, List.set_cons_succ])
       repeat (refine seqTZ_read (by decide) (fun _ => True) (fun _ _ => trivial) _ (v := ?_) rfl ?_ ?_ ?_; rotate_left; (· rfl); (· intro w' hF; go_simp; (try with_reducible rfl)); simp only [Act.put, List.setIfInBounds_toArray, List.set_cons_zero, List.set_cons_succ])
       skip)
    | (refine seqTZ_do (i := 15) _ rfl ?_ ?_ (fun K1 hK1 => ?_)
       (· rfl)
       rotate_left
       go_simp
       refine hK1.out _ _ (Or.inl rfl) ?_
       clear hK1 K1
       (try simp only [Act.put, List.setIfInBounds_toArray, List.set_cons_zero, List.set_cons_succ])
       refine seqTZ_done ?_
       obtain ⟨N1, hN1⟩ : ∃ N1, N1 = n + 1 := ⟨_, rfl⟩
       rw [← hN1] at m7 cc7 ⊢
       refine gen_q (fun X => (RK X g LX ∧ Cs X 65 A7 N1 c7 (LX.map Kp.rC) ∧ Ty11 X A7 N1 ∧ Cb X g 29 [.slice A7 N1 c7]) ∧ w.grownBy X (some g)) m7.out ?_
       clear m7 c0_ f0_ TM P7 PK CSL CG
       rintro w8 ⟨⟨m8, cs8, ty8, cb8⟩, t8⟩
       have c8 := cb8.cell (j := 0) rfl
       have f8 := cb8.frozen 0
       obtain ⟨cap1, cap2⟩ := cc7
       have cap3 : c7 ≤ 9223372036854775807 := by unfold maxLen at cap2; omega
       have N9 : N1 ≤ 9 := by omega
       have N0 : 1 ≤ N1 := by omega
       have hn8 : n + 1 = N1 := hN1.symm
       clear cap2
       replace hN1 := Lib.hid hN1
       replace m8 := Lib.hid m8
       replace t8 := Lib.hid t8
       rcases Decidable.em (n < 8) with h8 | h8
       · have u2 : decide ((8 : Int) < (N1 : Int)) = false := decide_eq_false (by omega)
         rw [if_pos h8] at PL
         have PL' := PL.out
         clear hn8 cs8 ty8 cb8 PL
         rw [← PL'] at m8
         go_wp2_with fail
         go_ret
         exact ⟨rfl, m8.out, t8.out⟩
       · have u2 : decide ((8 : Int) < (N1 : Int)) = true := decide_eq_true (by omega)
         rw [if_neg h8] at PL
         have K9 : Hid (RK (w8.setCell ⟨g, 0, none⟩ (.slice (if c7 = 1 then A7 else A7.map (·.add (1 * 65))) (N1 - 1) (c7 - 1))) g (putL L X) ∧ w.grownBy (w8.setCell ⟨g, 0, none⟩ (.slice (if c7 = 1 then A7 else A7.map (·.add (1 * 65))) (N1 - 1) (c7 - 1))) (some g)) := by
           refine ⟨?_, grown_trans' t8.out (gr_cell _ _ _ _)⟩
           rw [PL.out]
           refine (RK.put cb8 ?_ (ty8.cut N0) (fun x hx => OKL.out x (List.mem_of_mem_drop hx))).1
           rw [List.map_drop]
           exact cs8.cut N0
         obtain ⟨A9, hA9⟩ : ∃ A9, A9 = (if c7 = 1 then A7 else A7.map (·.add (1 * 65))) := ⟨_, rfl⟩
         have EX := fun (ww : World) (o : Oper) (a : Act) (x lo : Operand) (h1 : o.op = .slice 27 x (some lo) none none) (h2 : a.eval x = .slice A7 N1 c7) (h3 : a.eval lo = .int .i64 ((1 : Nat) : Int)) => exec_fromC (w := ww) (s := 65) Try.underlying27 (by kernel_rfl) h1 h2 h3 N0 cap1
         rw [← hA9] at K9 EX
         replace hA9 := Lib.hid hA9
         replace EX := Lib.hid EX
         clear hn8 cs8 ty8 cb8 m8 t8 PL
         go_wp2_with (refine wpList_exec rfl (EX.out _ _ _ _ _ rfl rfl rfl) ?_; simp only [Act.put, List.setIfInBounds_toArray, List.set_cons_zero, List.set_cons_succ])
         go_ret
         exact ⟨rfl, K9.out.1, K9.out.2⟩))
end Go.Proofs.Ytonjialkfbbhpaa
