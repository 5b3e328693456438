import Derived.Test.YteaoacinhdjkeaaDkR
import Derived.Test.YteaoacinhdjkeaaPkO
import Derived.Test.YteaoacinhdjkeaaWords
import Derived.Test.YteaoacinhdjkeaaTwo
import Derived.Test.YteaoacinhdjkeaaSeqZ
/-
  The journal: a copy of bytes; a sector's bytes are put in.
-/
namespace Go.Proofs.Yteaoacinhdjkeaa
open Go.ChangeShapes Go.WideShapes Go.ChangeAt Go.RowKit Go.Deep Go.Maps
set_option maxRecDepth 100000

set_option maxHeartbeats 1000000 in
theorem jcopied_calls {A : Option Addr} {n c : Nat} {xs : List UInt8} {w : World} (h : Bs w A n c xs) (hm : n ≤ 100000000) : Calls Try.prog 46 #[.slice A n c] w (RetOwn xs w) := by
  have h1 := h.le
  have h2 := h.cap
  go_enter Try.func46, Try.ntmps46
  go_wp2_with (at_builtin; refine wpList_append_bs rfl (B := w.heap.size) rfl rfl rfl (Own.nil _ _) h (by omega) (Nat.le_refl _) ?_; intro D' cc' w2 ho2 hg2 hbl)
  go_ret
  rw [Nat.zero_add, List.nil_append] at ho2
  exact ⟨_, _, _, rfl, ho2, hbl⟩

/-- Bytes are copied into a row of cells: only it turns. -/
theorem grown_setRow22 (w : World) (g : Nat) (C : Array Value) : w.grownBy (w.setRow g C) (some g) := ⟨rfl, rfl, rfl, by simp, fun i _ h => setRow_other _ _ _ _ (fun q => h (by rw [q]))⟩
theorem copy_bs22 {W : World} {g off dLen dCap : Nat} {cur : List Value} {t dT sT ty : TypeId} {A : Option Addr} {n c : Nat} {xs : List UInt8} (hu : Try.prog.underlying dT = some (.slice 5)) (hg : W.heap[g]? = some (.cells cur.toArray t (0, 0))) (h : Bs W A n c xs) (hd : n ≤ dLen) (hfit : off + n ≤ cur.length) :
    ∃ W', (Builtin.copy_ #[dT, sT] ty #[.slice (some ⟨g, off, none⟩) dLen dCap, .slice A n c]).run Try.prog W = .ok (goInt n) W' ∧ W'.heap[g]? = some (.cells (splice cur off (cellsOf xs)).toArray t (0, 0)) ∧ W.grownBy W' (some g) := by
  have hl := h.len
  have hsz : (Try.prog.info? 5).map (·.size) = some 1 := rfl
  by_cases h0 : n = 0
  · subst h0
    obtain rfl : xs = [] := List.eq_nil_of_length_eq_zero hl
    refine ⟨W, ?_, by simpa [splice, cellsOf] using hg, World.grownBy.refl _ _⟩
    have := run_copy_none (P := Try.prog) W dT sT ty _ (some ⟨g, off, none⟩) A dLen dCap 0 c hu hsz (by simp)
    simpa using this
  · obtain ⟨b, o, rfl, hb, hc⟩ := h.pos (by omega)
    have hr := run_copy_row Try.prog W dT sT ty _ g off dLen dCap ⟨b, o, none⟩ n c cur.toArray t (cellsOf xs) hu hsz hg (by rw [cellsOf_len, hl]; exact (Nat.min_eq_left hd).symm) (fun j v hv => by
      have hj : j < xs.length := by
        rcases Nat.lt_or_ge j xs.length with q | q
        · exact q
        · rw [List.getElem?_eq_none (by rw [cellsOf_len]; exact q)] at hv; cases hv
      rw [cellsOf_get hj] at hv
      injection hv with hv
      subst hv
      have : (⟨b, o, none⟩ : Addr).add j = ⟨b, o + j, none⟩ := by unfold Addr.add; split <;> simp_all
      rw [this]
      exact hc j (by omega)) (by rw [cellsOf_len]; simp; omega) (fun v hv => by
      obtain ⟨j, _, rfl⟩ := List.mem_map.1 hv
      rfl)
    rw [cellsOf_len, hl] at hr
    refine ⟨_, hr, ?_, grown_setRow22 _ _ _⟩
    have := setRow_heap W g _ ((cur.take off ++ cellsOf xs ++ cur.drop (off + n)).toArray) t _ hg
    simpa [splice, cellsOf_len, hl, List.append_assoc] using this
theorem upon_copy22 {o : Oper} {a : Act} {K : Act → World → Prop} {Q : Exit → Act → World → Prop} {W : World} {g off dLen dCap : Nat} {cur : List Value} {t dT sT ty : TypeId} {A : Option Addr} {n c : Nat} {xs : List UInt8} (hu : Try.prog.underlying dT = some (.slice 5)) (hg : W.heap[g]? = some (.cells cur.toArray t (0, 0))) (h : Bs W A n c xs) (hd : n ≤ dLen) (hfit : off + n ≤ cur.length)
    (H : ∀ W', Hid (W'.heap[g]? = some (.cells (splice cur off (cellsOf xs)).toArray t (0, 0))) → Hid (W.grownBy W' (some g)) → Oper.upon Try.prog o a K Q (.ok (Next.value (goInt n)) W')) :
    Oper.upon Try.prog o a K Q (((Builtin.copy_ #[dT, sT] ty #[.slice (some ⟨g, off, none⟩) dLen dCap, .slice A n c]).run Try.prog W).andThen fun a w' => .ok (Next.value a) w') := by
  obtain ⟨W', h1, h2, h3⟩ := copy_bs22 (W := W) (dT := dT) (sT := sT) (ty := ty) (dCap := dCap) hu hg h hd hfit
  rw [h1]
  exact H W' h2 h3
/-- s[k:] of a sector. -/
theorem sector_from {w : World} {g k : Nat} (hk : k < 64) : (Instr.sliceAt 45 (.pointer (some ⟨g, 0, none⟩)) (some (.int .i64 (k : Int))) none none).run Try.prog w = .ok (.slice (some ⟨g, k, none⟩) (64 - k) (64 - k)) w := by
  have hn : Try.prog.arrayLen 45 = 64 := rfl
  rw [run_sliceAt_array_l w 45 _ rfl .i64 _ (by omega) (by rw [hn]; omega)]
  have hs : (sizeOf (Try.prog.elem 45)).run Try.prog w = .ok 1 w := rfl
  rw [hs]
  have h1 : ((k : Int)).toNat = k := by omega
  have h3 : (⟨g, 0, none⟩ : Addr).add (k * 1) = ⟨g, k, none⟩ := by unfold Addr.add; split <;> simp_all
  show Result.ok (slicedAt _ _ _ _ _) w = _
  rw [hn, h1]
  unfold slicedAt
  rw [if_neg (by omega), h3]

set_option maxHeartbeats 4000000 in
theorem jput_calls {w : World} {ga gs k n c : Nat} {A : Option Addr} {xs cur : List UInt8} (hs : Cb w gs 45 (cellsOf cur)) (hl : cur.length = 64) (ha : Cb w ga 3 [.int .i64 (k : Int)]) (hne : ga ≠ gs) (hb : Bs w A n c xs) (hk : k < 64) (hkn : k + n ≤ 64) :
    Calls Try.prog 65 #[.slice A n c, .pointer (some ⟨ga, 0, none⟩), .pointer (some ⟨gs, 0, none⟩)] w fun e w' => e = .returned (.tuple #[]) ∧ Cb w' gs 45 (cellsOf (splice cur k xs)) ∧ Cb w' ga 3 [.int .i64 ((k + n : Nat) : Int)] ∧ Two gs ga w w' := by
  have hsl := fun W : World => sector_from (w := W) (g := gs) hk
  have m1 : IntKind.i64.wrap ((k : Int) + (n : Int)) = ((k + n : Nat) : Int) := by rw [IntWalk.i64_in _ (by omega)]; omega
  have L1 : (cellsOf cur).length = 64 := by rw [cellsOf_len, hl]
  have glt := ha.lt
  have slt := hs.lt
  have G1 : Hid (∀ s, w.drew.grownBy s (some gs) → s.cell? ⟨ga, 0, none⟩ = some (.int .i64 (k : Int))) := fun s e => (World.cell?_of_block (e.block ga glt (fun q => hne (Option.some.inj q)))).trans (ha.cell rfl)
  go_enter Try.func65, Try.ntmps65
  go_upto_region 0 with fail
  have hs0 : Hid (Cb w.drew gs 45 (cellsOf cur)) := hs.ext (Ext.refl w).drew
  have hb0 : Hid (Bs w.drew A n c xs) := hb.ext (Ext.refl w).drew
  have ha0 : Hid (Cb w.drew ga 3 [.int .i64 (k : Int)]) := ha.ext (Ext.refl w).drew
  clear hs hb ha
  refine qgZ (R := fun a b => a.grownBy b (some gs)) (fun w => World.grownBy.refl w _) (fun _ _ _ => gr_trans) 6 [0, 1, 2, 3, 4, 5, 6] [4, 6] ?_
  repeat (refine qzR _ (fun w' e => G1.out w' e) ?_; go_frame)
  refine qzD fun K hK => ?_
  go_simp
  refine upon_copy22 (cur := cellsOf cur) rfl hs0.out hb0.out (by omega) (by rw [L1]; omega) ?_
  intro W' h3 h4
  rw [cellsOf_splice] at h3
  go_simp
  refine hK.out _ _ (.inr h4.out) ?_
  clear hK K
  have k3 : Hid (Cb W' ga 3 [.int .i64 (k : Int)]) := (h4.out.block ga glt (fun q => hne (Option.some.inj q))).trans ha0.out
  have t3 : Hid (Two gs ga w W') := ⟨h4.out.os, h4.out.tape, h4.out.output, h4.out.size, fun i hi h1 _ => h4.out.block i hi (fun q => h1 (Option.some.inj q))⟩
  clear hs0 hb0 ha0 G1 h4
  repeat (refine qzR0 ?_; go_frame)
  have c3 := k3.out.cell (j := 0) rfl
  have f3 := k3.out.frozen 0
  refine qzD fun K hK => ?_
  go_simp
  refine hK.out _ _ (.inl rfl) ?_
  clear hK K c3 f3
  have F : Hid (Cb (W'.setCell ⟨ga, 0, none⟩ (.int .i64 ((k + n : Nat) : Int))) gs 45 (cellsOf (splice cur k xs)) ∧ Cb (W'.setCell ⟨ga, 0, none⟩ (.int .i64 ((k + n : Nat) : Int))) ga 3 [.int .i64 ((k + n : Nat) : Int)] ∧ Two gs ga w (W'.setCell ⟨ga, 0, none⟩ (.int .i64 ((k + n : Nat) : Int)))) :=
    ⟨(Below.heap_setCell _ _ _ _ (fun q => hne q.symm)).trans h3.out, k3.out.setCell, t3.out.trans ⟨rfl, rfl, rfl, by simp [World.setCell], fun i _ _ h2 => Below.heap_setCell _ _ _ _ h2⟩⟩
  clear h3 k3 t3
  refine seqZ_done ?_
  go_wp2_with fail
  first | go_ret | go_end0
  exact ⟨rfl, F.out⟩

/-- A sector's bytes. -/
def secL (i : Nat) (xs : List UInt8) : List UInt8 := splice (splice (splice (List.replicate 64 0) 0 (lowL (i + 1) 4).reverse) 4 [UInt8.ofNat xs.length]) 5 xs
theorem secL_len {i : Nat} {xs : List UInt8} (h : xs.length ≤ 59) : (secL i xs).length = 64 := by
  unfold secL
  have h4 : ((lowL (i + 1) 4).reverse).length = 4 := by rw [List.length_reverse, lowL_len]
  have a1 : (splice (List.replicate 64 (0 : UInt8)) 0 (lowL (i + 1) 4).reverse).length = 64 := by rw [splice_len (by rw [h4]; simp)]; simp
  have a2 : (splice (splice (List.replicate 64 (0 : UInt8)) 0 (lowL (i + 1) 4).reverse) 4 [UInt8.ofNat xs.length]).length = 64 := by rw [splice_len (by rw [a1]; simp)]; exact a1
  rw [splice_len (by rw [a2]; omega)]; exact a2
set_option maxHeartbeats 4000000 in
theorem jsector_calls {w : World} {i n c : Nat} {A : Option Addr} {xs : List UInt8} (hi : i < 4294967295) (hb : Bs w A n c xs) (hn : n ≤ 59) :
    Calls Try.prog 44 #[.int .i64 (i : Int), .slice A n c] w fun e w' => e = .returned (.agg (cellsOf (secL i xs)).toArray) ∧ Ext w w' := by
  have hal := sector_alloc
  have hzl : (List.replicate 64 (0 : UInt8)).length = 64 := by simp
  have hzs : zS64.toArray.size = 64 := by rw [List.size_toArray, zS64_len]
  have hx := hb.len
  have m1 : IntKind.u64.wrap (i : Int) = (i : Int) := IntWalk.u64_in _ (by omega)
  have m2 : IntKind.u64.wrap ((i : Int) + 1) = ((i + 1 : Nat) : Int) := by rw [IntWalk.u64_in _ (by omega)]; rfl
  have m3 : IntKind.u8.wrap (n : Int) = (n : Int) := IntWalk.u8_in _ (by omega)
  have HB : Hid (∀ s, Ext w s → Bs s A n c xs) := fun s e => hb.ext e
  have HI : Hid (∀ s, Calls Try.prog 66 #[.int .u64 ((i + 1 : Nat) : Int), .int .i64 4] s (RetBs (lowL (i + 1) 4).reverse s)) := fun s => high_calls (m := 4) (by omega) (by omega) (by omega) (by omega) (by omega)
  have L4 : ((lowL (i + 1) 4).reverse).length = 4 := by rw [List.length_reverse, lowL_len]
  have V8 : ((UInt8.ofNat n).toNat : Int) = (n : Int) := by
    have : (UInt8.ofNat n).toNat = n := by simp; omega
    omega
  have SL := Lib.hid (secL_len (i := i) (xs := xs) (by omega))
  have SE : Hid (splice (splice (splice (List.replicate 64 0) 0 (lowL (i + 1) 4).reverse) 4 [UInt8.ofNat n]) 5 xs = secL i xs) := by rw [← hx]; rfl
  obtain ⟨ss, hss⟩ : ∃ q, q = secL i xs := ⟨_, rfl⟩
  rw [← hss] at SL SE ⊢
  clear hss
  obtain ⟨r, hr⟩ : ∃ r, r = w.heap.size := ⟨_, rfl⟩
  have B0 : Hid (Cb (((w.alloc (.cells zS64.toArray 45)).alloc (.cells zS64.toArray 45)).alloc (.cells #[.int .i64 0] 3)) r 45 zS64 ∧ Cb (((w.alloc (.cells zS64.toArray 45)).alloc (.cells zS64.toArray 45)).alloc (.cells #[.int .i64 0] 3)) (r + 1) 45 zS64 ∧ Cb (((w.alloc (.cells zS64.toArray 45)).alloc (.cells zS64.toArray 45)).alloc (.cells #[.int .i64 0] 3)) (r + 1 + 1) 3 [.int .i64 0] ∧ Ext w (((w.alloc (.cells zS64.toArray 45)).alloc (.cells zS64.toArray 45)).alloc (.cells #[.int .i64 0] 3))) := by
    rw [hr]
    refine ⟨?_, ?_, ?_, (((Ext.refl w).alloc _).alloc _).alloc _⟩
    · exact ((Cb.new _ _ _).ext ((Ext.refl _).alloc _)).ext ((Ext.refl _).alloc _)
    · have := (Cb.new (w.alloc (.cells zS64.toArray 45)) 45 zS64).ext ((Ext.refl _).alloc (.cells #[.int .i64 0] 3))
      rwa [World.size_alloc] at this
    · have := Cb.new ((w.alloc (.cells zS64.toArray 45)).alloc (.cells zS64.toArray 45)) 3 [.int .i64 0]
      rwa [World.size_alloc, World.size_alloc] at this
  clear hb
  go_enter Try.func44, Try.ntmps44
  go_upto_region 4 with fail
  refine wp_gen (fun W => Cb W r 45 zS64 ∧ Cb W (r + 1) 45 zS64 ∧ Cb W (r + 1 + 1) 3 [.int .i64 0] ∧ Ext w W) B0.out ?_
  rw [← hr]
  have wr : w.heap.size ≤ r := Nat.le_of_eq hr.symm
  replace hr := Lib.hid hr
  clear B0 hal
  rintro w0 ⟨k0, k1, k2, x0⟩
  have HI0 := Lib.hid (HI.out w0)
  replace k0 := Lib.hid k0
  replace k1 := Lib.hid k1
  replace k2 := Lib.hid k2
  replace x0 := Lib.hid x0
  clear HI
  go_wp2_with fail
  refine HI0.out.mono ?_
  rintro e w1 ⟨A1, n1, c1, rfl, b1, x1⟩
  obtain rfl : n1 = 4 := by rw [← b1.len, L4]
  have P1 := Lib.hid (jput_calls (ga := r + 1 + 1) (gs := r + 1) (k := 0) (cur := List.replicate 64 0) (k1.out.ext x1) hzl (k2.out.ext x1) (by omega) b1 (by omega) (by omega))
  have k01 := Lib.hid (k0.out.ext x1)
  have x01 := Lib.hid (x0.out.trans x1)
  clear HI0 k0 k1 k2 x0 x1 b1
  go_wp2_with fail
  refine P1.out.mono ?_
  rintro e w2 ⟨rfl, s2, t2, tw2⟩
  have k02 : Hid (Cb w2 r 45 zS64) := tw2.block k01.out (by omega) (by omega)
  have x02 := Lib.hid (tw2.ext x01.out (by omega) (by omega))
  have bn := Bs.one w2 5 (0, 0) (UInt8.ofNat n)
  rw [V8] at bn
  have P2 := Lib.hid (jput_calls (ga := r + 1 + 1) (gs := r + 1) (k := 4) (A := some ⟨w2.heap.size, 0, none⟩) (n := 1) (c := 1) (s2.ext ((Ext.refl w2).alloc _)) (by rw [splice_len (by rw [L4]; simp)]; simp) (t2.ext ((Ext.refl w2).alloc (.cells #[.int .u8 (n : Int)] 5))) (by omega) bn (by omega) (by omega))
  have k03 := Lib.hid (k02.out.ext ((Ext.refl w2).alloc (.cells #[.int .u8 (n : Int)] 5)))
  have x03 := Lib.hid (x02.out.trans ((Ext.refl w2).alloc (.cells #[.int .u8 (n : Int)] 5)))
  clear P1 k01 x01 s2 t2 tw2 bn k02 x02
  go_wp2_with fail
  refine P2.out.mono ?_
  rintro e w3 ⟨rfl, s3, t3, tw3⟩
  have k04 : Hid (Cb w3 r 45 zS64) := tw3.block k03.out (by omega) (by omega)
  have x04 := Lib.hid (tw3.ext x03.out (by omega) (by omega))
  have P3 := Lib.hid (jput_calls (ga := r + 1 + 1) (gs := r + 1) (k := 5) (A := A) (n := n) (c := c) (xs := xs) s3 (by rw [splice_len (by rw [splice_len (by rw [L4]; simp)]; simp), splice_len (by rw [L4]; simp)]; simp) t3 (by omega) (HB.out _ x04.out) (by omega) (by omega))
  clear P2 k03 x03 s3 t3 tw3
  go_wp2_with fail
  refine P3.out.mono ?_
  rintro e w4 ⟨rfl, s4, t4, tw4⟩
  have k05 : Hid (Cb w4 r 45 zS64) := tw4.block k04.out (by omega) (by omega)
  have x05 := Lib.hid (tw4.ext x04.out (by omega) (by omega))
  rw [SE.out] at s4
  replace s4 := Lib.hid s4
  have S_s : (cellsOf ss).toArray.size = 64 := by simp [cellsOf_len, SL.out]
  have O_s := cellsOf_one ss
  have F : Hid (Ext w (w4.setRow r (cellsOf ss).toArray)) := below_setRow x05.out wr _
  clear P3 k04 x04 t4 tw4 SE HB x05
  generalize zS64 = Z at *
  go_wp2_with (first
    | (refine wpList_load_row rfl 45 _ rfl (r + 1) rfl 45 (cellsOf ss).toArray (0, 0) _ s4.out rfl rfl (by rw [S_s]; rfl) ?_; go_frame)
    | (refine wpList_store_row rfl 45 _ _ rfl r (cellsOf ss).toArray rfl rfl 45 Z.toArray k05.out (by rw [S_s]; rfl) (by rw [S_s, hzs]) O_s ?_; simp only [Act.put]))
  (try simp only [Exit.inBlock, Exit.then])
  refine bodyPost_ret (results_cell_row rfl _ _ r 45 (cellsOf ss).toArray (0, 0) _ rfl (setRow_heap _ _ _ _ _ _ k05.out) rfl rfl (by rw [S_s]; rfl)) rfl ?_
  exact ⟨rfl, F.out⟩
end Go.Proofs.Yteaoacinhdjkeaa
