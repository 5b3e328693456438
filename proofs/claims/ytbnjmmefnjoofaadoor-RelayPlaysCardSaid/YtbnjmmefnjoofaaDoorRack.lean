/-
  palfreyref19.Ack.
-/
import Derived.Test.YtbnjmmefnjoofaaDoorRput
namespace Go.Proofs.YtbnjmmefnjoofaaDoor
open Go.ChangeShapes Go.WideShapes Go.ChangeAt Go.RowKit Go.Deep
set_option maxRecDepth 100000

set_option maxHeartbeats 8000000 in
theorem rack_calls {w : World} {B0 B g : Nat} {L : List Wm} {last id : Int} (h : MB 96 101 B w g L last) (hL : L.length ≤ 8) (hB : B ≤ w.heap.size) (hg : B0 ≤ g) :
    Calls Tryd.prog 55 #[.pointer (some ⟨g, 0, none⟩), .int .i64 id] w fun e w' => e = .returned (.int .i64 (akE L last id)) ∧ MB 96 101 B w' g (akL L last id) last ∧ Tb B0 tagR w w' := by
  have PUT : Hid (∀ w1 A n c (L' : List Wm), Ext w w1 → OwnC w.heap.size w1 101 138 A n c (L'.map Wm.C) → (∀ x ∈ L', x ∈ L) → MB 96 101 B (w1.setCell ⟨g, 0, none⟩ (.slice A n c)) g L' last ∧ Tb B0 tagR w (w1.setCell ⟨g, 0, none⟩ (.slice A n c))) := fun w1 A n c L' e ho hs => h.put e ho hs hB hg rfl (by decide) (by decide)
  by_cases hin : id < 1 ∨ last < id
  · have E : akE L last id = 7 ∧ akL L last id = L := ⟨if_pos hin, if_pos hin⟩
    rw [E.1, E.2]
    have FIN : Hid (MB 96 101 B w g L last ∧ Tb B0 tagR w w) := ⟨h, Tb.refl _ _ _⟩
    obtain ⟨A, n, c, hcb, how, hbd⟩ := h
    have c1 := hcb.cell (j := 1) rfl
    clear E hcb how hbd PUT
    by_cases h1 : id < 1
    · clear hin
      go_enter Tryd.func55, Tryd.ntmps55
      go_wp2_with fail
      go_ret
      exact ⟨rfl, FIN.out⟩
    · have h2 : last < id := hin.resolve_left h1
      clear hin
      go_enter Tryd.func55, Tryd.ntmps55
      go_wp2_with fail
      go_ret
      exact ⟨rfl, FIN.out⟩
  · have i1 : ¬ id < 1 := fun q => hin (.inl q)
    have i2 : ¬ last < id := fun q => hin (.inr q)
    have E : akE L last id = (if hasI id L then 0 else 5) ∧ akL L last id = dropI id L := ⟨if_neg hin, if_neg hin⟩
    rw [E.1, E.2]
    clear E hin
    obtain ⟨ee, hee⟩ : ∃ ee : Int, ee = (if hasI id L then 0 else 5) := ⟨_, rfl⟩
    rw [← hee]
    replace hee := Lib.hid (fun _ : Unit => hee)
    have FIN : Hid (∀ (er : Int) (LL : List Wm) (W : World), er = ee → LL = dropI id L → MB 96 101 B W g LL last ∧ Tb B0 tagR w W → Ending.returned (.int .i64 er) = .returned (.int .i64 ee) ∧ MB 96 101 B W g (dropI id L) last ∧ Tb B0 tagR w W) := by
      rintro er LL W rfl rfl q
      exact ⟨rfl, q.1, q.2⟩
    have SAME : Hid (MB 96 101 B w g L last ∧ Tb B0 tagR w w) := ⟨h, Tb.refl _ _ _⟩
    obtain ⟨A, n, c, hcb, how, hbd⟩ := h
    have hLn := MB.len how
    have hcap := how.cap
    have n8 : c ≤ 9223372036854775807 := by have := hcap.2; unfold maxLen at this; omega
    have hcap1 := hcap.1
    have c0 := hcb.cell (j := 0) rfl
    have c1 := hcb.cell (j := 1) rfl
    have cs := Lib.hid how.cs
    have glt := hcb.lt
    replace hcb := Lib.hid hcb
    clear how hbd
    go_enter Tryd.func55, Tryd.ntmps55
    go_wp2_with fail
    go_loopw [5] (fun v wr => ∃ k : Nat, k ≤ n ∧ v = .int .i64 (k : Int) ∧ (∀ x ∈ L.take k, x.d.id ≠ id) ∧ wr = w) (fun v _ => n - (intOf v).toNat)
    case atStart => exact ⟨0, Nat.zero_le _, rfl, (fun x hx => by simp at hx), rfl⟩
    case round =>
      obtain ⟨k, hkn, rfl, hne, rfl⟩ := hrel
      by_cases hlt : k < n
      · obtain ⟨b, off, hA, hb, hc⟩ := cs.out.at hlt
        have e1 : (L.map Wm.C).getD k [] = (L[k]'(by omega)).C := by rw [List.getD_eq_getElem?_getD, List.getElem?_map, List.getElem?_eq_getElem (by omega)]; rfl
        rw [e1] at hc
        obtain ⟨y, hy⟩ : ∃ y, y = L[k]'(by omega) := ⟨_, rfl⟩
        have tk : L.take (k + 1) = L.take k ++ [y] := by rw [hy, List.take_succ_eq_append_getElem (by omega)]
        have dk : L = L.take k ++ y :: L.drop (k + 1) := by
          rw [hy, ← List.drop_eq_getElem_cons (by omega), List.take_append_drop]
        rw [← hy] at hc
        subst hA
        have ci : wr.cell? ⟨b, off + k * 138, none⟩ = some (.int .i64 y.d.id) := hc 0 _ y.c0
        clear hc hy e1
        obtain ⟨iy, hiy⟩ : ∃ iy, iy = y.d.id := ⟨_, rfl⟩
        rw [← hiy] at ci
        replace hiy := Lib.hid (fun _ : Unit => hiy)
        replace tk := Lib.hid (fun _ : Unit => tk)
        replace dk := Lib.hid (fun _ : Unit => dk)
        replace hne := Lib.hid hne
        by_cases hq : iy = id
        · have CUT := Lib.hid (fun s (q : Ext wr s) => ((cs.out.ext q).cut (k := k + 1) hlt))
          have TAK := Lib.hid (fun s (q : Ext wr s) => ((cs.out.ext q).take (k := k) (by omega)))
          have D0 := fun _ : Unit => dropI_at (P := L.take k) (x := y) (R := L.drop (k + 1)) hne.out ((hiy.out ()).symm.trans hq)
          have D1 : Hid (dropI id L = L.take k ++ L.drop (k + 1) ∧ hasI id L = true) := by
            unfold Hid
            rw [dk.out ()]
            have := D0 ()
            rw [← dk.out ()] at this ⊢
            exact this
          have ALL : Hid (∀ x ∈ L.take k ++ L.drop (k + 1), x ∈ L) := fun x hx => by
            rcases List.mem_append.1 hx with q | q
            · exact List.mem_of_mem_take q
            · exact List.mem_of_mem_drop q
          have OD : Hid (∀ x ∈ (L.map Wm.C).drop (k + 1), ∀ u ∈ x, u.oneCell' = true) := fun x hx u hu => by
            obtain ⟨z, _, rfl⟩ := List.mem_map.1 (List.mem_of_mem_drop hx)
            exact z.one u hu
          have OT : Hid (∀ x ∈ (L.map Wm.C).take k, ∀ u ∈ x, u.oneCell' = true) := fun x hx u hu => by
            obtain ⟨z, _, rfl⟩ := List.mem_map.1 (List.mem_of_mem_take hx)
            exact z.one u hu
          have ed : (L.map Wm.C).drop (k + 1) = (L.drop (k + 1)).map Wm.C := List.map_drop.symm
          have et : (L.map Wm.C).take k = (L.take k).map Wm.C := List.map_take.symm
          rw [ed] at CUT OD
          rw [et] at TAK OT
          replace FIN : Hid (∀ W, MB 96 101 B W g (L.take k ++ L.drop (k + 1)) last ∧ Tb B0 tagR wr W → _) := fun W q => FIN.out 0 _ W (by rw [hee.out (), D1.out.2]; rfl) D1.out.1.symm q
          replace PUT : Hid (∀ w1 A n c, Ext wr w1 → OwnC wr.heap.size w1 101 138 A n c ((L.take k).map Wm.C ++ (L.drop (k + 1)).map Wm.C) → MB 96 101 B (w1.setCell ⟨g, 0, none⟩ (.slice A n c)) g (L.take k ++ L.drop (k + 1)) last ∧ Tb B0 tagR wr (w1.setCell ⟨g, 0, none⟩ (.slice A n c))) := fun w1 A n c e o => PUT.out w1 A n c _ e (by rw [List.map_append]; exact o) ALL.out
          clear D0 D1 ALL hee dk tk hne ed et hiy SAME
          have hqt : (iy == id) = true := by simp [hq]
          have wk : IntKind.i64.wrap ((k : Int) + 1) = ((k + 1 : Nat) : Int) := (IntWalk.i64_in _ (by omega)).trans rfl
          have P7 : Hid (∀ s, Ext wr s → s.cell? ⟨g, 0, none⟩ = some (.slice (some ⟨b, off, none⟩) n c)) := fun s q => (hcb.out.ext q).cell rfl
          have P7e : Hid (∀ s, Ext wr s → Cb s g 96 [.slice (some ⟨b, off, none⟩) n c, .int .i64 last]) := fun s q => hcb.out.ext q
          go_upto_region 7 with fail
          clear ci c0 c1
          refine qgZB wr.heap.size 19 [0, 2, 3, 4, 5, 6, 7, 9, 10, 11, 12, 13, 14, 15, 1, 8, 16, 17, 18, 19] [1, 8, 16, 19] ?_
          repeat (refine qzR _ (fun w' e => P7.out w' (Ext.trans (Ext.refl _).drew e)) ?_; go_frame)
          refine qzV rfl (fun _ => True) (fun _ _ => trivial) (.slice (some ⟨b, off, none⟩) k c) (fun w' _ => exec_toC (s := 138) Tryd.underlying45 (by kernel_rfl) (A := some ⟨b, off, none⟩) (n := n) (c := c) (k := k) rfl rfl rfl (by omega)) ?_
          go_frame
          repeat (refine qzR _ (fun w' e => P7.out w' (Ext.trans (Ext.refl _).drew e)) ?_; go_frame)
          refine qzV rfl (fun _ => True) (fun _ _ => trivial) (.slice (if c = k + 1 then some ⟨b, off, none⟩ else (some ⟨b, off, none⟩ : Option Addr).map (·.add ((k + 1) * 138))) (n - (k + 1)) (c - (k + 1))) (fun w' _ => exec_fromC (s := 138) Tryd.underlying45 (by kernel_rfl) (k := k + 1) rfl rfl (congrArg (Value.int .i64) (rfl : (k : Int) + 1 = ((k + 1 : Nat) : Int))) hlt hcap1) ?_
          go_frame
          have SE : Hid (Ext wr wr.drew) := (Ext.refl wr).drew
          obtain ⟨AC, hac⟩ : ∃ AC, AC = (if c = k + 1 then some ⟨b, off, none⟩ else (some ⟨b, off, none⟩ : Option Addr).map (·.add ((k + 1) * 138))) := ⟨_, rfl⟩
          rw [← hac] at CUT ⊢
          clear hac
          generalize wr.drew = WC at *
          refine qzD fun K hK => ?_
          go_simp
          have o1 : Hid (OwnC wr.heap.size (WC.alloc (Obj.cells #[] 101)) 101 138 (some ⟨WC.heap.size, 0, none⟩) 0 0 []) := ⟨World.ownsRow_lit WC #[] 0 SE.out.size (Nat.zero_le _) rfl, fun x hx => (by cases hx), rfl⟩
          have e1 : Ext WC (WC.alloc (Obj.cells #[] 101)) := (Ext.refl WC).alloc _
          have S1 : Hid (Ext wr (WC.alloc (Obj.cells #[] 101))) := SE.out.trans e1
          refine hK.out _ _ (Or.inr (e1.mono SE.out.size)) ?_
          clear hK K
          try go_frame
          clear e1 SE
          generalize WC.alloc (Obj.cells #[] 101) = W1 at *
          generalize WC.heap.size = s1 at *
          clear WC
          refine qzD fun K hK => ?_
          refine wp_append_cc (t := 45) (e := 101) (s := 138) Tryd.underlying45 infoR zM_cells (by omega) bytesR rfl rfl rfl o1.out (TAK.out _ S1.out) OT.out (by omega) S1.out.size ?_
          intro A2 c2 w2 o2 g2 b2
          simp only [Nat.zero_add, List.nil_append] at o2 ⊢
          refine hK.out _ _ (Or.inr b2) ?_
          clear hK K
          try go_frame
          have S2 : Hid (Ext wr w2) := Below.trans S1.out b2
          clear o1 S1 g2 b2 TAK
          refine qzD fun K hK => ?_
          refine wp_append_cc (t := 45) (e := 101) (s := 138) Tryd.underlying45 infoR zM_cells (by omega) bytesR rfl rfl rfl o2 (CUT.out _ S2.out) OD.out (by omega) S2.out.size ?_
          intro A3 c3 w3 o3 g3 b3
          refine hK.out _ _ (Or.inr b3) ?_
          clear hK K
          try go_frame
          have S3 : Hid (Ext wr w3) := Below.trans S2.out b3
          have P4 := Lib.hid (FIN.out _ (PUT.out w3 A3 _ c3 S3.out o3))
          have kg := P7e.out w3 S3.out
          have c0_ := kg.cell (j := 0) rfl
          have f0_ := kg.frozen 0
          clear o2 o3 g3 b3 S2 S3 CUT PUT FIN P7 P7e kg cs hcb OT OD
          repeat (refine qzR0 ?_; go_frame)
          refine qzD fun K hK => ?_
          go_simp
          refine hK.out _ _ (Or.inl rfl) ?_
          clear hK K
          try go_frame
          refine seqZ_done ?_
          clear c0_ f0_
          go_wp2_with fail
          go_ret
          exact P4.out
        · have hqf : (iy == id) = false := by simp [hq]
          have NE : Hid (∀ x ∈ L.take (k + 1), x.d.id ≠ id) := fun x hx => by
            rw [tk.out ()] at hx
            rcases List.mem_append.1 hx with q | q
            · exact hne.out x q
            · rw [List.mem_singleton.1 q, ← hiy.out ()]; exact hq
          clear PUT FIN hee SAME cs hcb dk tk hne hiy hq
          go_wp2_with fail
          go_round
          case rel => exact ⟨k + 1, by omega, by go_num, NE.out, trivial⟩
          case measure => simp [intOf]; omega
      · obtain rfl : k = n := by omega
        have D1 := dropI_none (L := L) (id := id) (fun x hx => hne x (by rw [← hLn, List.take_length]; exact hx))
        have P4 := Lib.hid (FIN.out 5 _ _ (by rw [hee.out (), D1.2]; rfl) D1.1.symm SAME.out)
        clear PUT FIN D1 hne hee SAME cs hcb
        go_wp2_with fail
        go_ret
        exact P4.out
end Go.Proofs.YtbnjmmefnjoofaaDoor
