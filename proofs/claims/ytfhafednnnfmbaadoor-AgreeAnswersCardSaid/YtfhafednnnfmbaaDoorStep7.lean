import Derived.Test.YtfhafednnnfmbaaDoorPkN
import Derived.Test.YtfhafednnnfmbaaDoorFree
import Derived.Test.YtfhafednnnfmbaaDoorFillP
import Derived.Deep.DeepCutAuto
import Derived.Deep.DeepHandedRow
/-
  (pair).step: a step of the ladder.
-/
namespace Go.Proofs.YtfhafednnnfmbaaDoor
open Go.ChangeShapes Go.WideShapes Go.ChangeAt Go.RowKit Go.Deep
set_option maxRecDepth 100000

theorem built_pr {a b c d : List Nat} (h : L8 a b c d) : Tryd.prog.built 86 [(0, .agg (wcells a).toArray), (1, .agg (wcells b).toArray), (2, .agg (wcells c).toArray), (3, .agg (wcells d).toArray)] = some (prC a b c d).toArray := by
  obtain ⟨h1, h2, h3, h4⟩ := h
  have hb : ∃ pl : Nat → Option (Nat × Nat), (pl 0 = some (0, 8) ∧ pl 1 = some (8, 8) ∧ pl 2 = some (16, 8) ∧ pl 3 = some (24, 8)) ∧ ∀ ps, Tryd.prog.built 86 ps = Instr.fill pl (prC zw8 zw8 zw8 zw8).toArray ps := ⟨(#[(0, 8), (8, 8), (16, 8), (24, 8)][·]?), ⟨rfl, rfl, rfl, rfl⟩, fun ps => by kernel_rfl⟩
  obtain ⟨pl, ⟨q0, q1, q2, q3⟩, hp⟩ := hb
  rw [hp]
  have hf : flatV [.agg (wcells a).toArray, .agg (wcells b).toArray, .agg (wcells c).toArray, .agg (wcells d).toArray] = prC a b c d := by simp [flatV, Value.cells, prC]
  have s1 : (Value.agg (wcells a).toArray).cells.size = 8 := wcells_size h1
  have s2 : (Value.agg (wcells b).toArray).cells.size = 8 := wcells_size h2
  have s3 : (Value.agg (wcells c).toArray).cells.size = 8 := wcells_size h3
  have s4 : (Value.agg (wcells d).toArray).cells.size = 8 := wcells_size h4
  rw [← hf]
  exact fill_struct (vs := [.agg (wcells a).toArray, .agg (wcells b).toArray, .agg (wcells c).toArray, .agg (wcells d).toArray]) ⟨by rw [s1, q0], by rw [s1, s2, q1], by rw [s1, s2, s3, q2], by rw [s1, s2, s3, s4, q3], trivial⟩ (by rw [hf]; exact prC_len ⟨h1, h2, h3, h4⟩)
theorem pair_alloc (w : World) : (zeroValue 86).run Tryd.prog w = .ok (.agg (prC zw8 zw8 zw8 zw8).toArray) w := by
  kernel_rfl
set_option maxHeartbeats 8000000 in
theorem step_calls {x : Nat} {s : StN} {w : World} (hs : LtS s) (hx : x < P25) {tg : TypeId × Nat × Nat} (hG : Gp w tg) :
    Calls Tryd.prog 47 #[.agg (prC (lbs 8 s.1) (lbs 8 s.2.1) (lbs 8 s.2.2.1) (lbs 8 s.2.2.2)).toArray, .agg (wcells (lbs 8 x)).toArray] w fun e w' =>
      e = .returned (.agg (prC (lbs 8 (stepN x s).1) (lbs 8 (stepN x s).2.1) (lbs 8 (stepN x s).2.2.1) (lbs 8 (stepN x s).2.2.2)).toArray) ∧ Ext w w' := by
  obtain ⟨a, b, c, d⟩ := s
  obtain ⟨pa, pb, pc, pd⟩ := hs
  simp only at pa pb pc pd
  have px := hx
  obtain ⟨q, hq⟩ : ∃ n_, n_ = 121665 := ⟨_, rfl⟩
  have pq : q < P25 := by rw [hq]; decide +kernel
  obtain ⟨ee, hee⟩ : ∃ n_, n_ = addP a c := ⟨_, rfl⟩
  have pee : ee < P25 := by rw [hee]; exact addP_lt _ _
  obtain ⟨f, hf⟩ : ∃ n_, n_ = subP a c := ⟨_, rfl⟩
  have pf : f < P25 := by rw [hf]; exact subP_lt _ _
  obtain ⟨g, hg⟩ : ∃ n_, n_ = addP b d := ⟨_, rfl⟩
  have pg : g < P25 := by rw [hg]; exact addP_lt _ _
  obtain ⟨h, hh⟩ : ∃ n_, n_ = subP b d := ⟨_, rfl⟩
  have ph : h < P25 := by rw [hh]; exact subP_lt _ _
  obtain ⟨u, hu⟩ : ∃ n_, n_ = mulP ee ee := ⟨_, rfl⟩
  have pu : u < P25 := by rw [hu]; exact mulP_lt _ _
  obtain ⟨v, hv⟩ : ∃ n_, n_ = mulP f f := ⟨_, rfl⟩
  have pv : v < P25 := by rw [hv]; exact mulP_lt _ _
  obtain ⟨k, hk⟩ : ∃ n_, n_ = subP u v := ⟨_, rfl⟩
  have pk : k < P25 := by rw [hk]; exact subP_lt _ _
  obtain ⟨y, hy⟩ : ∃ n_, n_ = mulP h ee := ⟨_, rfl⟩
  have py : y < P25 := by rw [hy]; exact mulP_lt _ _
  obtain ⟨z, hz⟩ : ∃ n_, n_ = mulP g f := ⟨_, rfl⟩
  have pz : z < P25 := by rw [hz]; exact mulP_lt _ _
  obtain ⟨m, hm⟩ : ∃ n_, n_ = addP y z := ⟨_, rfl⟩
  have pm : m < P25 := by rw [hm]; exact addP_lt _ _
  obtain ⟨n, hn⟩ : ∃ n_, n_ = subP y z := ⟨_, rfl⟩
  have pn : n < P25 := by rw [hn]; exact subP_lt _ _
  obtain ⟨r1, hr1⟩ : ∃ n_, n_ = mulP u v := ⟨_, rfl⟩
  have pr1 : r1 < P25 := by rw [hr1]; exact mulP_lt _ _
  obtain ⟨r2, hr2⟩ : ∃ n_, n_ = mulP m m := ⟨_, rfl⟩
  have pr2 : r2 < P25 := by rw [hr2]; exact mulP_lt _ _
  obtain ⟨t, ht⟩ : ∃ n_, n_ = mulP q k := ⟨_, rfl⟩
  have pt : t < P25 := by rw [ht]; exact mulP_lt _ _
  obtain ⟨i, hi⟩ : ∃ n_, n_ = addP u t := ⟨_, rfl⟩
  have pi : i < P25 := by rw [hi]; exact addP_lt _ _
  obtain ⟨r3, hr3⟩ : ∃ n_, n_ = mulP k i := ⟨_, rfl⟩
  have pr3 : r3 < P25 := by rw [hr3]; exact mulP_lt _ _
  obtain ⟨j, hj⟩ : ∃ n_, n_ = mulP x n := ⟨_, rfl⟩
  have pj : j < P25 := by rw [hj]; exact mulP_lt _ _
  obtain ⟨r4, hr4⟩ : ∃ n_, n_ = mulP j n := ⟨_, rfl⟩
  have pr4 : r4 < P25 := by rw [hr4]; exact mulP_lt _ _
  have HR : Hid (stepN x (a, b, c, d) = (r1, r2, r3, r4)) := by unfold Hid; rw [hr1, hr2, hr3, hr4, hi, hj, ht, hm, hn, hk, hy, hz, hu, hv, hh, hg, hf, hee, hq]; rfl
  have F_ee : Hid (∀ W, Ext w W → Calls Tryd.prog 63 #[.agg (wcells (lbs 8 a)).toArray, .agg (wcells (lbs 8 c)).toArray] W fun e w' => e = .returned (.agg (wcells (lbs 8 ee)).toArray) ∧ Ext W w') := fun W e_ => by rw [hee]; exact eadd_calls pa pc (hG.ext e_)
  have F_f : Hid (∀ W, Ext w W → Calls Tryd.prog 64 #[.agg (wcells (lbs 8 a)).toArray, .agg (wcells (lbs 8 c)).toArray] W fun e w' => e = .returned (.agg (wcells (lbs 8 f)).toArray) ∧ Ext W w') := fun W e_ => by rw [hf]; exact esub_calls pa pc (hG.ext e_)
  have F_g : Hid (∀ W, Ext w W → Calls Tryd.prog 63 #[.agg (wcells (lbs 8 b)).toArray, .agg (wcells (lbs 8 d)).toArray] W fun e w' => e = .returned (.agg (wcells (lbs 8 g)).toArray) ∧ Ext W w') := fun W e_ => by rw [hg]; exact eadd_calls pb pd (hG.ext e_)
  have F_h : Hid (∀ W, Ext w W → Calls Tryd.prog 64 #[.agg (wcells (lbs 8 b)).toArray, .agg (wcells (lbs 8 d)).toArray] W fun e w' => e = .returned (.agg (wcells (lbs 8 h)).toArray) ∧ Ext W w') := fun W e_ => by rw [hh]; exact esub_calls pb pd (hG.ext e_)
  have F_u : Hid (∀ W, Ext w W → Calls Tryd.prog 48 #[.agg (wcells (lbs 8 ee)).toArray, .agg (wcells (lbs 8 ee)).toArray] W fun e w' => e = .returned (.agg (wcells (lbs 8 u)).toArray) ∧ Ext W w') := fun W e_ => by rw [hu]; exact emul_calls pee pee (hG.ext e_)
  have F_v : Hid (∀ W, Ext w W → Calls Tryd.prog 48 #[.agg (wcells (lbs 8 f)).toArray, .agg (wcells (lbs 8 f)).toArray] W fun e w' => e = .returned (.agg (wcells (lbs 8 v)).toArray) ∧ Ext W w') := fun W e_ => by rw [hv]; exact emul_calls pf pf (hG.ext e_)
  have F_k : Hid (∀ W, Ext w W → Calls Tryd.prog 64 #[.agg (wcells (lbs 8 u)).toArray, .agg (wcells (lbs 8 v)).toArray] W fun e w' => e = .returned (.agg (wcells (lbs 8 k)).toArray) ∧ Ext W w') := fun W e_ => by rw [hk]; exact esub_calls pu pv (hG.ext e_)
  have F_y : Hid (∀ W, Ext w W → Calls Tryd.prog 48 #[.agg (wcells (lbs 8 h)).toArray, .agg (wcells (lbs 8 ee)).toArray] W fun e w' => e = .returned (.agg (wcells (lbs 8 y)).toArray) ∧ Ext W w') := fun W e_ => by rw [hy]; exact emul_calls ph pee (hG.ext e_)
  have F_z : Hid (∀ W, Ext w W → Calls Tryd.prog 48 #[.agg (wcells (lbs 8 g)).toArray, .agg (wcells (lbs 8 f)).toArray] W fun e w' => e = .returned (.agg (wcells (lbs 8 z)).toArray) ∧ Ext W w') := fun W e_ => by rw [hz]; exact emul_calls pg pf (hG.ext e_)
  have F_m : Hid (∀ W, Ext w W → Calls Tryd.prog 63 #[.agg (wcells (lbs 8 y)).toArray, .agg (wcells (lbs 8 z)).toArray] W fun e w' => e = .returned (.agg (wcells (lbs 8 m)).toArray) ∧ Ext W w') := fun W e_ => by rw [hm]; exact eadd_calls py pz (hG.ext e_)
  have F_n : Hid (∀ W, Ext w W → Calls Tryd.prog 64 #[.agg (wcells (lbs 8 y)).toArray, .agg (wcells (lbs 8 z)).toArray] W fun e w' => e = .returned (.agg (wcells (lbs 8 n)).toArray) ∧ Ext W w') := fun W e_ => by rw [hn]; exact esub_calls py pz (hG.ext e_)
  have F_r1 : Hid (∀ W, Ext w W → Calls Tryd.prog 48 #[.agg (wcells (lbs 8 u)).toArray, .agg (wcells (lbs 8 v)).toArray] W fun e w' => e = .returned (.agg (wcells (lbs 8 r1)).toArray) ∧ Ext W w') := fun W e_ => by rw [hr1]; exact emul_calls pu pv (hG.ext e_)
  have F_r2 : Hid (∀ W, Ext w W → Calls Tryd.prog 48 #[.agg (wcells (lbs 8 m)).toArray, .agg (wcells (lbs 8 m)).toArray] W fun e w' => e = .returned (.agg (wcells (lbs 8 r2)).toArray) ∧ Ext W w') := fun W e_ => by rw [hr2]; exact emul_calls pm pm (hG.ext e_)
  have F_t : Hid (∀ W, Ext w W → Calls Tryd.prog 48 #[.agg (wcells (lbs 8 q)).toArray, .agg (wcells (lbs 8 k)).toArray] W fun e w' => e = .returned (.agg (wcells (lbs 8 t)).toArray) ∧ Ext W w') := fun W e_ => by rw [ht]; exact emul_calls pq pk (hG.ext e_)
  have F_i : Hid (∀ W, Ext w W → Calls Tryd.prog 63 #[.agg (wcells (lbs 8 u)).toArray, .agg (wcells (lbs 8 t)).toArray] W fun e w' => e = .returned (.agg (wcells (lbs 8 i)).toArray) ∧ Ext W w') := fun W e_ => by rw [hi]; exact eadd_calls pu pt (hG.ext e_)
  have F_r3 : Hid (∀ W, Ext w W → Calls Tryd.prog 48 #[.agg (wcells (lbs 8 k)).toArray, .agg (wcells (lbs 8 i)).toArray] W fun e w' => e = .returned (.agg (wcells (lbs 8 r3)).toArray) ∧ Ext W w') := fun W e_ => by rw [hr3]; exact emul_calls pk pi (hG.ext e_)
  have F_j : Hid (∀ W, Ext w W → Calls Tryd.prog 48 #[.agg (wcells (lbs 8 x)).toArray, .agg (wcells (lbs 8 n)).toArray] W fun e w' => e = .returned (.agg (wcells (lbs 8 j)).toArray) ∧ Ext W w') := fun W e_ => by rw [hj]; exact emul_calls px pn (hG.ext e_)
  have F_r4 : Hid (∀ W, Ext w W → Calls Tryd.prog 48 #[.agg (wcells (lbs 8 j)).toArray, .agg (wcells (lbs 8 n)).toArray] W fun e w' => e = .returned (.agg (wcells (lbs 8 r4)).toArray) ∧ Ext W w') := fun W e_ => by rw [hr4]; exact emul_calls pj pn (hG.ext e_)
  have F_q : Hid (∀ W, Ext w W → Calls Tryd.prog 65 #[] W fun e w' => e = .returned (.agg (wcells (lbs 8 q)).toArray) ∧ Ext W w') := fun W e_ => by rw [hq]; exact factor_calls (hG.ext e_)
  have HR2 : Hid (∀ _ : Unit, prC (lbs 8 (stepN x (a, b, c, d)).1) (lbs 8 (stepN x (a, b, c, d)).2.1) (lbs 8 (stepN x (a, b, c, d)).2.2.1) (lbs 8 (stepN x (a, b, c, d)).2.2.2) = prC (lbs 8 r1) (lbs 8 r2) (lbs 8 r3) (lbs 8 r4)) := fun _ => by rw [HR.out]
  generalize prC (lbs 8 (stepN x (a, b, c, d)).1) (lbs 8 (stepN x (a, b, c, d)).2.1) (lbs 8 (stepN x (a, b, c, d)).2.2.1) (lbs 8 (stepN x (a, b, c, d)).2.2.2) = RES at *
  show Calls Tryd.prog 47 #[.agg (prC (lbs 8 a) (lbs 8 b) (lbs 8 c) (lbs 8 d)).toArray, .agg (wcells (lbs 8 x)).toArray] w _
  clear HR hG hq hx pa pb pc pd px pq pee pf pg ph pu pv pk py pz pm pn pr1 pr2 pt pi pr3 pj pr4 hee hf hg hh hu hv hk hy hz hm hn hr1 hr2 ht hi hr3 hj hr4
  have L_va := lbs_len 8 a
  have L_vb := lbs_len 8 b
  have L_vc := lbs_len 8 c
  have L_vd := lbs_len 8 d
  have L_vx := lbs_len 8 x
  have L_vq := lbs_len 8 q
  have L_vee := lbs_len 8 ee
  have L_vf := lbs_len 8 f
  have L_vg := lbs_len 8 g
  have L_vh := lbs_len 8 h
  have L_vu := lbs_len 8 u
  have L_vv := lbs_len 8 v
  have L_vk := lbs_len 8 k
  have L_vy := lbs_len 8 y
  have L_vz := lbs_len 8 z
  have L_vm := lbs_len 8 m
  have L_vn := lbs_len 8 n
  have L_vr1 := lbs_len 8 r1
  have L_vr2 := lbs_len 8 r2
  have L_vt := lbs_len 8 t
  have L_vi := lbs_len 8 i
  have L_vr3 := lbs_len 8 r3
  have L_vj := lbs_len 8 j
  have L_vr4 := lbs_len 8 r4
  generalize lbs 8 a = va at *
  generalize lbs 8 b = vb at *
  generalize lbs 8 c = vc at *
  generalize lbs 8 d = vd at *
  generalize lbs 8 x = vx at *
  generalize lbs 8 q = vq at *
  generalize lbs 8 ee = vee at *
  generalize lbs 8 f = vf at *
  generalize lbs 8 g = vg at *
  generalize lbs 8 h = vh at *
  generalize lbs 8 u = vu at *
  generalize lbs 8 v = vv at *
  generalize lbs 8 k = vk at *
  generalize lbs 8 y = vy at *
  generalize lbs 8 z = vz at *
  generalize lbs 8 m = vm at *
  generalize lbs 8 n = vn at *
  generalize lbs 8 r1 = vr1 at *
  generalize lbs 8 r2 = vr2 at *
  generalize lbs 8 t = vt at *
  generalize lbs 8 i = vi at *
  generalize lbs 8 r3 = vr3 at *
  generalize lbs 8 j = vj at *
  generalize lbs 8 r4 = vr4 at *
  have S_va := wcells_size L_va
  have O_va := wcells_one va
  have C_va := wc8' L_va
  have S_vb := wcells_size L_vb
  have O_vb := wcells_one vb
  have C_vb := wc8' L_vb
  have S_vc := wcells_size L_vc
  have O_vc := wcells_one vc
  have C_vc := wc8' L_vc
  have S_vd := wcells_size L_vd
  have O_vd := wcells_one vd
  have C_vd := wc8' L_vd
  have S_vx := wcells_size L_vx
  have O_vx := wcells_one vx
  have C_vx := wc8' L_vx
  have S_vq := wcells_size L_vq
  have O_vq := wcells_one vq
  have C_vq := wc8' L_vq
  have S_vee := wcells_size L_vee
  have O_vee := wcells_one vee
  have C_vee := wc8' L_vee
  have S_vf := wcells_size L_vf
  have O_vf := wcells_one vf
  have C_vf := wc8' L_vf
  have S_vg := wcells_size L_vg
  have O_vg := wcells_one vg
  have C_vg := wc8' L_vg
  have S_vh := wcells_size L_vh
  have O_vh := wcells_one vh
  have C_vh := wc8' L_vh
  have S_vu := wcells_size L_vu
  have O_vu := wcells_one vu
  have C_vu := wc8' L_vu
  have S_vv := wcells_size L_vv
  have O_vv := wcells_one vv
  have C_vv := wc8' L_vv
  have S_vk := wcells_size L_vk
  have O_vk := wcells_one vk
  have C_vk := wc8' L_vk
  have S_vy := wcells_size L_vy
  have O_vy := wcells_one vy
  have C_vy := wc8' L_vy
  have S_vz := wcells_size L_vz
  have O_vz := wcells_one vz
  have C_vz := wc8' L_vz
  have S_vm := wcells_size L_vm
  have O_vm := wcells_one vm
  have C_vm := wc8' L_vm
  have S_vn := wcells_size L_vn
  have O_vn := wcells_one vn
  have C_vn := wc8' L_vn
  have S_vr1 := wcells_size L_vr1
  have O_vr1 := wcells_one vr1
  have C_vr1 := wc8' L_vr1
  have S_vr2 := wcells_size L_vr2
  have O_vr2 := wcells_one vr2
  have C_vr2 := wc8' L_vr2
  have S_vt := wcells_size L_vt
  have O_vt := wcells_one vt
  have C_vt := wc8' L_vt
  have S_vi := wcells_size L_vi
  have O_vi := wcells_one vi
  have C_vi := wc8' L_vi
  have S_vr3 := wcells_size L_vr3
  have O_vr3 := wcells_one vr3
  have C_vr3 := wc8' L_vr3
  have S_vj := wcells_size L_vj
  have O_vj := wcells_one vj
  have C_vj := wc8' L_vj
  have S_vr4 := wcells_size L_vr4
  have O_vr4 := wcells_one vr4
  have C_vr4 := wc8' L_vr4
  have hal2 := elem_alloc
  have hal9 := pair_alloc
  have L_zs : zw8.length = 8 := rfl
  generalize zw8 = zs at *
  have S_zs := wcells_size L_zs
  have hin : L8 va vb vc vd := ⟨L_va, L_vb, L_vc, L_vd⟩
  have hzz : L8 zs zs zs zs := ⟨L_zs, L_zs, L_zs, L_zs⟩
  have hout : L8 vr1 vr2 vr3 vr4 := ⟨L_vr1, L_vr2, L_vr3, L_vr4⟩
  have hbp := Lib.hid (built_pr hout)
  have S_in : (prC va vb vc vd).toArray.size = 32 := prC_len hin
  have S_out : (prC vr1 vr2 vr3 vr4).toArray.size = 32 := prC_len hout
  have S_zz : (prC zs zs zs zs).toArray.size = 32 := prC_len hzz
  have B0 : Hid (∀ s, Ext (((w.alloc (Obj.cells (prC va vb vc vd).toArray 86)).alloc (Obj.cells (wcells vx).toArray 81)).alloc (Obj.cells (prC zs zs zs zs).toArray 86)) s → Pr s w.heap.size va vb vc vd ∧ Wr s (w.heap.size + 1) 81 vx ∧ Pr s (w.heap.size + 1 + 1) zs zs zs zs ∧ Ext w s) := fun s e => ⟨Pr.kept ⟨heap_alloc30 _ _ _ _, hin⟩ e (by simp; omega), Wr.kept (heap_alloc31 _ _ _ _) e (by simp), Pr.kept ⟨heap_alloc32 _ _ _ _, hzz⟩ e (by simp), ((((Ext.refl w).alloc _).alloc _).alloc _).trans e⟩
  go_enter Tryd.func47, Tryd.ntmps47
  go_upto_region 1 with fail
  refine wp_gen (fun W => ∀ s, Ext W s → Pr s w.heap.size va vb vc vd ∧ Wr s (w.heap.size + 1) 81 vx ∧ Pr s (w.heap.size + 1 + 1) zs zs zs zs ∧ Ext w s) B0.out ?_
  clear B0
  rintro w0 P0
  replace P0 := Lib.hid P0
  go_wp2_with fail
  refine wp_region_free (R := Ext) Ext.refl (fun _ _ _ => Ext.trans) [0, 1, 2, 3, 4, 5, 6, 7, 8, 9, 10, 11] [12, 13] [0, 1, 0, 4, 15, 0, 32, 0, 128, 511, 0, 0, 4095, 8191] [true, true, true, true, true, true, true, true, true, true, true, true, false, false] [(0, 17, 8), (1, 18, 131072), (0, 19, 8), (4, 20, 524288), (10, 21, 1310720), (0, 22, 8), (32, 23, 4194304), (0, 24, 8), (128, 25, 16777216), (336, 26, 41943040), (0, 6, 0), (0, 7, 0), (3615, 0, 2097216), (8191, 0, 67108992)] (by kernel_rfl) (by kernel_rfl) (by kernel_rfl) (by kernel_rfl) ?_
  refine free_det (fun _ => Ext.refl _) _ rfl (v := ?_) (d := 17) rfl rfl ?_ ?_
  rotate_left
  · intro a_ w_ hev hR hk
    have e2 : a_.eval (.tmp 2) = _ := hk 2 rfl
    clear hk
    generalize a_.eval = ev at *
    obtain ⟨hev1, hev2, hev3⟩ := hev
    go_simp
    (try with_reducible rfl)
  refine free_det (fun _ => Ext.refl _) _ rfl (v := .agg (wcells va).toArray) (d := 18) rfl rfl ?_ ?_
  · intro a_ w_ hev hR hk
    have e16 : a_.eval (.tmp 16) = _ := hk 16 rfl
    exact (exec_load_mid rfl e16 (P0.out w_ (Ext.trans (Ext.refl _).drew hR)).1.at0 rfl rfl (by rw [C_va]; rfl))
  refine free_det (fun _ => Ext.refl _) _ rfl (v := ?_) (d := 19) rfl rfl ?_ ?_
  rotate_left
  · intro a_ w_ hev hR hk
    have e2 : a_.eval (.tmp 2) = _ := hk 2 rfl
    clear hk
    generalize a_.eval = ev at *
    obtain ⟨hev1, hev2, hev3⟩ := hev
    go_simp
    (try with_reducible rfl)
  refine free_det (fun _ => Ext.refl _) _ rfl (v := .agg (wcells vc).toArray) (d := 20) rfl rfl ?_ ?_
  · intro a_ w_ hev hR hk
    have e18 : a_.eval (.tmp 18) = _ := hk 18 rfl
    exact (exec_load_mid rfl e18 (P0.out w_ (Ext.trans (Ext.refl _).drew hR)).1.at16 rfl rfl (by rw [C_vc]; rfl))
  refine free_step _ rfl (fun u _ => u = .agg (wcells vee).toArray) (d := 21) rfl (fun _ _ _ h _ => h) rfl ?_ ?_
  · intro a_ w_ hev hR hk K1 hK1
    have e17 : a_.eval (.tmp 17) = _ := hk 17 rfl
    have e19 : a_.eval (.tmp 19) = _ := hk 19 rfl
    clear hk
    have f17 := ev_get.trans e17
    have f19 := ev_get.trans e19
    go_simp
    refine (F_ee.out _ (P0.out w_ (Ext.trans (Ext.refl _).drew hR)).2.2.2).mono ?_
    rintro e_ w2_ ⟨rfl, x_⟩
    exact hK1.out _ _ x_ rfl
  refine free_det (fun _ => Ext.refl _) _ rfl (v := ?_) (d := 22) rfl rfl ?_ ?_
  rotate_left
  · intro a_ w_ hev hR hk
    have e2 : a_.eval (.tmp 2) = _ := hk 2 rfl
    clear hk
    generalize a_.eval = ev at *
    obtain ⟨hev1, hev2, hev3⟩ := hev
    go_simp
    (try with_reducible rfl)
  refine free_det (fun _ => Ext.refl _) _ rfl (v := .agg (wcells va).toArray) (d := 23) rfl rfl ?_ ?_
  · intro a_ w_ hev hR hk
    have e21 : a_.eval (.tmp 21) = _ := hk 21 rfl
    exact (exec_load_mid rfl e21 (P0.out w_ (Ext.trans (Ext.refl _).drew hR)).1.at0 rfl rfl (by rw [C_va]; rfl))
  refine free_det (fun _ => Ext.refl _) _ rfl (v := ?_) (d := 24) rfl rfl ?_ ?_
  rotate_left
  · intro a_ w_ hev hR hk
    have e2 : a_.eval (.tmp 2) = _ := hk 2 rfl
    clear hk
    generalize a_.eval = ev at *
    obtain ⟨hev1, hev2, hev3⟩ := hev
    go_simp
    (try with_reducible rfl)
  refine free_det (fun _ => Ext.refl _) _ rfl (v := .agg (wcells vc).toArray) (d := 25) rfl rfl ?_ ?_
  · intro a_ w_ hev hR hk
    have e23 : a_.eval (.tmp 23) = _ := hk 23 rfl
    exact (exec_load_mid rfl e23 (P0.out w_ (Ext.trans (Ext.refl _).drew hR)).1.at16 rfl rfl (by rw [C_vc]; rfl))
  refine free_step _ rfl (fun u _ => u = .agg (wcells vf).toArray) (d := 26) rfl (fun _ _ _ h _ => h) rfl ?_ ?_
  · intro a_ w_ hev hR hk K1 hK1
    have e22 : a_.eval (.tmp 22) = _ := hk 22 rfl
    have e24 : a_.eval (.tmp 24) = _ := hk 24 rfl
    clear hk
    have f22 := ev_get.trans e22
    have f24 := ev_get.trans e24
    go_simp
    refine (F_f.out _ (P0.out w_ (Ext.trans (Ext.refl _).drew hR)).2.2.2).mono ?_
    rintro e_ w2_ ⟨rfl, x_⟩
    exact hK1.out _ _ x_ rfl
  refine free_new _ rfl (fun u w_ => ∃ g, u = .pointer (some ⟨g, 0, none⟩) ∧ w0.drew.heap.size ≤ g ∧ w_.heap[g]? = some (.cells (wcells zs).toArray 81 (0, 0))) (d := 6) rfl (fun _ _ _ h e => by obtain ⟨g, h1, h2, h3⟩ := h; exact ⟨g, h1, h2, (e.block g (heap_lt h3)).trans h3⟩) rfl (by decide) (fun _ _ h => by obtain ⟨g, h1, h2, h3⟩ := h; subst h1; exact ⟨g, rfl, heap_lt h3⟩) ?_ ?_
  · intro a_ w_ hev hR hk K1 hK1
    go_simp
    exact hK1.out _ _ ((Ext.refl _).alloc _) ⟨_, rfl, hR.size, heap_alloc_new _ _⟩ (fun _ q => by cases q; exact Nat.le_refl _)
  refine free_new _ rfl (fun u w_ => ∃ g, u = .pointer (some ⟨g, 0, none⟩) ∧ w0.drew.heap.size ≤ g ∧ w_.heap[g]? = some (.cells (wcells zs).toArray 81 (0, 0))) (d := 7) rfl (fun _ _ _ h e => by obtain ⟨g, h1, h2, h3⟩ := h; exact ⟨g, h1, h2, (e.block g (heap_lt h3)).trans h3⟩) rfl (by decide) (fun _ _ h => by obtain ⟨g, h1, h2, h3⟩ := h; subst h1; exact ⟨g, rfl, heap_lt h3⟩) ?_ ?_
  · intro a_ w_ hev hR hk K1 hK1
    go_simp
    exact hK1.out _ _ ((Ext.refl _).alloc _) ⟨_, rfl, hR.size, heap_alloc_new _ _⟩ (fun _ q => by cases q; exact Nat.le_refl _)
  intro v_ w0q hR hV_ hN_
  obtain ⟨hv11, hv10, hv9, hv8, hv7, hv6, hv5, hv4, hv3, hv2, hv1, hv0, _⟩ := hV_
  replace hv0 : v_ 0 = _ := hv0
  replace hv1 : v_ 1 = _ := hv1
  replace hv2 : v_ 2 = _ := hv2
  replace hv3 : v_ 3 = _ := hv3
  replace hv4 : v_ 4 = _ := hv4
  replace hv5 : v_ 5 = _ := hv5
  replace hv6 : v_ 6 = _ := hv6
  replace hv7 : v_ 7 = _ := hv7
  replace hv8 : v_ 8 = _ := hv8
  replace hv9 : v_ 9 = _ := hv9
  skip
  skip
  dsimp only [putE, dOpt]
  obtain ⟨g_10, hv10, gb_10, gc_10⟩ := hv10
  obtain ⟨g_11, hv11, gb_11, gc_11⟩ := hv11
  have gd_10_11 : g_10 ≠ g_11 := by
    have q_ := hN_ 10 11 rfl rfl (by decide)
    rw [hv10, hv11] at q_
    simpa [blk] using q_
  clear hN_
  rw [hv0, hv1, hv2, hv3, hv4, hv5, hv6, hv7, hv8, hv9, hv10, hv11]
  simp only [Act.put, List.setIfInBounds_toArray, List.set_cons_zero, List.set_cons_succ]
  clear hv0 hv1 hv2 hv3 hv4 hv5 hv6 hv7 hv8 hv9 hv10 hv11
  refine any_more (z := 12) _ rfl rfl (by kernel_rfl) ?_
  intro K1 hK1
  refine wp_store_row _ _ _ rfl g_10 (wcells vee).toArray rfl rfl 81 (wcells zs).toArray gc_10 (by rw [S_vee]; rfl) (by rw [S_vee, S_zs]) O_vee ?_
  refine hK1.out _ _ ?_
  clear hK1 K1
  refine any_more (z := 13) _ rfl rfl (by kernel_rfl) ?_
  intro K1 hK1
  refine wp_store_row _ _ _ rfl g_11 (wcells vf).toArray rfl rfl 81 (wcells zs).toArray ((setRow_other _ _ _ _ (by omega)).trans gc_11) (by rw [S_vf]; rfl) (by rw [S_vf, S_zs]) O_vf ?_
  refine hK1.out _ _ ?_
  clear hK1 K1
  refine any_nil (by kernel_rfl) ?_
  refine gen_q (fun W => Ext w0 W ∧ Wr W g_10 81 vee ∧ Wr W g_11 81 vf) ⟨(below_setRow (below_setRow ((Ext.refl w0).drew.trans hR) gb_10 _) gb_11 _), ((setRow_other _ _ _ _ (by omega)).trans (setRow_heap _ _ _ _ _ _ gc_10)), (setRow_heap _ _ _ _ _ _ ((setRow_other _ _ _ _ (by omega)).trans gc_11))⟩ ?_
  clear hR gc_10 gc_11
  rintro w1 ⟨x_, k0, k1⟩
  generalize g_10 = g1_5 at *
  generalize g_11 = g1_6 at *
  have P1 : Hid (∀ s, Ext w1 s → Pr s w.heap.size va vb vc vd ∧ Wr s (w.heap.size + 1) 81 vx ∧ Pr s (w.heap.size + 1 + 1) zs zs zs zs ∧ Wr s g1_5 81 vee ∧ Wr s g1_6 81 vf ∧ Ext w s) := fun s e => by
    obtain ⟨p0, p1, p2, p3⟩ := P0.out s (x_.trans e)
    exact ⟨p0, p1, p2, k0.kept e k0.lt, k1.kept e k1.lt, p3⟩
  clear P0 x_ k0 k1
  clear gd_10_11
  clear gb_10 gb_11
  go_upto_region 2 with fail
  refine wp_region_free (R := Ext) Ext.refl (fun _ _ _ => Ext.trans) [0, 1, 2, 3, 4, 5, 6, 7, 8, 9, 10, 11] [12, 13] [0, 1, 0, 4, 15, 0, 32, 0, 128, 511, 0, 0, 4095, 8191] [true, true, true, true, true, true, true, true, true, true, true, true, false, false] [(0, 27, 8), (1, 28, 134217728), (0, 29, 8), (4, 30, 536870912), (10, 31, 1342177280), (0, 32, 8), (32, 33, 4294967296), (0, 34, 8), (128, 35, 17179869184), (336, 36, 42949672960), (0, 8, 0), (0, 9, 0), (3615, 0, 2147483904), (8191, 0, 68719477248)] (by kernel_rfl) (by kernel_rfl) (by kernel_rfl) (by kernel_rfl) ?_
  refine free_det (fun _ => Ext.refl _) _ rfl (v := ?_) (d := 27) rfl rfl ?_ ?_
  rotate_left
  · intro a_ w_ hev hR hk
    have e2 : a_.eval (.tmp 2) = _ := hk 2 rfl
    clear hk
    generalize a_.eval = ev at *
    obtain ⟨hev1, hev2, hev3⟩ := hev
    go_simp
    (try with_reducible rfl)
  refine free_det (fun _ => Ext.refl _) _ rfl (v := .agg (wcells vb).toArray) (d := 28) rfl rfl ?_ ?_
  · intro a_ w_ hev hR hk
    have e26 : a_.eval (.tmp 26) = _ := hk 26 rfl
    exact (exec_load_mid rfl e26 (P1.out w_ (Ext.trans (Ext.refl _).drew hR)).1.at8 rfl rfl (by rw [C_vb]; rfl))
  refine free_det (fun _ => Ext.refl _) _ rfl (v := ?_) (d := 29) rfl rfl ?_ ?_
  rotate_left
  · intro a_ w_ hev hR hk
    have e2 : a_.eval (.tmp 2) = _ := hk 2 rfl
    clear hk
    generalize a_.eval = ev at *
    obtain ⟨hev1, hev2, hev3⟩ := hev
    go_simp
    (try with_reducible rfl)
  refine free_det (fun _ => Ext.refl _) _ rfl (v := .agg (wcells vd).toArray) (d := 30) rfl rfl ?_ ?_
  · intro a_ w_ hev hR hk
    have e28 : a_.eval (.tmp 28) = _ := hk 28 rfl
    exact (exec_load_mid rfl e28 (P1.out w_ (Ext.trans (Ext.refl _).drew hR)).1.at24 rfl rfl (by rw [C_vd]; rfl))
  refine free_step _ rfl (fun u _ => u = .agg (wcells vg).toArray) (d := 31) rfl (fun _ _ _ h _ => h) rfl ?_ ?_
  · intro a_ w_ hev hR hk K1 hK1
    have e27 : a_.eval (.tmp 27) = _ := hk 27 rfl
    have e29 : a_.eval (.tmp 29) = _ := hk 29 rfl
    clear hk
    have f27 := ev_get.trans e27
    have f29 := ev_get.trans e29
    go_simp
    refine (F_g.out _ (P1.out w_ (Ext.trans (Ext.refl _).drew hR)).2.2.2.2.2).mono ?_
    rintro e_ w2_ ⟨rfl, x_⟩
    exact hK1.out _ _ x_ rfl
  refine free_det (fun _ => Ext.refl _) _ rfl (v := ?_) (d := 32) rfl rfl ?_ ?_
  rotate_left
  · intro a_ w_ hev hR hk
    have e2 : a_.eval (.tmp 2) = _ := hk 2 rfl
    clear hk
    generalize a_.eval = ev at *
    obtain ⟨hev1, hev2, hev3⟩ := hev
    go_simp
    (try with_reducible rfl)
  refine free_det (fun _ => Ext.refl _) _ rfl (v := .agg (wcells vb).toArray) (d := 33) rfl rfl ?_ ?_
  · intro a_ w_ hev hR hk
    have e31 : a_.eval (.tmp 31) = _ := hk 31 rfl
    exact (exec_load_mid rfl e31 (P1.out w_ (Ext.trans (Ext.refl _).drew hR)).1.at8 rfl rfl (by rw [C_vb]; rfl))
  refine free_det (fun _ => Ext.refl _) _ rfl (v := ?_) (d := 34) rfl rfl ?_ ?_
  rotate_left
  · intro a_ w_ hev hR hk
    have e2 : a_.eval (.tmp 2) = _ := hk 2 rfl
    clear hk
    generalize a_.eval = ev at *
    obtain ⟨hev1, hev2, hev3⟩ := hev
    go_simp
    (try with_reducible rfl)
  refine free_det (fun _ => Ext.refl _) _ rfl (v := .agg (wcells vd).toArray) (d := 35) rfl rfl ?_ ?_
  · intro a_ w_ hev hR hk
    have e33 : a_.eval (.tmp 33) = _ := hk 33 rfl
    exact (exec_load_mid rfl e33 (P1.out w_ (Ext.trans (Ext.refl _).drew hR)).1.at24 rfl rfl (by rw [C_vd]; rfl))
  refine free_step _ rfl (fun u _ => u = .agg (wcells vh).toArray) (d := 36) rfl (fun _ _ _ h _ => h) rfl ?_ ?_
  · intro a_ w_ hev hR hk K1 hK1
    have e32 : a_.eval (.tmp 32) = _ := hk 32 rfl
    have e34 : a_.eval (.tmp 34) = _ := hk 34 rfl
    clear hk
    have f32 := ev_get.trans e32
    have f34 := ev_get.trans e34
    go_simp
    refine (F_h.out _ (P1.out w_ (Ext.trans (Ext.refl _).drew hR)).2.2.2.2.2).mono ?_
    rintro e_ w2_ ⟨rfl, x_⟩
    exact hK1.out _ _ x_ rfl
  refine free_new _ rfl (fun u w_ => ∃ g, u = .pointer (some ⟨g, 0, none⟩) ∧ w1.drew.heap.size ≤ g ∧ w_.heap[g]? = some (.cells (wcells zs).toArray 81 (0, 0))) (d := 8) rfl (fun _ _ _ h e => by obtain ⟨g, h1, h2, h3⟩ := h; exact ⟨g, h1, h2, (e.block g (heap_lt h3)).trans h3⟩) rfl (by decide) (fun _ _ h => by obtain ⟨g, h1, h2, h3⟩ := h; subst h1; exact ⟨g, rfl, heap_lt h3⟩) ?_ ?_
  · intro a_ w_ hev hR hk K1 hK1
    go_simp
    exact hK1.out _ _ ((Ext.refl _).alloc _) ⟨_, rfl, hR.size, heap_alloc_new _ _⟩ (fun _ q => by cases q; exact Nat.le_refl _)
  refine free_new _ rfl (fun u w_ => ∃ g, u = .pointer (some ⟨g, 0, none⟩) ∧ w1.drew.heap.size ≤ g ∧ w_.heap[g]? = some (.cells (wcells zs).toArray 81 (0, 0))) (d := 9) rfl (fun _ _ _ h e => by obtain ⟨g, h1, h2, h3⟩ := h; exact ⟨g, h1, h2, (e.block g (heap_lt h3)).trans h3⟩) rfl (by decide) (fun _ _ h => by obtain ⟨g, h1, h2, h3⟩ := h; subst h1; exact ⟨g, rfl, heap_lt h3⟩) ?_ ?_
  · intro a_ w_ hev hR hk K1 hK1
    go_simp
    exact hK1.out _ _ ((Ext.refl _).alloc _) ⟨_, rfl, hR.size, heap_alloc_new _ _⟩ (fun _ q => by cases q; exact Nat.le_refl _)
  intro v_ w1q hR hV_ hN_
  obtain ⟨hv11, hv10, hv9, hv8, hv7, hv6, hv5, hv4, hv3, hv2, hv1, hv0, _⟩ := hV_
  replace hv0 : v_ 0 = _ := hv0
  replace hv1 : v_ 1 = _ := hv1
  replace hv2 : v_ 2 = _ := hv2
  replace hv3 : v_ 3 = _ := hv3
  replace hv4 : v_ 4 = _ := hv4
  replace hv5 : v_ 5 = _ := hv5
  replace hv6 : v_ 6 = _ := hv6
  replace hv7 : v_ 7 = _ := hv7
  replace hv8 : v_ 8 = _ := hv8
  replace hv9 : v_ 9 = _ := hv9
  skip
  skip
  dsimp only [putE, dOpt]
  obtain ⟨g_10, hv10, gb_10, gc_10⟩ := hv10
  obtain ⟨g_11, hv11, gb_11, gc_11⟩ := hv11
  have gd_10_11 : g_10 ≠ g_11 := by
    have q_ := hN_ 10 11 rfl rfl (by decide)
    rw [hv10, hv11] at q_
    simpa [blk] using q_
  clear hN_
  rw [hv0, hv1, hv2, hv3, hv4, hv5, hv6, hv7, hv8, hv9, hv10, hv11]
  simp only [Act.put, List.setIfInBounds_toArray, List.set_cons_zero, List.set_cons_succ]
  clear hv0 hv1 hv2 hv3 hv4 hv5 hv6 hv7 hv8 hv9 hv10 hv11
  refine any_more (z := 12) _ rfl rfl (by kernel_rfl) ?_
  intro K1 hK1
  refine wp_store_row _ _ _ rfl g_10 (wcells vg).toArray rfl rfl 81 (wcells zs).toArray gc_10 (by rw [S_vg]; rfl) (by rw [S_vg, S_zs]) O_vg ?_
  refine hK1.out _ _ ?_
  clear hK1 K1
  refine any_more (z := 13) _ rfl rfl (by kernel_rfl) ?_
  intro K1 hK1
  refine wp_store_row _ _ _ rfl g_11 (wcells vh).toArray rfl rfl 81 (wcells zs).toArray ((setRow_other _ _ _ _ (by omega)).trans gc_11) (by rw [S_vh]; rfl) (by rw [S_vh, S_zs]) O_vh ?_
  refine hK1.out _ _ ?_
  clear hK1 K1
  refine any_nil (by kernel_rfl) ?_
  refine gen_q (fun W => Ext w1 W ∧ Wr W g_10 81 vg ∧ Wr W g_11 81 vh) ⟨(below_setRow (below_setRow ((Ext.refl w1).drew.trans hR) gb_10 _) gb_11 _), ((setRow_other _ _ _ _ (by omega)).trans (setRow_heap _ _ _ _ _ _ gc_10)), (setRow_heap _ _ _ _ _ _ ((setRow_other _ _ _ _ (by omega)).trans gc_11))⟩ ?_
  clear hR gc_10 gc_11
  rintro w2 ⟨x_, k0, k1⟩
  generalize g_10 = g2_7 at *
  generalize g_11 = g2_8 at *
  have P2 : Hid (∀ s, Ext w2 s → Pr s w.heap.size va vb vc vd ∧ Wr s (w.heap.size + 1) 81 vx ∧ Pr s (w.heap.size + 1 + 1) zs zs zs zs ∧ Wr s g1_5 81 vee ∧ Wr s g1_6 81 vf ∧ Wr s g2_7 81 vg ∧ Wr s g2_8 81 vh ∧ Ext w s) := fun s e => by
    obtain ⟨p0, p1, p2, p3, p4, p5⟩ := P1.out s (x_.trans e)
    exact ⟨p0, p1, p2, p3, p4, k0.kept e k0.lt, k1.kept e k1.lt, p5⟩
  clear P1 x_ k0 k1
  clear gd_10_11
  clear gb_10 gb_11
  go_upto_region 3 with fail
  refine wp_region_free (R := Ext) Ext.refl (fun _ _ _ => Ext.trans) [0, 1, 2, 3, 4, 5, 6, 7] [8, 9] [0, 0, 3, 0, 0, 31, 0, 0, 255, 511] [true, true, true, true, true, true, true, true, false, false] [(0, 37, 64), (0, 38, 64), (3, 39, 412316860416), (0, 40, 128), (0, 41, 128), (28, 42, 3298534883328), (0, 10, 0), (0, 11, 0), (231, 0, 549755814912), (511, 0, 4398046513152)] (by kernel_rfl) (by kernel_rfl) (by kernel_rfl) (by kernel_rfl) ?_
  refine free_det (fun _ => Ext.refl _) _ rfl (v := .agg (wcells vee).toArray) (d := 37) rfl rfl ?_ ?_
  · intro a_ w_ hev hR hk
    have e5 : a_.eval (.tmp 5) = _ := hk 5 rfl
    exact (exec_load_row rfl e5 (P2.out w_ (Ext.trans (Ext.refl _).drew hR)).2.2.2.1 rfl rfl (by rw [S_vee]; rfl))
  refine free_det (fun _ => Ext.refl _) _ rfl (v := .agg (wcells vee).toArray) (d := 38) rfl rfl ?_ ?_
  · intro a_ w_ hev hR hk
    have e5 : a_.eval (.tmp 5) = _ := hk 5 rfl
    exact (exec_load_row rfl e5 (P2.out w_ (Ext.trans (Ext.refl _).drew hR)).2.2.2.1 rfl rfl (by rw [S_vee]; rfl))
  refine free_step _ rfl (fun u _ => u = .agg (wcells vu).toArray) (d := 39) rfl (fun _ _ _ h _ => h) rfl ?_ ?_
  · intro a_ w_ hev hR hk K1 hK1
    have e36 : a_.eval (.tmp 36) = _ := hk 36 rfl
    have e37 : a_.eval (.tmp 37) = _ := hk 37 rfl
    clear hk
    have f36 := ev_get.trans e36
    have f37 := ev_get.trans e37
    go_simp
    refine (F_u.out _ (P2.out w_ (Ext.trans (Ext.refl _).drew hR)).2.2.2.2.2.2.2).mono ?_
    rintro e_ w2_ ⟨rfl, x_⟩
    exact hK1.out _ _ x_ rfl
  refine free_det (fun _ => Ext.refl _) _ rfl (v := .agg (wcells vf).toArray) (d := 40) rfl rfl ?_ ?_
  · intro a_ w_ hev hR hk
    have e6 : a_.eval (.tmp 6) = _ := hk 6 rfl
    exact (exec_load_row rfl e6 (P2.out w_ (Ext.trans (Ext.refl _).drew hR)).2.2.2.2.1 rfl rfl (by rw [S_vf]; rfl))
  refine free_det (fun _ => Ext.refl _) _ rfl (v := .agg (wcells vf).toArray) (d := 41) rfl rfl ?_ ?_
  · intro a_ w_ hev hR hk
    have e6 : a_.eval (.tmp 6) = _ := hk 6 rfl
    exact (exec_load_row rfl e6 (P2.out w_ (Ext.trans (Ext.refl _).drew hR)).2.2.2.2.1 rfl rfl (by rw [S_vf]; rfl))
  refine free_step _ rfl (fun u _ => u = .agg (wcells vv).toArray) (d := 42) rfl (fun _ _ _ h _ => h) rfl ?_ ?_
  · intro a_ w_ hev hR hk K1 hK1
    have e39 : a_.eval (.tmp 39) = _ := hk 39 rfl
    have e40 : a_.eval (.tmp 40) = _ := hk 40 rfl
    clear hk
    have f39 := ev_get.trans e39
    have f40 := ev_get.trans e40
    go_simp
    refine (F_v.out _ (P2.out w_ (Ext.trans (Ext.refl _).drew hR)).2.2.2.2.2.2.2).mono ?_
    rintro e_ w2_ ⟨rfl, x_⟩
    exact hK1.out _ _ x_ rfl
  refine free_new _ rfl (fun u w_ => ∃ g, u = .pointer (some ⟨g, 0, none⟩) ∧ w2.drew.heap.size ≤ g ∧ w_.heap[g]? = some (.cells (wcells zs).toArray 81 (0, 0))) (d := 10) rfl (fun _ _ _ h e => by obtain ⟨g, h1, h2, h3⟩ := h; exact ⟨g, h1, h2, (e.block g (heap_lt h3)).trans h3⟩) rfl (by decide) (fun _ _ h => by obtain ⟨g, h1, h2, h3⟩ := h; subst h1; exact ⟨g, rfl, heap_lt h3⟩) ?_ ?_
  · intro a_ w_ hev hR hk K1 hK1
    go_simp
    exact hK1.out _ _ ((Ext.refl _).alloc _) ⟨_, rfl, hR.size, heap_alloc_new _ _⟩ (fun _ q => by cases q; exact Nat.le_refl _)
  refine free_new _ rfl (fun u w_ => ∃ g, u = .pointer (some ⟨g, 0, none⟩) ∧ w2.drew.heap.size ≤ g ∧ w_.heap[g]? = some (.cells (wcells zs).toArray 81 (0, 0))) (d := 11) rfl (fun _ _ _ h e => by obtain ⟨g, h1, h2, h3⟩ := h; exact ⟨g, h1, h2, (e.block g (heap_lt h3)).trans h3⟩) rfl (by decide) (fun _ _ h => by obtain ⟨g, h1, h2, h3⟩ := h; subst h1; exact ⟨g, rfl, heap_lt h3⟩) ?_ ?_
  · intro a_ w_ hev hR hk K1 hK1
    go_simp
    exact hK1.out _ _ ((Ext.refl _).alloc _) ⟨_, rfl, hR.size, heap_alloc_new _ _⟩ (fun _ q => by cases q; exact Nat.le_refl _)
  intro v_ w2q hR hV_ hN_
  obtain ⟨hv7, hv6, hv5, hv4, hv3, hv2, hv1, hv0, _⟩ := hV_
  replace hv0 : v_ 0 = _ := hv0
  replace hv1 : v_ 1 = _ := hv1
  replace hv2 : v_ 2 = _ := hv2
  replace hv3 : v_ 3 = _ := hv3
  replace hv4 : v_ 4 = _ := hv4
  replace hv5 : v_ 5 = _ := hv5
  skip
  skip
  dsimp only [putE, dOpt]
  obtain ⟨g_6, hv6, gb_6, gc_6⟩ := hv6
  obtain ⟨g_7, hv7, gb_7, gc_7⟩ := hv7
  have gd_6_7 : g_6 ≠ g_7 := by
    have q_ := hN_ 6 7 rfl rfl (by decide)
    rw [hv6, hv7] at q_
    simpa [blk] using q_
  clear hN_
  rw [hv0, hv1, hv2, hv3, hv4, hv5, hv6, hv7]
  simp only [Act.put, List.setIfInBounds_toArray, List.set_cons_zero, List.set_cons_succ]
  clear hv0 hv1 hv2 hv3 hv4 hv5 hv6 hv7
  refine any_more (z := 8) _ rfl rfl (by kernel_rfl) ?_
  intro K1 hK1
  refine wp_store_row _ _ _ rfl g_6 (wcells vu).toArray rfl rfl 81 (wcells zs).toArray gc_6 (by rw [S_vu]; rfl) (by rw [S_vu, S_zs]) O_vu ?_
  refine hK1.out _ _ ?_
  clear hK1 K1
  refine any_more (z := 9) _ rfl rfl (by kernel_rfl) ?_
  intro K1 hK1
  refine wp_store_row _ _ _ rfl g_7 (wcells vv).toArray rfl rfl 81 (wcells zs).toArray ((setRow_other _ _ _ _ (by omega)).trans gc_7) (by rw [S_vv]; rfl) (by rw [S_vv, S_zs]) O_vv ?_
  refine hK1.out _ _ ?_
  clear hK1 K1
  refine any_nil (by kernel_rfl) ?_
  refine gen_q (fun W => Ext w2 W ∧ Wr W g_6 81 vu ∧ Wr W g_7 81 vv) ⟨(below_setRow (below_setRow ((Ext.refl w2).drew.trans hR) gb_6 _) gb_7 _), ((setRow_other _ _ _ _ (by omega)).trans (setRow_heap _ _ _ _ _ _ gc_6)), (setRow_heap _ _ _ _ _ _ ((setRow_other _ _ _ _ (by omega)).trans gc_7))⟩ ?_
  clear hR gc_6 gc_7
  rintro w3 ⟨x_, k0, k1⟩
  generalize g_6 = g3_9 at *
  generalize g_7 = g3_10 at *
  have P3 : Hid (∀ s, Ext w3 s → Pr s w.heap.size va vb vc vd ∧ Wr s (w.heap.size + 1) 81 vx ∧ Pr s (w.heap.size + 1 + 1) zs zs zs zs ∧ Wr s g1_5 81 vee ∧ Wr s g1_6 81 vf ∧ Wr s g2_7 81 vg ∧ Wr s g2_8 81 vh ∧ Wr s g3_9 81 vu ∧ Wr s g3_10 81 vv ∧ Ext w s) := fun s e => by
    obtain ⟨p0, p1, p2, p3, p4, p5, p6, p7⟩ := P2.out s (x_.trans e)
    exact ⟨p0, p1, p2, p3, p4, p5, p6, k0.kept e k0.lt, k1.kept e k1.lt, p7⟩
  clear P2 x_ k0 k1
  clear gd_6_7
  clear gb_6 gb_7
  go_upto_region 4 with fail
  have q0 := Lib.hid (P3.out _ (Ext.refl _)).2.2.2.2.2.2.2.1
  have q1 := Lib.hid (P3.out _ (Ext.refl _)).2.2.2.2.2.2.2.2.1
  go_wp2_with (first
    | (refine wpList_exec rfl (exec_load_row rfl rfl q0.out rfl rfl (by rw [S_vu]; rfl)) ?_; simp only [Act.put, List.setIfInBounds_toArray, List.set_cons_zero, List.set_cons_succ])
    | (refine wpList_exec rfl (exec_load_row rfl rfl q1.out rfl rfl (by rw [S_vv]; rfl)) ?_; simp only [Act.put, List.setIfInBounds_toArray, List.set_cons_zero, List.set_cons_succ]))
  refine (F_k.out _ (P3.out _ (Ext.refl _)).2.2.2.2.2.2.2.2.2).mono ?_
  rintro e v_ ⟨rfl, e1⟩
  have a1 : Hid ((v_.alloc (Obj.cells (wcells zs).toArray 81)).heap[v_.heap.size]? = some (.cells (wcells zs).toArray 81 (0, 0))) := heap_alloc_new _ _
  have e5 : Ext v_ ((v_.alloc (Obj.cells (wcells zs).toArray 81)).setRow v_.heap.size (wcells vk).toArray) := below_setRow ((Ext.refl v_).alloc _) (Nat.le_refl _) _
  go_upto_region 5 with (refine wpList_store_row rfl 81 _ _ rfl v_.heap.size (wcells vk).toArray rfl rfl 81 _ a1.out (by rw [S_vk]; rfl) (by rw [S_vk, S_zs]) O_vk ?_; simp only [Act.put, List.setIfInBounds_toArray, List.set_cons_zero, List.set_cons_succ])
  obtain ⟨g4_s, hg_⟩ : ∃ g, g = v_.heap.size := ⟨_, rfl⟩
  refine wp_gen (fun W => Ext w3 W ∧ Wr W g4_s 81 vk) ⟨e1.trans e5, by rw [hg_]; exact setRow_heap _ _ _ _ _ _ a1.out⟩ ?_
  rw [← hg_]
  clear hg_ a1 e5 e1 q0 q1
  rintro w4 ⟨x_, k0⟩
  have P4 : Hid (∀ s, Ext w4 s → Pr s w.heap.size va vb vc vd ∧ Wr s (w.heap.size + 1) 81 vx ∧ Pr s (w.heap.size + 1 + 1) zs zs zs zs ∧ Wr s g1_5 81 vee ∧ Wr s g1_6 81 vf ∧ Wr s g2_7 81 vg ∧ Wr s g2_8 81 vh ∧ Wr s g3_9 81 vu ∧ Wr s g3_10 81 vv ∧ Wr s g4_s 81 vk ∧ Ext w s) := fun s e => by
    obtain ⟨p0, p1, p2, p3, p4, p5, p6, p7, p8, p9⟩ := P3.out s (x_.trans e)
    exact ⟨p0, p1, p2, p3, p4, p5, p6, p7, p8, k0.kept e k0.lt, p9⟩
  clear P3 x_ k0
  refine wp_region_free (R := Ext) Ext.refl (fun _ _ _ => Ext.trans) [0, 1, 2, 3, 4, 5, 6, 7] [8, 9] [0, 0, 3, 0, 0, 31, 0, 0, 255, 511] [true, true, true, true, true, true, true, true, false, false] [(0, 46, 512), (0, 47, 64), (3, 48, 211106232532992), (0, 49, 256), (0, 50, 128), (28, 51, 1688849860263936), (0, 13, 0), (0, 14, 0), (231, 0, 281474976718848), (511, 0, 2251799813701632)] (by kernel_rfl) (by kernel_rfl) (by kernel_rfl) (by kernel_rfl) ?_
  refine free_det (fun _ => Ext.refl _) _ rfl (v := .agg (wcells vh).toArray) (d := 46) rfl rfl ?_ ?_
  · intro a_ w_ hev hR hk
    have e8 : a_.eval (.tmp 8) = _ := hk 8 rfl
    exact (exec_load_row rfl e8 (P4.out w_ (Ext.trans (Ext.refl _).drew hR)).2.2.2.2.2.2.1 rfl rfl (by rw [S_vh]; rfl))
  refine free_det (fun _ => Ext.refl _) _ rfl (v := .agg (wcells vee).toArray) (d := 47) rfl rfl ?_ ?_
  · intro a_ w_ hev hR hk
    have e5 : a_.eval (.tmp 5) = _ := hk 5 rfl
    exact (exec_load_row rfl e5 (P4.out w_ (Ext.trans (Ext.refl _).drew hR)).2.2.2.1 rfl rfl (by rw [S_vee]; rfl))
  refine free_step _ rfl (fun u _ => u = .agg (wcells vy).toArray) (d := 48) rfl (fun _ _ _ h _ => h) rfl ?_ ?_
  · intro a_ w_ hev hR hk K1 hK1
    have e45 : a_.eval (.tmp 45) = _ := hk 45 rfl
    have e46 : a_.eval (.tmp 46) = _ := hk 46 rfl
    clear hk
    have f45 := ev_get.trans e45
    have f46 := ev_get.trans e46
    go_simp
    refine (F_y.out _ (P4.out w_ (Ext.trans (Ext.refl _).drew hR)).2.2.2.2.2.2.2.2.2.2).mono ?_
    rintro e_ w2_ ⟨rfl, x_⟩
    exact hK1.out _ _ x_ rfl
  refine free_det (fun _ => Ext.refl _) _ rfl (v := .agg (wcells vg).toArray) (d := 49) rfl rfl ?_ ?_
  · intro a_ w_ hev hR hk
    have e7 : a_.eval (.tmp 7) = _ := hk 7 rfl
    exact (exec_load_row rfl e7 (P4.out w_ (Ext.trans (Ext.refl _).drew hR)).2.2.2.2.2.1 rfl rfl (by rw [S_vg]; rfl))
  refine free_det (fun _ => Ext.refl _) _ rfl (v := .agg (wcells vf).toArray) (d := 50) rfl rfl ?_ ?_
  · intro a_ w_ hev hR hk
    have e6 : a_.eval (.tmp 6) = _ := hk 6 rfl
    exact (exec_load_row rfl e6 (P4.out w_ (Ext.trans (Ext.refl _).drew hR)).2.2.2.2.1 rfl rfl (by rw [S_vf]; rfl))
  refine free_step _ rfl (fun u _ => u = .agg (wcells vz).toArray) (d := 51) rfl (fun _ _ _ h _ => h) rfl ?_ ?_
  · intro a_ w_ hev hR hk K1 hK1
    have e48 : a_.eval (.tmp 48) = _ := hk 48 rfl
    have e49 : a_.eval (.tmp 49) = _ := hk 49 rfl
    clear hk
    have f48 := ev_get.trans e48
    have f49 := ev_get.trans e49
    go_simp
    refine (F_z.out _ (P4.out w_ (Ext.trans (Ext.refl _).drew hR)).2.2.2.2.2.2.2.2.2.2).mono ?_
    rintro e_ w2_ ⟨rfl, x_⟩
    exact hK1.out _ _ x_ rfl
  refine free_new _ rfl (fun u w_ => ∃ g, u = .pointer (some ⟨g, 0, none⟩) ∧ w4.drew.heap.size ≤ g ∧ w_.heap[g]? = some (.cells (wcells zs).toArray 81 (0, 0))) (d := 13) rfl (fun _ _ _ h e => by obtain ⟨g, h1, h2, h3⟩ := h; exact ⟨g, h1, h2, (e.block g (heap_lt h3)).trans h3⟩) rfl (by decide) (fun _ _ h => by obtain ⟨g, h1, h2, h3⟩ := h; subst h1; exact ⟨g, rfl, heap_lt h3⟩) ?_ ?_
  · intro a_ w_ hev hR hk K1 hK1
    go_simp
    exact hK1.out _ _ ((Ext.refl _).alloc _) ⟨_, rfl, hR.size, heap_alloc_new _ _⟩ (fun _ q => by cases q; exact Nat.le_refl _)
  refine free_new _ rfl (fun u w_ => ∃ g, u = .pointer (some ⟨g, 0, none⟩) ∧ w4.drew.heap.size ≤ g ∧ w_.heap[g]? = some (.cells (wcells zs).toArray 81 (0, 0))) (d := 14) rfl (fun _ _ _ h e => by obtain ⟨g, h1, h2, h3⟩ := h; exact ⟨g, h1, h2, (e.block g (heap_lt h3)).trans h3⟩) rfl (by decide) (fun _ _ h => by obtain ⟨g, h1, h2, h3⟩ := h; subst h1; exact ⟨g, rfl, heap_lt h3⟩) ?_ ?_
  · intro a_ w_ hev hR hk K1 hK1
    go_simp
    exact hK1.out _ _ ((Ext.refl _).alloc _) ⟨_, rfl, hR.size, heap_alloc_new _ _⟩ (fun _ q => by cases q; exact Nat.le_refl _)
  intro v_ w4q hR hV_ hN_
  obtain ⟨hv7, hv6, hv5, hv4, hv3, hv2, hv1, hv0, _⟩ := hV_
  replace hv0 : v_ 0 = _ := hv0
  replace hv1 : v_ 1 = _ := hv1
  replace hv2 : v_ 2 = _ := hv2
  replace hv3 : v_ 3 = _ := hv3
  replace hv4 : v_ 4 = _ := hv4
  replace hv5 : v_ 5 = _ := hv5
  skip
  skip
  dsimp only [putE, dOpt]
  obtain ⟨g_6, hv6, gb_6, gc_6⟩ := hv6
  obtain ⟨g_7, hv7, gb_7, gc_7⟩ := hv7
  have gd_6_7 : g_6 ≠ g_7 := by
    have q_ := hN_ 6 7 rfl rfl (by decide)
    rw [hv6, hv7] at q_
    simpa [blk] using q_
  clear hN_
  rw [hv0, hv1, hv2, hv3, hv4, hv5, hv6, hv7]
  simp only [Act.put, List.setIfInBounds_toArray, List.set_cons_zero, List.set_cons_succ]
  clear hv0 hv1 hv2 hv3 hv4 hv5 hv6 hv7
  refine any_more (z := 8) _ rfl rfl (by kernel_rfl) ?_
  intro K1 hK1
  refine wp_store_row _ _ _ rfl g_6 (wcells vy).toArray rfl rfl 81 (wcells zs).toArray gc_6 (by rw [S_vy]; rfl) (by rw [S_vy, S_zs]) O_vy ?_
  refine hK1.out _ _ ?_
  clear hK1 K1
  refine any_more (z := 9) _ rfl rfl (by kernel_rfl) ?_
  intro K1 hK1
  refine wp_store_row _ _ _ rfl g_7 (wcells vz).toArray rfl rfl 81 (wcells zs).toArray ((setRow_other _ _ _ _ (by omega)).trans gc_7) (by rw [S_vz]; rfl) (by rw [S_vz, S_zs]) O_vz ?_
  refine hK1.out _ _ ?_
  clear hK1 K1
  refine any_nil (by kernel_rfl) ?_
  refine gen_q (fun W => Ext w4 W ∧ Wr W g_6 81 vy ∧ Wr W g_7 81 vz) ⟨(below_setRow (below_setRow ((Ext.refl w4).drew.trans hR) gb_6 _) gb_7 _), ((setRow_other _ _ _ _ (by omega)).trans (setRow_heap _ _ _ _ _ _ gc_6)), (setRow_heap _ _ _ _ _ _ ((setRow_other _ _ _ _ (by omega)).trans gc_7))⟩ ?_
  clear hR gc_6 gc_7
  rintro w5 ⟨x_, k0, k1⟩
  generalize g_6 = g5_12 at *
  generalize g_7 = g5_13 at *
  have P5 : Hid (∀ s, Ext w5 s → Pr s w.heap.size va vb vc vd ∧ Wr s (w.heap.size + 1) 81 vx ∧ Pr s (w.heap.size + 1 + 1) zs zs zs zs ∧ Wr s g1_5 81 vee ∧ Wr s g1_6 81 vf ∧ Wr s g2_7 81 vg ∧ Wr s g2_8 81 vh ∧ Wr s g3_9 81 vu ∧ Wr s g3_10 81 vv ∧ Wr s g4_s 81 vk ∧ Wr s g5_12 81 vy ∧ Wr s g5_13 81 vz ∧ Ext w s) := fun s e => by
    obtain ⟨p0, p1, p2, p3, p4, p5, p6, p7, p8, p9, p10⟩ := P4.out s (x_.trans e)
    exact ⟨p0, p1, p2, p3, p4, p5, p6, p7, p8, p9, k0.kept e k0.lt, k1.kept e k1.lt, p10⟩
  clear P4 x_ k0 k1
  clear gd_6_7
  clear gb_6 gb_7
  go_upto_region 6 with fail
  refine wp_region_free (R := Ext) Ext.refl (fun _ _ _ => Ext.trans) [0, 1, 2, 3, 4, 5, 6, 7] [8, 9] [0, 0, 3, 0, 0, 31, 0, 0, 255, 511] [true, true, true, true, true, true, true, true, false, false] [(0, 52, 8192), (0, 53, 16384), (3, 54, 13510798882111488), (0, 55, 8192), (0, 56, 16384), (28, 57, 108086391056891904), (0, 15, 0), (0, 16, 0), (231, 0, 18014398509514752), (511, 0, 144115188075921408)] (by kernel_rfl) (by kernel_rfl) (by kernel_rfl) (by kernel_rfl) ?_
  refine free_det (fun _ => Ext.refl _) _ rfl (v := .agg (wcells vy).toArray) (d := 52) rfl rfl ?_ ?_
  · intro a_ w_ hev hR hk
    have e12 : a_.eval (.tmp 12) = _ := hk 12 rfl
    exact (exec_load_row rfl e12 (P5.out w_ (Ext.trans (Ext.refl _).drew hR)).2.2.2.2.2.2.2.2.2.2.1 rfl rfl (by rw [S_vy]; rfl))
  refine free_det (fun _ => Ext.refl _) _ rfl (v := .agg (wcells vz).toArray) (d := 53) rfl rfl ?_ ?_
  · intro a_ w_ hev hR hk
    have e13 : a_.eval (.tmp 13) = _ := hk 13 rfl
    exact (exec_load_row rfl e13 (P5.out w_ (Ext.trans (Ext.refl _).drew hR)).2.2.2.2.2.2.2.2.2.2.2.1 rfl rfl (by rw [S_vz]; rfl))
  refine free_step _ rfl (fun u _ => u = .agg (wcells vm).toArray) (d := 54) rfl (fun _ _ _ h _ => h) rfl ?_ ?_
  · intro a_ w_ hev hR hk K1 hK1
    have e51 : a_.eval (.tmp 51) = _ := hk 51 rfl
    have e52 : a_.eval (.tmp 52) = _ := hk 52 rfl
    clear hk
    have f51 := ev_get.trans e51
    have f52 := ev_get.trans e52
    go_simp
    refine (F_m.out _ (P5.out w_ (Ext.trans (Ext.refl _).drew hR)).2.2.2.2.2.2.2.2.2.2.2.2).mono ?_
    rintro e_ w2_ ⟨rfl, x_⟩
    exact hK1.out _ _ x_ rfl
  refine free_det (fun _ => Ext.refl _) _ rfl (v := .agg (wcells vy).toArray) (d := 55) rfl rfl ?_ ?_
  · intro a_ w_ hev hR hk
    have e12 : a_.eval (.tmp 12) = _ := hk 12 rfl
    exact (exec_load_row rfl e12 (P5.out w_ (Ext.trans (Ext.refl _).drew hR)).2.2.2.2.2.2.2.2.2.2.1 rfl rfl (by rw [S_vy]; rfl))
  refine free_det (fun _ => Ext.refl _) _ rfl (v := .agg (wcells vz).toArray) (d := 56) rfl rfl ?_ ?_
  · intro a_ w_ hev hR hk
    have e13 : a_.eval (.tmp 13) = _ := hk 13 rfl
    exact (exec_load_row rfl e13 (P5.out w_ (Ext.trans (Ext.refl _).drew hR)).2.2.2.2.2.2.2.2.2.2.2.1 rfl rfl (by rw [S_vz]; rfl))
  refine free_step _ rfl (fun u _ => u = .agg (wcells vn).toArray) (d := 57) rfl (fun _ _ _ h _ => h) rfl ?_ ?_
  · intro a_ w_ hev hR hk K1 hK1
    have e54 : a_.eval (.tmp 54) = _ := hk 54 rfl
    have e55 : a_.eval (.tmp 55) = _ := hk 55 rfl
    clear hk
    have f54 := ev_get.trans e54
    have f55 := ev_get.trans e55
    go_simp
    refine (F_n.out _ (P5.out w_ (Ext.trans (Ext.refl _).drew hR)).2.2.2.2.2.2.2.2.2.2.2.2).mono ?_
    rintro e_ w2_ ⟨rfl, x_⟩
    exact hK1.out _ _ x_ rfl
  refine free_new _ rfl (fun u w_ => ∃ g, u = .pointer (some ⟨g, 0, none⟩) ∧ w5.drew.heap.size ≤ g ∧ w_.heap[g]? = some (.cells (wcells zs).toArray 81 (0, 0))) (d := 15) rfl (fun _ _ _ h e => by obtain ⟨g, h1, h2, h3⟩ := h; exact ⟨g, h1, h2, (e.block g (heap_lt h3)).trans h3⟩) rfl (by decide) (fun _ _ h => by obtain ⟨g, h1, h2, h3⟩ := h; subst h1; exact ⟨g, rfl, heap_lt h3⟩) ?_ ?_
  · intro a_ w_ hev hR hk K1 hK1
    go_simp
    exact hK1.out _ _ ((Ext.refl _).alloc _) ⟨_, rfl, hR.size, heap_alloc_new _ _⟩ (fun _ q => by cases q; exact Nat.le_refl _)
  refine free_new _ rfl (fun u w_ => ∃ g, u = .pointer (some ⟨g, 0, none⟩) ∧ w5.drew.heap.size ≤ g ∧ w_.heap[g]? = some (.cells (wcells zs).toArray 81 (0, 0))) (d := 16) rfl (fun _ _ _ h e => by obtain ⟨g, h1, h2, h3⟩ := h; exact ⟨g, h1, h2, (e.block g (heap_lt h3)).trans h3⟩) rfl (by decide) (fun _ _ h => by obtain ⟨g, h1, h2, h3⟩ := h; subst h1; exact ⟨g, rfl, heap_lt h3⟩) ?_ ?_
  · intro a_ w_ hev hR hk K1 hK1
    go_simp
    exact hK1.out _ _ ((Ext.refl _).alloc _) ⟨_, rfl, hR.size, heap_alloc_new _ _⟩ (fun _ q => by cases q; exact Nat.le_refl _)
  intro v_ w5q hR hV_ hN_
  obtain ⟨hv7, hv6, hv5, hv4, hv3, hv2, hv1, hv0, _⟩ := hV_
  replace hv0 : v_ 0 = _ := hv0
  replace hv1 : v_ 1 = _ := hv1
  replace hv2 : v_ 2 = _ := hv2
  replace hv3 : v_ 3 = _ := hv3
  replace hv4 : v_ 4 = _ := hv4
  replace hv5 : v_ 5 = _ := hv5
  skip
  skip
  dsimp only [putE, dOpt]
  obtain ⟨g_6, hv6, gb_6, gc_6⟩ := hv6
  obtain ⟨g_7, hv7, gb_7, gc_7⟩ := hv7
  have gd_6_7 : g_6 ≠ g_7 := by
    have q_ := hN_ 6 7 rfl rfl (by decide)
    rw [hv6, hv7] at q_
    simpa [blk] using q_
  clear hN_
  rw [hv0, hv1, hv2, hv3, hv4, hv5, hv6, hv7]
  simp only [Act.put, List.setIfInBounds_toArray, List.set_cons_zero, List.set_cons_succ]
  clear hv0 hv1 hv2 hv3 hv4 hv5 hv6 hv7
  refine any_more (z := 8) _ rfl rfl (by kernel_rfl) ?_
  intro K1 hK1
  refine wp_store_row _ _ _ rfl g_6 (wcells vm).toArray rfl rfl 81 (wcells zs).toArray gc_6 (by rw [S_vm]; rfl) (by rw [S_vm, S_zs]) O_vm ?_
  refine hK1.out _ _ ?_
  clear hK1 K1
  refine any_more (z := 9) _ rfl rfl (by kernel_rfl) ?_
  intro K1 hK1
  refine wp_store_row _ _ _ rfl g_7 (wcells vn).toArray rfl rfl 81 (wcells zs).toArray ((setRow_other _ _ _ _ (by omega)).trans gc_7) (by rw [S_vn]; rfl) (by rw [S_vn, S_zs]) O_vn ?_
  refine hK1.out _ _ ?_
  clear hK1 K1
  refine any_nil (by kernel_rfl) ?_
  refine gen_q (fun W => Ext w5 W ∧ Wr W g_6 81 vm ∧ Wr W g_7 81 vn) ⟨(below_setRow (below_setRow ((Ext.refl w5).drew.trans hR) gb_6 _) gb_7 _), ((setRow_other _ _ _ _ (by omega)).trans (setRow_heap _ _ _ _ _ _ gc_6)), (setRow_heap _ _ _ _ _ _ ((setRow_other _ _ _ _ (by omega)).trans gc_7))⟩ ?_
  clear hR gc_6 gc_7
  rintro w6 ⟨x_, k0, k1⟩
  generalize g_6 = g6_14 at *
  generalize g_7 = g6_15 at *
  have P6 : Hid (∀ s, Ext w6 s → Pr s w.heap.size va vb vc vd ∧ Wr s (w.heap.size + 1) 81 vx ∧ Pr s (w.heap.size + 1 + 1) zs zs zs zs ∧ Wr s g1_5 81 vee ∧ Wr s g1_6 81 vf ∧ Wr s g2_7 81 vg ∧ Wr s g2_8 81 vh ∧ Wr s g3_9 81 vu ∧ Wr s g3_10 81 vv ∧ Wr s g4_s 81 vk ∧ Wr s g5_12 81 vy ∧ Wr s g5_13 81 vz ∧ Wr s g6_14 81 vm ∧ Wr s g6_15 81 vn ∧ Ext w s) := fun s e => by
    obtain ⟨p0, p1, p2, p3, p4, p5, p6, p7, p8, p9, p10, p11, p12⟩ := P5.out s (x_.trans e)
    exact ⟨p0, p1, p2, p3, p4, p5, p6, p7, p8, p9, p10, p11, k0.kept e k0.lt, k1.kept e k1.lt, p12⟩
  clear P5 x_ k0 k1
  clear gd_6_7
  clear gb_6 gb_7
  go_upto_region 7 with fail
  refine wp_region_free (R := Ext) Ext.refl (fun _ _ _ => Ext.trans) [0, 1, 2, 3, 4, 5, 6, 7, 8, 9, 10, 11, 12, 13, 14, 15, 16, 17, 18] [19] [0, 0, 3, 0, 0, 31, 0, 0, 63, 0, 831, 1983, 4095, 0, 0, 32767, 0, 131071, 262143, 524287] [true, true, true, true, true, true, true, true, true, true, true, true, true, true, true, true, true, true, true, false] [(0, 58, 1024), (0, 59, 2048), (3, 60, 864691128455135232), (0, 61, 32768), (0, 62, 32768), (28, 63, 6917529027641081856), (0, 64, 4096), (0, 65, 1024), (32, 66, 0), (0, 67, 4096), (768, 68, 221360928884514619392), (1152, 69, 332041393326771929088), (2112, 70, 608742554432415203328), (0, 71, 16), (0, 72, 65536), (28672, 73, 7083549724304467820544), (0, 74, 65536), (98304, 75, 28334198897217871282176), (135204, 76, 38969899777216034635776), (524287, 0, 75557863725914323419168)] (by kernel_rfl) (by kernel_rfl) (by kernel_rfl) (by kernel_rfl) ?_
  refine free_det (fun _ => Ext.refl _) _ rfl (v := .agg (wcells vu).toArray) (d := 58) rfl rfl ?_ ?_
  · intro a_ w_ hev hR hk
    have e9 : a_.eval (.tmp 9) = _ := hk 9 rfl
    exact (exec_load_row rfl e9 (P6.out w_ (Ext.trans (Ext.refl _).drew hR)).2.2.2.2.2.2.2.1 rfl rfl (by rw [S_vu]; rfl))
  refine free_det (fun _ => Ext.refl _) _ rfl (v := .agg (wcells vv).toArray) (d := 59) rfl rfl ?_ ?_
  · intro a_ w_ hev hR hk
    have e10 : a_.eval (.tmp 10) = _ := hk 10 rfl
    exact (exec_load_row rfl e10 (P6.out w_ (Ext.trans (Ext.refl _).drew hR)).2.2.2.2.2.2.2.2.1 rfl rfl (by rw [S_vv]; rfl))
  refine free_step _ rfl (fun u _ => u = .agg (wcells vr1).toArray) (d := 60) rfl (fun _ _ _ h _ => h) rfl ?_ ?_
  · intro a_ w_ hev hR hk K1 hK1
    have e57 : a_.eval (.tmp 57) = _ := hk 57 rfl
    have e58 : a_.eval (.tmp 58) = _ := hk 58 rfl
    clear hk
    have f57 := ev_get.trans e57
    have f58 := ev_get.trans e58
    go_simp
    refine (F_r1.out _ (P6.out w_ (Ext.trans (Ext.refl _).drew hR)).2.2.2.2.2.2.2.2.2.2.2.2.2.2).mono ?_
    rintro e_ w2_ ⟨rfl, x_⟩
    exact hK1.out _ _ x_ rfl
  refine free_det (fun _ => Ext.refl _) _ rfl (v := .agg (wcells vm).toArray) (d := 61) rfl rfl ?_ ?_
  · intro a_ w_ hev hR hk
    have e14 : a_.eval (.tmp 14) = _ := hk 14 rfl
    exact (exec_load_row rfl e14 (P6.out w_ (Ext.trans (Ext.refl _).drew hR)).2.2.2.2.2.2.2.2.2.2.2.2.1 rfl rfl (by rw [S_vm]; rfl))
  refine free_det (fun _ => Ext.refl _) _ rfl (v := .agg (wcells vm).toArray) (d := 62) rfl rfl ?_ ?_
  · intro a_ w_ hev hR hk
    have e14 : a_.eval (.tmp 14) = _ := hk 14 rfl
    exact (exec_load_row rfl e14 (P6.out w_ (Ext.trans (Ext.refl _).drew hR)).2.2.2.2.2.2.2.2.2.2.2.2.1 rfl rfl (by rw [S_vm]; rfl))
  refine free_step _ rfl (fun u _ => u = .agg (wcells vr2).toArray) (d := 63) rfl (fun _ _ _ h _ => h) rfl ?_ ?_
  · intro a_ w_ hev hR hk K1 hK1
    have e60 : a_.eval (.tmp 60) = _ := hk 60 rfl
    have e61 : a_.eval (.tmp 61) = _ := hk 61 rfl
    clear hk
    have f60 := ev_get.trans e60
    have f61 := ev_get.trans e61
    go_simp
    refine (F_r2.out _ (P6.out w_ (Ext.trans (Ext.refl _).drew hR)).2.2.2.2.2.2.2.2.2.2.2.2.2.2).mono ?_
    rintro e_ w2_ ⟨rfl, x_⟩
    exact hK1.out _ _ x_ rfl
  refine free_det (fun _ => Ext.refl _) _ rfl (v := .agg (wcells vk).toArray) (d := 64) rfl rfl ?_ ?_
  · intro a_ w_ hev hR hk
    have e11 : a_.eval (.tmp 11) = _ := hk 11 rfl
    exact (exec_load_row rfl e11 (P6.out w_ (Ext.trans (Ext.refl _).drew hR)).2.2.2.2.2.2.2.2.2.1 rfl rfl (by rw [S_vk]; rfl))
  refine free_det (fun _ => Ext.refl _) _ rfl (v := .agg (wcells vu).toArray) (d := 65) rfl rfl ?_ ?_
  · intro a_ w_ hev hR hk
    have e9 : a_.eval (.tmp 9) = _ := hk 9 rfl
    exact (exec_load_row rfl e9 (P6.out w_ (Ext.trans (Ext.refl _).drew hR)).2.2.2.2.2.2.2.1 rfl rfl (by rw [S_vu]; rfl))
  refine free_step _ rfl (fun u _ => u = .agg (wcells vq).toArray) (d := 66) rfl (fun _ _ _ h _ => h) rfl ?_ ?_
  · intro a_ w_ hev hR hk K1 hK1
    clear hk
    go_simp
    refine (F_q.out _ (P6.out w_ (Ext.trans (Ext.refl _).drew hR)).2.2.2.2.2.2.2.2.2.2.2.2.2.2).mono ?_
    rintro e_ w2_ ⟨rfl, x_⟩
    exact hK1.out _ _ x_ rfl
  refine free_det (fun _ => Ext.refl _) _ rfl (v := .agg (wcells vk).toArray) (d := 67) rfl rfl ?_ ?_
  · intro a_ w_ hev hR hk
    have e11 : a_.eval (.tmp 11) = _ := hk 11 rfl
    exact (exec_load_row rfl e11 (P6.out w_ (Ext.trans (Ext.refl _).drew hR)).2.2.2.2.2.2.2.2.2.1 rfl rfl (by rw [S_vk]; rfl))
  refine free_step _ rfl (fun u _ => u = .agg (wcells vt).toArray) (d := 68) rfl (fun _ _ _ h _ => h) rfl ?_ ?_
  · intro a_ w_ hev hR hk K1 hK1
    have e65 : a_.eval (.tmp 65) = _ := hk 65 rfl
    have e66 : a_.eval (.tmp 66) = _ := hk 66 rfl
    clear hk
    have f65 := ev_get.trans e65
    have f66 := ev_get.trans e66
    go_simp
    refine (F_t.out _ (P6.out w_ (Ext.trans (Ext.refl _).drew hR)).2.2.2.2.2.2.2.2.2.2.2.2.2.2).mono ?_
    rintro e_ w2_ ⟨rfl, x_⟩
    exact hK1.out _ _ x_ rfl
  refine free_step _ rfl (fun u _ => u = .agg (wcells vi).toArray) (d := 69) rfl (fun _ _ _ h _ => h) rfl ?_ ?_
  · intro a_ w_ hev hR hk K1 hK1
    have e64 : a_.eval (.tmp 64) = _ := hk 64 rfl
    have e67 : a_.eval (.tmp 67) = _ := hk 67 rfl
    clear hk
    have f64 := ev_get.trans e64
    have f67 := ev_get.trans e67
    go_simp
    refine (F_i.out _ (P6.out w_ (Ext.trans (Ext.refl _).drew hR)).2.2.2.2.2.2.2.2.2.2.2.2.2.2).mono ?_
    rintro e_ w2_ ⟨rfl, x_⟩
    exact hK1.out _ _ x_ rfl
  refine free_step _ rfl (fun u _ => u = .agg (wcells vr3).toArray) (d := 70) rfl (fun _ _ _ h _ => h) rfl ?_ ?_
  · intro a_ w_ hev hR hk K1 hK1
    have e63 : a_.eval (.tmp 63) = _ := hk 63 rfl
    have e68 : a_.eval (.tmp 68) = _ := hk 68 rfl
    clear hk
    have f63 := ev_get.trans e63
    have f68 := ev_get.trans e68
    go_simp
    refine (F_r3.out _ (P6.out w_ (Ext.trans (Ext.refl _).drew hR)).2.2.2.2.2.2.2.2.2.2.2.2.2.2).mono ?_
    rintro e_ w2_ ⟨rfl, x_⟩
    exact hK1.out _ _ x_ rfl
  refine free_det (fun _ => Ext.refl _) _ rfl (v := .agg (wcells vx).toArray) (d := 71) rfl rfl ?_ ?_
  · intro a_ w_ hev hR hk
    have e3 : a_.eval (.tmp 3) = _ := hk 3 rfl
    exact (exec_load_row rfl e3 (P6.out w_ (Ext.trans (Ext.refl _).drew hR)).2.1 rfl rfl (by rw [S_vx]; rfl))
  refine free_det (fun _ => Ext.refl _) _ rfl (v := .agg (wcells vn).toArray) (d := 72) rfl rfl ?_ ?_
  · intro a_ w_ hev hR hk
    have e15 : a_.eval (.tmp 15) = _ := hk 15 rfl
    exact (exec_load_row rfl e15 (P6.out w_ (Ext.trans (Ext.refl _).drew hR)).2.2.2.2.2.2.2.2.2.2.2.2.2.1 rfl rfl (by rw [S_vn]; rfl))
  refine free_step _ rfl (fun u _ => u = .agg (wcells vj).toArray) (d := 73) rfl (fun _ _ _ h _ => h) rfl ?_ ?_
  · intro a_ w_ hev hR hk K1 hK1
    have e70 : a_.eval (.tmp 70) = _ := hk 70 rfl
    have e71 : a_.eval (.tmp 71) = _ := hk 71 rfl
    clear hk
    have f70 := ev_get.trans e70
    have f71 := ev_get.trans e71
    go_simp
    refine (F_j.out _ (P6.out w_ (Ext.trans (Ext.refl _).drew hR)).2.2.2.2.2.2.2.2.2.2.2.2.2.2).mono ?_
    rintro e_ w2_ ⟨rfl, x_⟩
    exact hK1.out _ _ x_ rfl
  refine free_det (fun _ => Ext.refl _) _ rfl (v := .agg (wcells vn).toArray) (d := 74) rfl rfl ?_ ?_
  · intro a_ w_ hev hR hk
    have e15 : a_.eval (.tmp 15) = _ := hk 15 rfl
    exact (exec_load_row rfl e15 (P6.out w_ (Ext.trans (Ext.refl _).drew hR)).2.2.2.2.2.2.2.2.2.2.2.2.2.1 rfl rfl (by rw [S_vn]; rfl))
  refine free_step _ rfl (fun u _ => u = .agg (wcells vr4).toArray) (d := 75) rfl (fun _ _ _ h _ => h) rfl ?_ ?_
  · intro a_ w_ hev hR hk K1 hK1
    have e72 : a_.eval (.tmp 72) = _ := hk 72 rfl
    have e73 : a_.eval (.tmp 73) = _ := hk 73 rfl
    clear hk
    have f72 := ev_get.trans e72
    have f73 := ev_get.trans e73
    go_simp
    refine (F_r4.out _ (P6.out w_ (Ext.trans (Ext.refl _).drew hR)).2.2.2.2.2.2.2.2.2.2.2.2.2.2).mono ?_
    rintro e_ w2_ ⟨rfl, x_⟩
    exact hK1.out _ _ x_ rfl
  refine free_det (fun _ => Ext.refl _) _ rfl (v := .agg (prC vr1 vr2 vr3 vr4).toArray) (d := 76) rfl rfl ?_ ?_
  · intro a_ w_ hev hR hk
    have e59 : a_.eval (.tmp 59) = _ := hk 59 rfl
    have e62 : a_.eval (.tmp 62) = _ := hk 62 rfl
    have e69 : a_.eval (.tmp 69) = _ := hk 69 rfl
    have e74 : a_.eval (.tmp 74) = _ := hk 74 rfl
    exact (exec_build_as rfl (by simp only [List.map_toArray, List.map_cons, List.map_nil, e59, e62, e69, e74]; exact hbp.out))
  intro v_ w6q hR hV_ hN_
  obtain ⟨hv18, hv17, hv16, hv15, hv14, hv13, hv12, hv11, hv10, hv9, hv8, hv7, hv6, hv5, hv4, hv3, hv2, hv1, hv0, _⟩ := hV_
  replace hv0 : v_ 0 = _ := hv0
  replace hv1 : v_ 1 = _ := hv1
  replace hv2 : v_ 2 = _ := hv2
  replace hv3 : v_ 3 = _ := hv3
  replace hv4 : v_ 4 = _ := hv4
  replace hv5 : v_ 5 = _ := hv5
  replace hv6 : v_ 6 = _ := hv6
  replace hv7 : v_ 7 = _ := hv7
  replace hv8 : v_ 8 = _ := hv8
  replace hv9 : v_ 9 = _ := hv9
  replace hv10 : v_ 10 = _ := hv10
  replace hv11 : v_ 11 = _ := hv11
  replace hv12 : v_ 12 = _ := hv12
  replace hv13 : v_ 13 = _ := hv13
  replace hv14 : v_ 14 = _ := hv14
  replace hv15 : v_ 15 = _ := hv15
  replace hv16 : v_ 16 = _ := hv16
  replace hv17 : v_ 17 = _ := hv17
  replace hv18 : v_ 18 = _ := hv18
  dsimp only [putE, dOpt]
  clear hN_
  rw [hv0, hv1, hv2, hv3, hv4, hv5, hv6, hv7, hv8, hv9, hv10, hv11, hv12, hv13, hv14, hv15, hv16, hv17, hv18]
  simp only [Act.put, List.setIfInBounds_toArray, List.set_cons_zero, List.set_cons_succ]
  clear hv0 hv1 hv2 hv3 hv4 hv5 hv6 hv7 hv8 hv9 hv10 hv11 hv12 hv13 hv14 hv15 hv16 hv17 hv18
  refine any_more (z := 19) _ rfl rfl (by kernel_rfl) ?_
  intro K1 hK1
  refine wp_store_row _ _ _ rfl (w.heap.size + 1 + 1) (prC vr1 vr2 vr3 vr4).toArray rfl rfl 86 (prC zs zs zs zs).toArray ((P6.out _ ((Ext.refl _).drew.trans hR)).2.2.1).1 (by rw [(show (prC vr1 vr2 vr3 vr4).toArray.size = 32 from prC_len hout)]; rfl) (by rw [(show (prC vr1 vr2 vr3 vr4).toArray.size = 32 from prC_len hout), S_zz]) (prC_one _ _ _ _) ?_
  refine hK1.out _ _ ?_
  clear hK1 K1
  refine any_nil (by kernel_rfl) ?_
  have EX := Lib.hid ((P6.out _ ((Ext.refl _).drew.trans hR)).2.2.2.2.2.2.2.2.2.2.2.2.2.2)
  have kr := Lib.hid (((P6.out _ ((Ext.refl _).drew.trans hR)).2.2.1).1)
  clear P6 hR
  go_wp2_with fail
  (try simp only [Exit.inBlock, Exit.then])
  refine bodyPost_ret (results_cell_row rfl _ _ (w.heap.size + 1 + 1) 86 (prC vr1 vr2 vr3 vr4).toArray (0, 0) _ rfl (setRow_heap _ _ _ _ _ _ kr.out) rfl rfl (by rw [S_out]; rfl)) rfl ?_
  exact ⟨by rw [HR2.out ()], below_setRow EX.out (by omega) _⟩
end Go.Proofs.YtfhafednnnfmbaaDoor
