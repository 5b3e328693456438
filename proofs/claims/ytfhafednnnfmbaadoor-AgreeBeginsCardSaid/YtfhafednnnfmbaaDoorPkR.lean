import Derived.Test.YtfhafednnnfmbaaDoorPratt
import Derived.Test.YtfhafednnnfmbaaDoorPkS
section
/-
  The curve of the ladder, as points that are added by one law without exceptions: closed, associative. Plain mathematics; no conditions.
-/
namespace Go.Edw
open Go.Pratt
set_option maxRecDepth 100000

abbrev Q25 : Nat := 57896044618658097711785492504343953926634992332820282019728792003956564819949
abbrev Fq := Fin Q25
instance : NeZero Q25 := ⟨by decide⟩

theorem val_mul (x y : Fq) : (x * y).val = x.val * y.val % Q25 := Fin.val_mul x y
theorem rootQ : Root Q25 2 := rootP
theorem fermat {x : Fq} (h : x ≠ 0) : x.val ^ (Q25 - 1) % Q25 = 1 := rootQ.fermat (Nat.pos_of_ne_zero fun e => h (Fin.ext e)) x.isLt
theorem inv_ex (x : Fq) (h : x ≠ 0) : ∃ y : Fq, x * y = 1 := by
  refine ⟨⟨x.val ^ (Q25 - 2) % Q25, Nat.mod_lt _ (by decide)⟩, Fin.ext ?_⟩
  rw [val_mul]
  show x.val * (x.val ^ (Q25 - 2) % Q25) % Q25 = 1
  rw [Nat.mul_mod_mod, Nat.mul_comm, ← Nat.pow_succ]
  exact fermat h
open Classical in
/-- The number that a number times comes to 1; of 0: 0. -/
noncomputable def fi (x : Fq) : Fq := if h : x ≠ 0 then (inv_ex x h).choose else 0
theorem mul_fi {x : Fq} (h : x ≠ 0) : x * fi x = 1 := by unfold fi; rw [dif_pos h]; exact (inv_ex x h).choose_spec
theorem fi_zero : fi 0 = 0 := by unfold fi; rw [dif_neg (by simp)]
theorem cancel {x y z : Fq} (h : x ≠ 0) (e : x * y = x * z) : y = z := by
  have h1 := mul_fi h
  generalize fi x = t at *
  have : t * (x * y) = t * (x * z) := by rw [e]
  grobner
theorem mul_ne {x y : Fq} (hx : x ≠ 0) (hy : y ≠ 0) : x * y ≠ 0 := fun e => hy (cancel hx (by rw [e]; grobner))
theorem fi_uniq {x y : Fq} (h : x * y = 1) : fi x = y := by
  have hx : x ≠ 0 := by rintro rfl; rw [Fin.zero_mul] at h; exact absurd h (by decide)
  exact cancel hx (by rw [mul_fi hx, h])
theorem zero_of_sq {x : Fq} (h : x * x = 0) : x = 0 := Classical.byContradiction fun hx => mul_ne hx hx h
theorem two_ne : (2 : Fq) ≠ 0 := by decide

/-- A point of the curve of δ. -/
def On (δ : Fq) (p : Fq × Fq) : Prop := p.1 * p.1 + p.2 * p.2 = 1 + δ * p.1 * p.1 * p.2 * p.2
def NonSq (δ : Fq) : Prop := ∀ s : Fq, s * s ≠ δ
/-- No denominator is 0. -/
theorem complete {δ : Fq} (hd : NonSq δ) {u1 w1 u2 w2 t : Fq} (h1 : On δ (u1, w1)) (h2 : On δ (u2, w2)) (ht : t * t = 1) : δ * u1 * u2 * w1 * w2 ≠ t := by
  intro e
  simp only [On] at h1 h2
  have t0 : t ≠ 0 := by rintro rfl; rw [Fin.zero_mul] at ht; exact absurd ht (by decide)
  have k1 : (u1 + t * w1) * (u1 + t * w1) = δ * (u1 * w1 * (u2 + w2)) * (u1 * w1 * (u2 + w2)) := by subst e; grobner
  have k2 : (u1 - t * w1) * (u1 - t * w1) = δ * (u1 * w1 * (u2 - w2)) * (u1 * w1 * (u2 - w2)) := by subst e; grobner
  have nz : u1 * w1 ≠ 0 := fun z => t0 (by rw [← e]; grobner)
  have nz2 : u2 ≠ 0 := fun z => t0 (by rw [← e, z]; grobner)
  have hs : ∀ a b : Fq, a * a = δ * b * b → b = 0 := fun a b h => Classical.byContradiction fun hb => by
    have hm := mul_fi hb
    generalize fi b = i at *
    exact hd (a * i) (by grobner)
  have z1 := hs _ _ k1
  have z2 := hs _ _ k2
  have y1 : u2 + w2 = 0 := Classical.byContradiction fun q => mul_ne nz q z1
  have y2 : u2 - w2 = 0 := Classical.byContradiction fun q => mul_ne nz q z2
  exact mul_ne two_ne nz2 (by grobner)
theorem den_p {δ : Fq} (hd : NonSq δ) {u1 w1 u2 w2 : Fq} (h1 : On δ (u1, w1)) (h2 : On δ (u2, w2)) : 1 + δ * u1 * u2 * w1 * w2 ≠ 0 := fun e =>
  complete hd h1 h2 (t := -1) (by grobner) (by grobner)
theorem den_m {δ : Fq} (hd : NonSq δ) {u1 w1 u2 w2 : Fq} (h1 : On δ (u1, w1)) (h2 : On δ (u2, w2)) : 1 - δ * u1 * u2 * w1 * w2 ≠ 0 := fun e =>
  complete hd h1 h2 (t := 1) (by grobner) (by grobner)

noncomputable def add (δ : Fq) (p q : Fq × Fq) : Fq × Fq := ((p.1 * q.2 + p.2 * q.1) * fi (1 + δ * p.1 * q.1 * p.2 * q.2), (p.2 * q.2 - p.1 * q.1) * fi (1 - δ * p.1 * q.1 * p.2 * q.2))
/-- What a sum's parts are, without quotients. -/
theorem add_eq {δ : Fq} (hd : NonSq δ) {u1 w1 u2 w2 : Fq} (h1 : On δ (u1, w1)) (h2 : On δ (u2, w2)) : ∃ a b, add δ (u1, w1) (u2, w2) = (a, b) ∧ a * (1 + δ * u1 * u2 * w1 * w2) = u1 * w2 + w1 * u2 ∧ b * (1 - δ * u1 * u2 * w1 * w2) = w1 * w2 - u1 * u2 := by
  refine ⟨_, _, rfl, ?_, ?_⟩
  · have := mul_fi (den_p hd h1 h2)
    show (u1 * w2 + w1 * u2) * fi (1 + δ * u1 * u2 * w1 * w2) * _ = _
    generalize fi (1 + δ * u1 * u2 * w1 * w2) = i at *
    grobner
  · have := mul_fi (den_m hd h1 h2)
    show (w1 * w2 - u1 * u2) * fi (1 - δ * u1 * u2 * w1 * w2) * _ = _
    generalize fi (1 - δ * u1 * u2 * w1 * w2) = i at *
    grobner
theorem poly_close (u1 w1 u2 w2 δ : Fq) (h1 : u1*u1 + w1*w1 = 1 + δ*u1*u1*w1*w1) (h2 : u2*u2 + w2*w2 = 1 + δ*u2*u2*w2*w2) :
  (u1*w2+w1*u2)*(u1*w2+w1*u2)*((1 - δ*u1*u2*w1*w2)*(1 - δ*u1*u2*w1*w2)) + (w1*w2-u1*u2)*(w1*w2-u1*u2)*((1 + δ*u1*u2*w1*w2)*(1 + δ*u1*u2*w1*w2)) = ((1 - δ*u1*u2*w1*w2)*(1 - δ*u1*u2*w1*w2))*((1 + δ*u1*u2*w1*w2)*(1 + δ*u1*u2*w1*w2)) + δ*((u1*w2+w1*u2)*(u1*w2+w1*u2)*((w1*w2-u1*u2)*(w1*w2-u1*u2))) := by grobner
theorem add_on {δ : Fq} (hd : NonSq δ) {p q : Fq × Fq} (h1 : On δ p) (h2 : On δ q) : On δ (add δ p q) := by
  obtain ⟨u1, w1⟩ := p
  obtain ⟨u2, w2⟩ := q
  obtain ⟨a, b, e, ha, hb⟩ := add_eq hd h1 h2
  rw [e]
  have dp := den_p hd h1 h2
  have dm := den_m hd h1 h2
  have pc := poly_close u1 w1 u2 w2 δ h1 h2
  simp only [On]
  generalize 1 + δ * u1 * u2 * w1 * w2 = A at *
  generalize 1 - δ * u1 * u2 * w1 * w2 = B at *
  refine cancel (mul_ne (mul_ne dp dm) (mul_ne dp dm)) ?_
  rw [← ha, ← hb] at pc
  clear h1 h2 ha hb e
  grobner
theorem add_comm (δ : Fq) (p q : Fq × Fq) : add δ p q = add δ q p := by
  obtain ⟨u1, w1⟩ := p
  obtain ⟨u2, w2⟩ := q
  simp only [add]
  rw [show u1 * w2 + w1 * u2 = u2 * w1 + w2 * u1 by grobner, show δ * u1 * u2 * w1 * w2 = δ * u2 * u1 * w2 * w1 by grobner, show w1 * w2 - u1 * u2 = w2 * w1 - u2 * u1 by grobner]
theorem add_id (δ : Fq) (p : Fq × Fq) : add δ p (0, 1) = p := by
  obtain ⟨u, w⟩ := p
  simp only [add]
  rw [show 1 + δ * u * 0 * w * 1 = 1 by grobner, show 1 - δ * u * 0 * w * 1 = 1 by grobner, fi_uniq (show (1 : Fq) * 1 = 1 by grobner), show (u * 1 + w * 0) * 1 = u by grobner, show (w * 1 - u * 0) * 1 = w by grobner]
theorem on_id (δ : Fq) : On δ (0, 1) := by simp only [On]; grobner
set_option maxHeartbeats 8000000 in
theorem poly_w (u1 w1 u2 w2 u3 w3 δ : Fq) (h1 : u1*u1 + w1*w1 = 1 + δ*u1*u1*w1*w1) (h2 : u2*u2 + w2*w2 = 1 + δ*u2*u2*w2*w2) (h3 : u3*u3 + w3*w3 = 1 + δ*u3*u3*w3*w3) :
 ((w1*w2-u1*u2)*(1 + δ*u1*u2*w1*w2)*w3 - (u1*w2+w1*u2)*(1 - δ*u1*u2*w1*w2)*u3) * ((1 + δ*u2*u3*w2*w3)*(1 - δ*u2*u3*w2*w3) - δ*u1*w1*(u2*w3+w2*u3)*(w2*w3-u2*u3)) =
 (w1*(w2*w3-u2*u3)*(1 + δ*u2*u3*w2*w3) - u1*(u2*w3+w2*u3)*(1 - δ*u2*u3*w2*w3)) * ((1 + δ*u1*u2*w1*w2)*(1 - δ*u1*u2*w1*w2) - δ*u3*w3*(u1*w2+w1*u2)*(w1*w2-u1*u2)) := by grobner (ringSteps := 1000000)
set_option maxHeartbeats 8000000 in
theorem poly_u (u1 w1 u2 w2 u3 w3 δ : Fq) (h1 : u1*u1 + w1*w1 = 1 + δ*u1*u1*w1*w1) (h2 : u2*u2 + w2*w2 = 1 + δ*u2*u2*w2*w2) (h3 : u3*u3 + w3*w3 = 1 + δ*u3*u3*w3*w3) :
 ((u1*w2+w1*u2)*(1 - δ*u1*u2*w1*w2)*w3 + (w1*w2-u1*u2)*(1 + δ*u1*u2*w1*w2)*u3) * ((1 + δ*u2*u3*w2*w3)*(1 - δ*u2*u3*w2*w3) + δ*u1*w1*(u2*w3+w2*u3)*(w2*w3-u2*u3)) =
 (u1*(w2*w3-u2*u3)*(1 + δ*u2*u3*w2*w3) + w1*(u2*w3+w2*u3)*(1 - δ*u2*u3*w2*w3)) * ((1 + δ*u1*u2*w1*w2)*(1 - δ*u1*u2*w1*w2) + δ*u3*w3*(u1*w2+w1*u2)*(w1*w2-u1*u2)) := by grobner (ringSteps := 1000000)
end Go.Edw
end

section
/-
  Multiples of points; a step of the ladder doubles, and adds. Plain mathematics; no conditions.
-/
namespace Go.Edw
open Go.Pratt
set_option maxRecDepth 100000

theorem add_assoc {δ : Fq} (hd : NonSq δ) {p q r : Fq × Fq} (h1 : On δ p) (h2 : On δ q) (h3 : On δ r) : add δ (add δ p q) r = add δ p (add δ q r) := by
  have c1 := add_on hd h1 h2
  have c2 := add_on hd h2 h3
  obtain ⟨u1, w1⟩ := p
  obtain ⟨u2, w2⟩ := q
  obtain ⟨u3, w3⟩ := r
  obtain ⟨a, b, e1, ha, hb⟩ := add_eq hd h1 h2
  obtain ⟨c, d, e2, hc, hd'⟩ := add_eq hd h2 h3
  rw [e1] at c1 ⊢
  rw [e2] at c2 ⊢
  obtain ⟨x, y, e3, hx, hy⟩ := add_eq hd c1 h3
  obtain ⟨z, t, e4, hz, ht⟩ := add_eq hd h1 c2
  rw [e3, e4]
  have dp1 := den_p hd h1 h2
  have dm1 := den_m hd h1 h2
  have dp2 := den_p hd h2 h3
  have dm2 := den_m hd h2 h3
  have dp3 := den_p hd c1 h3
  have dm3 := den_m hd c1 h3
  have dp4 := den_p hd h1 c2
  have dm4 := den_m hd h1 c2
  have pw := poly_w u1 w1 u2 w2 u3 w3 δ h1 h2 h3
  have pu := poly_u u1 w1 u2 w2 u3 w3 δ h1 h2 h3
  clear e1 e2 e3 e4 c1 c2 h1 h2 h3
  have m : (1 + δ * u1 * u2 * w1 * w2) * (1 - δ * u1 * u2 * w1 * w2) * ((1 + δ * u2 * u3 * w2 * w3) * (1 - δ * u2 * u3 * w2 * w3)) ≠ 0 := mul_ne (mul_ne dp1 dm1) (mul_ne dp2 dm2)
  rw [← ha, ← hb, ← hc, ← hd'] at pw pu
  clear ha hb hc hd'
  generalize hA : 1 + δ * u1 * u2 * w1 * w2 = A at *
  generalize hB : 1 - δ * u1 * u2 * w1 * w2 = B at *
  generalize hC : 1 + δ * u2 * u3 * w2 * w3 = C at *
  generalize hD : 1 - δ * u2 * u3 * w2 * w3 = D at *
  clear hA hB hC hD
  have cw : (b * w3 - a * u3) * (1 - δ * u1 * c * w1 * d) = (w1 * d - u1 * c) * (1 - δ * a * u3 * b * w3) := cancel m (by clear hx hy hz ht pu; grobner)
  have cu : (a * w3 + b * u3) * (1 + δ * u1 * c * w1 * d) = (u1 * d + w1 * c) * (1 + δ * a * u3 * b * w3) := cancel m (by clear hx hy hz ht pw cw; grobner)
  clear pw pu m
  rw [← hx, ← hz] at cu
  rw [← hy, ← ht] at cw
  clear hx hy hz ht
  have ex : x = z := cancel (mul_ne dp3 dp4) (by clear cw; grobner)
  have ey : y = t := cancel (mul_ne dm3 dm4) (by clear cu; grobner)
  rw [ex, ey]

noncomputable def sm (δ : Fq) (q : Fq × Fq) : Nat → Fq × Fq
  | 0 => (0, 1)
  | n + 1 => add δ (sm δ q n) q
theorem sm_on {δ : Fq} (hd : NonSq δ) {q : Fq × Fq} (h : On δ q) : ∀ n, On δ (sm δ q n)
  | 0 => on_id δ
  | n + 1 => add_on hd (sm_on hd h n) h
theorem sm_add {δ : Fq} (hd : NonSq δ) {q : Fq × Fq} (h : On δ q) (m : Nat) : ∀ n, sm δ q (m + n) = add δ (sm δ q m) (sm δ q n)
  | 0 => (add_id δ _).symm
  | n + 1 => by
    show add δ (sm δ q (m + n)) q = add δ _ (add δ (sm δ q n) q)
    rw [sm_add hd h m n, add_assoc hd (sm_on hd h m) (sm_on hd h n) h]
theorem id_add (δ : Fq) (p : Fq × Fq) : add δ (0, 1) p = p := by rw [add_comm, add_id]
theorem sm_sm {δ : Fq} (hd : NonSq δ) {q : Fq × Fq} (h : On δ q) (m : Nat) : ∀ n, sm δ (sm δ q m) n = sm δ q (m * n)
  | 0 => rfl
  | n + 1 => by
    show add δ (sm δ (sm δ q m) n) (sm δ q m) = _
    rw [sm_sm hd h m n, Nat.mul_succ, sm_add hd h]
theorem sm_id (δ : Fq) : ∀ n, sm δ (0, 1) n = (0, 1)
  | 0 => rfl
  | n + 1 => by show add δ (sm δ (0, 1) n) (0, 1) = _; rw [add_id, sm_id δ n]

theorem poly_d (u1 w1 u2 w2 δ : Fq) (h1 : u1*u1 + w1*w1 = 1 + δ*u1*u1*w1*w1) (h2 : u2*u2 + w2*w2 = 1 + δ*u2*u2*w2*w2) :
  ((w1*w2-u1*u2)*(1 + δ*u1*u2*w1*w2) + (w1*w2+u1*u2)*(1 - δ*u1*u2*w1*w2)) * (w1*w1+w2*w2) = 2*w1*w2*((1 - δ*u1*u2*w1*w2)*(1 + δ*u1*u2*w1*w2) + (w1*w2-u1*u2)*(w1*w2+u1*u2)) := by grobner (ringSteps := 1000000)
theorem key_cut {A B Y W y w4 S T : Fq} (h4 : w4 * A = W) (hy : y * B = Y) (p : (Y * A + W * B) * S = T * (B * A + Y * W)) : B * A * ((y + w4) * S) = B * A * (T * (1 + y * w4)) := by subst h4 hy; grobner
theorem add_a {y w4 S T : Fq} (key : (y + w4) * S = T * (1 + y * w4)) : T - w4 * S = y * (S - T * w4) := by grobner
theorem add_b {w4 S T : Fq} (q : S - T * w4 = 0) (q2 : T - w4 * S = 0) : (1 - w4) * (1 + w4) * S = 0 := by grobner
theorem add_c {w4 S T : Fq} (q4 : S = 0) (q2 : T - w4 * S = 0) : T = 0 := by grobner
theorem add_d {w1 w2 : Fq} (q4 : w1 * w1 + w2 * w2 = 0) (q6 : w1 * w2 = 0) : (w1 * w1) * (w1 * w1) = 0 := by grobner
theorem add_e {u1 u2 δ w4 : Fq} (h1 : u1*u1 + 0*0 = 1 + δ*u1*u1*0*0) (h2 : u2*u2 + 0*0 = 1 + δ*u2*u2*0*0) (h4 : w4 * (1 + δ*u1*u2*0*0) = 0*0 + u1*u2) : (1 - w4) * (1 + w4) = 0 := by grobner
theorem add_s {x w4 p q : Fq} (hx : x * (1 - w4) = 1 + w4) : (1 - w4) * (p * p + x * q * q) = (1 - w4) * (p * p) + (1 + w4) * (q * q) := by grobner
theorem add_t {x w4 p q : Fq} (hx : x * (1 - w4) = 1 + w4) : (1 - w4) * (p * p - x * q * q) = (1 - w4) * (p * p) - (1 + w4) * (q * q) := by grobner
theorem add_v {w4 E G w1 w2 : Fq} : (1 - w4) * ((w2 * G * E + G * (w1 * E)) * (w2 * G * E + G * (w1 * E))) + (1 + w4) * ((w2 * G * E - G * (w1 * E)) * (w2 * G * E - G * (w1 * E))) = (2 * (G * G * (E * E))) * ((w1 * w1 + w2 * w2) - 2 * w1 * w2 * w4) := by grobner
theorem add_x {w4 E G w1 w2 : Fq} : (1 - w4) * ((w2 * G * E + G * (w1 * E)) * (w2 * G * E + G * (w1 * E))) - (1 + w4) * ((w2 * G * E - G * (w1 * E)) * (w2 * G * E - G * (w1 * E))) = (2 * (G * G * (E * E))) * (2 * w1 * w2 - w4 * (w1 * w1 + w2 * w2)) := by grobner

/-- The parts a, c stand for the point whose second coordinate is w. -/
def Rep (a c w : Fq) : Prop := a + c ≠ 0 ∧ a - c = w * (a + c)
theorem one_min {δ : Fq} (hd : NonSq δ) {w : Fq} : 1 - δ * w * w ≠ 0 := fun e => by
  have w0 : w ≠ 0 := by rintro rfl; exact absurd (show (1 : Fq) = 0 by grobner) (by decide)
  have := mul_fi w0
  generalize fi w = i at *
  exact hd i (by grobner)
theorem rep_dbl {α δ : Fq} (hd : NonSq δ) (hα : δ * (α + 1) = α) (h1 : α + 1 ≠ 0) {a c u1 w1 : Fq} (hp : On δ (u1, w1)) (h : Rep a c w1) :
    Rep ((a + c) * (a + c) * ((a - c) * (a - c))) (((a + c) * (a + c) - (a - c) * (a - c)) * ((a + c) * (a + c) + α * ((a + c) * (a + c) - (a - c) * (a - c)))) (add δ (u1, w1) (u1, w1)).2 := by
  obtain ⟨x, y, e, _, hy⟩ := add_eq hd hp hp
  have dm := den_m hd hp hp
  have om := one_min hd (w := w1)
  rw [e]
  obtain ⟨he, hf⟩ := h
  rw [hf]
  generalize a + c = E at *
  simp only [On] at hp
  have hS : E * E * (w1 * E * (w1 * E)) + (E * E - w1 * E * (w1 * E)) * (E * E + α * (E * E - w1 * E * (w1 * E))) = (E * E * (E * E) * (α + 1)) * ((1 - δ * u1 * u1 * w1 * w1) * (1 - δ * w1 * w1)) := by
    clear hy dm om he hf e
    grobner
  refine ⟨?_, ?_⟩
  · rw [hS]
    exact mul_ne (mul_ne (mul_ne (mul_ne he he) (mul_ne he he)) h1) (mul_ne dm om)
  · show _ = y * _
    rw [hS]
    clear hS dm om he hf e
    grobner
theorem rep_add {δ : Fq} (hd : NonSq δ) {a c b d u1 w1 u2 w2 x : Fq} (hp : On δ (u1, w1)) (hq : On δ (u2, w2)) (h : Rep a c w1) (k : Rep b d w2) {w4 : Fq} (h4 : w4 * (1 + δ * u1 * u2 * w1 * w2) = w1 * w2 + u1 * u2) (hx : x * (1 - w4) = 1 + w4) (hx1 : 1 - w4 ≠ 0) (hx2 : 1 + w4 ≠ 0) :
    Rep (((b - d) * (a + c) + (b + d) * (a - c)) * ((b - d) * (a + c) + (b + d) * (a - c))) (x * ((b - d) * (a + c) - (b + d) * (a - c)) * ((b - d) * (a + c) - (b + d) * (a - c))) (add δ (u1, w1) (u2, w2)).2 := by
  obtain ⟨s, y, e, _, hy⟩ := add_eq hd hp hq
  have dm := den_m hd hp hq
  have dp := den_p hd hp hq
  rw [e]
  obtain ⟨he, hf⟩ := h
  obtain ⟨hg, hh⟩ := k
  rw [hf, hh]
  generalize a + c = E at *
  generalize b + d = G at *
  simp only [On] at hp hq
  have key : (y + w4) * (w1 * w1 + w2 * w2) = 2 * w1 * w2 * (1 + y * w4) := cancel (mul_ne dm dp) (key_cut h4 hy (poly_d u1 w1 u2 w2 δ hp hq))
  have ka := add_a key
  have nz : (w1 * w1 + w2 * w2) - 2 * w1 * w2 * w4 ≠ 0 := fun q => by
    have q2 : 2 * w1 * w2 - w4 * (w1 * w1 + w2 * w2) = 0 := by rw [ka, q, Fin.mul_zero]
    have q4 : w1 * w1 + w2 * w2 = 0 := Classical.byContradiction fun z => mul_ne (mul_ne hx1 hx2) z (add_b q q2)
    have q5 := add_c q4 q2
    have q6 : w1 * w2 = 0 := Classical.byContradiction fun z => mul_ne two_ne z (by rw [← q5]; grobner)
    have z1 := zero_of_sq (zero_of_sq (add_d q4 q6))
    have z2 : w2 = 0 := zero_of_sq (by rw [z1] at q4; clear h4 hy hp hq hx key ka hf hh e q q2 q5 q6; grobner)
    subst z1 z2
    exact mul_ne hx1 hx2 (add_e hp hq h4)
  have hS := (add_s (p := w2 * G * E + G * (w1 * E)) (q := w2 * G * E - G * (w1 * E)) hx).trans add_v
  have hL := (add_t (p := w2 * G * E + G * (w1 * E)) (q := w2 * G * E - G * (w1 * E)) hx).trans add_x
  generalize (w2 * G * E + G * (w1 * E)) * (w2 * G * E + G * (w1 * E)) = pp at *
  generalize x * (w2 * G * E - G * (w1 * E)) * (w2 * G * E - G * (w1 * E)) = qq at *
  refine ⟨fun z => ?_, ?_⟩
  · rw [z, Fin.mul_zero] at hS
    exact mul_ne (mul_ne two_ne (mul_ne (mul_ne hg hg) (mul_ne he he))) nz hS.symm
  · show _ = y * _
    refine cancel hx1 ?_
    rw [hL, ka]
    generalize w1 * w1 + w2 * w2 - 2 * w1 * w2 * w4 = V at *
    generalize 2 * (G * G * (E * E)) = U at *
    clear ka key hL nz h4 hy hp hq hx hf hh e dm dp he hg
    grobner
end Go.Edw
end

section
/-
  What the ladder makes of a point. Plain mathematics; no conditions.
-/
namespace Go.Edw
open Go.Pratt
set_option maxRecDepth 100000

theorem add_neg {δ : Fq} (hd : NonSq δ) {u w : Fq} (h : On δ (u, w)) : On δ (-u, w) ∧ add δ (u, w) (-u, w) = (0, 1) := by
  have hn : On δ (-u, w) := by simp only [On] at h ⊢; grobner
  refine ⟨hn, ?_⟩
  have dp := den_p hd h hn
  have dm := den_m hd h hn
  obtain ⟨a, b, e, ha, hb⟩ := add_eq hd h hn
  rw [e]
  simp only [On] at h
  have z1 : a = 0 := cancel dp (by rw [show (1 + δ * u * -u * w * w) * a = a * (1 + δ * u * -u * w * w) by grobner, ha]; grobner)
  have z2 : b = 1 := cancel dm (by rw [show (1 - δ * u * -u * w * w) * b = b * (1 - δ * u * -u * w * w) by grobner, hb]; clear ha hb e dp dm; grobner)
  rw [z1, z2]
/-- The difference of two points whose difference is q. -/
theorem diff_of {δ : Fq} (hd : NonSq δ) {u1 w1 u2 w2 uq wq : Fq} (h1 : On δ (u1, w1)) (hq : On δ (uq, wq)) (h2 : On δ (u2, w2)) (e : add δ (u1, w1) (uq, wq) = (u2, w2)) : wq * (1 + δ * u1 * u2 * w1 * w2) = w1 * w2 + u1 * u2 := by
  obtain ⟨hn, hz⟩ := add_neg hd h1
  have hs : add δ (u2, w2) (-u1, w1) = (uq, wq) := by
    rw [← e, add_comm δ (u1, w1), add_assoc hd hq h1 hn, hz, add_id]
  obtain ⟨a, b, e2, _, hb⟩ := add_eq hd h2 hn
  rw [hs] at e2
  injection e2 with _ e3
  rw [← e3] at hb
  clear e3 hs hz hn e
  grobner

abbrev St := Fq × Fq × Fq × Fq
/-- a, b, c, d behind a step. -/
def stepF (α x : Fq) (s : St) : St :=
  let e := s.1 + s.2.2.1; let f := s.1 - s.2.2.1; let g := s.2.1 + s.2.2.2; let h := s.2.1 - s.2.2.2
  let u := e * e; let v := f * f; let w := u - v; let y := h * e; let z := g * f
  (u * v, (y + z) * (y + z), w * (u + α * w), x * (y - z) * (y - z))
def swapF (t : Bool) (s : St) : St := if t then (s.2.1, s.1, s.2.2.2, s.2.2.1) else s
def ladF (α x : Fq) (bits : Nat → Bool) : Nat → St
  | 0 => (1, x, 0, 1)
  | m + 1 => swapF (bits m) (stepF α x (swapF (bits m) (ladF α x bits m)))
noncomputable def resF (α x : Fq) (bits : Nat → Bool) : Fq := (ladF α x bits 255).1 * fi (ladF α x bits 255).2.2.1
def kF (bits : Nat → Bool) : Nat → Nat
  | 0 => 0
  | m + 1 => 2 * kF bits m + if bits m then 1 else 0
noncomputable def xw (w : Fq) : Fq := (1 + w) * fi (1 - w)

theorem xw_one : xw 1 = 0 := by unfold xw; rw [show (1 : Fq) - 1 = 0 by grobner, fi_zero, Fin.mul_zero]
theorem xw_eq {w : Fq} (h : w ≠ 1) : xw w * (1 - w) = 1 + w := by
  have := mul_fi (show 1 - w ≠ 0 from fun q => h (by grobner))
  unfold xw
  generalize fi (1 - w) = i at *
  grobner
theorem rep_res {a c w : Fq} (h : Rep a c w) : a * fi c = xw w := by
  obtain ⟨h1, h2⟩ := h
  by_cases hw : w = 1
  · subst hw
    have hc : 2 * c = 0 := by grobner
    have : c = 0 := Classical.byContradiction fun z => mul_ne two_ne z hc
    rw [this, fi_zero, Fin.mul_zero, xw_one]
  · have hx := xw_eq hw
    have hc2 : 2 * c = (1 - w) * (a + c) := by grobner
    have ha2 : 2 * a = (1 + w) * (a + c) := by grobner
    have w1 : 1 - w ≠ 0 := fun q => hw (by grobner)
    have hc : c ≠ 0 := fun z => by
      rw [z] at hc2 h1
      refine mul_ne w1 h1 ?_
      rw [← hc2]; grobner
    have hf := mul_fi hc
    generalize xw w = X at *
    generalize fi c = i at *
    have : a = X * c := cancel two_ne (cancel w1 (by generalize a + c = s at *; clear h2 hf h1; grobner))
    grobner

/-- The ladder's two parts stand for the multiples k and k + 1. -/
theorem lad_inv {α δ : Fq} (hd : NonSq δ) (hα : δ * (α + 1) = α) (h1 : α + 1 ≠ 0) {uq wq x : Fq} (hq : On δ (uq, wq)) (hx : x * (1 - wq) = 1 + wq) (hx1 : 1 - wq ≠ 0) (hx2 : 1 + wq ≠ 0) (bits : Nat → Bool) : ∀ m, Rep (ladF α x bits m).1 (ladF α x bits m).2.2.1 (sm δ (uq, wq) (kF bits m)).2 ∧ Rep (ladF α x bits m).2.1 (ladF α x bits m).2.2.2 (sm δ (uq, wq) (kF bits m + 1)).2
  | 0 => by
    refine ⟨⟨?_, ?_⟩, ?_, ?_⟩
    · show (1 : Fq) + 0 ≠ 0; decide
    · show (1 : Fq) - 0 = 1 * (1 + 0); grobner
    · show x + 1 ≠ 0
      intro z
      have : 2 = (0 : Fq) := by grobner
      exact two_ne this
    · show x - 1 = (sm δ (uq, wq) 1).2 * (x + 1)
      have : sm δ (uq, wq) 1 = (uq, wq) := id_add δ _
      rw [this]
      show x - 1 = wq * (x + 1)
      grobner
  | m + 1 => by
    obtain ⟨r1, r2⟩ := lad_inv hd hα h1 hq hx hx1 hx2 bits m
    have o1 := sm_on hd hq (kF bits m)
    have o2 := sm_on hd hq (kF bits m + 1)
    have e12 : add δ (sm δ (uq, wq) (kF bits m)) (uq, wq) = sm δ (uq, wq) (kF bits m + 1) := rfl
    have d11 : add δ (sm δ (uq, wq) (kF bits m)) (sm δ (uq, wq) (kF bits m)) = sm δ (uq, wq) (2 * kF bits m) := by rw [Nat.two_mul, sm_add hd hq]
    have d12 : add δ (sm δ (uq, wq) (kF bits m)) (sm δ (uq, wq) (kF bits m + 1)) = sm δ (uq, wq) (2 * kF bits m + 1) := by rw [show 2 * kF bits m + 1 = kF bits m + (kF bits m + 1) by omega, sm_add hd hq (kF bits m) (kF bits m + 1)]
    have d22 : add δ (sm δ (uq, wq) (kF bits m + 1)) (sm δ (uq, wq) (kF bits m + 1)) = sm δ (uq, wq) (2 * kF bits m + 2) := by rw [show 2 * kF bits m + 2 = (kF bits m + 1) + (kF bits m + 1) by omega, sm_add hd hq (kF bits m + 1) (kF bits m + 1)]
    have d21 : add δ (sm δ (uq, wq) (kF bits m + 1)) (sm δ (uq, wq) (kF bits m)) = sm δ (uq, wq) (2 * kF bits m + 1) := by rw [add_comm, d12]
    generalize hp1 : sm δ (uq, wq) (kF bits m) = p1 at *
    generalize hp2 : sm δ (uq, wq) (kF bits m + 1) = p2 at *
    obtain ⟨u1, w1⟩ := p1
    obtain ⟨u2, w2⟩ := p2
    have df := diff_of hd o1 hq o2 e12
    have el : ladF α x bits (m + 1) = swapF (bits m) (stepF α x (swapF (bits m) (ladF α x bits m))) := rfl
    have ek : kF bits (m + 1) = 2 * kF bits m + if bits m then 1 else 0 := rfl
    rw [el, ek]
    clear el ek
    generalize ladF α x bits m = s at *
    obtain ⟨a, b, c, d⟩ := s
    generalize kF bits m = k at *
    cases bits m with
    | false =>
      have q1 := rep_dbl hd hα h1 o1 r1
      have q2 := rep_add hd o1 o2 r1 r2 df hx hx1 hx2
      rw [d11] at q1
      rw [d12] at q2
      exact ⟨q1, q2⟩
    | true =>
      have q1 := rep_dbl hd hα h1 o2 r2
      have q2 := rep_add hd o2 o1 r2 r1 (w4 := wq) (by rw [show 1 + δ * u2 * u1 * w2 * w1 = 1 + δ * u1 * u2 * w1 * w2 by grobner, df]; grobner) hx hx1 hx2
      rw [d22] at q1
      rw [d21] at q2
      exact ⟨q2, q1⟩
theorem on_one {δ : Fq} (hd : NonSq δ) {u w : Fq} (h : On δ (u, w)) (hw : w * w = 1) : u = 0 := by
  simp only [On] at h
  have d1 : δ ≠ 1 := fun e => hd 1 (by rw [e]; grobner)
  refine Classical.byContradiction fun hu => ?_
  have : u * u * (1 - δ) = 0 := by grobner
  exact mul_ne (mul_ne hu hu) (fun z => d1 (by grobner)) this
theorem lad_zero {α : Fq} {bits : Nat → Bool} (b0 : bits 0 = true) : ∀ m, (ladF α 0 bits (m + 1)).2.2.1 = 0 ∧ (ladF α 0 bits (m + 1)).2.2.2 = 0
  | 0 => by
    show (swapF (bits 0) (stepF α 0 (swapF (bits 0) (1, 0, 0, 1)))).2.2.1 = 0 ∧ (swapF (bits 0) (stepF α 0 (swapF (bits 0) (1, 0, 0, 1)))).2.2.2 = 0
    rw [b0]
    constructor
    · show (0 : Fq) * _ * _ = 0; rw [Fin.zero_mul, Fin.zero_mul]
    · show (((0 : Fq) + 1) * (0 + 1) - (0 - 1) * (0 - 1)) * _ = 0
      rw [show ((0 : Fq) + 1) * (0 + 1) - (0 - 1) * (0 - 1) = 0 by grobner, Fin.zero_mul]
  | m + 1 => by
    obtain ⟨h1, h2⟩ := lad_zero (α := α) b0 m
    show (swapF (bits (m + 1)) (stepF α 0 (swapF (bits (m + 1)) (ladF α 0 bits (m + 1))))).2.2.1 = 0 ∧ (swapF (bits (m + 1)) (stepF α 0 (swapF (bits (m + 1)) (ladF α 0 bits (m + 1))))).2.2.2 = 0
    generalize ladF α 0 bits (m + 1) = s at *
    obtain ⟨a, b, c, d⟩ := s
    simp only at h1 h2
    subst h1 h2
    cases bits (m + 1) with
    | false =>
      constructor
      · show ((a + 0) * (a + 0) - (a - 0) * (a - 0)) * _ = 0
        rw [show (a + 0) * (a + 0) - (a - 0) * (a - 0) = 0 by grobner, Fin.zero_mul]
      · show (0 : Fq) * _ * _ = 0; rw [Fin.zero_mul, Fin.zero_mul]
    | true =>
      constructor
      · show (0 : Fq) * _ * _ = 0; rw [Fin.zero_mul, Fin.zero_mul]
      · show ((b + 0) * (b + 0) - (b - 0) * (b - 0)) * _ = 0
        rw [show (b + 0) * (b + 0) - (b - 0) * (b - 0) = 0 by grobner, Fin.zero_mul]
theorem res_zero {α : Fq} {bits : Nat → Bool} (b0 : bits 0 = true) : resF α 0 bits = 0 := by
  unfold resF
  rw [(lad_zero b0 254).1, fi_zero, Fin.mul_zero]
/-- What the ladder makes of the number of a point is the number of the point's multiple. -/
theorem res_point {α δ : Fq} (hd : NonSq δ) (hα : δ * (α + 1) = α) (h1 : α + 1 ≠ 0) {q : Fq × Fq} (hq : On δ q) {bits : Nat → Bool} (b0 : bits 0 = true) (bl : bits 254 = false) : resF α (xw q.2) bits = xw (sm δ q (kF bits 255)).2 := by
  obtain ⟨u, w⟩ := q
  show resF α (xw w) bits = _
  by_cases w1 : w = 1
  · subst w1
    have := on_one hd hq (by grobner)
    subst this
    rw [xw_one, res_zero b0, sm_id, xw_one]
  · by_cases w2 : 1 + w = 0
    · have wm : w * w = 1 := by grobner
      have hu := on_one hd hq wm
      subst hu
      have hx0 : xw w = 0 := by unfold xw; rw [w2, Fin.zero_mul]
      rw [hx0, res_zero b0]
      have e2 : sm δ (0, w) (kF bits 255) = (0, 1) := by
        have hk : kF bits 255 = 2 * kF bits 254 := by show 2 * kF bits 254 + (if bits 254 then 1 else 0) = _; rw [bl]; rfl
        rw [hk, ← sm_sm hd hq]
        have h2 : sm δ (0, w) 2 = (0, 1) := by
          have z : add δ (0, w) (0, w) = (0, 1) := by
            simp only [add]
            rw [show (0 : Fq) * w + w * 0 = 0 by grobner, Fin.zero_mul, show 1 - δ * 0 * 0 * w * w = 1 by grobner, show w * w - 0 * 0 = 1 by grobner, fi_uniq (show (1 : Fq) * 1 = 1 by grobner)]
            rfl
          show add δ (add δ (0, 1) (0, w)) (0, w) = _
          rw [id_add, z]
        rw [h2, sm_id]
      rw [e2, xw_one]
    · have hx := xw_eq w1
      have hx1 : 1 - w ≠ 0 := fun z => w1 (by grobner)
      exact rep_res (lad_inv hd hα h1 hq hx hx1 w2 bits 255).1
theorem res_comm_point {α δ : Fq} (hd : NonSq δ) (hα : δ * (α + 1) = α) (h1 : α + 1 ≠ 0) {q : Fq × Fq} (hq : On δ q) {s t : Nat → Bool} (s0 : s 0 = true) (sl : s 254 = false) (t0 : t 0 = true) (tl : t 254 = false) : resF α (resF α (xw q.2) s) t = resF α (resF α (xw q.2) t) s := by
  rw [res_point hd hα h1 hq s0 sl, res_point hd hα h1 hq t0 tl, res_point hd hα h1 (sm_on hd hq _) t0 tl, res_point hd hα h1 (sm_on hd hq _) s0 sl, sm_sm hd hq, sm_sm hd hq, Nat.mul_comm]
end Go.Edw
end

section
/-
  Multiplying by two secrets can be turned about. Plain mathematics; no conditions.
-/
namespace Go.Edw
open Go.Pratt
set_option maxRecDepth 100000

theorem fi_neg (x : Fq) : fi (-x) = -fi x := by
  by_cases h : x = 0
  · subst h
    rw [show -(0 : Fq) = 0 by decide, fi_zero]
    decide
  · refine fi_uniq ?_
    have := mul_fi h
    generalize fi x = i at *
    grobner
def negS (s : St) : St := (s.1, s.2.1, -s.2.2.1, -s.2.2.2)
theorem step_neg (α x : Fq) (s : St) : stepF (-(α + 1)) (-x) (negS s) = negS (stepF α x s) := by
  obtain ⟨a, b, c, d⟩ := s
  refine Prod.ext ?_ (Prod.ext ?_ (Prod.ext ?_ ?_))
  · show (a + -c) * (a + -c) * ((a - -c) * (a - -c)) = (a + c) * (a + c) * ((a - c) * (a - c)); grobner
  · show ((b - -d) * (a + -c) + (b + -d) * (a - -c)) * ((b - -d) * (a + -c) + (b + -d) * (a - -c)) = ((b - d) * (a + c) + (b + d) * (a - c)) * ((b - d) * (a + c) + (b + d) * (a - c)); grobner
  · show ((a + -c) * (a + -c) - (a - -c) * (a - -c)) * ((a + -c) * (a + -c) + -(α + 1) * ((a + -c) * (a + -c) - (a - -c) * (a - -c))) = -(((a + c) * (a + c) - (a - c) * (a - c)) * ((a + c) * (a + c) + α * ((a + c) * (a + c) - (a - c) * (a - c)))); grobner
  · show -x * ((b - -d) * (a + -c) - (b + -d) * (a - -c)) * ((b - -d) * (a + -c) - (b + -d) * (a - -c)) = -(x * ((b - d) * (a + c) - (b + d) * (a - c)) * ((b - d) * (a + c) - (b + d) * (a - c))); grobner
theorem swap_neg (t : Bool) (s : St) : swapF t (negS s) = negS (swapF t s) := by cases t <;> rfl
theorem lad_neg (α x : Fq) (bits : Nat → Bool) : ∀ m, ladF (-(α + 1)) (-x) bits (m + 1) = negS (ladF α x bits (m + 1))
  | 0 => by
    show swapF (bits 0) (stepF (-(α + 1)) (-x) (swapF (bits 0) (1, -x, 0, 1))) = negS (swapF (bits 0) (stepF α x (swapF (bits 0) (1, x, 0, 1))))
    rw [← swap_neg]
    congr 1
    cases bits 0 with
    | false =>
      refine Prod.ext ?_ (Prod.ext ?_ (Prod.ext ?_ ?_))
      · rfl
      · show ((-x - 1) * (1 + 0) + (-x + 1) * (1 - 0)) * ((-x - 1) * (1 + 0) + (-x + 1) * (1 - 0)) = ((x - 1) * (1 + 0) + (x + 1) * (1 - 0)) * ((x - 1) * (1 + 0) + (x + 1) * (1 - 0)); grobner
      · show ((1 + 0) * (1 + 0) - (1 - 0) * (1 - 0)) * ((1 + 0) * (1 + 0) + -(α + 1) * ((1 + 0) * (1 + 0) - (1 - 0) * (1 - 0))) = -(((1 + 0) * (1 + 0) - (1 - 0) * (1 - 0)) * ((1 + 0) * (1 + 0) + α * ((1 + 0) * (1 + 0) - (1 - 0) * (1 - 0)))); grobner
      · show -x * ((-x - 1) * (1 + 0) - (-x + 1) * (1 - 0)) * ((-x - 1) * (1 + 0) - (-x + 1) * (1 - 0)) = -(x * ((x - 1) * (1 + 0) - (x + 1) * (1 - 0)) * ((x - 1) * (1 + 0) - (x + 1) * (1 - 0))); grobner
    | true =>
      refine Prod.ext ?_ (Prod.ext ?_ (Prod.ext ?_ ?_))
      · show (-x + 1) * (-x + 1) * ((-x - 1) * (-x - 1)) = (x + 1) * (x + 1) * ((x - 1) * (x - 1)); grobner
      · show ((1 - 0) * (-x + 1) + (1 + 0) * (-x - 1)) * ((1 - 0) * (-x + 1) + (1 + 0) * (-x - 1)) = ((1 - 0) * (x + 1) + (1 + 0) * (x - 1)) * ((1 - 0) * (x + 1) + (1 + 0) * (x - 1)); grobner
      · show ((-x + 1) * (-x + 1) - (-x - 1) * (-x - 1)) * ((-x + 1) * (-x + 1) + -(α + 1) * ((-x + 1) * (-x + 1) - (-x - 1) * (-x - 1))) = -(((x + 1) * (x + 1) - (x - 1) * (x - 1)) * ((x + 1) * (x + 1) + α * ((x + 1) * (x + 1) - (x - 1) * (x - 1)))); grobner
      · show -x * ((1 - 0) * (-x + 1) - (1 + 0) * (-x - 1)) * ((1 - 0) * (-x + 1) - (1 + 0) * (-x - 1)) = -(x * ((1 - 0) * (x + 1) - (1 + 0) * (x - 1)) * ((1 - 0) * (x + 1) - (1 + 0) * (x - 1))); grobner
  | m + 1 => by
    show swapF (bits (m + 1)) (stepF (-(α + 1)) (-x) (swapF (bits (m + 1)) (ladF (-(α + 1)) (-x) bits (m + 1)))) = negS (swapF (bits (m + 1)) (stepF α x (swapF (bits (m + 1)) (ladF α x bits (m + 1)))))
    rw [lad_neg α x bits m, swap_neg, step_neg, swap_neg]
theorem res_neg (α x : Fq) (bits : Nat → Bool) : resF (-(α + 1)) (-x) bits = -resF α x bits := by
  unfold resF
  rw [lad_neg α x bits 254]
  show _ * fi (-(ladF α x bits (254 + 1)).2.2.1) = _
  rw [fi_neg]
  generalize fi (ladF α x bits (254 + 1)).2.2.1 = i
  show (ladF α x bits (254 + 1)).1 * -i = -((ladF α x bits (254 + 1)).1 * i)
  generalize (ladF α x bits (254 + 1)).1 = j
  grobner

/-- What squares are: by powers of 2, of which each number that is not 0 is one. -/
theorem pow_hit {x : Fq} (h : x ≠ 0) : ∃ i, (2 ^ i % Q25 : Nat) = x.val := by
  obtain ⟨i, _, e⟩ := rootQ.hit (Nat.pos_of_ne_zero fun e => h (Fin.ext e)) x.isLt
  exact ⟨i, e⟩
theorem two_nonsq {x y : Fq} (hx : x ≠ 0) (hy : y ≠ 0) (nx : NonSq x) (ny : NonSq y) : ∃ s : Fq, s * s = x * y := by
  obtain ⟨i, hi⟩ := pow_hit hx
  obtain ⟨j, hj⟩ := pow_hit hy
  have sq : ∀ (z : Fq) (k : Nat), 2 ^ (k + k) % Q25 = z.val → ∃ s : Fq, s * s = z := fun z k e => ⟨⟨2 ^ k % Q25, Nat.mod_lt _ (by decide)⟩, Fin.ext (by
    rw [val_mul]
    show 2 ^ k % Q25 * (2 ^ k % Q25) % Q25 = _
    rw [← Nat.mul_mod, ← Nat.pow_add, e])⟩
  have odd : ∀ (z : Fq) (k : Nat), NonSq z → 2 ^ k % Q25 = z.val → k % 2 = 1 := fun z k hn e => by
    rcases Nat.mod_two_eq_zero_or_one k with h | h
    · exfalso
      obtain ⟨s, hs⟩ := sq z (k / 2) (by rw [show k / 2 + k / 2 = k by omega]; exact e)
      exact hn s hs
    · exact h
  have oi := odd x i nx hi
  have oj := odd y j ny hj
  refine sq (x * y) ((i + j) / 2) ?_
  rw [show (i + j) / 2 + (i + j) / 2 = i + j by omega, Nat.pow_add, Nat.mul_mod, hi, hj, val_mul]
theorem nonsq_of {x : Fq} (h : pm Q25 x.val 255 ((Q25 - 1) / 2) ≠ 1) (h0 : x ≠ 0) : NonSq x := by
  rintro s rfl
  apply h
  have s0 : s ≠ 0 := by rintro rfl; exact h0 (by decide)
  rw [pm_eq _ _ _ _ (by decide +kernel), val_mul, ← Nat.pow_mod, Nat.mul_pow, ← Nat.pow_add, show (Q25 - 1) / 2 + (Q25 - 1) / 2 = Q25 - 1 by decide +kernel]
  exact fermat s0

def dI : Fq := 20800338683988658368647408995589388737092878452977063003340006470870624536394
def dT : Fq := 28692721048178265397853269683490922171210976843790175684556505508326675974058
theorem dI_non : NonSq dI := nonsq_of (by decide +kernel) (by decide +kernel)
theorem dT_non : NonSq dT := nonsq_of (by decide +kernel) (by decide +kernel)
theorem dI_eq : dI * (121665 + 1) = 121665 := by decide +kernel
theorem dT_eq : dT * (-((121665 : Fq) + 1) + 1) = -((121665 : Fq) + 1) := by decide +kernel
theorem dIT : dI * dT = 1 := by decide +kernel
/-- Each number is that of a point of the one curve, or less it is of one of the other. -/
theorem point_of (x : Fq) : (∃ q, On dI q ∧ xw q.2 = x) ∨ (∃ q, On dT q ∧ xw q.2 = -x) := by
  by_cases x0 : x = 0
  · exact .inl ⟨(0, 1), on_id _, by rw [xw_one, x0]⟩
  by_cases xm : x + 1 = 0
  · refine .inr ⟨(1, 0), by simp only [On]; grobner, ?_⟩
    have := xw_eq (w := (0 : Fq)) (by decide)
    generalize xw 0 = X at *
    show X = -x
    grobner
  have hi := mul_fi xm
  generalize hg : fi (x + 1) = i at *
  have hv : ∃ v : Fq, v = (x - 1) * i := ⟨_, rfl⟩
  obtain ⟨v, hv⟩ := hv
  have e1 : v * (x + 1) = x - 1 := by grobner
  have v1 : v ≠ 1 := fun e => two_ne (by grobner)
  have hx := xw_eq v1
  have xe : xw v = x := by
    generalize xw v = X at *
    have n : 1 - v ≠ 0 := fun z => v1 (by grobner)
    exact cancel n (by clear hi hg hv; grobner)
  have om := one_min dI_non (w := v)
  by_cases sq : ∃ s : Fq, s * s = (1 - v * v) * (1 - dI * v * v)
  · obtain ⟨s, hs⟩ := sq
    have hj := mul_fi om
    generalize fi (1 - dI * v * v) = j at *
    refine .inl ⟨(s * j, v), ?_, xe⟩
    simp only [On]
    refine cancel om (cancel om ?_)
    generalize dI = D at *
    have e2 : (1 - D * v * v) * (s * j) = s := by clear hx e1 hi hv hs; grobner
    generalize s * j = u at *
    clear hj hx e1 hi hv
    subst e2
    grobner
  · have v0 : v ≠ 0 := by
      rintro rfl
      exact sq ⟨1, by grobner⟩
    have hT : NonSq ((1 - v * v) * (1 - dI * v * v)) := fun s hs => sq ⟨s, hs⟩
    have T0 : (1 - v * v) * (1 - dI * v * v) ≠ 0 := fun z => sq ⟨0, by rw [z]; decide⟩
    have d0 : dT ≠ 0 := by decide +kernel
    obtain ⟨s, hs⟩ := two_nonsq T0 d0 hT dT_non
    have hk := mul_fi v0
    generalize fi v = k at *
    have omT := one_min dT_non (w := k)
    have hj := mul_fi omT
    generalize fi (1 - dT * k * k) = j at *
    have dd := dIT
    generalize dI = D at *
    generalize dT = E at *
    right
    refine ⟨(s * k * k * j, k), ?_, ?_⟩
    · simp only [On]
      refine cancel omT (cancel omT ?_)
      have e3 : (1 - k * k) * (1 - E * k * k) = (s * k * k) * (s * k * k) := by
        have : (s * k * k) * (s * k * k) = (s * s) * (k * k * (k * k)) := by grobner
        rw [this, hs]
        clear hs this hj hx e1 hi hv omT om T0
        grobner
      have e2 : (1 - E * k * k) * (s * k * k * j) = s * k * k := by clear hx e1 hi hv hs hk dd e3; grobner
      generalize s * k * k * j = u at *
      clear hj hx e1 hi hv hs hk dd
      rw [← e2] at e3
      clear e2
      grobner
    · have k1 : k ≠ 1 := fun e => v1 (by rw [e] at hk; clear hs hj hx hi; grobner)
      have hy := xw_eq k1
      show xw k = -x
      generalize xw k = X at *
      have n : 1 - k ≠ 0 := fun z => k1 (by grobner)
      refine cancel n ?_
      have : (1 - k) * X = 1 + k := by rw [← hy]; grobner
      rw [this]
      clear this hy hs hj hx dd hi hg hv omT om T0 xe
      have : x - 1 = v * (x + 1) := e1.symm
      have : k * (x - 1) = x + 1 := by rw [this]; grobner
      grobner
/-- Multiplying by two secrets can be turned about. -/
theorem res_comm (x : Fq) {s t : Nat → Bool} (s0 : s 0 = true) (sl : s 254 = false) (t0 : t 0 = true) (tl : t 254 = false) : resF 121665 (resF 121665 x s) t = resF 121665 (resF 121665 x t) s := by
  rcases point_of x with ⟨q, hq, rfl⟩ | ⟨q, hq, e⟩
  · exact res_comm_point dI_non dI_eq (by decide +kernel) hq s0 sl t0 tl
  · have h := res_comm_point dT_non dT_eq (by decide +kernel) hq s0 sl t0 tl
    rw [e, res_neg, res_neg, res_neg, res_neg] at h
    have nn : ∀ a b : Fq, -a = -b → a = b := fun a b h => by grobner
    exact nn _ _ h
end Go.Edw
end

section
/-
  field.plus.
-/
namespace Go.Proofs.YtfhafednnnfmbaaDoor
open Go.ChangeShapes Go.WideShapes Go.ChangeAt Go.RowKit Go.Deep
set_option maxRecDepth 100000

/-- What is carried into the i-th limb where a small number is added. -/
def cP (x n : Nat) : Nat → Nat
  | 0 => n
  | i + 1 => (lb x i + cP x n i) / 4294967296
theorem cP_lt {x n : Nat} (hn : n < 4294967296) : ∀ i, cP x n i < 4294967296
  | 0 => hn
  | i + 1 => by have := cP_lt (x := x) hn i; have h1 := lb_lt x i; rw [cP]; omega
theorem plus_div (x n : Nat) : ∀ i, (x + n) / 4294967296 ^ i = x / 4294967296 ^ i + cP x n i
  | 0 => by simp [cP]
  | i + 1 => by
    rw [div_step, plus_div x n i, div_step x, cP]
    unfold lb
    generalize x / 4294967296 ^ i = X
    generalize cP x n i = c
    omega
theorem lb_plus (x n i : Nat) : lb (x + n) i = (lb x i + cP x n i) % 4294967296 := by
  unfold lb
  rw [plus_div]
  generalize x / 4294967296 ^ i = X
  generalize cP x n i = c
  omega
theorem cP_eight {x n : Nat} (hx : x < 4294967296 ^ 8) : cP x n 8 = (x + n) / 4294967296 ^ 8 := by
  rw [plus_div, Nat.div_eq_of_lt hx, Nat.zero_add]
/-- What a small sum hands back. -/
def RetPlus (x n : Nat) (w : World) (e : Ending) (w' : World) : Prop := e = .returned (.tuple #[.agg (wcells (lbs 8 (x + n))).toArray, .int .u64 (cP x n 8 : Int)]) ∧ Ext w w'

set_option maxHeartbeats 1000000 in
theorem plus_calls {x n : Nat} {w : World} (hn : n < 4294967296) :
    Calls Tryd.prog 74 #[.agg (wcells (lbs 8 x)).toArray, .int .u64 (n : Int)] w (RetPlus x n w) := by
  have hal := fld_alloc
  have ZL : zw8.length = 8 := rfl
  generalize zw8 = zs at *
  have XA : Hid (∀ (o1 o2 : Obj), ((w.alloc o1).alloc o2).heap[w.heap.size]? = some o1 ∧ ((w.alloc o1).alloc o2).heap[w.heap.size + 1]? = some o2) := fun o1 o2 => ⟨heap_alloc1 _ _ _, heap_alloc2 _ _ _⟩
  have B0 : Hid (∀ o1 o2, Ext w ((w.alloc o1).alloc o2)) := fun o1 o2 => ((Ext.refl w).alloc _).alloc _
  have XL := lbs_len 8 x
  have WX : Hid (∀ j, j < 8 → wd (lbs 8 x) j = lb x j) := fun j hj => wd_lbs hj
  obtain ⟨m, hm⟩ : ∃ m, m = x + n := ⟨_, rfl⟩
  have LS : Hid (∀ i, lb m i = (lb x i + cP x n i) % 4294967296) := fun i => by rw [hm]; exact lb_plus x n i
  unfold RetPlus
  rw [← hm]
  clear hm
  have RQ : Hid (∀ vs : List Nat, vs.length = 8 → (∀ j, j < 8 → wd vs j = lb m j) → vs = lbs 8 m) := fun vs h1 h2 => words_lbs h1 h2
  generalize lbs 8 m = rs at *
  generalize lbs 8 x = xs at *
  have BN : Hid (∀ i, cP x n (i + 1) = (lb x i + cP x n i) / 4294967296) := fun i => rfl
  have BLE : Hid (∀ i, cP x n i < 4294967296) := cP_lt hn
  obtain ⟨b8, hb8⟩ : ∃ b8, b8 = cP x n 8 := ⟨_, rfl⟩
  rw [← hb8]
  replace hb8 := Lib.hid hb8
  go_enter Tryd.func74, Tryd.ntmps74
  go_upto_region 2 with fail
  refine wp_gen (fun W => Wr W w.heap.size 79 xs ∧ Wr W (w.heap.size + 1) 79 zs ∧ Ext w W) ⟨(XA.out _ _).1, (XA.out _ _).2, B0.out _ _⟩ ?_
  clear XA B0
  rintro W0 ⟨wa, wc4, e0⟩
  replace wa := Lib.hid wa
  replace wc4 := Lib.hid wc4
  replace e0 := Lib.hid e0
  go_wp2_with fail
  go_loopw [5, 9] (fun cv iv wr => ∃ (k : Nat) (vs : List Nat), k ≤ 8 ∧ iv = .int .i64 (k : Int) ∧ cv = .int .u64 (cP x n k : Int) ∧ vs.length = 8 ∧ (∀ j, j < k → wd vs j = lb m j) ∧ Below (w.heap.size + 1) W0 wr ∧ Wr wr (w.heap.size + 1) 79 vs) (fun _ iv _ => 8 - (intOf iv).toNat)
  case atStart => exact ⟨0, zs, Nat.zero_le _, rfl, rfl, ZL, fun j hj => absurd hj (by omega), Below.refl _ _, wc4.out⟩
  case round =>
    obtain ⟨k, vs, hk, rfl, rfl, vl, hv, hB, hw⟩ := hrel
    clear wc4
    by_cases hlt : k < 8
    · have ka := wa.out.kept hB (by omega)
      have ca := ka.cell (i := k) (by rw [XL]; exact hlt)
      rw [WX.out k hlt] at ca
      have h1 := lb_lt x k
      have h3 := BLE.out k
      have hz := Lib.hid (LS.out k)
      have hc := Lib.hid (BN.out k)
      generalize lb x k = a at *
      generalize cP x n k = c at *
      obtain ⟨T, hT⟩ : ∃ T, T = a + c := ⟨_, rfl⟩
      obtain ⟨z, hzz⟩ : ∃ z, z = T % 4294967296 := ⟨_, rfl⟩
      obtain ⟨d, hd⟩ : ∃ d, d = T / 4294967296 := ⟨_, rfl⟩
      rw [← hT, ← hzz] at hz
      rw [← hT, ← hd] at hc
      have f1 : IntKind.u64.wrap (a : Int) = (a : Int) := by rw [IntKind.wrap_u64]; omega
      have f4 : (a : Int) + (c : Int) = (T : Int) := by omega
      have f4w : IntKind.u64.wrap (T : Int) = (T : Int) := by rw [IntKind.wrap_u64]; omega
      have f5 : IntKind.u32.wrap (T : Int) = (z : Int) := by rw [IntKind.wrap_u32]; omega
      have f5m : (T : Int) % 4294967296 = (z : Int) := by omega
      have f6 : (T : Int) / 4294967296 = (d : Int) := by omega
      have f6' : (T : Int) / 2 ^ 32 = (d : Int) := f6
      have Tlt : T < 18446744073709551616 := by omega
      have q1 : Op.shift .shr .u64 (T : Int) .u64 32 = pure (.int .u64 (d : Int)) := by
        have := shift_shr .u64 .u64 (T : Int) 32 (by omega) (by decide)
        rw [this]
        congr 2
      have ik : (k : Int) < 8 := by omega
      have ik0 : (0 : Int) ≤ (k : Int) := by omega
      have cv := hw.cell (i := k) (by omega)
      have fv := hw.frozen k
      replace hT := Lib.hid hT
      replace hzz := Lib.hid hzz
      replace hd := Lib.hid hd
      replace hv := Lib.hid hv
      replace hB := Lib.hid hB
      replace hw := Lib.hid hw
      clear h1 h3 ka
      go_wp2_with fail
      refine ⟨⟨k + 1, vs.set k z, by omega, by go_num, by rw [hc.out], by rw [List.length_set]; exact vl, fun j hj => ?_, Below.setCell hB.out (Nat.le_refl _) _, hw.out.set⟩, by simp [intOf]; omega⟩
      rw [wd_putN (by omega)]
      by_cases e : j = k
      · rw [if_pos e, e]; exact hz.out.symm
      · rw [if_neg e]; exact hv.out j (by omega)
    · obtain rfl : k = 8 := by omega
      have he := RQ.out vs vl hv
      subst he
      rw [← hb8.out]
      have RS := wcells_size vl
      have R1 := wcells_one vs
      have EE : Hid (Ext w wr) := Below.trans e0.out (hB.mono (by omega))
      replace hw := Lib.hid hw
      clear hv hB e0 wa
      go_wp2_with (first
        | (refine wpList_load_row rfl 79 _ rfl (w.heap.size + 1) rfl 79 (wcells vs).toArray (0, 0) _ hw.out rfl rfl (by rw [RS]; rfl) ?_; simp only [Act.put, List.setIfInBounds_toArray, List.set_cons_zero, List.set_cons_succ])
        | (refine wpList_store_row rfl 79 _ _ rfl (w.heap.size + 1) (wcells vs).toArray rfl rfl 79 _ hw.out (by rw [RS]; rfl) (by rw [RS]) R1 ?_; simp only [Act.put, List.setIfInBounds_toArray, List.set_cons_zero, List.set_cons_succ]))
      (try simp only [Exit.inBlock, Exit.then])
      refine bodyPost_ret (v := .tuple #[.agg (wcells vs).toArray, .int .u64 (b8 : Int)]) ?_ rfl ?_
      · exact results_row_tmp rfl _ _ (w.heap.size + 1) 79 (wcells vs).toArray (0, 0) _ _ rfl rfl (setRow_heap _ _ _ _ _ _ hw.out) rfl rfl (by rw [RS]; rfl)
      · exact ⟨rfl, below_setRow EE.out (by omega) _⟩
end Go.Proofs.YtfhafednnnfmbaaDoor
end
