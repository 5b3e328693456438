import Derived.Test.YtadnmiedmcckkaaDoorPratt
section
/-
  The curve of the ladder, as points that are added by one law without exceptions: closed, associative. Plain mathematics; no conditions.
-/
namespace Go.Edw
open Go.Pratt
set_option maxRecDepth 100000

abbrev Q25 : Nat := 57896044618658097711785492504343953926634992332820282019728792003956564819949
abbrev Fq := Fin Q25
instance : NeZero Q25 := ⟨by decide⟩

theorem val_mul (x y : Fq) : (x * y).val = x.val * y.val % Q25 := Fin.val_mul x y
theorem rootQ : Root Q25 2 := rootP
theorem fermat {x : Fq} (h : x ≠ 0) : x.val ^ (Q25 - 1) % Q25 = 1 := rootQ.fermat (Nat.pos_of_ne_zero fun e => h (Fin.ext e)) x.isLt
theorem inv_ex (x : Fq) (h : x ≠ 0) : ∃ y : Fq, x * y = 1 := by
  refine ⟨⟨x.val ^ (Q25 - 2) % Q25, Nat.mod_lt _ (by decide)⟩, Fin.ext ?_⟩
  rw [val_mul]
  show x.val * (x.val ^ (Q25 - 2) % Q25) % Q25 = 1
  rw [Nat.mul_mod_mod, Nat.mul_comm, ← Nat.pow_succ]
  exact fermat h
open Classical in
/-- The number that a number times comes to 1; of 0: 0. -/
noncomputable def fi (x : Fq) : Fq := if h : x ≠ 0 then (inv_ex x h).choose else 0
theorem mul_fi {x : Fq} (h : x ≠ 0) : x * fi x = 1 := by unfold fi; rw [dif_pos h]; exact (inv_ex x h).choose_spec
theorem fi_zero : fi 0 = 0 := by unfold fi; rw [dif_neg (by simp)]
theorem cancel {x y z : Fq} (h : x ≠ 0) (e : x * y = x * z) : y = z := by
  have h1 := mul_fi h
  generalize fi x = t at *
  have : t * (x * y) = t * (x * z) := by rw [e]
  grobner
theorem mul_ne {x y : Fq} (hx : x ≠ 0) (hy : y ≠ 0) : x * y ≠ 0 := fun e => hy (cancel hx (by rw [e]; grobner))
theorem fi_uniq {x y : Fq} (h : x * y = 1) : fi x = y := by
  have hx : x ≠ 0 := by rintro rfl; rw [Fin.zero_mul] at h; exact absurd h (by decide)
  exact cancel hx (by rw [mul_fi hx, h])
theorem zero_of_sq {x : Fq} (h : x * x = 0) : x = 0 := Classical.byContradiction fun hx => mul_ne hx hx h
theorem two_ne : (2 : Fq) ≠ 0 := by decide

/-- A point of the curve of δ. -/
def On (δ : Fq) (p : Fq × Fq) : Prop := p.1 * p.1 + p.2 * p.2 = 1 + δ * p.1 * p.1 * p.2 * p.2
def NonSq (δ : Fq) : Prop := ∀ s : Fq, s * s ≠ δ
/-- No denominator is 0. -/
theorem complete {δ : Fq} (hd : NonSq δ) {u1 w1 u2 w2 t : Fq} (h1 : On δ (u1, w1)) (h2 : On δ (u2, w2)) (ht : t * t = 1) : δ * u1 * u2 * w1 * w2 ≠ t := by
  intro e
  simp only [On] at h1 h2
  have t0 : t ≠ 0 := by rintro rfl; rw [Fin.zero_mul] at ht; exact absurd ht (by decide)
  have k1 : (u1 + t * w1) * (u1 + t * w1) = δ * (u1 * w1 * (u2 + w2)) * (u1 * w1 * (u2 + w2)) := by subst e; grobner
  have k2 : (u1 - t * w1) * (u1 - t * w1) = δ * (u1 * w1 * (u2 - w2)) * (u1 * w1 * (u2 - w2)) := by subst e; grobner
  have nz : u1 * w1 ≠ 0 := fun z => t0 (by rw [← e]; grobner)
  have nz2 : u2 ≠ 0 := fun z => t0 (by rw [← e, z]; grobner)
  have hs : ∀ a b : Fq, a * a = δ * b * b → b = 0 := fun a b h => Classical.byContradiction fun hb => by
    have hm := mul_fi hb
    generalize fi b = i at *
    exact hd (a * i) (by grobner)
  have z1 := hs _ _ k1
  have z2 := hs _ _ k2
  have y1 : u2 + w2 = 0 := Classical.byContradiction fun q => mul_ne nz q z1
  have y2 : u2 - w2 = 0 := Classical.byContradiction fun q => mul_ne nz q z2
  exact mul_ne two_ne nz2 (by grobner)
theorem den_p {δ : Fq} (hd : NonSq δ) {u1 w1 u2 w2 : Fq} (h1 : On δ (u1, w1)) (h2 : On δ (u2, w2)) : 1 + δ * u1 * u2 * w1 * w2 ≠ 0 := fun e =>
  complete hd h1 h2 (t := -1) (by grobner) (by grobner)
theorem den_m {δ : Fq} (hd : NonSq δ) {u1 w1 u2 w2 : Fq} (h1 : On δ (u1, w1)) (h2 : On δ (u2, w2)) : 1 - δ * u1 * u2 * w1 * w2 ≠ 0 := fun e =>
  complete hd h1 h2 (t := 1) (by grobner) (by grobner)

noncomputable def add (δ : Fq) (p q : Fq × Fq) : Fq × Fq := ((p.1 * q.2 + p.2 * q.1) * fi (1 + δ * p.1 * q.1 * p.2 * q.2), (p.2 * q.2 - p.1 * q.1) * fi (1 - δ * p.1 * q.1 * p.2 * q.2))
/-- What a sum's parts are, without quotients. -/
theorem add_eq {δ : Fq} (hd : NonSq δ) {u1 w1 u2 w2 : Fq} (h1 : On δ (u1, w1)) (h2 : On δ (u2, w2)) : ∃ a b, add δ (u1, w1) (u2, w2) = (a, b) ∧ a * (1 + δ * u1 * u2 * w1 * w2) = u1 * w2 + w1 * u2 ∧ b * (1 - δ * u1 * u2 * w1 * w2) = w1 * w2 - u1 * u2 := by
  refine ⟨_, _, rfl, ?_, ?_⟩
  · have := mul_fi (den_p hd h1 h2)
    show (u1 * w2 + w1 * u2) * fi (1 + δ * u1 * u2 * w1 * w2) * _ = _
    generalize fi (1 + δ * u1 * u2 * w1 * w2) = i at *
    grobner
  · have := mul_fi (den_m hd h1 h2)
    show (w1 * w2 - u1 * u2) * fi (1 - δ * u1 * u2 * w1 * w2) * _ = _
    generalize fi (1 - δ * u1 * u2 * w1 * w2) = i at *
    grobner
theorem poly_close (u1 w1 u2 w2 δ : Fq) (h1 : u1*u1 + w1*w1 = 1 + δ*u1*u1*w1*w1) (h2 : u2*u2 + w2*w2 = 1 + δ*u2*u2*w2*w2) :
  (u1*w2+w1*u2)*(u1*w2+w1*u2)*((1 - δ*u1*u2*w1*w2)*(1 - δ*u1*u2*w1*w2)) + (w1*w2-u1*u2)*(w1*w2-u1*u2)*((1 + δ*u1*u2*w1*w2)*(1 + δ*u1*u2*w1*w2)) = ((1 - δ*u1*u2*w1*w2)*(1 - δ*u1*u2*w1*w2))*((1 + δ*u1*u2*w1*w2)*(1 + δ*u1*u2*w1*w2)) + δ*((u1*w2+w1*u2)*(u1*w2+w1*u2)*((w1*w2-u1*u2)*(w1*w2-u1*u2))) := by grobner
theorem add_on {δ : Fq} (hd : NonSq δ) {p q : Fq × Fq} (h1 : On δ p) (h2 : On δ q) : On δ (add δ p q) := by
  obtain ⟨u1, w1⟩ := p
  obtain ⟨u2, w2⟩ := q
  obtain ⟨a, b, e, ha, hb⟩ := add_eq hd h1 h2
  rw [e]
  have dp := den_p hd h1 h2
  have dm := den_m hd h1 h2
  have pc := poly_close u1 w1 u2 w2 δ h1 h2
  simp only [On]
  generalize 1 + δ * u1 * u2 * w1 * w2 = A at *
  generalize 1 - δ * u1 * u2 * w1 * w2 = B at *
  refine cancel (mul_ne (mul_ne dp dm) (mul_ne dp dm)) ?_
  rw [← ha, ← hb] at pc
  clear h1 h2 ha hb e
  grobner
theorem add_comm (δ : Fq) (p q : Fq × Fq) : add δ p q = add δ q p := by
  obtain ⟨u1, w1⟩ := p
  obtain ⟨u2, w2⟩ := q
  simp only [add]
  rw [show u1 * w2 + w1 * u2 = u2 * w1 + w2 * u1 by grobner, show δ * u1 * u2 * w1 * w2 = δ * u2 * u1 * w2 * w1 by grobner, show w1 * w2 - u1 * u2 = w2 * w1 - u2 * u1 by grobner]
theorem add_id (δ : Fq) (p : Fq × Fq) : add δ p (0, 1) = p := by
  obtain ⟨u, w⟩ := p
  simp only [add]
  rw [show 1 + δ * u * 0 * w * 1 = 1 by grobner, show 1 - δ * u * 0 * w * 1 = 1 by grobner, fi_uniq (show (1 : Fq) * 1 = 1 by grobner), show (u * 1 + w * 0) * 1 = u by grobner, show (w * 1 - u * 0) * 1 = w by grobner]
theorem on_id (δ : Fq) : On δ (0, 1) := by simp only [On]; grobner
set_option maxHeartbeats 8000000 in
theorem poly_w (u1 w1 u2 w2 u3 w3 δ : Fq) (h1 : u1*u1 + w1*w1 = 1 + δ*u1*u1*w1*w1) (h2 : u2*u2 + w2*w2 = 1 + δ*u2*u2*w2*w2) (h3 : u3*u3 + w3*w3 = 1 + δ*u3*u3*w3*w3) :
 ((w1*w2-u1*u2)*(1 + δ*u1*u2*w1*w2)*w3 - (u1*w2+w1*u2)*(1 - δ*u1*u2*w1*w2)*u3) * ((1 + δ*u2*u3*w2*w3)*(1 - δ*u2*u3*w2*w3) - δ*u1*w1*(u2*w3+w2*u3)*(w2*w3-u2*u3)) =
 (w1*(w2*w3-u2*u3)*(1 + δ*u2*u3*w2*w3) - u1*(u2*w3+w2*u3)*(1 - δ*u2*u3*w2*w3)) * ((1 + δ*u1*u2*w1*w2)*(1 - δ*u1*u2*w1*w2) - δ*u3*w3*(u1*w2+w1*u2)*(w1*w2-u1*u2)) := by grobner (ringSteps := 1000000)
set_option maxHeartbeats 8000000 in
theorem poly_u (u1 w1 u2 w2 u3 w3 δ : Fq) (h1 : u1*u1 + w1*w1 = 1 + δ*u1*u1*w1*w1) (h2 : u2*u2 + w2*w2 = 1 + δ*u2*u2*w2*w2) (h3 : u3*u3 + w3*w3 = 1 + δ*u3*u3*w3*w3) :
 ((u1*w2+w1*u2)*(1 - δ*u1*u2*w1*w2)*w3 + (w1*w2-u1*u2)*(1 + δ*u1*u2*w1*w2)*u3) * ((1 + δ*u2*u3*w2*w3)*(1 - δ*u2*u3*w2*w3) + δ*u1*w1*(u2*w3+w2*u3)*(w2*w3-u2*u3)) =
 (u1*(w2*w3-u2*u3)*(1 + δ*u2*u3*w2*w3) + w1*(u2*w3+w2*u3)*(1 - δ*u2*u3*w2*w3)) * ((1 + δ*u1*u2*w1*w2)*(1 - δ*u1*u2*w1*w2) + δ*u3*w3*(u1*w2+w1*u2)*(w1*w2-u1*u2)) := by grobner (ringSteps := 1000000)
end Go.Edw
end

section
/-
  Multiples of points; a step of the ladder doubles, and adds. Plain mathematics; no conditions.
-/
namespace Go.Edw
open Go.Pratt
set_option maxRecDepth 100000

theorem add_assoc {δ : Fq} (hd : NonSq δ) {p q r : Fq × Fq} (h1 : On δ p) (h2 : On δ q) (h3 : On δ r) : add δ (add δ p q) r = add δ p (add δ q r) := by
  have c1 := add_on hd h1 h2
  have c2 := add_on hd h2 h3
  obtain ⟨u1, w1⟩ := p
  obtain ⟨u2, w2⟩ := q
  obtain ⟨u3, w3⟩ := r
  obtain ⟨a, b, e1, ha, hb⟩ := add_eq hd h1 h2
  obtain ⟨c, d, e2, hc, hd'⟩ := add_eq hd h2 h3
  rw [e1] at c1 ⊢
  rw [e2] at c2 ⊢
  obtain ⟨x, y, e3, hx, hy⟩ := add_eq hd c1 h3
  obtain ⟨z, t, e4, hz, ht⟩ := add_eq hd h1 c2
  rw [e3, e4]
  have dp1 := den_p hd h1 h2
  have dm1 := den_m hd h1 h2
  have dp2 := den_p hd h2 h3
  have dm2 := den_m hd h2 h3
  have dp3 := den_p hd c1 h3
  have dm3 := den_m hd c1 h3
  have dp4 := den_p hd h1 c2
  have dm4 := den_m hd h1 c2
  have pw := poly_w u1 w1 u2 w2 u3 w3 δ h1 h2 h3
  have pu := poly_u u1 w1 u2 w2 u3 w3 δ h1 h2 h3
  clear e1 e2 e3 e4 c1 c2 h1 h2 h3
  have m : (1 + δ * u1 * u2 * w1 * w2) * (1 - δ * u1 * u2 * w1 * w2) * ((1 + δ * u2 * u3 * w2 * w3) * (1 - δ * u2 * u3 * w2 * w3)) ≠ 0 := mul_ne (mul_ne dp1 dm1) (mul_ne dp2 dm2)
  rw [← ha, ← hb, ← hc, ← hd'] at pw pu
  clear ha hb hc hd'
  generalize hA : 1 + δ * u1 * u2 * w1 * w2 = A at *
  generalize hB : 1 - δ * u1 * u2 * w1 * w2 = B at *
  generalize hC : 1 + δ * u2 * u3 * w2 * w3 = C at *
  generalize hD : 1 - δ * u2 * u3 * w2 * w3 = D at *
  clear hA hB hC hD
  have cw : (b * w3 - a * u3) * (1 - δ * u1 * c * w1 * d) = (w1 * d - u1 * c) * (1 - δ * a * u3 * b * w3) := cancel m (by clear hx hy hz ht pu; grobner)
  have cu : (a * w3 + b * u3) * (1 + δ * u1 * c * w1 * d) = (u1 * d + w1 * c) * (1 + δ * a * u3 * b * w3) := cancel m (by clear hx hy hz ht pw cw; grobner)
  clear pw pu m
  rw [← hx, ← hz] at cu
  rw [← hy, ← ht] at cw
  clear hx hy hz ht
  have ex : x = z := cancel (mul_ne dp3 dp4) (by clear cw; grobner)
  have ey : y = t := cancel (mul_ne dm3 dm4) (by clear cu; grobner)
  rw [ex, ey]

noncomputable def sm (δ : Fq) (q : Fq × Fq) : Nat → Fq × Fq
  | 0 => (0, 1)
  | n + 1 => add δ (sm δ q n) q
theorem sm_on {δ : Fq} (hd : NonSq δ) {q : Fq × Fq} (h : On δ q) : ∀ n, On δ (sm δ q n)
  | 0 => on_id δ
  | n + 1 => add_on hd (sm_on hd h n) h
theorem sm_add {δ : Fq} (hd : NonSq δ) {q : Fq × Fq} (h : On δ q) (m : Nat) : ∀ n, sm δ q (m + n) = add δ (sm δ q m) (sm δ q n)
  | 0 => (add_id δ _).symm
  | n + 1 => by
    show add δ (sm δ q (m + n)) q = add δ _ (add δ (sm δ q n) q)
    rw [sm_add hd h m n, add_assoc hd (sm_on hd h m) (sm_on hd h n) h]
theorem id_add (δ : Fq) (p : Fq × Fq) : add δ (0, 1) p = p := by rw [add_comm, add_id]
theorem sm_sm {δ : Fq} (hd : NonSq δ) {q : Fq × Fq} (h : On δ q) (m : Nat) : ∀ n, sm δ (sm δ q m) n = sm δ q (m * n)
  | 0 => rfl
  | n + 1 => by
    show add δ (sm δ (sm δ q m) n) (sm δ q m) = _
    rw [sm_sm hd h m n, Nat.mul_succ, sm_add hd h]
theorem sm_id (δ : Fq) : ∀ n, sm δ (0, 1) n = (0, 1)
  | 0 => rfl
  | n + 1 => by show add δ (sm δ (0, 1) n) (0, 1) = _; rw [add_id, sm_id δ n]

theorem poly_d (u1 w1 u2 w2 δ : Fq) (h1 : u1*u1 + w1*w1 = 1 + δ*u1*u1*w1*w1) (h2 : u2*u2 + w2*w2 = 1 + δ*u2*u2*w2*w2) :
  ((w1*w2-u1*u2)*(1 + δ*u1*u2*w1*w2) + (w1*w2+u1*u2)*(1 - δ*u1*u2*w1*w2)) * (w1*w1+w2*w2) = 2*w1*w2*((1 - δ*u1*u2*w1*w2)*(1 + δ*u1*u2*w1*w2) + (w1*w2-u1*u2)*(w1*w2+u1*u2)) := by grobner (ringSteps := 1000000)
theorem key_cut {A B Y W y w4 S T : Fq} (h4 : w4 * A = W) (hy : y * B = Y) (p : (Y * A + W * B) * S = T * (B * A + Y * W)) : B * A * ((y + w4) * S) = B * A * (T * (1 + y * w4)) := by subst h4 hy; grobner
theorem add_a {y w4 S T : Fq} (key : (y + w4) * S = T * (1 + y * w4)) : T - w4 * S = y * (S - T * w4) := by grobner
theorem add_b {w4 S T : Fq} (q : S - T * w4 = 0) (q2 : T - w4 * S = 0) : (1 - w4) * (1 + w4) * S = 0 := by grobner
theorem add_c {w4 S T : Fq} (q4 : S = 0) (q2 : T - w4 * S = 0) : T = 0 := by grobner
theorem add_d {w1 w2 : Fq} (q4 : w1 * w1 + w2 * w2 = 0) (q6 : w1 * w2 = 0) : (w1 * w1) * (w1 * w1) = 0 := by grobner
theorem add_e {u1 u2 δ w4 : Fq} (h1 : u1*u1 + 0*0 = 1 + δ*u1*u1*0*0) (h2 : u2*u2 + 0*0 = 1 + δ*u2*u2*0*0) (h4 : w4 * (1 + δ*u1*u2*0*0) = 0*0 + u1*u2) : (1 - w4) * (1 + w4) = 0 := by grobner
theorem add_s {x w4 p q : Fq} (hx : x * (1 - w4) = 1 + w4) : (1 - w4) * (p * p + x * q * q) = (1 - w4) * (p * p) + (1 + w4) * (q * q) := by grobner
theorem add_t {x w4 p q : Fq} (hx : x * (1 - w4) = 1 + w4) : (1 - w4) * (p * p - x * q * q) = (1 - w4) * (p * p) - (1 + w4) * (q * q) := by grobner
theorem add_v {w4 E G w1 w2 : Fq} : (1 - w4) * ((w2 * G * E + G * (w1 * E)) * (w2 * G * E + G * (w1 * E))) + (1 + w4) * ((w2 * G * E - G * (w1 * E)) * (w2 * G * E - G * (w1 * E))) = (2 * (G * G * (E * E))) * ((w1 * w1 + w2 * w2) - 2 * w1 * w2 * w4) := by grobner
theorem add_x {w4 E G w1 w2 : Fq} : (1 - w4) * ((w2 * G * E + G * (w1 * E)) * (w2 * G * E + G * (w1 * E))) - (1 + w4) * ((w2 * G * E - G * (w1 * E)) * (w2 * G * E - G * (w1 * E))) = (2 * (G * G * (E * E))) * (2 * w1 * w2 - w4 * (w1 * w1 + w2 * w2)) := by grobner

/-- The parts a, c stand for the point whose second coordinate is w. -/
def Rep (a c w : Fq) : Prop := a + c ≠ 0 ∧ a - c = w * (a + c)
theorem one_min {δ : Fq} (hd : NonSq δ) {w : Fq} : 1 - δ * w * w ≠ 0 := fun e => by
  have w0 : w ≠ 0 := by rintro rfl; exact absurd (show (1 : Fq) = 0 by grobner) (by decide)
  have := mul_fi w0
  generalize fi w = i at *
  exact hd i (by grobner)
theorem rep_dbl {α δ : Fq} (hd : NonSq δ) (hα : δ * (α + 1) = α) (h1 : α + 1 ≠ 0) {a c u1 w1 : Fq} (hp : On δ (u1, w1)) (h : Rep a c w1) :
    Rep ((a + c) * (a + c) * ((a - c) * (a - c))) (((a + c) * (a + c) - (a - c) * (a - c)) * ((a + c) * (a + c) + α * ((a + c) * (a + c) - (a - c) * (a - c)))) (add δ (u1, w1) (u1, w1)).2 := by
  obtain ⟨x, y, e, _, hy⟩ := add_eq hd hp hp
  have dm := den_m hd hp hp
  have om := one_min hd (w := w1)
  rw [e]
  obtain ⟨he, hf⟩ := h
  rw [hf]
  generalize a + c = E at *
  simp only [On] at hp
  have hS : E * E * (w1 * E * (w1 * E)) + (E * E - w1 * E * (w1 * E)) * (E * E + α * (E * E - w1 * E * (w1 * E))) = (E * E * (E * E) * (α + 1)) * ((1 - δ * u1 * u1 * w1 * w1) * (1 - δ * w1 * w1)) := by
    clear hy dm om he hf e
    grobner
  refine ⟨?_, ?_⟩
  · rw [hS]
    exact mul_ne (mul_ne (mul_ne (mul_ne he he) (mul_ne he he)) h1) (mul_ne dm om)
  · show _ = y * _
    rw [hS]
    clear hS dm om he hf e
    grobner
theorem rep_add {δ : Fq} (hd : NonSq δ) {a c b d u1 w1 u2 w2 x : Fq} (hp : On δ (u1, w1)) (hq : On δ (u2, w2)) (h : Rep a c w1) (k : Rep b d w2) {w4 : Fq} (h4 : w4 * (1 + δ * u1 * u2 * w1 * w2) = w1 * w2 + u1 * u2) (hx : x * (1 - w4) = 1 + w4) (hx1 : 1 - w4 ≠ 0) (hx2 : 1 + w4 ≠ 0) :
    Rep (((b - d) * (a + c) + (b + d) * (a - c)) * ((b - d) * (a + c) + (b + d) * (a - c))) (x * ((b - d) * (a + c) - (b + d) * (a - c)) * ((b - d) * (a + c) - (b + d) * (a - c))) (add δ (u1, w1) (u2, w2)).2 := by
  obtain ⟨s, y, e, _, hy⟩ := add_eq hd hp hq
  have dm := den_m hd hp hq
  have dp := den_p hd hp hq
  rw [e]
  obtain ⟨he, hf⟩ := h
  obtain ⟨hg, hh⟩ := k
  rw [hf, hh]
  generalize a + c = E at *
  generalize b + d = G at *
  simp only [On] at hp hq
  have key : (y + w4) * (w1 * w1 + w2 * w2) = 2 * w1 * w2 * (1 + y * w4) := cancel (mul_ne dm dp) (key_cut h4 hy (poly_d u1 w1 u2 w2 δ hp hq))
  have ka := add_a key
  have nz : (w1 * w1 + w2 * w2) - 2 * w1 * w2 * w4 ≠ 0 := fun q => by
    have q2 : 2 * w1 * w2 - w4 * (w1 * w1 + w2 * w2) = 0 := by rw [ka, q, Fin.mul_zero]
    have q4 : w1 * w1 + w2 * w2 = 0 := Classical.byContradiction fun z => mul_ne (mul_ne hx1 hx2) z (add_b q q2)
    have q5 := add_c q4 q2
    have q6 : w1 * w2 = 0 := Classical.byContradiction fun z => mul_ne two_ne z (by rw [← q5]; grobner)
    have z1 := zero_of_sq (zero_of_sq (add_d q4 q6))
    have z2 : w2 = 0 := zero_of_sq (by rw [z1] at q4; clear h4 hy hp hq hx key ka hf hh e q q2 q5 q6; grobner)
    subst z1 z2
    exact mul_ne hx1 hx2 (add_e hp hq h4)
  have hS := (add_s (p := w2 * G * E + G * (w1 * E)) (q := w2 * G * E - G * (w1 * E)) hx).trans add_v
  have hL := (add_t (p := w2 * G * E + G * (w1 * E)) (q := w2 * G * E - G * (w1 * E)) hx).trans add_x
  generalize (w2 * G * E + G * (w1 * E)) * (w2 * G * E + G * (w1 * E)) = pp at *
  generalize x * (w2 * G * E - G * (w1 * E)) * (w2 * G * E - G * (w1 * E)) = qq at *
  refine ⟨fun z => ?_, ?_⟩
  · rw [z, Fin.mul_zero] at hS
    exact mul_ne (mul_ne two_ne (mul_ne (mul_ne hg hg) (mul_ne he he))) nz hS.symm
  · show _ = y * _
    refine cancel hx1 ?_
    rw [hL, ka]
    generalize w1 * w1 + w2 * w2 - 2 * w1 * w2 * w4 = V at *
    generalize 2 * (G * G * (E * E)) = U at *
    clear ka key hL nz h4 hy hp hq hx hf hh e dm dp he hg
    grobner
end Go.Edw
end
