/- Plain mathematics of layer 7: bases. Imports nothing of the translation. -/
import Derived.Test.YtfdolgdfadipeaaMath06
namespace Go.Proofs.Sky
open Go.RowKit
set_option linter.unusedVariables false

abbrev T3 := Int × Int × Int
def crT (u v : T3) : T3 := vcr u.1 u.2.1 u.2.2 v.1 v.2.1 v.2.2
def unT (u : T3) : T3 := vunit u.1 u.2.1 u.2.2
def okT (u : T3) : Bool := vuOk u.1 u.2.1 u.2.2
def dtT (u v : T3) : Int := u.1 * v.1 + u.2.1 * v.2.1 + u.2.2 * v.2.2
def nrT (u : T3) : Bool := vnear u.1 u.2.1 u.2.2
def absSum (u : T3) : Nat := u.1.natAbs + u.2.1.natAbs + u.2.2.natAbs
/-- Small ones: no coordinate beyond 16385. -/
def smT (u : T3) : Prop := (-16385 ≤ u.1 ∧ u.1 ≤ 16385) ∧ (-16385 ≤ u.2.1 ∧ u.2.1 ≤ 16385) ∧ (-16385 ≤ u.2.2 ∧ u.2.2 ≤ 16385)

def bax (n : T3) : T3 := if (n.1.natAbs : Int) ≤ (n.2.1.natAbs : Int) ∧ (n.1.natAbs : Int) ≤ (n.2.2.natAbs : Int) then (1, 0, 0) else if (n.2.1.natAbs : Int) ≤ (n.2.2.natAbs : Int) then (0, 1, 0) else (0, 0, 1)
def bU (n : T3) : T3 := unT (crT (bax n) n)
def bV (n : T3) : T3 := unT (crT n (bU n))

/-- Halved some times, each coordinate is off by less than the power. -/
theorem halN_err : ∀ (k : Nat) (x y z : Int), ∃ j : Nat, ∃ P : Int, P = ((2 ^ j : Nat) : Int) ∧ 1 ≤ P ∧
    (-(P - 1) ≤ x - P * (halN k x y z).1 ∧ x - P * (halN k x y z).1 ≤ P - 1) ∧ (-(P - 1) ≤ y - P * (halN k x y z).2.1 ∧ y - P * (halN k x y z).2.1 ≤ P - 1) ∧ (-(P - 1) ≤ z - P * (halN k x y z).2.2 ∧ z - P * (halN k x y z).2.2 ≤ P - 1)
  | 0, x, y, z => ⟨0, 1, rfl, by omega, by unfold halN; dsimp only; omega⟩
  | k + 1, x, y, z => by
    by_cases w : wi 1048575 x y z = true
    · rw [halN, if_pos w]
      exact ⟨0, 1, rfl, by omega, by dsimp only; omega⟩
    · rw [halN, if_neg w]
      obtain ⟨j, P, hP, h1, hx, hy, hz⟩ := halN_err k (x.tdiv 2) (y.tdiv 2) (z.tdiv 2)
      generalize halN k (x.tdiv 2) (y.tdiv 2) (z.tdiv 2) = e at *
      have t : ∀ v : Int, v = 2 * v.tdiv 2 + v.tmod 2 ∧ -1 ≤ v.tmod 2 ∧ v.tmod 2 ≤ 1 := fun v => by
        have a := Int.tmod_lt_of_pos v (show (0 : Int) < 2 by omega)
        have b := Int.lt_tmod_of_pos v (show (0 : Int) < 2 by omega)
        have c := Int.mul_tdiv_add_tmod v 2
        omega
      refine ⟨j + 1, 2 * P, by rw [hP, Nat.pow_succ]; omega, by omega, ?_, ?_, ?_⟩
      · have := t x; rw [Int.mul_assoc]; omega
      · have := t y; rw [Int.mul_assoc]; omega
      · have := t z; rw [Int.mul_assoc]; omega
theorem dblN_exact : ∀ (k : Nat) (x y z : Int), ∃ P : Int, (dblN k x y z).1 = P * x ∧ (dblN k x y z).2.1 = P * y ∧ (dblN k x y z).2.2 = P * z
  | 0, x, y, z => ⟨1, by unfold dblN; dsimp only; omega⟩
  | k + 1, x, y, z => by
    by_cases w : wi 524287 x y z = true
    · rw [dblN, if_pos w]
      obtain ⟨P, h1, h2, h3⟩ := dblN_exact k (2 * x) (2 * y) (2 * z)
      exact ⟨P * 2, by rw [h1, Int.mul_assoc], by rw [h2, Int.mul_assoc], by rw [h3, Int.mul_assoc]⟩
    · rw [dblN, if_neg w]
      exact ⟨1, by dsimp only; omega⟩

theorem mul_abs {a m : Int} {A : Int} (hA : 0 ≤ A) (h : -A ≤ a ∧ a ≤ A) : -(A * (m.natAbs : Int)) ≤ a * m ∧ a * m ≤ A * (m.natAbs : Int) := by
  have b : (a * m).natAbs ≤ A.natAbs * m.natAbs := by rw [Int.natAbs_mul]; exact Nat.mul_le_mul_right _ (by omega)
  have e : ((A.natAbs * m.natAbs : Nat) : Int) = A * (m.natAbs : Int) := by rw [Int.natCast_mul]; congr 1; omega
  omega

/-- What stands upon another vector does so still, or hardly beside it, when it is made even. -/
theorem evn_dot {x y z : Int} (m : T3) (h : x * m.1 + y * m.2.1 + z * m.2.2 = 0) :
    -(absSum m : Int) ≤ dtT (evn x y z) m ∧ dtT (evn x y z) m ≤ (absSum m : Int) := by
  unfold evn dbl
  obtain ⟨Q, q1, q2, q3⟩ := dblN_exact 20 x y z
  generalize dblN 20 x y z = d at *
  obtain ⟨j, P, hP, h1, e1, e2, e3⟩ := halN_err 44 d.1 d.2.1 d.2.2
  generalize halN 44 d.1 d.2.1 d.2.2 = e at *
  obtain ⟨a, b, c⟩ := m
  obtain ⟨u, v, w⟩ := e
  unfold dtT absSum
  dsimp only at *
  have m1 := mul_abs (m := a) (by omega) e1
  have m2 := mul_abs (m := b) (by omega) e2
  have m3 := mul_abs (m := c) (by omega) e3
  have k : P * (u * a + v * b + w * c) = -((d.1 - P * u) * a + (d.2.1 - P * v) * b + (d.2.2 - P * w) * c) := by
    have : d.1 * a + d.2.1 * b + d.2.2 * c = 0 := by
      rw [q1, q2, q3]
      have : Q * x * a + Q * y * b + Q * z * c = Q * (x * a + y * b + z * c) := by grind
      rw [this, h, Int.mul_zero]
    grind
  have s : (P - 1) * (a.natAbs : Int) + (P - 1) * (b.natAbs : Int) + (P - 1) * (c.natAbs : Int) = P * ((a.natAbs : Int) + b.natAbs + c.natAbs) - ((a.natAbs : Int) + b.natAbs + c.natAbs) := by grind
  generalize (d.1 - P * u) * a = r1 at *
  generalize (d.2.1 - P * v) * b = r2 at *
  generalize (d.2.2 - P * w) * c = r3 at *
  generalize u * a + v * b + w * c = D at *
  obtain ⟨S, hS⟩ : ∃ S : Int, S = (a.natAbs : Int) + b.natAbs + c.natAbs := ⟨_, rfl⟩
  rw [← hS] at s
  have hS0 : 0 ≤ S := by omega
  have g1 : P * D ≤ P * S := by omega
  have g2 : P * (-S) ≤ P * D := by rw [Int.mul_neg]; omega
  have f1 := Int.le_of_mul_le_mul_left g1 (by omega)
  have f2 := Int.le_of_mul_le_mul_left g2 (by omega)
  omega

/-- A direction of what stands upon a small vector. -/
theorem unit_dot {x y z : Int} (m : T3) (hok : vuOk x y z = true) (h : x * m.1 + y * m.2.1 + z * m.2.2 = 0) (hS : absSum m ≤ 28400) :
    -29300 ≤ dtT (vunit x y z) m ∧ dtT (vunit x y z) m ≤ 29300 := by
  obtain ⟨d1, d2⟩ := evn_dot m h
  unfold vunit
  rw [if_pos hok]
  obtain ⟨s1, s2⟩ := evn_spec (vuOk_iff.1 hok)
  generalize evn x y z = e at *
  obtain ⟨L, hL, l1, l2, _, _⟩ := even_len s1 s2
  unfold vun
  rw [hL]
  obtain ⟨a, b, c⟩ := m
  obtain ⟨u, v, w⟩ := e
  unfold dtT absSum at *
  dsimp only at *
  have t : ∀ q : Int, -((L : Int) - 1) ≤ (q * 16384) - L * (q * 16384).tdiv L ∧ (q * 16384) - L * (q * 16384).tdiv L ≤ (L : Int) - 1 := fun q => by
    have e1 := Int.mul_tdiv_add_tmod (q * 16384) L
    have e2 := Int.tmod_lt_of_pos (q * 16384) (show (0 : Int) < L by omega)
    have e3 := Int.lt_tmod_of_pos (q * 16384) (show (0 : Int) < L by omega)
    omega
  have t1 := t u; have t2 := t v; have t3 := t w
  generalize (u * 16384).tdiv (L : Int) = p at *
  generalize (v * 16384).tdiv (L : Int) = q at *
  generalize (w * 16384).tdiv (L : Int) = r at *
  have l1' : (524288 : Int) ≤ (L : Int) := by omega
  clear l1 l2 hL s1 s2
  generalize (L : Int) = M at *
  have m1 := mul_abs (m := a) (by omega) t1
  have m2 := mul_abs (m := b) (by omega) t2
  have m3 := mul_abs (m := c) (by omega) t3
  have k : M * (p * a + q * b + r * c) = 16384 * (u * a + v * b + w * c) - ((u * 16384 - M * p) * a + (v * 16384 - M * q) * b + (w * 16384 - M * r) * c) := by grind
  have s : (M - 1) * (a.natAbs : Int) + (M - 1) * (b.natAbs : Int) + (M - 1) * (c.natAbs : Int) = M * ((a.natAbs : Int) + b.natAbs + c.natAbs) - ((a.natAbs : Int) + b.natAbs + c.natAbs) := by grind
  generalize (u * 16384 - M * p) * a = r1 at *
  generalize (v * 16384 - M * q) * b = r2 at *
  generalize (w * 16384 - M * r) * c = r3 at *
  generalize u * a + v * b + w * c = D at *
  generalize p * a + q * b + r * c = E at *
  obtain ⟨S, hS'⟩ : ∃ S : Int, S = (a.natAbs : Int) + b.natAbs + c.natAbs := ⟨_, rfl⟩
  rw [← hS'] at s
  have hS0 : 0 ≤ S ∧ S ≤ 28400 := by omega
  have b0 : M * S ≤ M * 28400 := Int.mul_le_mul_of_nonneg_left hS0.2 (by omega)
  have g1 : M * E ≤ M * 29300 := by omega
  have g2 : M * (-29300) ≤ M * E := by omega
  exact ⟨Int.le_of_mul_le_mul_left g2 (by omega), Int.le_of_mul_le_mul_left g1 (by omega)⟩

/-- A direction's length, from above, more closely. -/
theorem len_up {a b c L p q r : Nat} (hL1 : a * a + b * b + c * c < (L + 1) * (L + 1)) (h : 524288 ≤ L) (p1 : p * L ≤ a * 16384) (q1 : q * L ≤ b * 16384) (r1 : r * L ≤ c * 16384) :
    p * p + q * q + r * r ≤ 268436480 := by
  obtain ⟨M, hM⟩ : ∃ M, M = L * L := ⟨_, rfl⟩
  have hM1 : 524288 * L ≤ M := by rw [hM]; exact Nat.mul_le_mul_right L h
  have e1 : (L + 1) * (L + 1) = M + 2 * L + 1 := by rw [hM, Nat.add_mul, Nat.mul_add]; omega
  have up : ∀ s t : Nat, s * L ≤ t * 16384 → s * s * M ≤ t * t * 268435456 := fun s t h => by
    have := Nat.mul_le_mul h h
    rw [hM]
    rw [Nat.mul_mul_mul_comm, Nat.mul_mul_mul_comm t] at this
    exact this
  have u1 := up p a p1; have u2 := up q b q1; have u3 := up r c r1
  rw [e1] at hL1
  clear up p1 q1 r1 e1 hM
  have eu : (p * p + q * q + r * r) * M ≤ (a * a + b * b + c * c) * 268435456 := by
    rw [Nat.add_mul, Nat.add_mul, Nat.add_mul, Nat.add_mul]
    exact Nat.add_le_add (Nat.add_le_add u1 u2) u3
  generalize p * p + q * q + r * r = n at *
  generalize a * a + b * b + c * c = S at *
  clear u1 u2 u3
  rcases Nat.lt_or_ge 268436480 n with g | g
  · exfalso
    have := Nat.mul_le_mul_right M (show 268436481 ≤ n by omega)
    omega
  · exact g
theorem vunit_up {x y z : Int} (h : vuOk x y z = true) : dtT (vunit x y z) (vunit x y z) ≤ 268436480 := by
  unfold vunit
  rw [if_pos h]
  obtain ⟨h1, h2⟩ := evn_spec (vuOk_iff.1 h)
  generalize evn x y z = e at *
  obtain ⟨L, hL, l1, l2, l3, l4⟩ := even_len h1 h2
  unfold vun dtT
  rw [hL]
  have p1 := (tdiv_parts e.1 L (by omega)).1
  have q1 := (tdiv_parts e.2.1 L (by omega)).1
  have r1 := (tdiv_parts e.2.2 L (by omega)).1
  have := len_up l4 l1 p1 q1 r1
  dsimp only
  rw [← natAbs_sq ((e.1 * 16384).tdiv L), ← natAbs_sq ((e.2.1 * 16384).tdiv L), ← natAbs_sq ((e.2.2 * 16384).tdiv L)]
  omega

/-- Dir: of a direction's length. -/
def Dir (u : T3) : Prop := 268369924 ≤ dtT u u ∧ dtT u u ≤ 268436480
theorem Dir.of {x y z : Int} (h : vuOk x y z = true) : Dir (vunit x y z) := ⟨(vunit_len h).1, vunit_up h⟩
theorem Dir.small {u : T3} (h : Dir u) : smT u ∧ absSum u ≤ 28400 := by
  obtain ⟨a, b, c⟩ := u
  unfold Dir dtT at h
  unfold smT absSum
  dsimp only at *
  have q1 := sq_nonneg a; have q2 := sq_nonneg b; have q3 := sq_nonneg c
  refine ⟨⟨sq_small (by omega), sq_small (by omega), sq_small (by omega)⟩, ?_⟩
  rw [← natAbs_sq a, ← natAbs_sq b, ← natAbs_sq c] at h
  generalize a.natAbs = p at *
  generalize b.natAbs = q at *
  generalize c.natAbs = r at *
  have k : ∀ s t : Nat, 2 * (s * t) ≤ s * s + t * t := fun s t => by
    rcases Nat.le_total s t with h | h
    all_goals
      obtain ⟨d, rfl⟩ := Nat.exists_eq_add_of_le h
      simp only [Nat.add_mul, Nat.mul_add, Nat.mul_comm d]
      omega
  have a1 := k p q; have a2 := k p r; have a3 := k q r
  have s3 : (p + q + r) * (p + q + r) ≤ 3 * (p * p + q * q + r * r) := by
    simp only [Nat.add_mul, Nat.mul_add]
    rw [Nat.mul_comm q p, Nat.mul_comm r p, Nat.mul_comm r q]
    omega
  rcases Nat.lt_or_ge 28400 (p + q + r) with g | g
  · have := Nat.mul_le_mul (show 28401 ≤ p + q + r by omega) (show 28401 ≤ p + q + r by omega); omega
  · exact g
theorem smT.near {u : T3} (h : smT u) : nrT u = true := by
  unfold smT at h; unfold nrT; rw [vnear_iff]; omega
theorem Dir.near {u : T3} (h : Dir u) : nrT u = true := h.small.1.near

theorem bax_near (n : T3) : nrT (bax n) = true := by
  unfold bax
  split
  · decide
  · split <;> decide
theorem crT_of {u v : T3} (hu : nrT u = true) (hv : nrT v = true) : crT u v = (u.2.1 * v.2.2 - u.2.2 * v.2.1, u.2.2 * v.1 - u.1 * v.2.2, u.1 * v.2.1 - u.2.1 * v.1) := by
  unfold crT vcr; rw [if_pos ⟨hu, hv⟩]

theorem bU_ok {n : T3} (h : Dir n) : okT (crT (bax n) n) = true := by
  rw [crT_of (bax_near n) h.near]
  have hs := h.small.1
  have hd := h.1
  obtain ⟨a, b, c⟩ := n
  unfold okT
  rw [vuOk_iff]
  unfold Evb
  rw [wi_iff, wi_no]
  unfold smT at hs
  unfold dtT at hd
  unfold bax
  dsimp only at *
  have z : ∀ u v w : Int, u.natAbs ≤ v.natAbs → v = 0 → w = 0 → u * u + v * v + w * w = 0 := fun u v w h1 h2 h3 => by
    subst h2 h3
    have : u = 0 := by omega
    subst this
    rfl
  split
  · rename_i g
    dsimp only
    refine ⟨by omega, fun hh => ?_⟩
    have := z a b c (by omega) (by omega) (by omega)
    omega
  · split
    · rename_i g
      dsimp only
      refine ⟨by omega, fun hh => ?_⟩
      have := z b c a (by omega) (by omega) (by omega)
      omega
    · rename_i g g'
      dsimp only
      refine ⟨by omega, fun hh => ?_⟩
      have := z c b a (by omega) (by omega) (by omega)
      omega
theorem bU_dir {n : T3} (h : Dir n) : Dir (bU n) := Dir.of (bU_ok h)
theorem cr_left {u v : T3} (hu : nrT u = true) (hv : nrT v = true) : (crT u v).1 * u.1 + (crT u v).2.1 * u.2.1 + (crT u v).2.2 * u.2.2 = 0 := by
  rw [crT_of hu hv]; dsimp only; grind
theorem cr_right {u v : T3} (hu : nrT u = true) (hv : nrT v = true) : (crT u v).1 * v.1 + (crT u v).2.1 * v.2.1 + (crT u v).2.2 * v.2.2 = 0 := by
  rw [crT_of hu hv]; dsimp only; grind
theorem bU_dot {n : T3} (h : Dir n) : -29300 ≤ dtT (bU n) n ∧ dtT (bU n) n ≤ 29300 :=
  unit_dot n (bU_ok h) (cr_right (bax_near n) h.near) h.small.2
theorem bV_ok {n : T3} (h : Dir n) : okT (crT n (bU n)) = true := by
  have hu := bU_dir h
  have hd := bU_dot h
  rw [crT_of h.near hu.near]
  generalize bU n = u at *
  have s1 := h.small.1
  have s2 := hu.small.1
  obtain ⟨a, b, c⟩ := n
  obtain ⟨d, e, f⟩ := u
  unfold okT
  rw [vuOk_iff]
  unfold Evb
  rw [wi_iff, wi_no]
  unfold smT at s1 s2
  unfold Dir dtT at *
  dsimp only at *
  have m : ∀ p q : Int, (-16385 ≤ p ∧ p ≤ 16385) → (-16385 ≤ q ∧ q ≤ 16385) → -268468225 ≤ p * q ∧ p * q ≤ 268468225 := fun p q hp hq => mul_in (N := 16385) (M := 16385) hp hq
  have m1 := m b f (by omega) (by omega); have m2 := m c e (by omega) (by omega); have m3 := m c d (by omega) (by omega)
  have m4 := m a f (by omega) (by omega); have m5 := m a e (by omega) (by omega); have m6 := m b d (by omega) (by omega)
  refine ⟨by omega, fun hh => ?_⟩
  have e1 : b * f - c * e = 0 := by omega
  have e2 : c * d - a * f = 0 := by omega
  have e3 : a * e - b * d = 0 := by omega
  have L : (a * a + b * b + c * c) * (d * d + e * e + f * f) = (d * a + e * b + f * c) * (d * a + e * b + f * c) := by
    have : (a * a + b * b + c * c) * (d * d + e * e + f * f) = (d * a + e * b + f * c) * (d * a + e * b + f * c) + (b * f - c * e) * (b * f - c * e) + (c * d - a * f) * (c * d - a * f) + (a * e - b * d) * (a * e - b * d) := by grind
    rw [this, e1, e2, e3]
    omega
  have b1 := mul_in (N := 29300) (M := 29300) hd hd
  have b2 := Int.mul_le_mul h.1 hu.1 (by omega) (by omega)
  rw [L] at b2
  omega
theorem bV_dir {n : T3} (h : Dir n) : Dir (bV n) := Dir.of (bV_ok h)
theorem bV_dotN {n : T3} (h : Dir n) : -29300 ≤ dtT (bV n) n ∧ dtT (bV n) n ≤ 29300 :=
  unit_dot n (bV_ok h) (cr_left h.near (bU_dir h).near) h.small.2
theorem bV_dotU {n : T3} (h : Dir n) : -29300 ≤ dtT (bV n) (bU n) ∧ dtT (bV n) (bU n) ≤ 29300 :=
  unit_dot (bU n) (bV_ok h) (cr_right h.near (bU_dir h).near) (bU_dir h).small.2

end Go.Proofs.Sky
