/- Plain mathematics of layer 6: vectors: near ones, products, lengths, directions. Imports nothing of the translation. -/
import Derived.Test.YtnidgokmndnenaaMath03
namespace Go.Proofs.Sky
set_option linter.unusedVariables false

/-- All coordinates from -n to n. -/
def wi (n x y z : Int) : Bool := decide (-n ≤ x ∧ x ≤ n ∧ -n ≤ y ∧ y ≤ n ∧ -n ≤ z ∧ z ≤ n)
theorem wi_iff {n x y z : Int} : wi n x y z = true ↔ -n ≤ x ∧ x ≤ n ∧ -n ≤ y ∧ y ≤ n ∧ -n ≤ z ∧ z ≤ n := by unfold wi; exact decide_eq_true_iff
theorem wi_no {n x y z : Int} : wi n x y z = false ↔ ¬ (-n ≤ x ∧ x ≤ n ∧ -n ≤ y ∧ y ≤ n ∧ -n ≤ z ∧ z ≤ n) := by unfold wi; exact decide_eq_false_iff_not
def vnear (x y z : Int) : Bool := wi 1048576 x y z
theorem vnear_iff {x y z : Int} : vnear x y z = true ↔ -1048576 ≤ x ∧ x ≤ 1048576 ∧ -1048576 ≤ y ∧ y ≤ 1048576 ∧ -1048576 ≤ z ∧ z ≤ 1048576 := wi_iff

def vsub (x a : Int) : Int := sat (x + sat (a * -1))
def vdot (x y z a b c : Int) : Int := if vnear x y z = true ∧ vnear a b c = true then x * a + y * b + z * c else 0
def vcr (x y z a b c : Int) : Int × Int × Int := if vnear x y z = true ∧ vnear a b c = true then (y * c - z * b, z * a - x * c, x * b - y * a) else (0, 0, 0)
def vvol (x y z a b c d e f : Int) : Int := if vnear x y z = true ∧ vnear a b c = true ∧ vnear d e f = true then x * (b * f - c * e) + y * (c * d - a * f) + z * (a * e - b * d) else 0
def vlen (x y z : Int) : Int := (isq (vdot x y z x y z).toNat : Int)

theorem mul_in {x a : Int} {N M : Nat} (hx : -(N : Int) ≤ x ∧ x ≤ N) (ha : -(M : Int) ≤ a ∧ a ≤ M) : -((N * M : Nat) : Int) ≤ x * a ∧ x * a ≤ ((N * M : Nat) : Int) := by
  have b : (x * a).natAbs ≤ N * M := by rw [Int.natAbs_mul]; exact Nat.mul_le_mul (by omega) (by omega)
  omega
theorem near_mul {x a : Int} (hx : -1048576 ≤ x ∧ x ≤ 1048576) (ha : -1048576 ≤ a ∧ a ≤ 1048576) : -1099511627776 ≤ x * a ∧ x * a ≤ 1099511627776 := mul_in (N := 1048576) (M := 1048576) hx ha
theorem near_mul3 {x a : Int} (hx : -1048576 ≤ x ∧ x ≤ 1048576) (ha : -2199023255552 ≤ a ∧ a ≤ 2199023255552) : -2305843009213693952 ≤ x * a ∧ x * a ≤ 2305843009213693952 := mul_in (N := 1048576) (M := 2199023255552) hx ha
theorem sq_nonneg (x : Int) : 0 ≤ x * x := by
  by_cases h : 0 ≤ x
  · exact Int.mul_nonneg h h
  · rw [← Int.neg_mul_neg]; exact Int.mul_nonneg (by omega) (by omega)

theorem fat_I64 (v n d : Int) : I64 (fat v n d) := by
  unfold fat; split
  · unfold I64; omega
  · exact sat_I64 _

/-- Doubled as long as all coordinates are below 2^19; halved as long as one is 2^20 or more. -/
def dblN : Nat → Int → Int → Int → Int × Int × Int
  | 0, x, y, z => (x, y, z)
  | k + 1, x, y, z => if wi 524287 x y z = true then dblN k (2 * x) (2 * y) (2 * z) else (x, y, z)
def halN : Nat → Int → Int → Int → Int × Int × Int
  | 0, x, y, z => (x, y, z)
  | k + 1, x, y, z => if wi 1048575 x y z = true then (x, y, z) else halN k (x.tdiv 2) (y.tdiv 2) (z.tdiv 2)
def dbl (x y z : Int) : Int × Int × Int := dblN 20 x y z
def evn (x y z : Int) : Int × Int × Int := halN 44 (dbl x y z).1 (dbl x y z).2.1 (dbl x y z).2.2

/-- How often a vector can still be doubled, or halved. -/
def DblK (k : Nat) (x y z : Int) : Prop := (2 ^ k ≤ x.natAbs ∨ 2 ^ k ≤ y.natAbs ∨ 2 ^ k ≤ z.natAbs)
theorem dblN_out : ∀ (k : Nat) (x y z : Int), DblK (19 - k) x y z → k ≤ 19 → wi 524287 (dblN (k + 1) x y z).1 (dblN (k + 1) x y z).2.1 (dblN (k + 1) x y z).2.2 = false
  | 0, x, y, z, h, _ => by
    have : wi 524287 x y z = false := by rw [wi_no]; unfold DblK at h; omega
    unfold dblN
    rw [if_neg (by rw [this]; decide)]
    exact this
  | k + 1, x, y, z, h, hk => by
    by_cases w : wi 524287 x y z = true
    · rw [dblN, if_pos w]
      refine dblN_out k _ _ _ ?_ (by omega)
      unfold DblK at h ⊢
      rw [show 19 - k = (19 - (k + 1)) + 1 by omega, Nat.pow_succ]
      omega
    · rw [Bool.not_eq_true] at w
      rw [dblN, if_neg (by rw [w]; decide)]
      exact w
theorem dblN_in : ∀ (k : Nat) (x y z : Int), (x, y, z) = dblN k x y z ∨ wi 1048575 (dblN k x y z).1 (dblN k x y z).2.1 (dblN k x y z).2.2 = true
  | 0, x, y, z => .inl rfl
  | k + 1, x, y, z => by
    by_cases w : wi 524287 x y z = true
    · rw [dblN, if_pos w]
      rcases dblN_in k (2 * x) (2 * y) (2 * z) with e | e
      · right
        rw [← e]
        rw [wi_iff] at w ⊢
        dsimp only
        omega
      · exact .inr e
    · left
      rw [dblN, if_neg w]
theorem halN_out : ∀ (k : Nat) (x y z : Int), wi 524287 x y z = false → x.natAbs < 2 ^ (k + 20) → y.natAbs < 2 ^ (k + 20) → z.natAbs < 2 ^ (k + 20) →
    wi 524287 (halN k x y z).1 (halN k x y z).2.1 (halN k x y z).2.2 = false ∧ wi 1048575 (halN k x y z).1 (halN k x y z).2.1 (halN k x y z).2.2 = true
  | 0, x, y, z, h, a, b, c => by
    refine ⟨h, ?_⟩
    unfold halN
    rw [wi_iff]
    rw [Nat.zero_add] at a b c
    have : (2 : Nat) ^ 20 = 1048576 := rfl
    dsimp only
    omega
  | k + 1, x, y, z, h, a, b, c => by
    by_cases w : wi 1048575 x y z = true
    · rw [halN, if_pos w]; exact ⟨h, w⟩
    · rw [halN, if_neg w]
      rw [Bool.not_eq_true] at w
      have t : ∀ v : Int, (v.tdiv 2).natAbs = v.natAbs / 2 := fun v => by rw [Int.natAbs_tdiv]; rfl
      refine halN_out k _ _ _ ?_ ?_ ?_ ?_
      · rw [wi_no] at w ⊢
        have tx := t x; have ty := t y; have tz := t z
        omega
      all_goals
        rw [t]
        rw [show k + 1 + 20 = (k + 20) + 1 by omega, Nat.pow_succ] at a b c
        omega
theorem dblN_same (k : Nat) (x y z : Int) (h : wi 524287 x y z = false) : dblN k x y z = (x, y, z) := by
  cases k with
  | zero => rfl
  | succ k => rw [dblN, if_neg (by rw [h]; decide)]
theorem halN_same (k : Nat) (x y z : Int) (h : wi 1048575 x y z = true) : halN k x y z = (x, y, z) := by
  cases k with
  | zero => rfl
  | succ k => rw [halN, if_pos h]

/-- What may be made even: not 0, and no coordinate beyond 2^62. -/
def Evb (x y z : Int) : Prop := wi 4611686018427387904 x y z = true ∧ wi 0 x y z = false
theorem evn_spec {x y z : Int} (h : Evb x y z) : wi 524287 (evn x y z).1 (evn x y z).2.1 (evn x y z).2.2 = false ∧ wi 1048575 (evn x y z).1 (evn x y z).2.1 (evn x y z).2.2 = true := by
  obtain ⟨h1, h2⟩ := h
  rw [wi_iff] at h1
  rw [wi_no] at h2
  have a := dblN_out 19 x y z (by unfold DblK; simp; omega) (by omega)
  have b := dblN_in 20 x y z
  unfold evn dbl
  refine halN_out 44 _ _ _ a ?_ ?_ ?_
  all_goals
    have : (2 : Nat) ^ (44 + 20) = 18446744073709551616 := rfl
    rcases b with b | b
    · rw [← b]; dsimp only; omega
    · rw [wi_iff] at b; omega

/-- The direction. -/
def vuOk (x y z : Int) : Bool := wi 4611686018427387904 x y z && !wi 0 x y z
theorem vuOk_iff {x y z : Int} : vuOk x y z = true ↔ Evb x y z := by unfold vuOk Evb; simp
def vun (e : Int × Int × Int) : Int × Int × Int := ((e.1 * 16384).tdiv (vlen e.1 e.2.1 e.2.2), (e.2.1 * 16384).tdiv (vlen e.1 e.2.1 e.2.2), (e.2.2 * 16384).tdiv (vlen e.1 e.2.1 e.2.2))
def vunit (x y z : Int) : Int × Int × Int := if vuOk x y z = true then vun (evn x y z) else (0, 0, 0)

end Go.Proofs.Sky
