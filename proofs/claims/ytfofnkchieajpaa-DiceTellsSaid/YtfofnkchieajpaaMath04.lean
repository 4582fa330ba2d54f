/- Plain mathematics of layer 4: numbers mixed (SplitMix64's last part), and told again. -/
import Derived.Test.YtfofnkchieajpaaMath01
import Derived.Laws.BitsAllLaws
import Derived.Lib.Hide
namespace Go.Proofs.Sky
open Go.RowKit
set_option linter.unusedVariables false

/-- A number, exclusive or itself, shifted; and back, where thrice the shift is 64 or more. -/
def shx (k x : Nat) : Nat := x ^^^ (x >>> k)
def bkx (k y : Nat) : Nat := (y ^^^ (y >>> k)) ^^^ (y >>> (2 * k))
theorem shx_lt {k x : Nat} (h : x < 18446744073709551616) : shx k x < 18446744073709551616 := by
  unfold shx
  have e : (18446744073709551616 : Nat) = 2 ^ 64 := rfl
  rw [e] at h ⊢
  exact Nat.xor_lt_two_pow h (Nat.lt_of_le_of_lt (Nat.shiftRight_le _ _) h)
theorem bkx_lt {k y : Nat} (h : y < 18446744073709551616) : bkx k y < 18446744073709551616 := by
  unfold bkx
  have e : (18446744073709551616 : Nat) = 2 ^ 64 := rfl
  rw [e] at h ⊢
  exact Nat.xor_lt_two_pow (Nat.xor_lt_two_pow h (Nat.lt_of_le_of_lt (Nat.shiftRight_le _ _) h)) (Nat.lt_of_le_of_lt (Nat.shiftRight_le _ _) h)
theorem far_bit {x i : Nat} (h : x < 18446744073709551616) (hi : 64 ≤ i) : x.testBit i = false :=
  Nat.testBit_lt_two_pow (Nat.lt_of_lt_of_le (show x < 2 ^ 64 from h) (Nat.pow_le_pow_right (by omega) hi))
theorem bkx_shx {k x : Nat} (h : x < 18446744073709551616) (hk : 64 ≤ 3 * k) : bkx k (shx k x) = x := by
  refine Nat.eq_of_testBit_eq fun i => ?_
  unfold bkx shx
  simp only [Nat.testBit_xor, Nat.testBit_shiftRight]
  rw [show k + (k + i) = 2 * k + i by omega, show k + (2 * k + i) = 3 * k + i by omega, far_bit h (show 64 ≤ 3 * k + i by omega)]
  cases x.testBit i <;> cases x.testBit (k + i) <;> cases x.testBit (2 * k + i) <;> rfl
theorem shx_bkx {k y : Nat} (h : y < 18446744073709551616) (hk : 64 ≤ 3 * k) : shx k (bkx k y) = y := by
  refine Nat.eq_of_testBit_eq fun i => ?_
  unfold bkx shx
  simp only [Nat.testBit_xor, Nat.testBit_shiftRight]
  rw [show k + (k + i) = 2 * k + i by omega, show 2 * k + (k + i) = 3 * k + i by omega, far_bit h (show 64 ≤ 3 * k + i by omega)]
  cases y.testBit i <;> cases y.testBit (k + i) <;> cases y.testBit (2 * k + i) <;> rfl
theorem shx_inj {k x y : Nat} (hx : x < 18446744073709551616) (hy : y < 18446744073709551616) (hk : 64 ≤ 3 * k) (e : shx k x = shx k y) : x = y := by
  rw [← bkx_shx hx hk, e, bkx_shx hy hk]

theorem odd_back {c d x : Nat} (h : x < 18446744073709551616) (hcd : c * d % 18446744073709551616 = 1) : x * c % 18446744073709551616 * d % 18446744073709551616 = x := by
  rw [Nat.mod_mul_mod, Nat.mul_assoc, ← Nat.mul_mod_mod, hcd, Nat.mul_one, Nat.mod_eq_of_lt h]

def mixN (x : Nat) : Nat := shx 31 (shx 27 (shx 30 x * 13787848793156543929 % 18446744073709551616) * 10723151780598845931 % 18446744073709551616)
def unmixN (y : Nat) : Nat := bkx 30 (bkx 27 (bkx 31 y * 3573116690164977347 % 18446744073709551616) * 10871156337175269513 % 18446744073709551616)
theorem mixN_lt (x : Nat) : mixN x < 18446744073709551616 := shx_lt (Nat.mod_lt _ (by decide))
theorem unmixN_lt (x : Nat) : unmixN x < 18446744073709551616 := bkx_lt (Nat.mod_lt _ (by decide))
theorem unmix_mix {x : Nat} (h : x < 18446744073709551616) : unmixN (mixN x) = x := by
  unfold unmixN mixN
  rw [bkx_shx (Nat.mod_lt _ (by decide)) (by omega), odd_back (shx_lt (Nat.mod_lt _ (by decide))) (by decide), bkx_shx (Nat.mod_lt _ (by decide)) (by omega), odd_back (shx_lt h) (by decide), bkx_shx h (by omega)]
theorem mixN_inj {x y : Nat} (hx : x < 18446744073709551616) (hy : y < 18446744073709551616) (e : mixN x = mixN y) : x = y := by
  rw [← unmix_mix hx, e, unmix_mix hy]

/-! ### Bit by bit -/
def bt (x i : Nat) : Nat := x / 2 ^ i % 2
theorem bt_test (x i : Nat) : bt x i = (x.testBit i).toNat := by
  unfold bt; rw [Nat.testBit_eq_decide_div_mod_eq]
  rcases Nat.mod_two_eq_zero_or_one (x / 2 ^ i) with h | h <;> rw [h] <;> rfl
theorem bt_lt (x i : Nat) : bt x i < 2 := Nat.mod_lt _ (by decide)
theorem bt_shx (k x i : Nat) : bt (shx k x) i = bt x i ^^^ bt x (i + k) := by
  rw [bt_test, bt_test, bt_test]
  unfold shx
  rw [Nat.testBit_xor, Nat.testBit_shiftRight, Nat.add_comm k i]
  cases x.testBit i <;> cases x.testBit (i + k) <;> rfl
theorem bt_far {x i : Nat} (h : x < 18446744073709551616) (hi : 64 ≤ i) : bt x i = 0 := by
  rw [bt_test, far_bit h hi]; rfl
theorem bt_shx_far {k x i : Nat} (h : x < 18446744073709551616) (hi : 64 ≤ i + k) : bt (shx k x) i = bt x i := by
  rw [bt_shx, bt_far h hi, Nat.xor_zero]
theorem low_next (z i : Nat) : z % 2 ^ (i + 1) = z % 2 ^ i + bt z i * 2 ^ i := by
  rw [Nat.mod_pow_succ, Nat.mul_comm]; rfl
theorem bits_shr1 {x : Nat} (i : Nat) (h : x < 18446744073709551616) : bits .and .u64 ((x : Int) / 2 ^ i) 1 = (bt x i : Int) := by
  have p1 : ((2 : Int) ^ i) = ((2 ^ i : Nat) : Int) := by rw [Int.natCast_pow]; rfl
  have h' : x / 2 ^ i < 18446744073709551616 := Nat.lt_of_le_of_lt (Nat.div_le_self _ _) h
  rw [p1, ← Int.natCast_ediv, show (1 : Int) = ((1 : Nat) : Int) from rfl, u64_and_nat _ _ h' (by decide), Nat.and_one_is_mod]
  rfl
theorem bits_xor1 (a b : Nat) (ha : a < 2) (hb : b < 2) : bits .xor .u64 (a : Int) (b : Int) = ((a ^^^ b : Nat) : Int) := u64_xor_nat a b (by omega) (by omega)
theorem shl_bit (b i : Nat) (hb : b < 2) (hi : i < 64) : IntKind.u64.wrap ((b : Int) * 2 ^ i) = ((b * 2 ^ i : Nat) : Int) := by
  have p1 : ((2 : Int) ^ i) = ((2 ^ i : Nat) : Int) := by rw [Int.natCast_pow]; rfl
  have h2 : 2 ^ i ≤ 2 ^ 63 := Nat.pow_le_pow_right (by omega) (by omega)
  have h3 : (2 : Nat) ^ 63 = 9223372036854775808 := rfl
  rw [p1, ← Int.natCast_mul, u64w]
  have : b * 2 ^ i < 18446744073709551616 := by
    have := Nat.mul_le_mul (show b ≤ 1 by omega) h2
    omega
  omega
theorem low_lt (z i : Nat) (h : z < 18446744073709551616) : z % 2 ^ i < 18446744073709551616 := Nat.lt_of_le_of_lt (Nat.mod_le _ _) h
/-- From the highest bit on: what is left of z from bit i on. -/
def top (z i : Nat) : Nat := z / 2 ^ i * 2 ^ i
theorem top_next (z i : Nat) : top z i = top z (i + 1) + bt z i * 2 ^ i := by
  unfold top bt
  have e : z / 2 ^ (i + 1) = z / 2 ^ i / 2 := by rw [Nat.pow_succ, Nat.div_div_eq_div_mul]
  rw [e, Nat.pow_succ]
  have := Nat.div_add_mod (z / 2 ^ i) 2
  generalize z / 2 ^ i = a at *
  have h : a = 2 * (a / 2) + a % 2 := by omega
  conv => lhs; rw [h]
  rw [Nat.add_mul, Nat.mul_comm 2 (a / 2), Nat.mul_assoc, Nat.mul_comm 2 (2 ^ i)]
theorem top_le (z i : Nat) : top z i ≤ z := Nat.div_mul_le_self _ _
theorem top_zero (z : Nat) : top z 0 = z := by unfold top; simp
theorem top_all {z : Nat} (h : z < 18446744073709551616) : top z 64 = 0 := by
  unfold top; rw [Nat.div_eq_of_lt (show z < 2 ^ 64 from h), Nat.zero_mul]
theorem bt_top (z i j : Nat) (h : i ≤ j) : bt (top z i) j = bt z j := by
  unfold bt top
  obtain ⟨k, rfl⟩ := Nat.exists_eq_add_of_le h
  rw [Nat.pow_add, ← Nat.div_div_eq_div_mul, Nat.mul_div_cancel _ (Nat.two_pow_pos i), ← Nat.div_div_eq_div_mul]
/-- A bit of what was shifted, told from the higher ones. -/
theorem bt_bkx {k y i : Nat} (h : y < 18446744073709551616) (hk : 64 ≤ 3 * k) : bt (bkx k y) i = bt y i ^^^ bt (bkx k y) (i + k) := by
  have e := bt_shx k (bkx k y) i
  rw [shx_bkx h hk] at e
  rw [e, Nat.xor_assoc, Nat.xor_self, Nat.xor_zero]
theorem bt_bkx_far {k y i : Nat} (h : y < 18446744073709551616) (hk : 64 ≤ 3 * k) (hi : 64 ≤ i + k) : bt (bkx k y) i = bt y i := by
  rw [bt_bkx h hk, bt_far (bkx_lt h) hi, Nat.xor_zero]

/-- A draw; the ints modulo 2^64. -/
def u64of (a : Int) : Nat := (a % 18446744073709551616).toNat
theorem u64of_lt (a : Int) : u64of a < 18446744073709551616 := by unfold u64of; omega
theorem u64of_wrap (a : Int) : IntKind.u64.wrap a = (u64of a : Int) := by rw [u64w]; unfold u64of; omega
def drawN (seed : Nat) (p q : Int) : Nat := mixN ((mixN ((mixN seed + u64of p) % 18446744073709551616) + u64of q) % 18446744073709551616)
theorem drawN_lt (s : Nat) (p q : Int) : drawN s p q < 18446744073709551616 := mixN_lt _
theorem draw_place {s : Nat} {p q r : Int} (hq : I64 q) (hr : I64 r) : drawN s p q = drawN s p r ↔ q = r := by
  refine ⟨fun h => ?_, fun h => by rw [h]⟩
  have := mixN_inj (Nat.mod_lt _ (by decide)) (Nat.mod_lt _ (by decide)) h
  have a := mixN_lt ((mixN s + u64of p) % 18446744073709551616)
  generalize mixN ((mixN s + u64of p) % 18446744073709551616) = m at *
  unfold I64 at *
  unfold u64of at *
  omega
theorem draw_particle {s : Nat} {p q c : Int} (hp : I64 p) (hq : I64 q) : drawN s p c = drawN s q c ↔ p = q := by
  refine ⟨fun h => ?_, fun h => by rw [h]⟩
  have h1 := mixN_inj (Nat.mod_lt _ (by decide)) (Nat.mod_lt _ (by decide)) h
  have a := mixN_lt ((mixN s + u64of p) % 18446744073709551616)
  have b := mixN_lt ((mixN s + u64of q) % 18446744073709551616)
  have l := u64of_lt c
  have h2 : mixN ((mixN s + u64of p) % 18446744073709551616) = mixN ((mixN s + u64of q) % 18446744073709551616) := by omega
  have h3 := mixN_inj (Nat.mod_lt _ (by decide)) (Nat.mod_lt _ (by decide)) h2
  have m := mixN_lt s
  generalize mixN s = k at *
  clear h h1 h2 a b
  unfold I64 at *
  unfold u64of at *
  omega

/-- x times n, over 2^64. -/
def belowN (x : Nat) (n : Int) : Int := if n < 1 ∨ 2147483648 < n then 0 else ((x * n.toNat / 18446744073709551616 : Nat) : Int)
theorem belowN_range {x : Nat} {n : Int} (hx : x < 18446744073709551616) : 0 ≤ belowN x n ∧ (belowN x n = 0 ∨ belowN x n < n) := by
  unfold belowN
  split
  · omega
  · have : x * n.toNat / 18446744073709551616 < n.toNat := by
      rw [Nat.div_lt_iff_lt_mul (by decide), Nat.mul_comm n.toNat]
      exact Nat.mul_lt_mul_of_pos_right hx (by omega)
    omega

end Go.Proofs.Sky
