/- Plain mathematics of layer 1: division rounded down, numbers held within 64 bits, square roots. Imports nothing of the translation. -/
import Derived.WalkKit
import Derived.Laws.BitsAllLaws


namespace Go.Proofs.Sky
section

theorem u64w (n : Int) : IntKind.u64.wrap n = n % 18446744073709551616 := by simp [IntKind.wrap, IntKind.bits, IntKind.signed]

theorem i64w (n : Int) : IntKind.i64.wrap n = (n + 9223372036854775808) % 18446744073709551616 - 9223372036854775808 := IntKind.wrap_i64 n

/-- The numbers of 64 bits, with and without a sign. -/
def I64 (a : Int) : Prop := -9223372036854775808 ≤ a ∧ a ≤ 9223372036854775807

def U64 (a : Int) : Prop := 0 ≤ a ∧ a ≤ 18446744073709551615

def dv (a b : Int) : Int := if b < 1 then 0 else a / b

def md (a b : Int) : Int := if b < 1 then 0 else a % b

def hold (n lo hi : Int) : Int := if n < lo then lo else if hi < n then hi else n

def sat (x : Int) : Int := if x < -9223372036854775808 then -9223372036854775808 else if 9223372036854775807 < x then 9223372036854775807 else x

theorem ediv_le_pos {a b : Int} (hb : 1 ≤ b) : (0 ≤ a → 0 ≤ a / b ∧ a / b ≤ a) ∧ (a < 0 → a ≤ a / b ∧ a / b ≤ -1) := by
  refine ⟨fun h => ⟨Int.ediv_nonneg h (by omega), Int.ediv_le_self _ h⟩, fun h => ⟨?_, ?_⟩⟩
  · rw [Int.le_ediv_iff_mul_le (by omega)]
    have := Int.mul_le_mul_of_nonpos_left (show a ≤ 0 by omega) hb; simpa using this
  · have : a / b < 0 := Int.ediv_neg_of_neg_of_pos h (by omega); omega

theorem sat_I64 (x : Int) : I64 (sat x) := by unfold sat I64; split <;> (try split) <;> omega

/-- Go's quotient and remainder (towards nought), brought to the ones that are rounded down. -/
theorem tdm {a b : Int} (hb : 1 ≤ b) : (a.tmod b < 0 → a.tdiv b - 1 = a / b ∧ a.tmod b + b = a % b) ∧ (0 ≤ a.tmod b → a.tdiv b = a / b ∧ a.tmod b = a % b) := by
  have e := Int.mul_tdiv_add_tmod a b
  refine ⟨fun h => ?_, fun h => ?_⟩
  · have l := Int.lt_tmod_of_pos a (show 0 < b by omega)
    have := (Int.ediv_emod_unique (a := a) (b := b) (r := a.tmod b + b) (q := a.tdiv b - 1) (by omega)).2 ⟨by rw [Int.mul_sub]; omega, by omega, by omega⟩
    exact ⟨this.1.symm, this.2.symm⟩
  · have l := Int.tmod_lt_of_pos a (show 0 < b by omega)
    have := (Int.ediv_emod_unique (a := a) (b := b) (r := a.tmod b) (q := a.tdiv b) (by omega)).2 ⟨by omega, h, l⟩
    exact ⟨this.1.symm, this.2.symm⟩

theorem mul_opp {a b : Int} (h : ¬ (a < 0 ↔ b < 0)) : a * b = -((a.natAbs : Int) * (b.natAbs : Int)) := by
  by_cases ha : a < 0
  · have hb : 0 ≤ b := by omega
    rw [show (a.natAbs : Int) = -a by omega, show (b.natAbs : Int) = b by omega, Int.neg_mul, Int.neg_neg]
  · have hb : b < 0 := by omega
    rw [show (a.natAbs : Int) = a by omega, show (b.natAbs : Int) = -b by omega, Int.mul_neg, Int.neg_neg]

theorem mul_same {a b : Int} (h : a < 0 ↔ b < 0) : a * b = (a.natAbs : Int) * (b.natAbs : Int) := by
  by_cases ha : a < 0
  · have hb : b < 0 := by omega
    rw [show (a.natAbs : Int) = -a by omega, show (b.natAbs : Int) = -b by omega, Int.neg_mul_neg]
  · rw [show (a.natAbs : Int) = a by omega, show (b.natAbs : Int) = b by omega]

theorem sgn_opp {a b : Int} (h : (!decide (a < 0) == decide (b < 0)) = true) : ¬ (a < 0 ↔ b < 0) := by
  by_cases ha : a < 0 <;> by_cases hb : b < 0 <;> simp_all

theorem sgn_same {a b : Int} (h : (!decide (a < 0) == decide (b < 0)) = false) : a < 0 ↔ b < 0 := by
  by_cases ha : a < 0 <;> by_cases hb : b < 0 <;> simp [ha, hb] at h ⊢

/-- a times b, divided by c, where that has no more than 64 bits. -/
def partQ (a b c : Nat) : Nat := if a * b / 18446744073709551616 < c then a * b / c else 0

def partOk (a b c : Nat) : Bool := decide (a * b / 18446744073709551616 < c)

/-! ### Square roots -/

def IsRoot (n r : Nat) : Prop := r * r ≤ n ∧ n < (r + 1) * (r + 1)

theorem IsRoot.unique {n r s : Nat} (a : IsRoot n r) (b : IsRoot n s) : r = s := by
  rcases Nat.lt_trichotomy r s with h | h | h
  · have := Nat.mul_le_mul (show r + 1 ≤ s by omega) (show r + 1 ≤ s by omega); have := a.2; have := b.1; omega
  · exact h
  · have := Nat.mul_le_mul (show s + 1 ≤ r by omega) (show s + 1 ≤ r by omega); have := b.2; have := a.1; omega

/-- Bit by bit: r is the root as far as the bits from k on go. -/
def isqGo (n : Nat) : Nat → Nat → Nat
  | 0, r => r
  | k + 1, r => isqGo n k (if (r + 2 ^ k) * (r + 2 ^ k) ≤ n then r + 2 ^ k else r)

theorem isqGo_spec (n : Nat) : ∀ k r, r * r ≤ n → n < (r + 2 ^ k) * (r + 2 ^ k) → IsRoot n (isqGo n k r)
  | 0, r, h, g => ⟨h, g⟩
  | k + 1, r, h, g => by
    unfold isqGo
    split
    · rename_i e; exact isqGo_spec n k _ e (by rw [Nat.pow_succ] at g; rwa [show r + 2 ^ k + 2 ^ k = r + 2 ^ k * 2 by omega])
    · rename_i e; exact isqGo_spec n k _ h (by omega)

def isq (n : Nat) : Nat := isqGo n (n.log2 / 2 + 1) 0

theorem isq_spec (n : Nat) : IsRoot n (isq n) := by
  refine isqGo_spec n _ 0 (Nat.zero_le _) ?_
  have h : n < 2 ^ (n.log2 + 1) := Nat.lt_log2_self
  rw [Nat.zero_add, ← Nat.pow_add]
  exact Nat.lt_of_lt_of_le h (Nat.pow_le_pow_right (by omega) (by omega))

theorem isq_eq {n r : Nat} (h : IsRoot n r) : isq n = r := (isq_spec n).unique h

theorem isq_lt {n k : Nat} (h : n < k * k) : isq n < k := by
  have := (isq_spec n).1
  rcases Nat.lt_or_ge (isq n) k with g | g
  · exact g
  · have := Nat.mul_le_mul g g; omega

def RootInv (n m r b : Nat) : Prop := b = 2 ^ m / 2 ∧ 2 ^ m ∣ r ∧ r * r ≤ n ∧ n < (r + 2 ^ m) * (r + 2 ^ m) ∧ r + 2 ^ m ≤ 4294967296

theorem RootInv.start {n L : Nat} (hL : L ≤ 64) (h : n < 2 ^ L) : RootInv n ((L + 1) / 2) 0 (2 ^ ((L + 1) / 2) / 2) := by
  have hp : 2 ^ ((L + 1) / 2) ≤ 2 ^ 32 := Nat.pow_le_pow_right (by omega) (by omega)
  refine ⟨rfl, Nat.dvd_zero _, Nat.zero_le _, ?_, by omega⟩
  rw [Nat.zero_add, ← Nat.pow_add]
  exact Nat.lt_of_lt_of_le h (Nat.pow_le_pow_right (by omega) (by omega))

theorem RootInv.split {n m r b : Nat} (h : RootInv n m r b) (hb : 0 < b) : ∃ k, m = k + 1 ∧ b = 2 ^ k ∧ r ||| b = r + b ∧ r + b < 4294967296 ∧ (r + b) * (r + b) < 18446744073709551616 := by
  obtain ⟨e, hd, _, _, h5⟩ := h
  match m, e, hd, h5 with
  | 0, e, _, _ => simp at e; omega
  | k + 1, e, hd, h5 =>
    rw [Nat.pow_succ] at e hd h5
    have hk : 0 < 2 ^ k := Nat.two_pow_pos k
    have eb : b = 2 ^ k := by omega
    have hl : r + b < 4294967296 := by omega
    refine ⟨k, rfl, eb, ?_, hl, ?_⟩
    · have hm := Nat.mod_eq_zero_of_dvd hd
      rw [eb]; exact nat_join (k + 1) r (2 ^ k) (by rw [Nat.pow_succ]; exact hm) (by rw [Nat.pow_succ]; omega)
    · have := Nat.mul_le_mul (show r + b ≤ 4294967295 by omega) (show r + b ≤ 4294967295 by omega); omega

theorem RootInv.yes {n k r b : Nat} (h : RootInv n (k + 1) r b) (eb : b = 2 ^ k) (g : (r + b) * (r + b) ≤ n) : RootInv n k (r + b) (b / 2) := by
  obtain ⟨e, hd, _, h4, h5⟩ := h
  subst eb
  refine ⟨rfl, ?_, g, ?_, ?_⟩
  · refine Nat.dvd_add (Nat.dvd_trans ?_ hd) (Nat.dvd_refl _); exact ⟨2, Nat.pow_succ ..⟩
  · rw [Nat.pow_succ] at h4; rwa [show r + 2 ^ k + 2 ^ k = r + 2 ^ k * 2 by omega]
  · rw [Nat.pow_succ] at h5; omega

theorem RootInv.no {n k r b : Nat} (h : RootInv n (k + 1) r b) (eb : b = 2 ^ k) (g : n < (r + b) * (r + b)) : RootInv n k r (b / 2) := by
  obtain ⟨e, hd, h3, h4, h5⟩ := h
  subst eb
  refine ⟨rfl, ?_, h3, g, ?_⟩
  · refine Nat.dvd_trans ?_ hd; exact ⟨2, Nat.pow_succ ..⟩
  · rw [Nat.pow_succ] at h5; omega

theorem RootInv.done {n m r : Nat} (h : RootInv n m r 0) : isq n = r := by
  obtain ⟨e, hd, h3, h4, h5⟩ := h
  match m, e, h4 with
  | 0, _, h4 => exact isq_eq ⟨h3, h4⟩
  | k + 1, e, _ => have := Nat.two_pow_pos k; rw [Nat.pow_succ] at e; omega

end
end Go.Proofs.Sky
