/- Plain mathematics of layer 5: sines by Bhaskara's rule, rounded down. -/
import Derived.Test.YtnoaljfdbfbhmaaMath01
import Derived.Lib.Hide
namespace Go.Proofs.Sky
open Go.RowKit
set_option linter.unusedVariables false

/-- The sine of q in the first half turn (0 to 32767), as a number of 0 to 16384. -/
def sinq (q : Int) : Int := 262144 * (q * (32768 - q)) / (5368709120 - 4 * (q * (32768 - q)))
def sinI (h : Int) : Int := if h % 65536 < 32768 then sinq (h % 65536) else -sinq (h % 65536 - 32768)
def cosI (h : Int) : Int := sinI (h + 16384)

theorem sinq_a {q : Int} (h0 : 0 ≤ q) (h1 : q ≤ 32768) : 0 ≤ q * (32768 - q) ∧ q * (32768 - q) ≤ 268435456 := by
  refine ⟨Int.mul_nonneg h0 (by omega), ?_⟩
  have e : q * (32768 - q) = 268435456 - (q - 16384) * (q - 16384) := by
    rw [Int.mul_sub, Int.sub_mul, Int.mul_sub, Int.mul_sub]; omega
  have : 0 ≤ (q - 16384) * (q - 16384) := by
    rcases Int.le_total 0 (q - 16384) with h | h
    · exact Int.mul_nonneg h h
    · exact Int.mul_nonneg_of_nonpos_of_nonpos h h
  omega
theorem sinq_range {q : Int} (h0 : 0 ≤ q) (h1 : q ≤ 32768) : 0 ≤ sinq q ∧ sinq q ≤ 16384 := by
  obtain ⟨a0, a1⟩ := sinq_a h0 h1
  unfold sinq
  generalize q * (32768 - q) = a at *
  refine ⟨Int.ediv_nonneg (by omega) (by omega), ?_⟩
  have : 262144 * a / (5368709120 - 4 * a) < 16385 := by
    rw [Int.ediv_lt_iff_lt_mul (by omega)]; omega
  omega
theorem sinq_mirror (q : Int) : sinq (32768 - q) = sinq q := by
  unfold sinq
  rw [show (32768 - q) * (32768 - (32768 - q)) = q * (32768 - q) by rw [Int.mul_comm]; congr 1; omega]
theorem sinq_zero : sinq 0 = 0 := by decide
theorem sinI_range (h : Int) : -16384 ≤ sinI h ∧ sinI h ≤ 16384 := by
  unfold sinI
  split
  · have := @sinq_range (h % 65536) (by omega) (by omega); omega
  · have := @sinq_range (h % 65536 - 32768) (by omega) (by omega); omega
theorem sinI_mod (h : Int) : sinI (h % 65536) = sinI h := by
  unfold sinI; rw [Int.emod_emod_of_dvd _ (Int.dvd_refl _)]
theorem sinI_congr {g h : Int} (e : g % 65536 = h % 65536) : sinI g = sinI h := by unfold sinI; rw [e]
theorem sinI_half (h : Int) : sinI (h + 32768) = -sinI h := by
  unfold sinI
  by_cases g : h % 65536 < 32768
  · rw [if_pos g, if_neg (by omega), show (h + 32768) % 65536 - 32768 = h % 65536 by omega]
  · rw [if_neg g, if_pos (by omega), Int.neg_neg, show (h + 32768) % 65536 = h % 65536 - 32768 by omega]
theorem sinI_mirror (h : Int) : sinI (32768 - h) = sinI h := by
  unfold sinI
  by_cases z : h % 65536 = 0
  · rw [z, if_neg (by omega), if_pos (by omega), show (32768 - h) % 65536 - 32768 = 0 by omega, sinq_zero]; rfl
  · by_cases g : h % 65536 < 32768
    · rw [if_pos g, if_pos (by omega), show (32768 - h) % 65536 = 32768 - h % 65536 by omega, sinq_mirror]
    · by_cases g' : h % 65536 = 32768
      · rw [g', if_pos (by omega), if_neg (by omega), show (32768 - h) % 65536 = 0 by omega, show (32768 : Int) - 32768 = 0 by omega, sinq_zero]; rfl
      · rw [if_neg g, if_neg (by omega), show (32768 - h) % 65536 - 32768 = 32768 - (h % 65536 - 32768) by omega, sinq_mirror]
theorem sinI_round (h : Int) : sinI (h + 65536) = sinI h := sinI_congr (by omega)
theorem cosI_half (h : Int) : cosI (h + 32768) = -cosI h := by
  unfold cosI; rw [show h + 32768 + 16384 = h + 16384 + 32768 by omega, sinI_half]
theorem cosI_neg (h : Int) : cosI (-h) = cosI h := by
  unfold cosI; rw [show -h + 16384 = 32768 - (h + 16384) by omega, sinI_mirror]
theorem cosI_range (h : Int) : -16384 ≤ cosI h ∧ cosI h ≤ 16384 := sinI_range _
theorem cosI_congr {g h : Int} (e : g % 65536 = h % 65536) : cosI g = cosI h := sinI_congr (by omega)

theorem sinq_mono {x y : Int} (h0 : 0 ≤ x) (h1 : x ≤ y) (h2 : y ≤ 16384) : sinq x ≤ sinq y := by
  obtain ⟨a0, a1⟩ := sinq_a (q := x) (by omega) (by omega)
  obtain ⟨b0, b1⟩ := sinq_a (q := y) (by omega) (by omega)
  have r := (sinq_range (q := x) (by omega) (by omega)).1
  have hab : x * (32768 - x) ≤ y * (32768 - y) := by
    have e : y * (32768 - y) - x * (32768 - x) = (y - x) * (32768 - x - y) := by
      simp only [Int.mul_sub, Int.sub_mul]
      rw [Int.mul_comm y x]
      omega
    have := Int.mul_nonneg (show 0 ≤ y - x by omega) (show 0 ≤ 32768 - x - y by omega)
    omega
  unfold sinq at *
  generalize x * (32768 - x) = a at *
  generalize y * (32768 - y) = b at *
  rw [Int.le_ediv_iff_mul_le (by omega)]
  have q1 : 262144 * a / (5368709120 - 4 * a) * (5368709120 - 4 * a) ≤ 262144 * a := Int.ediv_mul_le _ (by omega)
  have q2 := Int.mul_le_mul_of_nonneg_left (show 5368709120 - 4 * b ≤ 5368709120 - 4 * a by omega) r
  omega

/-- Both squared, over the first quarter: reckoned. -/
def sqOk (m : Nat) : Bool :=
  let s := 262144 * (m * (32768 - m)) / (5368709120 - 4 * (m * (32768 - m)))
  let k := 16384 - m
  let c := 262144 * (k * (32768 - k)) / (5368709120 - 4 * (k * (32768 - k)))
  decide (265751102 ≤ s * s + c * c ∧ s * s + c * c ≤ 271119810)
theorem sq_all : ∀ i, i < 129 → ∀ j, j < 128 → (128 * i + j ≤ 16384 → sqOk (128 * i + j) = true) := by decide +kernel

theorem sinq_nat (m : Nat) (h : m ≤ 32768) : sinq (m : Int) = ((262144 * (m * (32768 - m)) / (5368709120 - 4 * (m * (32768 - m))) : Nat) : Int) := by
  obtain ⟨a0, a1⟩ := sinq_a (q := (m : Int)) (by omega) (by omega)
  unfold sinq
  have e : (m : Int) * (32768 - (m : Int)) = ((m * (32768 - m) : Nat) : Int) := by
    rw [Int.natCast_mul, Int.natCast_sub h]; rfl
  rw [e] at a0 a1 ⊢
  generalize m * (32768 - m) = a at *
  rw [Int.natCast_ediv, Int.natCast_mul, Int.natCast_sub (by omega), Int.natCast_mul]
  rfl
theorem sq_nat (m : Nat) (h : m ≤ 16384) : 265751102 ≤ sinq (m : Int) * sinq (m : Int) + sinq ((16384 - m : Nat) : Int) * sinq ((16384 - m : Nat) : Int) ∧
    sinq (m : Int) * sinq (m : Int) + sinq ((16384 - m : Nat) : Int) * sinq ((16384 - m : Nat) : Int) ≤ 271119810 := by
  have k := sq_all (m / 128) (by omega) (m % 128) (by omega) (by omega)
  rw [show 128 * (m / 128) + m % 128 = m by omega] at k
  have k' := of_decide_eq_true k
  rw [sinq_nat m (by omega), sinq_nat (16384 - m) (by omega), ← Int.natCast_mul, ← Int.natCast_mul, ← Int.natCast_add]
  omega
def sqI (h : Int) : Int := cosI h * cosI h + sinI h * sinI h
theorem sqI_half (h : Int) : sqI (h + 32768) = sqI h := by
  unfold sqI; rw [cosI_half, sinI_half, Int.neg_mul_neg, Int.neg_mul_neg]
theorem cosI_mirror (h : Int) : cosI (32768 - h) = -cosI h := by
  rw [show 32768 - h = -h + 32768 by omega, cosI_half, cosI_neg]
theorem sqI_mirror (h : Int) : sqI (32768 - h) = sqI h := by
  unfold sqI; rw [cosI_mirror, sinI_mirror, Int.neg_mul_neg]
theorem sqI_congr {g h : Int} (e : g % 65536 = h % 65536) : sqI g = sqI h := by
  unfold sqI; rw [cosI_congr e, sinI_congr e]
theorem sqI_quarter {h : Int} (h0 : 0 ≤ h) (h1 : h ≤ 16384) : 265751102 ≤ sqI h ∧ sqI h ≤ 271119810 := by
  obtain ⟨m, rfl⟩ := Int.eq_ofNat_of_zero_le h0
  have k := sq_nat m (by omega)
  have e1 : sinI (m : Int) = sinq (m : Int) := by
    unfold sinI; rw [if_pos (by omega), show (m : Int) % 65536 = m by omega]
  have e2 : cosI (m : Int) = sinq ((16384 - m : Nat) : Int) := by
    unfold cosI
    rw [← sinI_mirror, show 32768 - ((m : Int) + 16384) = ((16384 - m : Nat) : Int) by omega]
    unfold sinI; rw [if_pos (by omega), show ((16384 - m : Nat) : Int) % 65536 = ((16384 - m : Nat) : Int) by omega]
  unfold sqI
  rw [e1, e2]
  omega
theorem sqI_bound (h : Int) : 265751102 ≤ sqI h ∧ sqI h ≤ 271119810 := by
  rw [← sqI_congr (g := h % 65536) (h := h) (by omega)]
  have a : 0 ≤ h % 65536 ∧ h % 65536 < 65536 := by omega
  generalize h % 65536 = m at *
  have half : ∀ m : Int, 0 ≤ m → m ≤ 32768 → 265751102 ≤ sqI m ∧ sqI m ≤ 271119810 := fun m h0 h1 => by
    by_cases g : m ≤ 16384
    · exact sqI_quarter h0 g
    · rw [← sqI_mirror]; exact sqI_quarter (by omega) (by omega)
  by_cases g : m ≤ 32768
  · exact half m a.1 g
  · rw [← sqI_half m, sqI_congr (g := m + 32768) (h := m - 32768) (by omega)]
    exact half _ (by omega) (by omega)

end Go.Proofs.Sky
