/- Contracts of package wide's small functions: halves, and their sums. -/
import Derived.Test.YtfdolgdfadipeaaDiv64
import Derived.Test.YtfdolgdfadipeaaMath02
import Derived.Handy
import Derived.Deep.RegionHeld3
import Derived.Deep.QuietTactic
import Derived.BigQuiet
import Derived.Deep.Draws
import Derived.Deep.DrawnRows
import Derived.Laws.Externs
import Derived.Deep.DeepCutAuto
import Derived.StillTailTactics
namespace Go.Proofs.Ytfdolgdfadipeaa
open Go.RowKit Go.Proofs.Sky
set_option linter.unusedVariables false
attribute [local go_sem ↓] Go.wp_at_zero Go.wp_at_succ

theorem plus_add (x y : Int) : ∃ c0 c1 : Nat, c0 ≤ 1 ∧ lon (x + y) = (lon x + lon y + 0) % 18446744073709551616 ∧ c0 = (lon x + lon y + 0) / 18446744073709551616 ∧
    hin (x + y) = (hin x + hin y + c0) % 18446744073709551616 ∧ c1 = (hin x + hin y + c0) / 18446744073709551616 := by
  unfold lon hin; refine ⟨_, _, ?_, ?_, rfl, ?_, rfl⟩ <;> omega

theorem plus_sub (x y : Int) : ∃ c0 c1 : Nat, c0 ≤ 1 ∧ lon (x - y) = (lon x + lon (-1 - y) + 1) % 18446744073709551616 ∧ c0 = (lon x + lon (-1 - y) + 1) / 18446744073709551616 ∧
    hin (x - y) = (hin x + hin (-1 - y) + c0) % 18446744073709551616 ∧ c1 = (hin x + hin (-1 - y) + c0) / 18446744073709551616 := by
  unfold lon hin; refine ⟨_, _, ?_, ?_, rfl, ?_, rfl⟩ <;> omega

theorem sizeW_spec (l h : Nat) (hl : l < 18446744073709551616) (hh : h < 9223372036854775808) : h * 18446744073709551616 + l < 2 ^ sizeW l h ∧ sizeW l h ≤ 127 := by
  unfold sizeW
  by_cases h0 : 0 < h
  · rw [if_pos h0]
    have b := Lib.bitLenAux_bounds 64 h (by omega) (by omega)
    have e : Lib.bitLen h = Lib.bitLenAux 64 h := rfl
    rw [← e] at b
    obtain ⟨b1, b2, b3⟩ := b
    constructor
    · rw [Nat.pow_add]; have : h + 1 ≤ 2 ^ Lib.bitLen h := b3
      have := Nat.mul_le_mul_right 18446744073709551616 this
      have e64 : (2 : Nat) ^ 64 = 18446744073709551616 := by decide
      rw [e64, Nat.mul_comm 18446744073709551616]; omega
    · have : Lib.bitLen h ≤ 63 := Lib.bitLen_le h 63 (by omega) hh
      omega
  · rw [if_neg h0]
    obtain ⟨b1, b2⟩ := bitLen_lt l hl
    obtain rfl : h = 0 := by omega
    exact ⟨by omega, by omega⟩

end Go.Proofs.Ytfdolgdfadipeaa
