/- The contract of num.Part. -/
import Derived.Test.YtmmgpgmglemcdaaDiv64
namespace Go.Proofs.Ytmmgpgmglemcdaa
open Go.RowKit Go.Proofs.Sky
set_option linter.unusedVariables false

theorem num_Part (a b c : Nat) (w : World) (ha : a < 18446744073709551616) (hb : b < 18446744073709551616) (hc : c < 18446744073709551616) :
    Calls Try.prog 6 #[.int .u64 a, .int .u64 b, .int .u64 c] w fun e w' => e = .returned (.tuple #[.int .u64 (partQ a b c : Int), .bool (partOk a b c)]) ∧ ∃ n, w' = w.drewN n := by
  obtain ⟨H, hH⟩ : ∃ H, H = a * b / 18446744073709551616 := ⟨_, rfl⟩
  obtain ⟨L, hL⟩ : ∃ L, L = a * b % 18446744073709551616 := ⟨_, rfl⟩
  have hl : L < 18446744073709551616 := by rw [hL]; exact Nat.mod_lt _ (by decide)
  have hd : H * 18446744073709551616 + L = a * b := by rw [hH, hL]; exact Nat.div_add_mod' _ _
  have M : ∀ w, Calls Try.prog 21 #[.int .u64 a, .int .u64 b] w fun e w' => e = .returned (.tuple #[.int .u64 H, .int .u64 L]) ∧ w = w' := by
    intro w; rw [hH, hL]; exact Mul64 a b w ha hb
  have HM := Lib.hid M; clear M
  unfold partQ partOk
  rw [← hH]
  have HD := Lib.hid hd
  clear hH hL hd
  by_cases h : H < c
  · have HDiv : ∀ w, Calls Try.prog 22 #[.int .u64 H, .int .u64 L, .int .u64 c] w fun e w' => e = .returned (.tuple #[.int .u64 ((a * b / c : Nat) : Int), .int .u64 ((a * b % c : Nat) : Int)]) ∧ ∃ n, w' = w.drewN n := by
      intro w; rw [← HD.out]; exact Div64 H L c w h hc hl
    have HV := Lib.hid HDiv; clear HDiv
    rw [if_pos h, decide_eq_true h]
    generalize a * b / c = q at *
    generalize a * b % c = r at *
    have hb : decide ((c : Int) ≤ (H : Int)) = false := decide_eq_false (by omega)
    go_enter Try.func6, Try.ntmps6
    go_wp2_with (first
      | (go_at_call 21; refine (HM.out _).mono ?_; rintro e w' ⟨rfl, rfl⟩)
      | (go_at_call 22; refine (HV.out _).mono ?_; rintro e w' ⟨rfl, n, rfl⟩))
    go_ret2
    exact ⟨rfl, _, rfl⟩
  · rw [if_neg h, decide_eq_false h]
    go_enter Try.func6, Try.ntmps6
    go_wp2_with (go_at_call 21; refine (HM.out _).mono ?_; rintro e w' ⟨rfl, rfl⟩)
    go_ret2
    exact ⟨rfl, 0, rfl⟩

end Go.Proofs.Ytmmgpgmglemcdaa
