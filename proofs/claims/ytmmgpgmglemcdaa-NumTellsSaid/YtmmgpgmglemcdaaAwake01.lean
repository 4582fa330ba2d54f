/- The chapter's examples hold: the contract of the statements' own awake, layer 1. -/
import Derived.Test.YtmmgpgmglemcdaaPart01
import Derived.RowKit3
namespace Go.Proofs.Ytmmgpgmglemcdaa
open Go.RowKit Go.Proofs.Sky
set_option linter.unusedVariables false

theorem grown_drewN (w : World) (n : Nat) : Grown w (w.drewN n) := Grown.refl w

theorem aw_Div (w : World) : Calls Try.prog 8 #[.int .i64 (-7), .int .i64 2] w fun e w' => e = .returned (.int .i64 (-4)) ∧ w = w' :=
  num_Div (-7) 2 w (by unfold I64; omega) (by unfold I64; omega)
theorem aw_Mod (w : World) : Calls Try.prog 10 #[.int .i64 (-7), .int .i64 2] w fun e w' => e = .returned (.int .i64 1) ∧ w = w' :=
  num_Mod (-7) 2 w (by unfold I64; omega) (by unfold I64; omega)
theorem aw_Root (w : World) : Calls Try.prog 18 #[.int .u64 24] w fun e w' => e = .returned (.int .i64 4) ∧ w = w' := by
  have h := num_Root 24 w (by omega)
  rw [show isq 24 = 4 from isq_eq ⟨by omega, by omega⟩] at h
  exact h
theorem aw_Hold (w : World) : Calls Try.prog 12 #[.int .i64 5, .int .i64 1, .int .i64 3] w fun e w' => e = .returned (.int .i64 3) ∧ w = w' :=
  num_Hold 5 1 3 w
theorem aw_Part (w : World) : Calls Try.prog 6 #[.int .u64 9223372036854775808, .int .u64 10, .int .u64 4611686018427387904] w fun e w' => e = .returned (.tuple #[.int .u64 20, .bool true]) ∧ ∃ n, w' = w.drewN n := by
  have h := num_Part 9223372036854775808 10 4611686018427387904 w (by omega) (by omega) (by omega)
  rw [show partQ 9223372036854775808 10 4611686018427387904 = 20 by decide, show partOk 9223372036854775808 10 4611686018427387904 = true by decide] at h
  exact h

theorem awake01 (w : World) :
    Calls Try.prog 20 #[] w fun e w' => e = .returned (.bool true) ∧ ∃ n, w' = w.drewN n := by
  go_enter Try.func20, Try.ntmps20
  go_wp2_with (first
    | (go_at_call 6; refine (aw_Part _).mono ?_; rintro e w' ⟨rfl, n, rfl⟩)
    | (go_at_call 8; refine (aw_Div _).mono ?_; rintro e w' ⟨rfl, rfl⟩)
    | (go_at_call 10; refine (aw_Mod _).mono ?_; rintro e w' ⟨rfl, rfl⟩)
    | (go_at_call 18; refine (aw_Root _).mono ?_; rintro e w' ⟨rfl, rfl⟩)
    | (go_at_call 12; refine (aw_Hold _).mono ?_; rintro e w' ⟨rfl, rfl⟩))
  go_ret
  exact ⟨rfl, _, rfl⟩

end Go.Proofs.Ytmmgpgmglemcdaa
