/- The chapter's examples hold: the contract of the statements' own awake, layer 4. -/
import Derived.Test.YtfofnkchieajpaaDice04
namespace Go.Proofs.Ytfofnkchieajpaa
open Go.RowKit Go.Proofs.Sky
set_option linter.unusedVariables false

theorem awake04 (w : World) :
    Calls Try.prog 12 #[] w fun e w' => e = .returned (.bool true) ∧ Below w.heap.size w w' := by
  have M0 : Hid (∀ w, Calls Try.prog 6 #[.int .u64 0] w fun e w' => e = .returned (.int .u64 0) ∧ Below w.heap.size w w') := Lib.hid (fun w => by
    have h := dice_Mix 0 w (by omega)
    rw [show mixN 0 = 0 by decide] at h
    exact h)
  have M1 : Hid (∀ w, Calls Try.prog 6 #[.int .u64 11400714819323198485] w fun e w' => e = .returned (.int .u64 16294208416658607535) ∧ Below w.heap.size w w') := Lib.hid (fun w => by
    have h := dice_Mix 11400714819323198485 w (by omega)
    rw [show mixN 11400714819323198485 = 16294208416658607535 by decide +kernel] at h
    exact h)
  have B0 : Hid (∀ w, Calls Try.prog 10 #[.int .u64 9223372036854775808, .int .i64 10] w fun e w' => e = .returned (.int .i64 5) ∧ Below w.heap.size w w') := Lib.hid (fun w => by
    have h := dice_Below 9223372036854775808 10 w (by omega) (by unfold I64; omega)
    rw [show belowN 9223372036854775808 10 = 5 by decide] at h
    exact h)
  have N0 : Hid (∀ w, Calls Try.prog 14 #[.int .u64 1, .int .i64 2] w fun e w' => ∃ v, e = .returned v ∧ DeckAt w' w.heap.size v 1 2 0 ∧ Below w.heap.size w w') := Lib.hid (fun w => dice_New 1 2 w (by omega) (by unfold I64; omega))
  have D0 : Hid (∀ w, Calls Try.prog 8 #[.int .u64 1, .int .i64 2, .int .i64 0] w fun e w' => e = .returned (.int .u64 (drawN 1 2 0 : Nat)) ∧ Below w.heap.size w w') := Lib.hid (fun w => dice_Draw 1 2 0 w (by omega) (by unfold I64; omega) (by unfold I64; omega))
  have X0 : Hid (∀ w B v, DeckAt w B v 1 2 0 → Calls Try.prog 15 #[v] w fun e w' => e = .returned (.int .u64 (drawN 1 2 0 : Nat)) ∧ Below B w w') := Lib.hid (fun w B v h => (deck_Next h (by omega) (by unfold I64; omega) (by omega)).mono fun e w' h => ⟨h.1, h.2.2⟩)
  generalize drawN 1 2 0 = d at *
  go_enter Try.func12, Try.ntmps12
  go_wp2_with (first
    | (go_at_call 6; (with_reducible refine (M0.out _).mono ?_); rintro e w1 ⟨rfl, h1⟩)
    | (go_at_call 10; (with_reducible refine (B0.out _).mono ?_); rintro e w2 ⟨rfl, h2⟩)
    | (go_at_call 6; (with_reducible refine (M1.out _).mono ?_); rintro e w3 ⟨rfl, h3⟩)
    | (go_at_call 14; (with_reducible refine (N0.out _).mono ?_); rintro e w4 ⟨v, rfl, hd, h4⟩)
    | (go_at_call 15; (with_reducible refine (X0.out _ _ _ hd).mono ?_); rintro e w5 ⟨rfl, h5⟩)
    | (go_at_call 8; (with_reducible refine (D0.out _).mono ?_); rintro e w6 ⟨rfl, h6⟩))
  go_ret
  have b3 : Below w.heap.size w w3 := (h1.trans (h2.mono h1.size)).trans (h3.mono (Nat.le_trans h1.size h2.size))
  have b4 := b3.trans (h4.mono b3.size)
  have b5 := b4.trans (h5.mono b3.size)
  exact ⟨rfl, b5.trans (h6.mono b5.size)⟩

end Go.Proofs.Ytfofnkchieajpaa
