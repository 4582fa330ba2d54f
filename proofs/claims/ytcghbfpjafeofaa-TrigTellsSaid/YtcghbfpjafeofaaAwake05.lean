/- The chapter's examples hold: the contract of the statements' own awake, layer 5. -/
import Derived.Test.YtcghbfpjafeofaaTrig05
namespace Go.Proofs.Ytcghbfpjafeofaa
open Go.RowKit Go.Proofs.Sky
set_option linter.unusedVariables false

theorem awake05 (w : World) :
    Calls Try.prog 12 #[] w fun e w' => e = .returned (.bool true) ∧ Below w.heap.size w w' := by
  have B0 : Hid (∀ w, Calls Try.prog 6 #[.int .i64 16384] w fun e w' => e = .returned (.tuple #[.int .i64 0, .int .i64 16384]) ∧ Below w.heap.size w w') := Lib.hid (fun w => by
    have h := trig_Both 16384 w (by unfold I64; omega)
    rw [show cosI 16384 = 0 by decide, show sinI 16384 = 16384 by decide] at h
    exact h)
  have S0 : Hid (∀ w, Calls Try.prog 7 #[.int .i64 16384] w fun e w' => e = .returned (.int .i64 16384) ∧ Below w.heap.size w w') := Lib.hid (fun w => by
    have h := trig_Sin 16384 w (by unfold I64; omega)
    rw [show sinI 16384 = 16384 by decide] at h
    exact h)
  have S1 : Hid (∀ w, Calls Try.prog 7 #[.int .i64 0] w fun e w' => e = .returned (.int .i64 0) ∧ Below w.heap.size w w') := Lib.hid (fun w => by
    have h := trig_Sin 0 w (by unfold I64; omega)
    rw [show sinI 0 = 0 by decide] at h
    exact h)
  have C0 : Hid (∀ w, Calls Try.prog 9 #[.int .i64 32768] w fun e w' => e = .returned (.int .i64 (-16384)) ∧ Below w.heap.size w w') := Lib.hid (fun w => by
    have h := trig_Cos 32768 w (by unfold I64; omega)
    rw [show cosI 32768 = -16384 by decide] at h
    exact h)
  have Q0 : Hid (∀ w, Calls Try.prog 11 #[.int .i64 0] w fun e w' => e = .returned (.int .i64 268435456) ∧ Below w.heap.size w w') := Lib.hid (fun w => by
    have h := trig_Square 0 w (by unfold I64; omega)
    rw [show sqI 0 = 268435456 by decide] at h
    exact h)
  have T0 : Hid (∀ w, Calls Try.prog 13 #[.int .i64 3] w fun e w' => ∃ g cap, e = .returned (.slice (some ⟨g, 0, none⟩) 3 cap) ∧ Below w.heap.size w w') := Lib.hid (fun w =>
    (trig_Steps 3 w (by unfold I64; omega)).mono fun e w' ⟨v, he, h1, h2, h3⟩ => by
      rw [show stepN 3 = 2 + 1 by decide] at h1
      obtain ⟨g, cap, rfl⟩ := ownsRow_succ h1
      exact ⟨g, cap, he, h3⟩)
  go_enter Try.func12, Try.ntmps12
  go_wp2_with (first
    | (go_at_call 6; (with_reducible refine (B0.out _).mono ?_); rintro e w1 ⟨rfl, h1⟩)
    | (go_at_call 7; (with_reducible refine (S0.out _).mono ?_); rintro e w2 ⟨rfl, h2⟩)
    | (go_at_call 7; (with_reducible refine (S1.out _).mono ?_); rintro e w3 ⟨rfl, h3⟩)
    | (go_at_call 9; (with_reducible refine (C0.out _).mono ?_); rintro e w4 ⟨rfl, h4⟩)
    | (go_at_call 13; (with_reducible refine (T0.out _).mono ?_); rintro e w5 ⟨g, cap, rfl, h5⟩)
    | (go_at_call 11; (with_reducible refine (Q0.out _).mono ?_); rintro e w6 ⟨rfl, h6⟩))
  go_ret
  have b2 := h1.trans (h2.mono h1.size)
  have b3 := b2.trans (h3.mono b2.size)
  have b4 := b3.trans (h4.mono b3.size)
  have b5 := b4.trans (h5.mono b4.size)
  exact ⟨rfl, b5.trans (h6.mono b5.size)⟩

end Go.Proofs.Ytcghbfpjafeofaa
