/- The chapter's example holds: the contract of the statements' own awake, layer 8. -/
import Derived.Test.YtnoaljfdbfbhmaaPose08
import Derived.Test.YtnoaljfdbfbhmaaTail
import Derived.Deep.DeepCutAuto
namespace Go.Proofs.Ytnoaljfdbfbhmaa
open Go.RowKit Go.Proofs.Sky
set_option linter.unusedVariables false

set_option maxRecDepth 100000 in
set_option maxHeartbeats 8000000 in
theorem awake08_bw (wb : World) (p : BW wb) :
    Calls Try.prog 6 #[] p.w fun e w' => e = .returned (.bool true) ∧ ∃ q : BW wb, w' = q.w := by
  have U1 : Hid (∀ w, Calls Try.prog 12 #[.int .i64 2, .int .i64 16384] w fun r w' => r = .returned (.agg #[.int .i64 0, .int .i64 (-16384), .int .i64 0, .int .i64 16384, .int .i64 0, .int .i64 0, .int .i64 0, .int .i64 0, .int .i64 16384, .int .i64 0, .int .i64 0, .int .i64 0]) ∧ Below w.heap.size w w') := Lib.hid (fun w => by
    have h := pose_Turned 2 16384 w (by unfold I64; omega)
    rw [show pTurned 2 16384 = ((0, -16384, 0), (16384, 0, 0), (0, 0, 16384), (0, 0, 0)) by decide +kernel] at h
    exact h)
  have U2 : Hid (∀ w, Calls Try.prog 12 #[.int .i64 3, .int .i64 5] w fun r w' => r = .returned (.agg #[.int .i64 16384, .int .i64 0, .int .i64 0, .int .i64 0, .int .i64 16384, .int .i64 0, .int .i64 0, .int .i64 0, .int .i64 16384, .int .i64 0, .int .i64 0, .int .i64 0]) ∧ Below w.heap.size w w') := Lib.hid (fun w => by
    have h := pose_Turned 3 5 w (by unfold I64; omega)
    rw [show pTurned 3 5 = ((16384, 0, 0), (0, 16384, 0), (0, 0, 16384), (0, 0, 0)) by decide +kernel] at h
    exact h)
  have S1 : Hid (∀ w, Calls Try.prog 14 #[.int .i64 1, .int .i64 2] w fun r w' => r = .returned (.agg #[.int .i64 8192, .int .i64 0, .int .i64 0, .int .i64 0, .int .i64 8192, .int .i64 0, .int .i64 0, .int .i64 0, .int .i64 8192, .int .i64 0, .int .i64 0, .int .i64 0]) ∧ Below w.heap.size w w') := Lib.hid (fun w => by
    have h := pose_Sized 1 2 w (by unfold I64; omega) (by unfold I64; omega)
    rw [show pSized 1 2 = ((8192, 0, 0), (0, 8192, 0), (0, 0, 8192), (0, 0, 0)) by decide +kernel] at h
    exact h)
  have Q1 : Hid (∀ w, Calls Try.prog 20 #[.agg #[.int .i64 0, .int .i64 (-16384), .int .i64 0, .int .i64 16384, .int .i64 0, .int .i64 0, .int .i64 0, .int .i64 0, .int .i64 16384, .int .i64 0, .int .i64 0, .int .i64 0], .agg #[.int .i64 5, .int .i64 0, .int .i64 0]] w fun r w' => r = .returned (.agg #[.int .i64 0, .int .i64 5, .int .i64 0]) ∧ Below w.heap.size w w') := Lib.hid (fun w => by
    have h := pose_Put 0 (-16384) 0 16384 0 0 0 0 16384 0 0 0 5 0 0 w
    rw [show pPut ((0, -16384, 0), (16384, 0, 0), (0, 0, 16384), (0, 0, 0)) (5, 0, 0) = (0, 5, 0) by decide +kernel] at h
    exact h)
  have Q2 : Hid (∀ w, Calls Try.prog 20 #[.agg #[.int .i64 8192, .int .i64 0, .int .i64 0, .int .i64 0, .int .i64 8192, .int .i64 0, .int .i64 0, .int .i64 0, .int .i64 8192, .int .i64 0, .int .i64 0, .int .i64 0], .agg #[.int .i64 5, .int .i64 0, .int .i64 0]] w fun r w' => r = .returned (.agg #[.int .i64 2, .int .i64 0, .int .i64 0]) ∧ Below w.heap.size w w') := Lib.hid (fun w => by
    have h := pose_Put 8192 0 0 0 8192 0 0 0 8192 0 0 0 5 0 0 w
    rw [show pPut ((8192, 0, 0), (0, 8192, 0), (0, 0, 8192), (0, 0, 0)) (5, 0, 0) = (2, 0, 0) by decide +kernel] at h
    exact h)
  have R1 : Hid (∀ w, Calls Try.prog 7 #[.agg #[.int .i64 16384, .int .i64 0, .int .i64 0, .int .i64 0, .int .i64 16384, .int .i64 0, .int .i64 0, .int .i64 0, .int .i64 16384, .int .i64 0, .int .i64 0, .int .i64 0]] w fun r w' => r = .returned (.bool true) ∧ Below w.heap.size w w') := Lib.hid (fun w => by
    have h := pose_Right 16384 0 0 0 16384 0 0 0 16384 0 0 0 w
    rw [show pRight ((16384, 0, 0), (0, 16384, 0), (0, 0, 16384), (0, 0, 0)) = true by decide +kernel] at h
    exact h)
  have N1 := Lib.hid (fun w => pose_None w)
  go_enter Try.func6, Try.ntmps6
  go_wp2_with (first
    | (go_at_call 12; (first | (with_reducible refine (bw_call U1.out _).mono ?_) | (with_reducible refine (bw_call U2.out _).mono ?_)); rintro e w' ⟨rfl, q, rfl⟩)
    | (go_at_call 14; (first | (with_reducible refine (bw_call S1.out _).mono ?_)); rintro e w' ⟨rfl, q, rfl⟩)
    | (go_at_call 20; (first | (with_reducible refine (bw_call Q1.out _).mono ?_) | (with_reducible refine (bw_call Q2.out _).mono ?_)); rintro e w' ⟨rfl, q, rfl⟩)
    | (go_at_call 7; (first | (with_reducible refine (bw_call R1.out _).mono ?_)); rintro e w' ⟨rfl, q, rfl⟩)
    | (go_at_call 10; (first | (with_reducible refine (bw_call N1.out _).mono ?_)); rintro e w' ⟨rfl, q, rfl⟩))
  go_ret
  exact ⟨rfl, q, rfl⟩

theorem awake08 (w : World) :
    Calls Try.prog 6 #[] w fun e w' => e = .returned (.bool true) ∧ Below w.heap.size w w' := by
  refine (awake08_bw w (BW.start w)).mono ?_
  rintro e w' ⟨rfl, q, rfl⟩
  exact ⟨rfl, q.h⟩

end Go.Proofs.Ytnoaljfdbfbhmaa
