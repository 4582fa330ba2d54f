/- The chapter's examples hold: the contract of the statements' own awake, layer 6. -/
import Derived.Test.YtegflpokeepndaaVec06
namespace Go.Proofs.Ytegflpokeepndaa
open Go.RowKit Go.Proofs.Sky
set_option linter.unusedVariables false

theorem awake06 (w : World) :
    Calls Try.prog 26 #[] w fun e w' => e = .returned (.bool true) ∧ Below w.heap.size w w' := by
  have U : Hid (∀ w, Calls Try.prog 6 #[.agg #[.int .i64 0, .int .i64 0, .int .i64 5]] w fun e w' => e = .returned (.tuple #[.agg #[.int .i64 0, .int .i64 0, .int .i64 16384], .bool true]) ∧ Below w.heap.size w w') := Lib.hid (fun w => by
    have h := vec_Unit 0 0 5 w (by unfold I64; omega) (by unfold I64; omega) (by unfold I64; omega)
    rw [show vunit 0 0 5 = (0, 0, 16384) by decide +kernel, show vuOk 0 0 5 = true by decide +kernel] at h
    exact h)
  have C : Hid (∀ w, Calls Try.prog 16 #[.agg #[.int .i64 1, .int .i64 0, .int .i64 0], .agg #[.int .i64 0, .int .i64 1, .int .i64 0]] w fun e w' => e = .returned (.agg #[.int .i64 0, .int .i64 0, .int .i64 1]) ∧ Below w.heap.size w w') := Lib.hid (fun w => by
    have h := vec_Cross 1 0 0 0 1 0 w
    rw [show vcr 1 0 0 0 1 0 = (0, 0, 1) by decide +kernel] at h
    exact h)
  have L : Hid (∀ w, Calls Try.prog 20 #[.agg #[.int .i64 3, .int .i64 4, .int .i64 0]] w fun e w' => e = .returned (.int .i64 5) ∧ Below w.heap.size w w') := Lib.hid (fun w => by
    have h := vec_Len 3 4 0 w
    rw [show vlen 3 4 0 = 5 by decide +kernel] at h
    exact h)
  have A : Hid (∀ w, Calls Try.prog 24 #[.agg #[.int .i64 0, .int .i64 0, .int .i64 0, .int .i64 3, .int .i64 0, .int .i64 0, .int .i64 0], .agg #[.int .i64 1, .int .i64 2]] w fun e w' => e = .returned (.agg #[.int .i64 1, .int .i64 0, .int .i64 0]) ∧ Below w.heap.size w w') := Lib.hid (fun w => by
    have h := vec_Along 0 0 0 3 0 0 0 1 2 w (by unfold I64; omega) (by unfold I64; omega) (by unfold I64; omega) (by unfold I64; omega) (by unfold I64; omega) (by unfold I64; omega) (by unfold I64; omega) (by unfold I64; omega)
    rw [show sat (0 + fat 3 1 2) = 1 by decide +kernel, show sat (0 + fat 0 1 2) = 0 by decide +kernel] at h
    exact h)
  go_enter Try.func26, Try.ntmps26
  go_upto_region 2 with (go_at_call 6; (with_reducible refine (U.out _).mono ?_); rintro e w1 ⟨rfl, h1⟩)
  obtain ⟨W, hW⟩ : ∃ W, W = w1.alloc (.cells #[.int .i64 0, .int .i64 0, .int .i64 16384] 23) := ⟨_, rfl⟩
  obtain ⟨g, hg⟩ : ∃ g, g = w1.heap.size := ⟨_, rfl⟩
  have hB : Below w.heap.size w W := by rw [hW]; exact h1.alloc (h1.size) _
  have hk : Bk W g 23 #[.int .i64 0, .int .i64 0, .int .i64 16384] := by rw [hW, hg]; exact Bk.new _ _ _
  obtain ⟨c0, c1, c2⟩ := bw_bk3 hk
  rw [← hW, ← hg]
  have HB := Lib.hid hB
  clear hW hg h1 hB hk
  obtain ⟨p0, hp0⟩ : ∃ p0 : BW W, p0.w = W := ⟨BW.start W, rfl⟩
  rw [← hp0]
  clear hp0
  go_wp2_with (first
    | (go_at_call 16; (with_reducible refine (bw_call C.out _).mono ?_); rintro e w' ⟨rfl, q, rfl⟩)
    | (go_at_call 20; (with_reducible refine (bw_call L.out _).mono ?_); rintro e w' ⟨rfl, q, rfl⟩)
    | (go_at_call 24; (with_reducible refine (bw_call A.out _).mono ?_); rintro e w' ⟨rfl, q, rfl⟩))
  go_ret
  exact ⟨rfl, bw_below HB.out _⟩

end Go.Proofs.Ytegflpokeepndaa
