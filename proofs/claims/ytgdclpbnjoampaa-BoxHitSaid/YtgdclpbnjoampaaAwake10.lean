/- The chapter's example holds: the contract of the statements' own awake, layer 10. -/
import Derived.Test.YtgdclpbnjoampaaBox10
import Derived.Test.YtgdclpbnjoampaaTail
import Derived.Deep.DeepCutAuto
namespace Go.Proofs.Ytgdclpbnjoampaa
open Go.RowKit Go.Proofs.Sky
set_option linter.unusedVariables false

set_option maxRecDepth 100000 in
set_option maxHeartbeats 8000000 in
theorem awake10 (w : World) :
    Calls Try.prog 7 #[] w fun e w' => e = .returned (.bool true) ∧ Below w.heap.size w w' := by
  have KA : Hid (∀ w, Calls Try.prog 15 #[.agg #[.int .i64 0, .int .i64 0, .int .i64 0, .int .i64 2, .int .i64 3, .int .i64 4]] w fun r w' => r = .returned (.int .i64 26) ∧ Below w.heap.size w w') := Lib.hid (fun w => by
    have h := box_Area 0 0 0 2 3 4 w
    rw [show bArea ((0, 0, 0), (2, 3, 4)) = 26 by decide +kernel] at h
    exact h)
  have KM : Hid (∀ w, Calls Try.prog 18 #[.agg #[.int .i64 0, .int .i64 0, .int .i64 0, .int .i64 2, .int .i64 3, .int .i64 4], .int .i64 1] w fun r w' => r = .returned (.int .i64 3) ∧ Below w.heap.size w w') := Lib.hid (fun w => by
    have h := box_Mid 0 0 0 2 3 4 1 w (by unfold I64; omega)
    rw [show bMid ((0, 0, 0), (2, 3, 4)) 1 = 3 by decide +kernel] at h
    exact h)
  have KG : Hid (∀ w, Calls Try.prog 19 #[.agg #[.int .i64 0, .int .i64 0, .int .i64 0, .int .i64 2, .int .i64 3, .int .i64 4], .int .i64 1] w fun r w' => r = .returned (.agg #[.int .i64 (-1), .int .i64 (-1), .int .i64 (-1), .int .i64 3, .int .i64 4, .int .i64 5]) ∧ Below w.heap.size w w') := Lib.hid (fun w => by
    have h := box_Grow 0 0 0 2 3 4 1 w (by unfold I64; omega)
    rw [show bGrow ((0, 0, 0), (2, 3, 4)) 1 = ((-1, -1, -1), (3, 4, 5)) by decide +kernel] at h
    exact h)
  have K1 : Hid (∀ w, Calls Try.prog 10 #[.agg #[.int .i64 0, .int .i64 0, .int .i64 0, .int .i64 2, .int .i64 3, .int .i64 4], .agg #[.int .i64 (-1), .int .i64 1, .int .i64 1, .int .i64 1, .int .i64 0, .int .i64 0, .int .i64 0], .agg #[.int .i64 0, .int .i64 0]] w fun r w' => r = .returned (.bool true) ∧ Below w.heap.size w w') := Lib.hid (fun w => by
    have h := box_Hit 0 0 0 2 3 4 (-1) 1 1 1 0 0 0 0 0 w (by unfold I64; omega) (by unfold I64; omega)
    rw [show bHit ((0, 0, 0), (2, 3, 4)) (-1, 1, 1) (1, 0, 0) 0 0 = true from bHit_iff.2 ⟨by decide +kernel, by decide +kernel, by decide +kernel, 1, 1, by omega, by omega, by omega, by unfold onAx; simp, by unfold onAx; simp, by unfold onAx; simp⟩] at h
    exact h)
  have K2 : Hid (∀ w, Calls Try.prog 10 #[.agg #[.int .i64 0, .int .i64 0, .int .i64 0, .int .i64 2, .int .i64 3, .int .i64 4], .agg #[.int .i64 (-1), .int .i64 1, .int .i64 1, .int .i64 1, .int .i64 0, .int .i64 0, .int .i64 0], .agg #[.int .i64 1, .int .i64 2]] w fun r w' => r = .returned (.bool false) ∧ Below w.heap.size w w') := Lib.hid (fun w => by
    have h := box_Hit 0 0 0 2 3 4 (-1) 1 1 1 0 0 0 1 2 w (by unfold I64; omega) (by unfold I64; omega)
    have hf : bHit ((0, 0, 0), (2, 3, 4)) (-1, 1, 1) (1, 0, 0) 1 2 = false := by
      rw [Bool.eq_false_iff]
      intro ht
      obtain ⟨_, _, _, p, q, hq, hp, hm, h1, _, _⟩ := bHit_iff.1 ht
      have := hm (by omega)
      unfold onAx at h1
      dsimp only at h1
      omega
    rw [hf] at h
    exact h)
  have hf : ∀ w, (Instr.field 37 (.agg #[.int .i64 (-1), .int .i64 (-1), .int .i64 (-1), .int .i64 3, .int .i64 4, .int .i64 5]) 1).run Try.prog w = .ok (.agg #[.int .i64 3, .int .i64 4, .int .i64 5]) w := fun _ => by kernel_rfl
  go_enter Try.func7, Try.ntmps7
  go_upto_region 3 with (fail)
  obtain ⟨W1, hW1⟩ : ∃ W, W = (w.alloc (.cells #[.int .i64 0, .int .i64 0, .int .i64 0, .int .i64 2, .int .i64 3, .int .i64 4] 37)).alloc (.cells #[.int .i64 (-1), .int .i64 1, .int .i64 1, .int .i64 1, .int .i64 0, .int .i64 0, .int .i64 0] 27) := ⟨_, rfl⟩
  obtain ⟨k_b, k_r, B1⟩ := st2 hW1
  rw [← hW1]
  clear hW1
  have l_r : w.heap.size < w.heap.size + 1 := by omega
  generalize w.heap.size + 1 = g_r at *
  obtain ⟨c_b_0, c_b_1, c_b_2, c_b_3, c_b_4, c_b_5⟩ := bwc6 (k_b)
  obtain ⟨c_r_0, c_r_1, c_r_2, c_r_3, c_r_4, c_r_5, c_r_6⟩ := bwc7 (k_r)
  obtain ⟨p1, hp1⟩ : ∃ p : BW W1, p.w = W1 := ⟨BW.start W1, rfl⟩
  rw [← hp1]
  clear hp1
  go_wp2_with (first
    | (go_at_call 15; (first | (with_reducible refine (bw_call KA.out _).mono ?_)); rintro e w' ⟨rfl, q, rfl⟩)
    | (go_at_call 18; (first | (with_reducible refine (bw_call KM.out _).mono ?_)); rintro e w' ⟨rfl, q, rfl⟩)
    | (go_at_call 19; (first | (with_reducible refine (bw_call KG.out _).mono ?_)); rintro e w' ⟨rfl, q, rfl⟩)
    | (go_at_call 10; (first | (with_reducible refine (bw_call K1.out _).mono ?_) | (with_reducible refine (bw_call K2.out _).mono ?_)); rintro e w' ⟨rfl, q, rfl⟩))
  go_ret
  exact ⟨rfl, bw_below B1 _⟩

end Go.Proofs.Ytgdclpbnjoampaa
