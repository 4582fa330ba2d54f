/- The chapter's example holds: the contract of the statements' own awake, layer 12. -/
import Derived.Test.YtppejnfiphkmnaaBall12
import Derived.Test.YtppejnfiphkmnaaTail
import Derived.Deep.DeepCutAuto
namespace Go.Proofs.Ytppejnfiphkmnaa
open Go.RowKit Go.Proofs.Sky
set_option linter.unusedVariables false

set_option maxRecDepth 100000 in
set_option maxHeartbeats 8000000 in
theorem awake12 (w : World) :
    Calls Try.prog 16 #[] w fun e w' => e = .returned (.bool true) ∧ Below w.heap.size w w' := by
  have KH : Hid (∀ w, Calls Try.prog 6 #[.agg #[.int .i64 0, .int .i64 0, .int .i64 0], .int .i64 4, .agg #[.int .i64 0, .int .i64 0, .int .i64 (-10), .int .i64 0, .int .i64 0, .int .i64 2, .int .i64 (-1)]] w fun r w' => r = .returned (.tuple #[.agg #[.int .i64 12, .int .i64 4], .bool true]) ∧ Below w.heap.size w w') := Lib.hid (fun w => by
    have h := ball_Hit 0 0 0 4 0 0 (-10) 0 0 2 (-1) w (by unfold I3 I64; simp) (by unfold I64; omega) (by unfold I3 I64; simp) (by unfold I3 I64; simp)
    rw [show ballH (0, 0, 0) 4 (0, 0, -10) (0, 0, 2) = ((12, 4), true) by decide +kernel] at h
    exact h)
  have KT : Hid (∀ w, Calls Try.prog 8 #[.agg #[.int .i64 0, .int .i64 0, .int .i64 0], .int .i64 4, .agg #[.int .i64 0, .int .i64 0, .int .i64 (-4), .int .i64 0, .int .i64 0, .int .i64 1, .int .i64 0]] w fun r w' => r = .returned (.tuple #[.agg #[.int .i64 8, .int .i64 1], .bool true]) ∧ Below w.heap.size w w') := Lib.hid (fun w => by
    have h := ball_Through 0 0 0 4 0 0 (-4) 0 0 1 0 w (by unfold I3 I64; simp) (by unfold I64; omega) (by unfold I3 I64; simp) (by unfold I3 I64; simp)
    rw [show ballT (0, 0, 0) 4 (0, 0, -4) (0, 0, 1) = ((8, 1), true) by decide +kernel] at h
    exact h)
  have KI : Hid (∀ w, Calls Try.prog 14 #[.agg #[.int .i64 0, .int .i64 0, .int .i64 0], .int .i64 4, .agg #[.int .i64 4, .int .i64 0, .int .i64 0]] w fun r w' => r = .returned (.bool true) ∧ Below w.heap.size w w') := Lib.hid (fun w => by
    have h := ball_Inside 0 0 0 4 4 0 0 w (by unfold I3 I64; simp) (by unfold I64; omega) (by unfold I3 I64; simp)
    rw [show ballI (0, 0, 0) 4 (4, 0, 0) = true by decide +kernel] at h
    exact h)
  have KN : Hid (∀ w, Calls Try.prog 12 #[.agg #[.int .i64 0, .int .i64 0, .int .i64 0], .agg #[.int .i64 0, .int .i64 0, .int .i64 0]] w fun r w' => r = .returned (.agg #[.int .i64 0, .int .i64 0, .int .i64 16384]) ∧ Below w.heap.size w w') := Lib.hid (fun w => by
    have h := ball_Normal 0 0 0 0 0 0 w (by unfold I3 I64; simp) (by unfold I3 I64; simp)
    rw [show ballN (0, 0, 0) (0, 0, 0) = (0, 0, 16384) by decide +kernel] at h
    exact h)
  go_enter Try.func16, Try.ntmps16
  go_upto_region 2 with (fail)
  obtain ⟨W1, hW1⟩ : ∃ W, W = w.alloc (.cells #[.int .i64 0, .int .i64 0, .int .i64 (-10), .int .i64 0, .int .i64 0, .int .i64 2, .int .i64 (-1)] 25) := ⟨_, rfl⟩
  obtain ⟨k_x, B1⟩ := st1 hW1
  rw [← hW1]
  clear hW1
  obtain ⟨c_x_0, c_x_1, c_x_2, c_x_3, c_x_4, c_x_5, c_x_6⟩ := bwc7 (k_x)
  obtain ⟨p1, hp1⟩ : ∃ p : BW W1, p.w = W1 := ⟨BW.start W1, rfl⟩
  rw [← hp1]
  clear hp1
  go_upto_region 3 with (first
    | (go_at_call 6; (first | (with_reducible refine (bw_call KH.out _).mono ?_)); rintro e w' ⟨rfl, q, rfl⟩))
  obtain ⟨W2, hW2⟩ : ∃ W, W = q.w.alloc (.cells #[.int .i64 12, .int .i64 4] 27) := ⟨_, rfl⟩
  have B2 : Below w.heap.size w W2 := by rw [hW2]; exact (bw_below B1 q).alloc (bw_below B1 q).size _
  have l_t : w.heap.size < q.w.heap.size := (k_x.below q.h).lt
  have o_t : w.heap.size ≤ q.w.heap.size := (bw_below B1 q).size
  have k_x := bka hW2 (k_x.below q.h)
  have k_t := bkn hW2
  rw [← hW2]
  clear hW2
  clear B1
  clear c_x_0 c_x_1 c_x_2 c_x_3 c_x_4 c_x_5 c_x_6
  generalize q.w.heap.size = g_t at *
  obtain ⟨c_x_0, c_x_1, c_x_2, c_x_3, c_x_4, c_x_5, c_x_6⟩ := bwc7 (k_x)
  obtain ⟨c_t_0, c_t_1⟩ := bwc2 (k_t)
  obtain ⟨p2, hp2⟩ : ∃ p : BW W2, p.w = W2 := ⟨BW.start W2, rfl⟩
  rw [← hp2]
  clear hp2
  go_upto_region 4 with (first
    | (go_at_call 8; (first | (with_reducible refine (bw_call KT.out _).mono ?_)); rintro e w' ⟨rfl, q, rfl⟩))
  obtain ⟨W3, hW3⟩ : ∃ W, W = q.w.alloc (.cells #[.int .i64 8, .int .i64 1] 27) := ⟨_, rfl⟩
  have B3 : Below w.heap.size w W3 := by rw [hW3]; exact (bw_below B2 q).alloc (bw_below B2 q).size _
  have l_s : g_t < q.w.heap.size := (k_t.below q.h).lt
  have o_s : w.heap.size ≤ q.w.heap.size := (bw_below B2 q).size
  have k_x := bka hW3 (k_x.below q.h)
  have k_t := bka hW3 (k_t.below q.h)
  have k_s := bkn hW3
  rw [← hW3]
  clear hW3
  clear B2
  clear c_x_0 c_x_1 c_x_2 c_x_3 c_x_4 c_x_5 c_x_6 c_t_0 c_t_1
  generalize q.w.heap.size = g_s at *
  obtain ⟨c_x_0, c_x_1, c_x_2, c_x_3, c_x_4, c_x_5, c_x_6⟩ := bwc7 (k_x)
  obtain ⟨c_t_0, c_t_1⟩ := bwc2 (k_t)
  obtain ⟨c_s_0, c_s_1⟩ := bwc2 (k_s)
  obtain ⟨p3, hp3⟩ : ∃ p : BW W3, p.w = W3 := ⟨BW.start W3, rfl⟩
  rw [← hp3]
  clear hp3
  go_wp2_with (first
    | (go_at_call 14; (first | (with_reducible refine (bw_call KI.out _).mono ?_)); rintro e w' ⟨rfl, q, rfl⟩)
    | (go_at_call 12; (first | (with_reducible refine (bw_call KN.out _).mono ?_)); rintro e w' ⟨rfl, q, rfl⟩))
  go_ret
  exact ⟨rfl, bw_below B3 _⟩

end Go.Proofs.Ytppejnfiphkmnaa
