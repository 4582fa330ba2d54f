/- The chapter's example holds: the contract of the statements' own awake, layer 13. -/
import Derived.Test.YtdmfmdekcojjbaaGreatPrim13
import Derived.Test.YtdmfmdekcojjbaaGreatTail
import Derived.Deep.DeepCutAuto
namespace Go.Proofs.YtdmfmdekcojjbaaGreat
open Go.RowKit Go.Proofs.Sky
set_option linter.unusedVariables false

set_option maxRecDepth 100000 in
set_option maxHeartbeats 8000000 in
theorem awake13 (w : World) :
    Calls Tryz.prog 7 #[] w fun e w' => e = .returned (.bool true) ∧ Below w.heap.size w w' := by
  have KB : Hid (∀ w, Calls Tryz.prog 9 #[.agg #[.int .i64 2, .int .i64 0, .int .i64 0, .int .i64 0, .int .i64 0, .int .i64 0, .int .i64 0, .int .i64 0, .int .i64 0, .int .i64 0, .int .i64 5, .int .i64 0]] w fun r w' => r = .returned (.agg #[.int .i64 (-5), .int .i64 (-5), .int .i64 (-5), .int .i64 5, .int .i64 5, .int .i64 5]) ∧ Below w.heap.size w w') := Lib.hid (fun w => by
    have h := prim_Box 2 0 0 0 0 0 0 0 0 0 5 0 w (by unfold Pr.I I3 I64; simp)
    rw [show pBox (Pr.mk 2 (0, 0, 0) (0, 0, 0) (0, 0, 0) 5 0) = ((-5, -5, -5), (5, 5, 5)) by decide +kernel] at h
    exact h)
  have KH : Hid (∀ w, Calls Tryz.prog 8 #[.agg #[.int .i64 2, .int .i64 0, .int .i64 0, .int .i64 0, .int .i64 0, .int .i64 0, .int .i64 0, .int .i64 0, .int .i64 0, .int .i64 0, .int .i64 5, .int .i64 0], .int .i64 3, .agg #[.int .i64 (-20), .int .i64 0, .int .i64 0, .int .i64 1, .int .i64 0, .int .i64 0, .int .i64 (-1)]] w fun r w' => r = .returned (.tuple #[.agg #[.int .i64 15, .int .i64 1], .bool true]) ∧ Below w.heap.size w w') := Lib.hid (fun w => by
    have h := prim_Hit 2 0 0 0 0 0 0 0 0 0 5 0 3 (-20) 0 0 1 0 0 (-1) w (by unfold Pr.I I3 I64; simp) (by unfold I64; omega) (by unfold I3 I64; simp) (by unfold I3 I64; simp) (by unfold I64; omega)
    rw [show pHit (Pr.mk 2 (0, 0, 0) (0, 0, 0) (0, 0, 0) 5 0) 3 (-20, 0, 0) (1, 0, 0) (-1) = ((15, 1), true) by decide +kernel] at h
    exact h)
  have KR : Hid (∀ w, Calls Tryz.prog 20 #[.agg #[.int .i64 0, .int .i64 0, .int .i64 0, .int .i64 0, .int .i64 0, .int .i64 0, .int .i64 0, .int .i64 0, .int .i64 0, .int .i64 0, .int .i64 0, .int .i64 0]] w fun r w' => r = .returned (.bool false) ∧ Below w.heap.size w w') := Lib.hid (fun w => by
    have h := prim_Right 0 0 0 0 0 0 0 0 0 0 0 0 w (by unfold Pr.I I3 I64; simp)
    rw [show pRight (Pr.mk 0 (0, 0, 0) (0, 0, 0) (0, 0, 0) 0 0) = false by decide +kernel] at h
    exact h)
  go_enter Tryz.func7, Tryz.ntmps7
  go_upto_region 2 with (fail)
  obtain ⟨W1, hW1⟩ : ∃ W, W = w.alloc (.cells #[.int .i64 2, .int .i64 0, .int .i64 0, .int .i64 0, .int .i64 0, .int .i64 0, .int .i64 0, .int .i64 0, .int .i64 0, .int .i64 0, .int .i64 5, .int .i64 0] 25) := ⟨_, rfl⟩
  have B1 : Below w.heap.size w W1 := by rw [hW1]; go_grown
  have k_p : Bk W1 (w.heap.size) 25 #[.int .i64 2, .int .i64 0, .int .i64 0, .int .i64 0, .int .i64 0, .int .i64 0, .int .i64 0, .int .i64 0, .int .i64 0, .int .i64 0, .int .i64 5, .int .i64 0] := by rw [hW1]; exact Bk.new _ _ _
  rw [← hW1]
  clear hW1
  obtain ⟨c_p_0, c_p_1, c_p_2, c_p_3, c_p_4, c_p_5, c_p_6, c_p_7, c_p_8, c_p_9, c_p_10, c_p_11⟩ := bwc12 (k_p)
  obtain ⟨p1, hp1⟩ : ∃ p : BW W1, p.w = W1 := ⟨BW.start W1, rfl⟩
  rw [← hp1]
  clear hp1
  go_upto_region 3 with (first
    | (go_at_call 9; (first | (with_reducible refine (bw_call KB.out _).mono ?_)); rintro e w' ⟨rfl, q, rfl⟩))
  obtain ⟨W2, hW2⟩ : ∃ W, W = q.w.alloc (.cells #[.int .i64 (-5), .int .i64 (-5), .int .i64 (-5), .int .i64 5, .int .i64 5, .int .i64 5] 36) := ⟨_, rfl⟩
  have B2 : Below w.heap.size w W2 := by rw [hW2]; exact (bw_below B1 q).alloc (bw_below B1 q).size _
  have l_b : w.heap.size < q.w.heap.size := (k_p.below q.h).lt
  have o_b : w.heap.size ≤ q.w.heap.size := (bw_below B1 q).size
  have k_p := bka hW2 (k_p.below q.h)
  have k_b := bkn hW2
  rw [← hW2]
  clear hW2
  clear B1
  clear c_p_0 c_p_1 c_p_2 c_p_3 c_p_4 c_p_5 c_p_6 c_p_7 c_p_8 c_p_9 c_p_10 c_p_11
  generalize q.w.heap.size = g_b at *
  obtain ⟨c_p_0, c_p_1, c_p_2, c_p_3, c_p_4, c_p_5, c_p_6, c_p_7, c_p_8, c_p_9, c_p_10, c_p_11⟩ := bwc12 (k_p)
  obtain ⟨c_b_0, c_b_1, c_b_2, c_b_3, c_b_4, c_b_5⟩ := bwc6 (k_b)
  obtain ⟨p2, hp2⟩ : ∃ p : BW W2, p.w = W2 := ⟨BW.start W2, rfl⟩
  rw [← hp2]
  clear hp2
  go_upto_region 4 with (fail)
  obtain ⟨W3, hW3⟩ : ∃ W, W = p2.w.alloc (.cells #[.int .i64 (-20), .int .i64 0, .int .i64 0, .int .i64 1, .int .i64 0, .int .i64 0, .int .i64 (-1)] 27) := ⟨_, rfl⟩
  have B3 : Below w.heap.size w W3 := by rw [hW3]; exact (bw_below B2 p2).alloc (bw_below B2 p2).size _
  have l_x : g_b < p2.w.heap.size := (k_b.below p2.h).lt
  have o_x : w.heap.size ≤ p2.w.heap.size := (bw_below B2 p2).size
  have k_p := bka hW3 (k_p.below p2.h)
  have k_b := bka hW3 (k_b.below p2.h)
  have k_x := bkn hW3
  rw [← hW3]
  clear hW3
  clear B2
  clear c_p_0 c_p_1 c_p_2 c_p_3 c_p_4 c_p_5 c_p_6 c_p_7 c_p_8 c_p_9 c_p_10 c_p_11 c_b_0 c_b_1 c_b_2 c_b_3 c_b_4 c_b_5
  generalize p2.w.heap.size = g_x at *
  obtain ⟨c_p_0, c_p_1, c_p_2, c_p_3, c_p_4, c_p_5, c_p_6, c_p_7, c_p_8, c_p_9, c_p_10, c_p_11⟩ := bwc12 (k_p)
  obtain ⟨c_b_0, c_b_1, c_b_2, c_b_3, c_b_4, c_b_5⟩ := bwc6 (k_b)
  obtain ⟨c_x_0, c_x_1, c_x_2, c_x_3, c_x_4, c_x_5, c_x_6⟩ := bwc7 (k_x)
  obtain ⟨p3, hp3⟩ : ∃ p : BW W3, p.w = W3 := ⟨BW.start W3, rfl⟩
  rw [← hp3]
  clear hp3
  go_upto_region 5 with (first
    | (go_at_call 8; (first | (with_reducible refine (bw_call KH.out _).mono ?_)); rintro e w' ⟨rfl, q, rfl⟩))
  obtain ⟨W4, hW4⟩ : ∃ W, W = q.w.alloc (.cells #[.int .i64 15, .int .i64 1] 32) := ⟨_, rfl⟩
  have B4 : Below w.heap.size w W4 := by rw [hW4]; exact (bw_below B3 q).alloc (bw_below B3 q).size _
  have l_t : g_x < q.w.heap.size := (k_x.below q.h).lt
  have o_t : w.heap.size ≤ q.w.heap.size := (bw_below B3 q).size
  have k_p := bka hW4 (k_p.below q.h)
  have k_b := bka hW4 (k_b.below q.h)
  have k_x := bka hW4 (k_x.below q.h)
  have k_t := bkn hW4
  rw [← hW4]
  clear hW4
  clear B3
  clear c_p_0 c_p_1 c_p_2 c_p_3 c_p_4 c_p_5 c_p_6 c_p_7 c_p_8 c_p_9 c_p_10 c_p_11 c_b_0 c_b_1 c_b_2 c_b_3 c_b_4 c_b_5 c_x_0 c_x_1 c_x_2 c_x_3 c_x_4 c_x_5 c_x_6
  generalize q.w.heap.size = g_t at *
  obtain ⟨c_p_0, c_p_1, c_p_2, c_p_3, c_p_4, c_p_5, c_p_6, c_p_7, c_p_8, c_p_9, c_p_10, c_p_11⟩ := bwc12 (k_p)
  obtain ⟨c_b_0, c_b_1, c_b_2, c_b_3, c_b_4, c_b_5⟩ := bwc6 (k_b)
  obtain ⟨c_x_0, c_x_1, c_x_2, c_x_3, c_x_4, c_x_5, c_x_6⟩ := bwc7 (k_x)
  obtain ⟨c_t_0, c_t_1⟩ := bwc2 (k_t)
  obtain ⟨p4, hp4⟩ : ∃ p : BW W4, p.w = W4 := ⟨BW.start W4, rfl⟩
  rw [← hp4]
  clear hp4
  go_wp2_with (first
    | (go_at_call 20; (first | (with_reducible refine (bw_call KR.out _).mono ?_)); rintro e w' ⟨rfl, q, rfl⟩))
  go_ret
  exact ⟨rfl, bw_below B4 _⟩

end Go.Proofs.YtdmfmdekcojjbaaGreat
