/- The chapter's example holds: the contract of the statements' own awake, layer 11. -/
import Derived.Test.YtnidgokmndnenaaTri11
import Derived.Test.YtnidgokmndnenaaTail
import Derived.Deep.DeepCutAuto
namespace Go.Proofs.Ytnidgokmndnenaa
open Go.RowKit Go.Proofs.Sky
set_option linter.unusedVariables false

set_option maxRecDepth 100000 in
set_option maxHeartbeats 8000000 in
theorem awake11 (w : World) :
    Calls Try.prog 18 #[] w fun e w' => e = .returned (.bool true) ∧ Below w.heap.size w w' := by
  have K1 : Hid (∀ w, Calls Try.prog 8 #[.agg #[.int .i64 0, .int .i64 0, .int .i64 0], .agg #[.int .i64 4, .int .i64 0, .int .i64 0], .agg #[.int .i64 0, .int .i64 4, .int .i64 0], .agg #[.int .i64 1, .int .i64 1, .int .i64 (-5), .int .i64 0, .int .i64 0, .int .i64 1, .int .i64 0]] w fun r w' => r = .returned (.tuple #[.agg #[.int .i64 80, .int .i64 16], .bool true]) ∧ Below w.heap.size w w') := Lib.hid (fun w => by
    have h := tri_Hit 0 0 0 4 0 0 0 4 0 1 1 (-5) 0 0 1 0 w (by unfold I3 I64; simp) (by unfold I3 I64; simp) (by unfold I3 I64; simp) (by unfold I3 I64; simp) (by unfold I3 I64; simp)
    rw [show tHit (0, 0, 0) (4, 0, 0) (0, 4, 0) (1, 1, -5) (0, 0, 1) = ((80, 16), true) by decide +kernel] at h
    exact h)
  have K2 : Hid (∀ w, Calls Try.prog 8 #[.agg #[.int .i64 0, .int .i64 0, .int .i64 0], .agg #[.int .i64 4, .int .i64 0, .int .i64 0], .agg #[.int .i64 0, .int .i64 4, .int .i64 0], .agg #[.int .i64 3, .int .i64 3, .int .i64 (-5), .int .i64 0, .int .i64 0, .int .i64 1, .int .i64 0]] w fun r w' => r = .returned (.tuple #[.agg #[.int .i64 0, .int .i64 0], .bool false]) ∧ Below w.heap.size w w') := Lib.hid (fun w => by
    have h := tri_Hit 0 0 0 4 0 0 0 4 0 3 3 (-5) 0 0 1 0 w (by unfold I3 I64; simp) (by unfold I3 I64; simp) (by unfold I3 I64; simp) (by unfold I3 I64; simp) (by unfold I3 I64; simp)
    rw [show tHit (0, 0, 0) (4, 0, 0) (0, 4, 0) (3, 3, -5) (0, 0, 1) = ((0, 0), false) by decide +kernel] at h
    exact h)
  have KN : Hid (∀ w, Calls Try.prog 6 #[.agg #[.int .i64 0, .int .i64 0, .int .i64 0], .agg #[.int .i64 4, .int .i64 0, .int .i64 0], .agg #[.int .i64 0, .int .i64 4, .int .i64 0]] w fun r w' => r = .returned (.tuple #[.agg #[.int .i64 0, .int .i64 0, .int .i64 16384], .bool true]) ∧ Below w.heap.size w w') := Lib.hid (fun w => by
    have h := tri_Normal 0 0 0 4 0 0 0 4 0 w (by unfold I3 I64; simp) (by unfold I3 I64; simp) (by unfold I3 I64; simp)
    rw [show tNorm (0, 0, 0) (4, 0, 0) (0, 4, 0) = ((0, 0, 16384), true) by decide +kernel] at h
    exact h)
  have KA : Hid (∀ w, Calls Try.prog 14 #[.agg #[.int .i64 0, .int .i64 0, .int .i64 0], .agg #[.int .i64 4, .int .i64 0, .int .i64 0], .agg #[.int .i64 0, .int .i64 4, .int .i64 0]] w fun r w' => r = .returned (.int .i64 16) ∧ Below w.heap.size w w') := Lib.hid (fun w => by
    have h := tri_Area 0 0 0 4 0 0 0 4 0 w (by unfold I3 I64; simp) (by unfold I3 I64; simp) (by unfold I3 I64; simp)
    rw [show tArea (0, 0, 0) (4, 0, 0) (0, 4, 0) = 16 by decide +kernel] at h
    exact h)
  have KT : Hid (∀ w, Calls Try.prog 16 #[.agg #[.int .i64 0, .int .i64 0, .int .i64 0], .agg #[.int .i64 4, .int .i64 0, .int .i64 0], .agg #[.int .i64 0, .int .i64 4, .int .i64 0], .int .i64 65536, .int .i64 65536] w fun r w' => r = .returned (.agg #[.int .i64 0, .int .i64 0, .int .i64 0]) ∧ Below w.heap.size w w') := Lib.hid (fun w => by
    have h := tri_At 0 0 0 4 0 0 0 4 0 65536 65536 w (by unfold I3 I64; simp) (by unfold I3 I64; simp) (by unfold I3 I64; simp) (by unfold I64; omega) (by unfold I64; omega)
    rw [show tAt (0, 0, 0) (4, 0, 0) (0, 4, 0) 65536 65536 = (0, 0, 0) by decide +kernel] at h
    exact h)
  go_enter Try.func18, Try.ntmps18
  go_upto_region 2 with (fail)
  obtain ⟨W1, hW1⟩ : ∃ W, W = ((w.alloc (.cells #[.int .i64 0, .int .i64 0, .int .i64 0] 23)).alloc (.cells #[.int .i64 4, .int .i64 0, .int .i64 0] 23)).alloc (.cells #[.int .i64 0, .int .i64 4, .int .i64 0] 23) := ⟨_, rfl⟩
  obtain ⟨k_a, k_b, k_c, B1⟩ := st3 hW1
  rw [← hW1]
  clear hW1
  have l_b : w.heap.size < w.heap.size + 1 := by omega
  have l_c : w.heap.size + 1 < w.heap.size + 1 + 1 := by omega
  generalize w.heap.size + 1 + 1 = g_c at *
  generalize w.heap.size + 1 = g_b at *
  obtain ⟨c_a_0, c_a_1, c_a_2⟩ := bwc3 (k_a)
  obtain ⟨c_b_0, c_b_1, c_b_2⟩ := bwc3 (k_b)
  obtain ⟨c_c_0, c_c_1, c_c_2⟩ := bwc3 (k_c)
  obtain ⟨p1, hp1⟩ : ∃ p : BW W1, p.w = W1 := ⟨BW.start W1, rfl⟩
  rw [← hp1]
  clear hp1
  go_upto_region 3 with (first
    | (go_at_call 8; (first | (with_reducible refine (bw_call K1.out _).mono ?_)); rintro e w' ⟨rfl, q, rfl⟩))
  obtain ⟨W2, hW2⟩ : ∃ W, W = q.w.alloc (.cells #[.int .i64 80, .int .i64 16] 29) := ⟨_, rfl⟩
  have B2 : Below w.heap.size w W2 := by rw [hW2]; exact (bw_below B1 q).alloc (bw_below B1 q).size _
  have l_f : g_c < q.w.heap.size := (k_c.below q.h).lt
  have o_f : w.heap.size ≤ q.w.heap.size := (bw_below B1 q).size
  have k_a := bka hW2 (k_a.below q.h)
  have k_b := bka hW2 (k_b.below q.h)
  have k_c := bka hW2 (k_c.below q.h)
  have k_f := bkn hW2
  rw [← hW2]
  clear hW2
  clear B1
  clear c_a_0 c_a_1 c_a_2 c_b_0 c_b_1 c_b_2 c_c_0 c_c_1 c_c_2
  generalize q.w.heap.size = g_f at *
  obtain ⟨c_a_0, c_a_1, c_a_2⟩ := bwc3 (k_a)
  obtain ⟨c_b_0, c_b_1, c_b_2⟩ := bwc3 (k_b)
  obtain ⟨c_c_0, c_c_1, c_c_2⟩ := bwc3 (k_c)
  obtain ⟨c_f_0, c_f_1⟩ := bwc2 (k_f)
  obtain ⟨p2, hp2⟩ : ∃ p : BW W2, p.w = W2 := ⟨BW.start W2, rfl⟩
  rw [← hp2]
  clear hp2
  go_upto_region 4 with (first
    | (go_at_call 8; (first | (with_reducible refine (bw_call K2.out _).mono ?_)); rintro e w' ⟨rfl, q, rfl⟩))
  obtain ⟨W3, hW3⟩ : ∃ W, W = q.w.alloc (.cells #[.int .i64 0, .int .i64 0] 29) := ⟨_, rfl⟩
  have B3 : Below w.heap.size w W3 := by rw [hW3]; exact (bw_below B2 q).alloc (bw_below B2 q).size _
  have l_h : g_f < q.w.heap.size := (k_f.below q.h).lt
  have o_h : w.heap.size ≤ q.w.heap.size := (bw_below B2 q).size
  have k_a := bka hW3 (k_a.below q.h)
  have k_b := bka hW3 (k_b.below q.h)
  have k_c := bka hW3 (k_c.below q.h)
  have k_f := bka hW3 (k_f.below q.h)
  have k_h := bkn hW3
  rw [← hW3]
  clear hW3
  clear B2
  clear c_a_0 c_a_1 c_a_2 c_b_0 c_b_1 c_b_2 c_c_0 c_c_1 c_c_2 c_f_0 c_f_1
  generalize q.w.heap.size = g_h at *
  obtain ⟨c_a_0, c_a_1, c_a_2⟩ := bwc3 (k_a)
  obtain ⟨c_b_0, c_b_1, c_b_2⟩ := bwc3 (k_b)
  obtain ⟨c_c_0, c_c_1, c_c_2⟩ := bwc3 (k_c)
  obtain ⟨c_f_0, c_f_1⟩ := bwc2 (k_f)
  obtain ⟨c_h_0, c_h_1⟩ := bwc2 (k_h)
  obtain ⟨p3, hp3⟩ : ∃ p : BW W3, p.w = W3 := ⟨BW.start W3, rfl⟩
  rw [← hp3]
  clear hp3
  go_upto_region 5 with (first
    | (go_at_call 6; (first | (with_reducible refine (bw_call KN.out _).mono ?_)); rintro e w' ⟨rfl, q, rfl⟩))
  obtain ⟨W4, hW4⟩ : ∃ W, W = q.w.alloc (.cells #[.int .i64 0, .int .i64 0, .int .i64 16384] 23) := ⟨_, rfl⟩
  have B4 : Below w.heap.size w W4 := by rw [hW4]; exact (bw_below B3 q).alloc (bw_below B3 q).size _
  have l_n : g_h < q.w.heap.size := (k_h.below q.h).lt
  have o_n : w.heap.size ≤ q.w.heap.size := (bw_below B3 q).size
  have k_a := bka hW4 (k_a.below q.h)
  have k_b := bka hW4 (k_b.below q.h)
  have k_c := bka hW4 (k_c.below q.h)
  have k_f := bka hW4 (k_f.below q.h)
  have k_h := bka hW4 (k_h.below q.h)
  have k_n := bkn hW4
  rw [← hW4]
  clear hW4
  clear B3
  clear c_a_0 c_a_1 c_a_2 c_b_0 c_b_1 c_b_2 c_c_0 c_c_1 c_c_2 c_f_0 c_f_1 c_h_0 c_h_1
  generalize q.w.heap.size = g_n at *
  obtain ⟨c_a_0, c_a_1, c_a_2⟩ := bwc3 (k_a)
  obtain ⟨c_b_0, c_b_1, c_b_2⟩ := bwc3 (k_b)
  obtain ⟨c_c_0, c_c_1, c_c_2⟩ := bwc3 (k_c)
  obtain ⟨c_f_0, c_f_1⟩ := bwc2 (k_f)
  obtain ⟨c_h_0, c_h_1⟩ := bwc2 (k_h)
  obtain ⟨c_n_0, c_n_1, c_n_2⟩ := bwc3 (k_n)
  obtain ⟨p4, hp4⟩ : ∃ p : BW W4, p.w = W4 := ⟨BW.start W4, rfl⟩
  rw [← hp4]
  clear hp4
  refine wp_region_bw (by kernel_rfl) (by kernel_rfl) ?_
  repeat (go_big_quiet_step (first
    | (go_at_call 14; (first | (with_reducible exact bw_call KA.out _)))
    | (go_at_call 16; (first | (with_reducible exact bw_call KT.out _)))))
  refine wpQuiet_nil ?_
  intro _ hw'
  obtain ⟨q, rfl⟩ := hw'
  go_wp2
  go_ret
  exact ⟨rfl, bw_below B4 _⟩

end Go.Proofs.Ytnidgokmndnenaa
