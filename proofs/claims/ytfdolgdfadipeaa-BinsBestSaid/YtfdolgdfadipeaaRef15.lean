/- Contracts of the document's own answers: layer 10's Mid, Join and Area; layer 15's Bin and Left. -/
import Derived.Test.YtfdolgdfadipeaaRef10
import Derived.Test.YtfdolgdfadipeaaRef01
import Derived.Test.YtfdolgdfadipeaaMath15
import Derived.Test.YtfdolgdfadipeaaMem06
import Derived.Test.YtfdolgdfadipeaaRow
import Derived.Lib.MinMax
import Derived.Deep.DeepCutAuto
namespace Go.Proofs.Ytfdolgdfadipeaa
open Go.RowKit Go.Proofs.Sky
set_option linter.unusedVariables false

set_option maxRecDepth 100000 in
set_option maxHeartbeats 4000000 in
theorem ref10_Mid_no (a1 a2 a3 a4 a5 a6 i : Int) (w : World) (h : bRight ((a1, a2, a3), (a4, a5, a6)) = false) :
    Calls Try.prog 25 #[.agg #[.int .i64 a1, .int .i64 a2, .int .i64 a3, .int .i64 a4, .int .i64 a5, .int .i64 a6], .int .i64 i] w fun en w' => en = .returned (.int .i64 0) ∧ Below w.heap.size w w' := by
  have KA := Lib.hid (fun w => ref10_Right a1 a2 a3 a4 a5 a6 w)
  rw [h] at KA
  clear h
  go_enter Try.func25, Try.ntmps25
  go_upto_region 1 with (fail)
  obtain ⟨W1, hW1⟩ : ∃ W, W = w.alloc (.cells #[.int .i64 a1, .int .i64 a2, .int .i64 a3, .int .i64 a4, .int .i64 a5, .int .i64 a6] 28) := ⟨_, rfl⟩
  obtain ⟨k_b, B1⟩ := st1 hW1
  rw [← hW1]
  clear hW1
  obtain ⟨c_b_0, c_b_1, c_b_2, c_b_3, c_b_4, c_b_5⟩ := bwc6 (k_b)
  obtain ⟨p1, hp1⟩ : ∃ p : BW W1, p.w = W1 := ⟨BW.start W1, rfl⟩
  rw [← hp1]
  clear hp1
  go_wp2_with (first
    | (go_at_call 19; (first | (with_reducible refine (bw_call KA.out _).mono ?_)); rintro e w' ⟨rfl, q, rfl⟩))
  go_ret
  exact ⟨rfl, bw_below B1 _⟩

set_option maxRecDepth 100000 in
set_option maxHeartbeats 4000000 in
theorem ref10_Mid_neg (a1 a2 a3 a4 a5 a6 i : Int) (w : World) (h : bRight ((a1, a2, a3), (a4, a5, a6)) = true) (h2 : i < 0) :
    Calls Try.prog 25 #[.agg #[.int .i64 a1, .int .i64 a2, .int .i64 a3, .int .i64 a4, .int .i64 a5, .int .i64 a6], .int .i64 i] w fun en w' => en = .returned (.int .i64 0) ∧ Below w.heap.size w w' := by
  have KA := Lib.hid (fun w => ref10_Right a1 a2 a3 a4 a5 a6 w)
  rw [h] at KA
  have t1 : decide (i < 0) = true := decide_eq_true h2
  clear h2
  clear h
  go_enter Try.func25, Try.ntmps25
  go_upto_region 1 with (fail)
  obtain ⟨W1, hW1⟩ : ∃ W, W = w.alloc (.cells #[.int .i64 a1, .int .i64 a2, .int .i64 a3, .int .i64 a4, .int .i64 a5, .int .i64 a6] 28) := ⟨_, rfl⟩
  obtain ⟨k_b, B1⟩ := st1 hW1
  rw [← hW1]
  clear hW1
  obtain ⟨c_b_0, c_b_1, c_b_2, c_b_3, c_b_4, c_b_5⟩ := bwc6 (k_b)
  obtain ⟨p1, hp1⟩ : ∃ p : BW W1, p.w = W1 := ⟨BW.start W1, rfl⟩
  rw [← hp1]
  clear hp1
  go_wp2_with (first
    | (go_at_call 19; (first | (with_reducible refine (bw_call KA.out _).mono ?_)); rintro e w' ⟨rfl, q, rfl⟩))
  go_ret
  exact ⟨rfl, bw_below B1 _⟩

set_option maxRecDepth 100000 in
set_option maxHeartbeats 4000000 in
theorem ref10_Mid_far (a1 a2 a3 a4 a5 a6 i : Int) (w : World) (h : bRight ((a1, a2, a3), (a4, a5, a6)) = true) (h2 : ¬ i < 0) (h3 : 2 < i) :
    Calls Try.prog 25 #[.agg #[.int .i64 a1, .int .i64 a2, .int .i64 a3, .int .i64 a4, .int .i64 a5, .int .i64 a6], .int .i64 i] w fun en w' => en = .returned (.int .i64 0) ∧ Below w.heap.size w w' := by
  have KA := Lib.hid (fun w => ref10_Right a1 a2 a3 a4 a5 a6 w)
  rw [h] at KA
  have t1 : decide (i < 0) = false := decide_eq_false h2
  have t2 : decide (2 < i) = true := decide_eq_true h3
  clear h2 h3
  clear h
  go_enter Try.func25, Try.ntmps25
  go_upto_region 1 with (fail)
  obtain ⟨W1, hW1⟩ : ∃ W, W = w.alloc (.cells #[.int .i64 a1, .int .i64 a2, .int .i64 a3, .int .i64 a4, .int .i64 a5, .int .i64 a6] 28) := ⟨_, rfl⟩
  obtain ⟨k_b, B1⟩ := st1 hW1
  rw [← hW1]
  clear hW1
  obtain ⟨c_b_0, c_b_1, c_b_2, c_b_3, c_b_4, c_b_5⟩ := bwc6 (k_b)
  obtain ⟨p1, hp1⟩ : ∃ p : BW W1, p.w = W1 := ⟨BW.start W1, rfl⟩
  rw [← hp1]
  clear hp1
  go_wp2_with (first
    | (go_at_call 19; (first | (with_reducible refine (bw_call KA.out _).mono ?_)); rintro e w' ⟨rfl, q, rfl⟩))
  go_ret
  exact ⟨rfl, bw_below B1 _⟩

set_option maxRecDepth 100000 in
set_option maxHeartbeats 4000000 in
theorem ref10_Mid_yes (a1 a2 a3 a4 a5 a6 i : Int) (w : World) (h : bRight ((a1, a2, a3), (a4, a5, a6)) = true) (h2 : ¬ i < 0) (h3 : ¬ 2 < i) :
    Calls Try.prog 25 #[.agg #[.int .i64 a1, .int .i64 a2, .int .i64 a3, .int .i64 a4, .int .i64 a5, .int .i64 a6], .int .i64 i] w fun en w' => en = .returned (.int .i64 (crd (a1, a2, a3) i + crd (a4, a5, a6) i)) ∧ Below w.heap.size w w' := by
  have KA := Lib.hid (fun w => ref10_Right a1 a2 a3 a4 a5 a6 w)
  rw [h] at KA
  have t1 : decide (i < 0) = false := decide_eq_false h2
  have t2 : decide (2 < i) = false := decide_eq_false h3
  have KL := Lib.hid (fun w => ref10_Coord a1 a2 a3 i w)
  have KH := Lib.hid (fun w => ref10_Coord a4 a5 a6 i w)
  have hin : -2097152 ≤ crd (a1, a2, a3) i + crd (a4, a5, a6) i ∧ crd (a1, a2, a3) i + crd (a4, a5, a6) i ≤ 2097152 := by
    have hm := bMid_in ((a1, a2, a3), (a4, a5, a6)) i
    unfold bMid at hm
    rw [if_pos ⟨h, by omega, by omega⟩] at hm
    exact hm
  clear h2 h3
  generalize crd (a1, a2, a3) i = c1 at *
  generalize crd (a4, a5, a6) i = c2 at *
  have e1 : wrap64 (c1 + c2) = c1 + c2 := IntWalk.wrap64_in _ (by omega)
  clear hin
  clear h
  go_enter Try.func25, Try.ntmps25
  go_upto_region 1 with (fail)
  obtain ⟨W1, hW1⟩ : ∃ W, W = w.alloc (.cells #[.int .i64 a1, .int .i64 a2, .int .i64 a3, .int .i64 a4, .int .i64 a5, .int .i64 a6] 28) := ⟨_, rfl⟩
  obtain ⟨k_b, B1⟩ := st1 hW1
  rw [← hW1]
  clear hW1
  obtain ⟨c_b_0, c_b_1, c_b_2, c_b_3, c_b_4, c_b_5⟩ := bwc6 (k_b)
  obtain ⟨p1, hp1⟩ : ∃ p : BW W1, p.w = W1 := ⟨BW.start W1, rfl⟩
  rw [← hp1]
  clear hp1
  go_upto_region 3 with (first
    | (go_at_call 19; (first | (with_reducible refine (bw_call KA.out _).mono ?_)); rintro e w' ⟨rfl, q, rfl⟩))
  refine wp_region_bw (by kernel_rfl) (by kernel_rfl) ?_
  repeat (go_big_quiet_step (first
    | (go_at_call 35; (first | (with_reducible exact bw_call KL.out _) | (with_reducible exact bw_call KH.out _)))))
  refine wpQuiet_nil ?_
  intro _ hw'
  obtain ⟨q, rfl⟩ := hw'
  go_wp2
  go_ret
  exact ⟨ret_int e1, bw_below B1 _⟩

theorem ref10_Mid (a1 a2 a3 a4 a5 a6 i : Int) (w : World) :
    Calls Try.prog 25 #[.agg #[.int .i64 a1, .int .i64 a2, .int .i64 a3, .int .i64 a4, .int .i64 a5, .int .i64 a6], .int .i64 i] w fun en w' => en = .returned (.int .i64 (bMid ((a1, a2, a3), (a4, a5, a6)) i)) ∧ Below w.heap.size w w' := by
  unfold bMid
  dsimp only
  cases h : bRight ((a1, a2, a3), (a4, a5, a6)) with
  | false => rw [if_neg (fun k => by cases k.1)]; exact ref10_Mid_no a1 a2 a3 a4 a5 a6 i w h
  | true =>
    by_cases h2 : i < 0
    · rw [if_neg (fun k => by omega)]; exact ref10_Mid_neg a1 a2 a3 a4 a5 a6 i w h h2
    · by_cases h3 : 2 < i
      · rw [if_neg (fun k => by omega)]; exact ref10_Mid_far a1 a2 a3 a4 a5 a6 i w h h2 h3
      · rw [if_pos ⟨rfl, by omega, by omega⟩]; exact ref10_Mid_yes a1 a2 a3 a4 a5 a6 i w h h2 h3

set_option maxRecDepth 100000 in
set_option maxHeartbeats 4000000 in
theorem ref10_Join_noa (a1 a2 a3 a4 a5 a6 b1 b2 b3 b4 b5 b6 : Int) (w : World) (h1 : bRight ((a1, a2, a3), (a4, a5, a6)) = false) :
    Calls Try.prog 33 #[.agg #[.int .i64 a1, .int .i64 a2, .int .i64 a3, .int .i64 a4, .int .i64 a5, .int .i64 a6], .agg #[.int .i64 b1, .int .i64 b2, .int .i64 b3, .int .i64 b4, .int .i64 b5, .int .i64 b6]] w fun en w' => en = .returned (.agg #[.int .i64 0, .int .i64 0, .int .i64 0, .int .i64 0, .int .i64 0, .int .i64 0]) ∧ Below w.heap.size w w' := by
  have KA := Lib.hid (fun w => ref10_Right a1 a2 a3 a4 a5 a6 w)
  rw [h1] at KA
  clear h1
  go_enter Try.func33, Try.ntmps33
  go_upto_region 1 with (fail)
  obtain ⟨W1, hW1⟩ : ∃ W, W = ((w.alloc (.cells #[.int .i64 a1, .int .i64 a2, .int .i64 a3, .int .i64 a4, .int .i64 a5, .int .i64 a6] 28)).alloc (.cells #[.int .i64 b1, .int .i64 b2, .int .i64 b3, .int .i64 b4, .int .i64 b5, .int .i64 b6] 28)).alloc (.cells #[.int .i64 0, .int .i64 0, .int .i64 0, .int .i64 0, .int .i64 0, .int .i64 0] 28) := ⟨_, rfl⟩
  obtain ⟨k_a, k_b, k_r, B1⟩ := st3 hW1
  rw [← hW1]
  clear hW1
  have l_b : w.heap.size < w.heap.size + 1 := by omega
  have l_r : w.heap.size + 1 < w.heap.size + 1 + 1 := by omega
  generalize w.heap.size + 1 + 1 = g_r at *
  generalize w.heap.size + 1 = g_b at *
  obtain ⟨c_a_0, c_a_1, c_a_2, c_a_3, c_a_4, c_a_5⟩ := bwc6 (k_a)
  obtain ⟨c_b_0, c_b_1, c_b_2, c_b_3, c_b_4, c_b_5⟩ := bwc6 (k_b)
  obtain ⟨c_r_0, c_r_1, c_r_2, c_r_3, c_r_4, c_r_5⟩ := bwc6 (k_r)
  obtain ⟨f_r_0, f_r_1, f_r_2, f_r_3, f_r_4, f_r_5⟩ := bwf6 (k_r)
  obtain ⟨p1, hp1⟩ : ∃ p : BW W1, p.w = W1 := ⟨BW.start W1, rfl⟩
  rw [← hp1]
  clear hp1
  go_wp2_with (first
    | (go_at_call 19; (first | (with_reducible refine (bw_call KA.out _).mono ?_)); rintro e w' ⟨rfl, q, rfl⟩))
  have kr := bkp6 (k_r.below q.h) (.int .i64 0) (.int .i64 0) (.int .i64 0) (.int .i64 0) (.int .i64 0) (.int .i64 0)
  obtain ⟨rc0, rc1, rc2, rc3, rc4, rc5⟩ := rwc6 kr
  exact bodyPost_ret (v := .agg #[.int .i64 0, .int .i64 0, .int .i64 0, .int .i64 0, .int .i64 0, .int .i64 0]) (by simp [results, Try.results33, go_sem, rc0, rc1, rc2, rc3, rc4, rc5]) rfl ⟨rfl, blp6 (bw_below B1 q) (by omega)⟩

set_option maxRecDepth 100000 in
set_option maxHeartbeats 4000000 in
theorem ref10_Join_nob (a1 a2 a3 a4 a5 a6 b1 b2 b3 b4 b5 b6 : Int) (w : World) (h1 : bRight ((a1, a2, a3), (a4, a5, a6)) = true) (h2 : bRight ((b1, b2, b3), (b4, b5, b6)) = false) :
    Calls Try.prog 33 #[.agg #[.int .i64 a1, .int .i64 a2, .int .i64 a3, .int .i64 a4, .int .i64 a5, .int .i64 a6], .agg #[.int .i64 b1, .int .i64 b2, .int .i64 b3, .int .i64 b4, .int .i64 b5, .int .i64 b6]] w fun en w' => en = .returned (.agg #[.int .i64 0, .int .i64 0, .int .i64 0, .int .i64 0, .int .i64 0, .int .i64 0]) ∧ Below w.heap.size w w' := by
  have KA := Lib.hid (fun w => ref10_Right a1 a2 a3 a4 a5 a6 w)
  rw [h1] at KA
  have KB := Lib.hid (fun w => ref10_Right b1 b2 b3 b4 b5 b6 w)
  rw [h2] at KB
  clear h1 h2
  go_enter Try.func33, Try.ntmps33
  go_upto_region 1 with (fail)
  obtain ⟨W1, hW1⟩ : ∃ W, W = ((w.alloc (.cells #[.int .i64 a1, .int .i64 a2, .int .i64 a3, .int .i64 a4, .int .i64 a5, .int .i64 a6] 28)).alloc (.cells #[.int .i64 b1, .int .i64 b2, .int .i64 b3, .int .i64 b4, .int .i64 b5, .int .i64 b6] 28)).alloc (.cells #[.int .i64 0, .int .i64 0, .int .i64 0, .int .i64 0, .int .i64 0, .int .i64 0] 28) := ⟨_, rfl⟩
  obtain ⟨k_a, k_b, k_r, B1⟩ := st3 hW1
  rw [← hW1]
  clear hW1
  have l_b : w.heap.size < w.heap.size + 1 := by omega
  have l_r : w.heap.size + 1 < w.heap.size + 1 + 1 := by omega
  generalize w.heap.size + 1 + 1 = g_r at *
  generalize w.heap.size + 1 = g_b at *
  obtain ⟨c_a_0, c_a_1, c_a_2, c_a_3, c_a_4, c_a_5⟩ := bwc6 (k_a)
  obtain ⟨c_b_0, c_b_1, c_b_2, c_b_3, c_b_4, c_b_5⟩ := bwc6 (k_b)
  obtain ⟨c_r_0, c_r_1, c_r_2, c_r_3, c_r_4, c_r_5⟩ := bwc6 (k_r)
  obtain ⟨f_r_0, f_r_1, f_r_2, f_r_3, f_r_4, f_r_5⟩ := bwf6 (k_r)
  obtain ⟨p1, hp1⟩ : ∃ p : BW W1, p.w = W1 := ⟨BW.start W1, rfl⟩
  rw [← hp1]
  clear hp1
  go_wp2_with (first
    | (go_at_call 19; (first | (with_reducible refine (bw_call KA.out _).mono ?_) | (with_reducible refine (bw_call KB.out _).mono ?_)); rintro e w' ⟨rfl, q, rfl⟩))
  have kr := bkp6 (k_r.below q.h) (.int .i64 0) (.int .i64 0) (.int .i64 0) (.int .i64 0) (.int .i64 0) (.int .i64 0)
  obtain ⟨rc0, rc1, rc2, rc3, rc4, rc5⟩ := rwc6 kr
  exact bodyPost_ret (v := .agg #[.int .i64 0, .int .i64 0, .int .i64 0, .int .i64 0, .int .i64 0, .int .i64 0]) (by simp [results, Try.results33, go_sem, rc0, rc1, rc2, rc3, rc4, rc5]) rfl ⟨rfl, blp6 (bw_below B1 q) (by omega)⟩

set_option maxRecDepth 100000 in
set_option maxHeartbeats 4000000 in
theorem ref10_Join_yes (a1 a2 a3 a4 a5 a6 b1 b2 b3 b4 b5 b6 : Int) (w : World) (h1 : bRight ((a1, a2, a3), (a4, a5, a6)) = true) (h2 : bRight ((b1, b2, b3), (b4, b5, b6)) = true) :
    Calls Try.prog 33 #[.agg #[.int .i64 a1, .int .i64 a2, .int .i64 a3, .int .i64 a4, .int .i64 a5, .int .i64 a6], .agg #[.int .i64 b1, .int .i64 b2, .int .i64 b3, .int .i64 b4, .int .i64 b5, .int .i64 b6]] w fun en w' => en = .returned (.agg #[.int .i64 (min a1 b1), .int .i64 (min a2 b2), .int .i64 (min a3 b3), .int .i64 (max a4 b4), .int .i64 (max a5 b5), .int .i64 (max a6 b6)]) ∧ Below w.heap.size w w' := by
  have KA := Lib.hid (fun w => ref10_Right a1 a2 a3 a4 a5 a6 w)
  rw [h1] at KA
  have KB := Lib.hid (fun w => ref10_Right b1 b2 b3 b4 b5 b6 w)
  rw [h2] at KB
  obtain ⟨m1, e1⟩ : ∃ m, min a1 b1 = m := ⟨_, rfl⟩
  obtain ⟨m2, e2⟩ : ∃ m, min a2 b2 = m := ⟨_, rfl⟩
  obtain ⟨m3, e3⟩ : ∃ m, min a3 b3 = m := ⟨_, rfl⟩
  obtain ⟨m4, e4⟩ : ∃ m, max a4 b4 = m := ⟨_, rfl⟩
  obtain ⟨m5, e5⟩ : ∃ m, max a5 b5 = m := ⟨_, rfl⟩
  obtain ⟨m6, e6⟩ : ∃ m, max a6 b6 = m := ⟨_, rfl⟩
  rw [e1, e2, e3, e4, e5, e6]
  clear h1 h2
  go_enter Try.func33, Try.ntmps33
  go_upto_region 1 with (fail)
  obtain ⟨W1, hW1⟩ : ∃ W, W = ((w.alloc (.cells #[.int .i64 a1, .int .i64 a2, .int .i64 a3, .int .i64 a4, .int .i64 a5, .int .i64 a6] 28)).alloc (.cells #[.int .i64 b1, .int .i64 b2, .int .i64 b3, .int .i64 b4, .int .i64 b5, .int .i64 b6] 28)).alloc (.cells #[.int .i64 0, .int .i64 0, .int .i64 0, .int .i64 0, .int .i64 0, .int .i64 0] 28) := ⟨_, rfl⟩
  obtain ⟨k_a, k_b, k_r, B1⟩ := st3 hW1
  rw [← hW1]
  clear hW1
  have l_b : w.heap.size < w.heap.size + 1 := by omega
  have l_r : w.heap.size + 1 < w.heap.size + 1 + 1 := by omega
  generalize w.heap.size + 1 + 1 = g_r at *
  generalize w.heap.size + 1 = g_b at *
  obtain ⟨c_a_0, c_a_1, c_a_2, c_a_3, c_a_4, c_a_5⟩ := bwc6 (k_a)
  obtain ⟨c_b_0, c_b_1, c_b_2, c_b_3, c_b_4, c_b_5⟩ := bwc6 (k_b)
  obtain ⟨c_r_0, c_r_1, c_r_2, c_r_3, c_r_4, c_r_5⟩ := bwc6 (k_r)
  obtain ⟨f_r_0, f_r_1, f_r_2, f_r_3, f_r_4, f_r_5⟩ := bwf6 (k_r)
  obtain ⟨p1, hp1⟩ : ∃ p : BW W1, p.w = W1 := ⟨BW.start W1, rfl⟩
  rw [← hp1]
  clear hp1
  go_upto_region 4 with (first
    | (go_at_call 19; (first | (with_reducible refine (bw_call KA.out _).mono ?_) | (with_reducible refine (bw_call KB.out _).mono ?_)); rintro e w' ⟨rfl, q, rfl⟩))
  obtain ⟨W2, hW2⟩ : ∃ W, W = q.w.alloc (.cells #[.int .i64 m1, .int .i64 m2, .int .i64 m3] 26) := ⟨_, rfl⟩
  have B2 : Below w.heap.size w W2 := by rw [hW2]; exact (bw_below B1 q).alloc (bw_below B1 q).size _
  have l_lo : g_r < q.w.heap.size := (k_r.below q.h).lt
  have o_lo : w.heap.size ≤ q.w.heap.size := (bw_below B1 q).size
  have k_a := bka hW2 (k_a.below q.h)
  have k_b := bka hW2 (k_b.below q.h)
  have k_r := bka hW2 (k_r.below q.h)
  have k_lo := bkn hW2
  rw [← hW2]
  clear hW2
  clear B1
  clear c_a_0 c_a_1 c_a_2 c_a_3 c_a_4 c_a_5 c_b_0 c_b_1 c_b_2 c_b_3 c_b_4 c_b_5 c_r_0 c_r_1 c_r_2 c_r_3 c_r_4 c_r_5 f_r_0 f_r_1 f_r_2 f_r_3 f_r_4 f_r_5
  generalize q.w.heap.size = g_lo at *
  obtain ⟨c_a_0, c_a_1, c_a_2, c_a_3, c_a_4, c_a_5⟩ := bwc6 (k_a)
  obtain ⟨c_b_0, c_b_1, c_b_2, c_b_3, c_b_4, c_b_5⟩ := bwc6 (k_b)
  obtain ⟨c_r_0, c_r_1, c_r_2, c_r_3, c_r_4, c_r_5⟩ := bwc6 (k_r)
  obtain ⟨c_lo_0, c_lo_1, c_lo_2⟩ := bwc3 (k_lo)
  obtain ⟨p2, hp2⟩ : ∃ p : BW W2, p.w = W2 := ⟨BW.start W2, rfl⟩
  rw [← hp2]
  clear hp2
  go_upto_region 5 with (fail)
  obtain ⟨W3, hW3⟩ : ∃ W, W = p2.w.alloc (.cells #[.int .i64 m4, .int .i64 m5, .int .i64 m6] 26) := ⟨_, rfl⟩
  have B3 : Below w.heap.size w W3 := by rw [hW3]; exact (bw_below B2 p2).alloc (bw_below B2 p2).size _
  have l_hi : g_lo < p2.w.heap.size := (k_lo.below p2.h).lt
  have o_hi : w.heap.size ≤ p2.w.heap.size := (bw_below B2 p2).size
  have k_a := bka hW3 (k_a.below p2.h)
  have k_b := bka hW3 (k_b.below p2.h)
  have k_r := bka hW3 (k_r.below p2.h)
  have k_lo := bka hW3 (k_lo.below p2.h)
  have k_hi := bkn hW3
  rw [← hW3]
  clear hW3
  clear B2
  clear c_a_0 c_a_1 c_a_2 c_a_3 c_a_4 c_a_5 c_b_0 c_b_1 c_b_2 c_b_3 c_b_4 c_b_5 c_r_0 c_r_1 c_r_2 c_r_3 c_r_4 c_r_5 c_lo_0 c_lo_1 c_lo_2
  generalize p2.w.heap.size = g_hi at *
  obtain ⟨c_a_0, c_a_1, c_a_2, c_a_3, c_a_4, c_a_5⟩ := bwc6 (k_a)
  obtain ⟨c_b_0, c_b_1, c_b_2, c_b_3, c_b_4, c_b_5⟩ := bwc6 (k_b)
  obtain ⟨c_r_0, c_r_1, c_r_2, c_r_3, c_r_4, c_r_5⟩ := bwc6 (k_r)
  obtain ⟨f_r_0, f_r_1, f_r_2, f_r_3, f_r_4, f_r_5⟩ := bwf6 (k_r)
  obtain ⟨c_lo_0, c_lo_1, c_lo_2⟩ := bwc3 (k_lo)
  obtain ⟨c_hi_0, c_hi_1, c_hi_2⟩ := bwc3 (k_hi)
  obtain ⟨p3, hp3⟩ : ∃ p : BW W3, p.w = W3 := ⟨BW.start W3, rfl⟩
  rw [← hp3]
  clear hp3
  go_wp2
  have kr := bkp6 (k_r.below p3.h) (.int .i64 m1) (.int .i64 m2) (.int .i64 m3) (.int .i64 m4) (.int .i64 m5) (.int .i64 m6)
  obtain ⟨rc0, rc1, rc2, rc3, rc4, rc5⟩ := rwc6 kr
  exact bodyPost_ret (v := .agg #[.int .i64 m1, .int .i64 m2, .int .i64 m3, .int .i64 m4, .int .i64 m5, .int .i64 m6]) (by simp [results, Try.results33, go_sem, rc0, rc1, rc2, rc3, rc4, rc5]) rfl ⟨rfl, blp6 (bw_below B3 p3) (by omega)⟩

theorem ref10_Join (a1 a2 a3 a4 a5 a6 b1 b2 b3 b4 b5 b6 : Int) (w : World) :
    Calls Try.prog 33 #[.agg #[.int .i64 a1, .int .i64 a2, .int .i64 a3, .int .i64 a4, .int .i64 a5, .int .i64 a6], .agg #[.int .i64 b1, .int .i64 b2, .int .i64 b3, .int .i64 b4, .int .i64 b5, .int .i64 b6]] w fun en w' => en = .returned (.agg (bx6 (bJoin ((a1, a2, a3), (a4, a5, a6)) ((b1, b2, b3), (b4, b5, b6))))) ∧ Below w.heap.size w w' := by
  unfold bJoin
  cases h1 : bRight ((a1, a2, a3), (a4, a5, a6)) with
  | false => rw [if_neg (fun k => by cases k.1)]; exact ref10_Join_noa a1 a2 a3 a4 a5 a6 b1 b2 b3 b4 b5 b6 w h1
  | true =>
    cases h2 : bRight ((b1, b2, b3), (b4, b5, b6)) with
    | false => rw [if_neg (fun k => by cases k.2)]; exact ref10_Join_nob a1 a2 a3 a4 a5 a6 b1 b2 b3 b4 b5 b6 w h1 h2
    | true => rw [if_pos ⟨rfl, rfl⟩]; exact ref10_Join_yes a1 a2 a3 a4 a5 a6 b1 b2 b3 b4 b5 b6 w h1 h2

set_option maxRecDepth 100000 in
set_option maxHeartbeats 4000000 in
theorem ref10_Area_no (a1 a2 a3 a4 a5 a6 : Int) (w : World) (h : bRight ((a1, a2, a3), (a4, a5, a6)) = false) :
    Calls Try.prog 34 #[.agg #[.int .i64 a1, .int .i64 a2, .int .i64 a3, .int .i64 a4, .int .i64 a5, .int .i64 a6]] w fun en w' => en = .returned (.int .i64 0) ∧ Below w.heap.size w w' := by
  have KA := Lib.hid (fun w => ref10_Right a1 a2 a3 a4 a5 a6 w)
  rw [h] at KA
  clear h
  go_enter Try.func34, Try.ntmps34
  go_upto_region 1 with (fail)
  obtain ⟨W1, hW1⟩ : ∃ W, W = w.alloc (.cells #[.int .i64 a1, .int .i64 a2, .int .i64 a3, .int .i64 a4, .int .i64 a5, .int .i64 a6] 28) := ⟨_, rfl⟩
  obtain ⟨k_b, B1⟩ := st1 hW1
  rw [← hW1]
  clear hW1
  obtain ⟨c_b_0, c_b_1, c_b_2, c_b_3, c_b_4, c_b_5⟩ := bwc6 (k_b)
  obtain ⟨p1, hp1⟩ : ∃ p : BW W1, p.w = W1 := ⟨BW.start W1, rfl⟩
  rw [← hp1]
  clear hp1
  go_wp2_with (first
    | (go_at_call 19; (first | (with_reducible refine (bw_call KA.out _).mono ?_)); rintro e w' ⟨rfl, q, rfl⟩))
  go_ret
  exact ⟨rfl, bw_below B1 _⟩

set_option maxRecDepth 100000 in
set_option maxHeartbeats 4000000 in
theorem ref10_Area_yes (a1 a2 a3 a4 a5 a6 : Int) (w : World) (h : bRight ((a1, a2, a3), (a4, a5, a6)) = true) :
    Calls Try.prog 34 #[.agg #[.int .i64 a1, .int .i64 a2, .int .i64 a3, .int .i64 a4, .int .i64 a5, .int .i64 a6]] w fun en w' => en = .returned (.int .i64 ((a4 - a1) * (a5 - a2) + (a5 - a2) * (a6 - a3) + (a6 - a3) * (a4 - a1))) ∧ Below w.heap.size w w' := by
  have KA := Lib.hid (fun w => ref10_Right a1 a2 a3 a4 a5 a6 w)
  rw [h] at KA
  have ha := bArea_in ((a1, a2, a3), (a4, a5, a6))
  unfold bArea at ha
  rw [if_pos h] at ha
  dsimp only at ha
  rw [bRight_iff, nrT_iff, nrT_iff] at h
  dsimp only at h
  obtain ⟨x, hx⟩ : ∃ x, x = a4 - a1 := ⟨_, rfl⟩
  obtain ⟨y, hy⟩ : ∃ y, y = a5 - a2 := ⟨_, rfl⟩
  obtain ⟨z, hz⟩ : ∃ z, z = a6 - a3 := ⟨_, rfl⟩
  rw [← hx, ← hy, ← hz] at ha ⊢
  have v1 : wrap64 (a4 - a1) = x := by rw [← hx]; exact IntWalk.wrap64_in _ (by omega)
  have v2 : wrap64 (a5 - a2) = y := by rw [← hy]; exact IntWalk.wrap64_in _ (by omega)
  have v3 : wrap64 (a6 - a3) = z := by rw [← hz]; exact IntWalk.wrap64_in _ (by omega)
  have xy := Int.mul_nonneg (show 0 ≤ x by omega) (show 0 ≤ y by omega)
  have yz := Int.mul_nonneg (show 0 ≤ y by omega) (show 0 ≤ z by omega)
  have zx := Int.mul_nonneg (show 0 ≤ z by omega) (show 0 ≤ x by omega)
  obtain ⟨t1, h1⟩ : ∃ t, t = x * y := ⟨_, rfl⟩
  obtain ⟨t2, h2⟩ : ∃ t, t = y * z := ⟨_, rfl⟩
  obtain ⟨t3, h3⟩ : ∃ t, t = z * x := ⟨_, rfl⟩
  rw [← h1, ← h2, ← h3] at ha ⊢
  rw [← h1] at xy
  rw [← h2] at yz
  rw [← h3] at zx
  obtain ⟨s1, g1⟩ : ∃ s, s = t1 + t2 := ⟨_, rfl⟩
  obtain ⟨s2, g2⟩ : ∃ s, s = s1 + t3 := ⟨_, rfl⟩
  rw [← g1, ← g2] at ha ⊢
  have w1 : wrap64 (x * y) = t1 := by rw [← h1]; exact IntWalk.wrap64_in _ (by omega)
  have w2 : wrap64 (y * z) = t2 := by rw [← h2]; exact IntWalk.wrap64_in _ (by omega)
  have w3 : wrap64 (z * x) = t3 := by rw [← h3]; exact IntWalk.wrap64_in _ (by omega)
  have w4 : wrap64 (t1 + t2) = s1 := by rw [← g1]; exact IntWalk.wrap64_in _ (by omega)
  have w5 : wrap64 (s1 + t3) = s2 := by rw [← g2]; exact IntWalk.wrap64_in _ (by omega)
  clear h1 h2 h3 g1 g2 ha
  clear hx hy hz xy yz zx
  clear h
  go_enter Try.func34, Try.ntmps34
  go_upto_region 1 with (fail)
  obtain ⟨W1, hW1⟩ : ∃ W, W = w.alloc (.cells #[.int .i64 a1, .int .i64 a2, .int .i64 a3, .int .i64 a4, .int .i64 a5, .int .i64 a6] 28) := ⟨_, rfl⟩
  obtain ⟨k_b, B1⟩ := st1 hW1
  rw [← hW1]
  clear hW1
  obtain ⟨c_b_0, c_b_1, c_b_2, c_b_3, c_b_4, c_b_5⟩ := bwc6 (k_b)
  obtain ⟨p1, hp1⟩ : ∃ p : BW W1, p.w = W1 := ⟨BW.start W1, rfl⟩
  rw [← hp1]
  clear hp1
  go_upto_region 3 with (first
    | (go_at_call 19; (first | (with_reducible refine (bw_call KA.out _).mono ?_)); rintro e w' ⟨rfl, q, rfl⟩))
  refine wp_region_bw (by kernel_rfl) (by kernel_rfl) ?_
  repeat (go_big_quiet_step (first
    | fail))
  refine wpQuiet_nil ?_
  intro _ hw'
  obtain ⟨q, rfl⟩ := hw'
  go_wp2
  go_ret
  exact ⟨by show Ending.returned (.int .i64 (wrap64 (s1 + t3))) = _; rw [w5], bw_below B1 _⟩

theorem ref10_Area (a1 a2 a3 a4 a5 a6 : Int) (w : World) :
    Calls Try.prog 34 #[.agg #[.int .i64 a1, .int .i64 a2, .int .i64 a3, .int .i64 a4, .int .i64 a5, .int .i64 a6]] w fun en w' => en = .returned (.int .i64 (bArea ((a1, a2, a3), (a4, a5, a6)))) ∧ Below w.heap.size w w' := by
  unfold bArea
  cases h : bRight ((a1, a2, a3), (a4, a5, a6)) with
  | false => rw [if_neg (by simp)]; exact ref10_Area_no a1 a2 a3 a4 a5 a6 w h
  | true => rw [if_pos rfl]; exact ref10_Area_yes a1 a2 a3 a4 a5 a6 w h

set_option maxRecDepth 100000 in
set_option maxHeartbeats 4000000 in
theorem ref15_Bin_no (a1 a2 a3 a4 a5 a6 ax lo hi m : Int) (w : World) (KA : Hid (∀ w, Calls Try.prog 19 #[.agg #[.int .i64 a1, .int .i64 a2, .int .i64 a3, .int .i64 a4, .int .i64 a5, .int .i64 a6]] w fun en w' => en = .returned (.bool false) ∧ Below w.heap.size w w')) (KM : Hid (∀ w, Calls Try.prog 25 #[.agg #[.int .i64 a1, .int .i64 a2, .int .i64 a3, .int .i64 a4, .int .i64 a5, .int .i64 a6], .int .i64 ax] w fun en w' => en = .returned (.int .i64 m) ∧ Below w.heap.size w w')) :
    Calls Try.prog 14 #[.agg #[.int .i64 a1, .int .i64 a2, .int .i64 a3, .int .i64 a4, .int .i64 a5, .int .i64 a6], .int .i64 ax, .int .i64 lo, .int .i64 hi] w fun en w' => en = .returned (.int .i64 (-1)) ∧ Below w.heap.size w w' := by
  go_enter Try.func14, Try.ntmps14
  go_upto_region 1 with (fail)
  obtain ⟨W1, hW1⟩ : ∃ W, W = w.alloc (.cells #[.int .i64 a1, .int .i64 a2, .int .i64 a3, .int .i64 a4, .int .i64 a5, .int .i64 a6] 28) := ⟨_, rfl⟩
  obtain ⟨k_b, B1⟩ := st1 hW1
  rw [← hW1]
  clear hW1
  obtain ⟨c_b_0, c_b_1, c_b_2, c_b_3, c_b_4, c_b_5⟩ := bwc6 (k_b)
  obtain ⟨p1, hp1⟩ : ∃ p : BW W1, p.w = W1 := ⟨BW.start W1, rfl⟩
  rw [← hp1]
  clear hp1
  go_wp2_with (first
    | (go_at_call 19; (first | (with_reducible refine (bw_call KA.out _).mono ?_)); rintro e w' ⟨rfl, q, rfl⟩)
    | (go_at_call 25; (first | (with_reducible refine (bw_call KM.out _).mono ?_)); rintro e w' ⟨rfl, q, rfl⟩))
  go_ret
  exact ⟨rfl, bw_below B1 _⟩

set_option maxRecDepth 100000 in
set_option maxHeartbeats 4000000 in
theorem ref15_Bin_neg (a1 a2 a3 a4 a5 a6 ax lo hi m : Int) (w : World) (KA : Hid (∀ w, Calls Try.prog 19 #[.agg #[.int .i64 a1, .int .i64 a2, .int .i64 a3, .int .i64 a4, .int .i64 a5, .int .i64 a6]] w fun en w' => en = .returned (.bool true) ∧ Below w.heap.size w w')) (KM : Hid (∀ w, Calls Try.prog 25 #[.agg #[.int .i64 a1, .int .i64 a2, .int .i64 a3, .int .i64 a4, .int .i64 a5, .int .i64 a6], .int .i64 ax] w fun en w' => en = .returned (.int .i64 m) ∧ Below w.heap.size w w')) (h1 : ax < 0) :
    Calls Try.prog 14 #[.agg #[.int .i64 a1, .int .i64 a2, .int .i64 a3, .int .i64 a4, .int .i64 a5, .int .i64 a6], .int .i64 ax, .int .i64 lo, .int .i64 hi] w fun en w' => en = .returned (.int .i64 (-1)) ∧ Below w.heap.size w w' := by
  have t1 : decide (ax < 0) = true := decide_eq_true h1
  clear h1
  go_enter Try.func14, Try.ntmps14
  go_upto_region 1 with (fail)
  obtain ⟨W1, hW1⟩ : ∃ W, W = w.alloc (.cells #[.int .i64 a1, .int .i64 a2, .int .i64 a3, .int .i64 a4, .int .i64 a5, .int .i64 a6] 28) := ⟨_, rfl⟩
  obtain ⟨k_b, B1⟩ := st1 hW1
  rw [← hW1]
  clear hW1
  obtain ⟨c_b_0, c_b_1, c_b_2, c_b_3, c_b_4, c_b_5⟩ := bwc6 (k_b)
  obtain ⟨p1, hp1⟩ : ∃ p : BW W1, p.w = W1 := ⟨BW.start W1, rfl⟩
  rw [← hp1]
  clear hp1
  go_wp2_with (first
    | (go_at_call 19; (first | (with_reducible refine (bw_call KA.out _).mono ?_)); rintro e w' ⟨rfl, q, rfl⟩)
    | (go_at_call 25; (first | (with_reducible refine (bw_call KM.out _).mono ?_)); rintro e w' ⟨rfl, q, rfl⟩))
  go_ret
  exact ⟨rfl, bw_below B1 _⟩

set_option maxRecDepth 100000 in
set_option maxHeartbeats 4000000 in
theorem ref15_Bin_far (a1 a2 a3 a4 a5 a6 ax lo hi m : Int) (w : World) (KA : Hid (∀ w, Calls Try.prog 19 #[.agg #[.int .i64 a1, .int .i64 a2, .int .i64 a3, .int .i64 a4, .int .i64 a5, .int .i64 a6]] w fun en w' => en = .returned (.bool true) ∧ Below w.heap.size w w')) (KM : Hid (∀ w, Calls Try.prog 25 #[.agg #[.int .i64 a1, .int .i64 a2, .int .i64 a3, .int .i64 a4, .int .i64 a5, .int .i64 a6], .int .i64 ax] w fun en w' => en = .returned (.int .i64 m) ∧ Below w.heap.size w w')) (h1 : ¬ ax < 0) (h2 : 2 < ax) :
    Calls Try.prog 14 #[.agg #[.int .i64 a1, .int .i64 a2, .int .i64 a3, .int .i64 a4, .int .i64 a5, .int .i64 a6], .int .i64 ax, .int .i64 lo, .int .i64 hi] w fun en w' => en = .returned (.int .i64 (-1)) ∧ Below w.heap.size w w' := by
  have t1 : decide (ax < 0) = false := decide_eq_false h1
  have t2 : decide (2 < ax) = true := decide_eq_true h2
  clear h1 h2
  go_enter Try.func14, Try.ntmps14
  go_upto_region 1 with (fail)
  obtain ⟨W1, hW1⟩ : ∃ W, W = w.alloc (.cells #[.int .i64 a1, .int .i64 a2, .int .i64 a3, .int .i64 a4, .int .i64 a5, .int .i64 a6] 28) := ⟨_, rfl⟩
  obtain ⟨k_b, B1⟩ := st1 hW1
  rw [← hW1]
  clear hW1
  obtain ⟨c_b_0, c_b_1, c_b_2, c_b_3, c_b_4, c_b_5⟩ := bwc6 (k_b)
  obtain ⟨p1, hp1⟩ : ∃ p : BW W1, p.w = W1 := ⟨BW.start W1, rfl⟩
  rw [← hp1]
  clear hp1
  go_wp2_with (first
    | (go_at_call 19; (first | (with_reducible refine (bw_call KA.out _).mono ?_)); rintro e w' ⟨rfl, q, rfl⟩)
    | (go_at_call 25; (first | (with_reducible refine (bw_call KM.out _).mono ?_)); rintro e w' ⟨rfl, q, rfl⟩))
  go_ret
  exact ⟨rfl, bw_below B1 _⟩

set_option maxRecDepth 100000 in
set_option maxHeartbeats 4000000 in
theorem ref15_Bin_lo (a1 a2 a3 a4 a5 a6 ax lo hi m : Int) (w : World) (KA : Hid (∀ w, Calls Try.prog 19 #[.agg #[.int .i64 a1, .int .i64 a2, .int .i64 a3, .int .i64 a4, .int .i64 a5, .int .i64 a6]] w fun en w' => en = .returned (.bool true) ∧ Below w.heap.size w w')) (KM : Hid (∀ w, Calls Try.prog 25 #[.agg #[.int .i64 a1, .int .i64 a2, .int .i64 a3, .int .i64 a4, .int .i64 a5, .int .i64 a6], .int .i64 ax] w fun en w' => en = .returned (.int .i64 m) ∧ Below w.heap.size w w')) (h1 : ¬ ax < 0) (h2 : ¬ 2 < ax) (h3 : lo < -2097152) :
    Calls Try.prog 14 #[.agg #[.int .i64 a1, .int .i64 a2, .int .i64 a3, .int .i64 a4, .int .i64 a5, .int .i64 a6], .int .i64 ax, .int .i64 lo, .int .i64 hi] w fun en w' => en = .returned (.int .i64 (-1)) ∧ Below w.heap.size w w' := by
  have t1 : decide (ax < 0) = false := decide_eq_false h1
  have t2 : decide (2 < ax) = false := decide_eq_false h2
  have t3 : decide (lo < -2097152) = true := decide_eq_true h3
  clear h1 h2 h3
  go_enter Try.func14, Try.ntmps14
  go_upto_region 1 with (fail)
  obtain ⟨W1, hW1⟩ : ∃ W, W = w.alloc (.cells #[.int .i64 a1, .int .i64 a2, .int .i64 a3, .int .i64 a4, .int .i64 a5, .int .i64 a6] 28) := ⟨_, rfl⟩
  obtain ⟨k_b, B1⟩ := st1 hW1
  rw [← hW1]
  clear hW1
  obtain ⟨c_b_0, c_b_1, c_b_2, c_b_3, c_b_4, c_b_5⟩ := bwc6 (k_b)
  obtain ⟨p1, hp1⟩ : ∃ p : BW W1, p.w = W1 := ⟨BW.start W1, rfl⟩
  rw [← hp1]
  clear hp1
  go_wp2_with (first
    | (go_at_call 19; (first | (with_reducible refine (bw_call KA.out _).mono ?_)); rintro e w' ⟨rfl, q, rfl⟩)
    | (go_at_call 25; (first | (with_reducible refine (bw_call KM.out _).mono ?_)); rintro e w' ⟨rfl, q, rfl⟩))
  go_ret
  exact ⟨rfl, bw_below B1 _⟩

set_option maxRecDepth 100000 in
set_option maxHeartbeats 4000000 in
theorem ref15_Bin_hi (a1 a2 a3 a4 a5 a6 ax lo hi m : Int) (w : World) (KA : Hid (∀ w, Calls Try.prog 19 #[.agg #[.int .i64 a1, .int .i64 a2, .int .i64 a3, .int .i64 a4, .int .i64 a5, .int .i64 a6]] w fun en w' => en = .returned (.bool true) ∧ Below w.heap.size w w')) (KM : Hid (∀ w, Calls Try.prog 25 #[.agg #[.int .i64 a1, .int .i64 a2, .int .i64 a3, .int .i64 a4, .int .i64 a5, .int .i64 a6], .int .i64 ax] w fun en w' => en = .returned (.int .i64 m) ∧ Below w.heap.size w w')) (h1 : ¬ ax < 0) (h2 : ¬ 2 < ax) (h3 : ¬ lo < -2097152) (h4 : 2097152 < hi) :
    Calls Try.prog 14 #[.agg #[.int .i64 a1, .int .i64 a2, .int .i64 a3, .int .i64 a4, .int .i64 a5, .int .i64 a6], .int .i64 ax, .int .i64 lo, .int .i64 hi] w fun en w' => en = .returned (.int .i64 (-1)) ∧ Below w.heap.size w w' := by
  have t1 : decide (ax < 0) = false := decide_eq_false h1
  have t2 : decide (2 < ax) = false := decide_eq_false h2
  have t3 : decide (lo < -2097152) = false := decide_eq_false h3
  have t4 : decide (2097152 < hi) = true := decide_eq_true h4
  clear h1 h2 h3 h4
  go_enter Try.func14, Try.ntmps14
  go_upto_region 1 with (fail)
  obtain ⟨W1, hW1⟩ : ∃ W, W = w.alloc (.cells #[.int .i64 a1, .int .i64 a2, .int .i64 a3, .int .i64 a4, .int .i64 a5, .int .i64 a6] 28) := ⟨_, rfl⟩
  obtain ⟨k_b, B1⟩ := st1 hW1
  rw [← hW1]
  clear hW1
  obtain ⟨c_b_0, c_b_1, c_b_2, c_b_3, c_b_4, c_b_5⟩ := bwc6 (k_b)
  obtain ⟨p1, hp1⟩ : ∃ p : BW W1, p.w = W1 := ⟨BW.start W1, rfl⟩
  rw [← hp1]
  clear hp1
  go_wp2_with (first
    | (go_at_call 19; (first | (with_reducible refine (bw_call KA.out _).mono ?_)); rintro e w' ⟨rfl, q, rfl⟩)
    | (go_at_call 25; (first | (with_reducible refine (bw_call KM.out _).mono ?_)); rintro e w' ⟨rfl, q, rfl⟩))
  go_ret
  exact ⟨rfl, bw_below B1 _⟩

set_option maxRecDepth 100000 in
set_option maxHeartbeats 4000000 in
theorem ref15_Bin_below (a1 a2 a3 a4 a5 a6 ax lo hi m : Int) (w : World) (KA : Hid (∀ w, Calls Try.prog 19 #[.agg #[.int .i64 a1, .int .i64 a2, .int .i64 a3, .int .i64 a4, .int .i64 a5, .int .i64 a6]] w fun en w' => en = .returned (.bool true) ∧ Below w.heap.size w w')) (KM : Hid (∀ w, Calls Try.prog 25 #[.agg #[.int .i64 a1, .int .i64 a2, .int .i64 a3, .int .i64 a4, .int .i64 a5, .int .i64 a6], .int .i64 ax] w fun en w' => en = .returned (.int .i64 m) ∧ Below w.heap.size w w')) (h1 : ¬ ax < 0) (h2 : ¬ 2 < ax) (h3 : ¬ lo < -2097152) (h4 : ¬ 2097152 < hi) (h5 : m < lo) :
    Calls Try.prog 14 #[.agg #[.int .i64 a1, .int .i64 a2, .int .i64 a3, .int .i64 a4, .int .i64 a5, .int .i64 a6], .int .i64 ax, .int .i64 lo, .int .i64 hi] w fun en w' => en = .returned (.int .i64 (-1)) ∧ Below w.heap.size w w' := by
  have t1 : decide (ax < 0) = false := decide_eq_false h1
  have t2 : decide (2 < ax) = false := decide_eq_false h2
  have t3 : decide (lo < -2097152) = false := decide_eq_false h3
  have t4 : decide (2097152 < hi) = false := decide_eq_false h4
  have t5 : decide (m < lo) = true := decide_eq_true h5
  clear h1 h2 h3 h4 h5
  go_enter Try.func14, Try.ntmps14
  go_upto_region 1 with (fail)
  obtain ⟨W1, hW1⟩ : ∃ W, W = w.alloc (.cells #[.int .i64 a1, .int .i64 a2, .int .i64 a3, .int .i64 a4, .int .i64 a5, .int .i64 a6] 28) := ⟨_, rfl⟩
  obtain ⟨k_b, B1⟩ := st1 hW1
  rw [← hW1]
  clear hW1
  obtain ⟨c_b_0, c_b_1, c_b_2, c_b_3, c_b_4, c_b_5⟩ := bwc6 (k_b)
  obtain ⟨p1, hp1⟩ : ∃ p : BW W1, p.w = W1 := ⟨BW.start W1, rfl⟩
  rw [← hp1]
  clear hp1
  go_wp2_with (first
    | (go_at_call 19; (first | (with_reducible refine (bw_call KA.out _).mono ?_)); rintro e w' ⟨rfl, q, rfl⟩)
    | (go_at_call 25; (first | (with_reducible refine (bw_call KM.out _).mono ?_)); rintro e w' ⟨rfl, q, rfl⟩))
  go_ret
  exact ⟨rfl, bw_below B1 _⟩

set_option maxRecDepth 100000 in
set_option maxHeartbeats 4000000 in
theorem ref15_Bin_above (a1 a2 a3 a4 a5 a6 ax lo hi m : Int) (w : World) (KA : Hid (∀ w, Calls Try.prog 19 #[.agg #[.int .i64 a1, .int .i64 a2, .int .i64 a3, .int .i64 a4, .int .i64 a5, .int .i64 a6]] w fun en w' => en = .returned (.bool true) ∧ Below w.heap.size w w')) (KM : Hid (∀ w, Calls Try.prog 25 #[.agg #[.int .i64 a1, .int .i64 a2, .int .i64 a3, .int .i64 a4, .int .i64 a5, .int .i64 a6], .int .i64 ax] w fun en w' => en = .returned (.int .i64 m) ∧ Below w.heap.size w w')) (h1 : ¬ ax < 0) (h2 : ¬ 2 < ax) (h3 : ¬ lo < -2097152) (h4 : ¬ 2097152 < hi) (h5 : ¬ m < lo) (h6 : hi < m) :
    Calls Try.prog 14 #[.agg #[.int .i64 a1, .int .i64 a2, .int .i64 a3, .int .i64 a4, .int .i64 a5, .int .i64 a6], .int .i64 ax, .int .i64 lo, .int .i64 hi] w fun en w' => en = .returned (.int .i64 (-1)) ∧ Below w.heap.size w w' := by
  have t1 : decide (ax < 0) = false := decide_eq_false h1
  have t2 : decide (2 < ax) = false := decide_eq_false h2
  have t3 : decide (lo < -2097152) = false := decide_eq_false h3
  have t4 : decide (2097152 < hi) = false := decide_eq_false h4
  have t5 : decide (m < lo) = false := decide_eq_false h5
  have t6 : decide (hi < m) = true := decide_eq_true h6
  clear h1 h2 h3 h4 h5 h6
  go_enter Try.func14, Try.ntmps14
  go_upto_region 1 with (fail)
  obtain ⟨W1, hW1⟩ : ∃ W, W = w.alloc (.cells #[.int .i64 a1, .int .i64 a2, .int .i64 a3, .int .i64 a4, .int .i64 a5, .int .i64 a6] 28) := ⟨_, rfl⟩
  obtain ⟨k_b, B1⟩ := st1 hW1
  rw [← hW1]
  clear hW1
  obtain ⟨c_b_0, c_b_1, c_b_2, c_b_3, c_b_4, c_b_5⟩ := bwc6 (k_b)
  obtain ⟨p1, hp1⟩ : ∃ p : BW W1, p.w = W1 := ⟨BW.start W1, rfl⟩
  rw [← hp1]
  clear hp1
  go_wp2_with (first
    | (go_at_call 19; (first | (with_reducible refine (bw_call KA.out _).mono ?_)); rintro e w' ⟨rfl, q, rfl⟩)
    | (go_at_call 25; (first | (with_reducible refine (bw_call KM.out _).mono ?_)); rintro e w' ⟨rfl, q, rfl⟩))
  go_ret
  exact ⟨rfl, bw_below B1 _⟩

set_option maxRecDepth 100000 in
set_option maxHeartbeats 4000000 in
theorem ref15_Bin_yes (a1 a2 a3 a4 a5 a6 ax lo hi m z : Int) (w : World) (KA : Hid (∀ w, Calls Try.prog 19 #[.agg #[.int .i64 a1, .int .i64 a2, .int .i64 a3, .int .i64 a4, .int .i64 a5, .int .i64 a6]] w fun en w' => en = .returned (.bool true) ∧ Below w.heap.size w w')) (KM : Hid (∀ w, Calls Try.prog 25 #[.agg #[.int .i64 a1, .int .i64 a2, .int .i64 a3, .int .i64 a4, .int .i64 a5, .int .i64 a6], .int .i64 ax] w fun en w' => en = .returned (.int .i64 m) ∧ Below w.heap.size w w')) (h1 : ¬ ax < 0) (h2 : ¬ 2 < ax) (h3 : ¬ lo < -2097152) (h4 : ¬ 2097152 < hi) (h5 : ¬ m < lo) (h6 : ¬ hi < m) (KD : Hid (∀ w, Calls Try.prog 29 #[.int .i64 ((m - lo) * 8), .int .i64 (hi - lo + 1)] w fun en w' => en = .returned (.int .i64 z) ∧ Below w.heap.size w w')) :
    Calls Try.prog 14 #[.agg #[.int .i64 a1, .int .i64 a2, .int .i64 a3, .int .i64 a4, .int .i64 a5, .int .i64 a6], .int .i64 ax, .int .i64 lo, .int .i64 hi] w fun en w' => en = .returned (.int .i64 z) ∧ Below w.heap.size w w' := by
  have t1 : decide (ax < 0) = false := decide_eq_false h1
  have t2 : decide (2 < ax) = false := decide_eq_false h2
  have t3 : decide (lo < -2097152) = false := decide_eq_false h3
  have t4 : decide (2097152 < hi) = false := decide_eq_false h4
  have t5 : decide (m < lo) = false := decide_eq_false h5
  have t6 : decide (hi < m) = false := decide_eq_false h6
  have v1 : wrap64 (m - lo) = m - lo := IntWalk.wrap64_in _ (by omega)
  have v2 : wrap64 ((m - lo) * 8) = (m - lo) * 8 := IntWalk.wrap64_in _ (by omega)
  have v3 : wrap64 (hi - lo) = hi - lo := IntWalk.wrap64_in _ (by omega)
  have v4 : wrap64 (hi - lo + 1) = hi - lo + 1 := IntWalk.wrap64_in _ (by omega)
  clear h1 h2 h3 h4 h5 h6
  go_enter Try.func14, Try.ntmps14
  go_upto_region 1 with (fail)
  obtain ⟨W1, hW1⟩ : ∃ W, W = w.alloc (.cells #[.int .i64 a1, .int .i64 a2, .int .i64 a3, .int .i64 a4, .int .i64 a5, .int .i64 a6] 28) := ⟨_, rfl⟩
  obtain ⟨k_b, B1⟩ := st1 hW1
  rw [← hW1]
  clear hW1
  obtain ⟨c_b_0, c_b_1, c_b_2, c_b_3, c_b_4, c_b_5⟩ := bwc6 (k_b)
  obtain ⟨p1, hp1⟩ : ∃ p : BW W1, p.w = W1 := ⟨BW.start W1, rfl⟩
  rw [← hp1]
  clear hp1
  go_wp2_with (first
    | (go_at_call 19; (first | (with_reducible refine (bw_call KA.out _).mono ?_)); rintro e w' ⟨rfl, q, rfl⟩)
    | (go_at_call 25; (first | (with_reducible refine (bw_call KM.out _).mono ?_)); rintro e w' ⟨rfl, q, rfl⟩)
    | (go_at_call 29; (first | (with_reducible refine (bw_call KD.out _).mono ?_)); rintro e w' ⟨rfl, q, rfl⟩))
  go_ret
  exact ⟨rfl, bw_below B1 _⟩

theorem ref15_Bin (a1 a2 a3 a4 a5 a6 ax lo hi : Int) (w : World) (hx : I64 ax) (hl : I64 lo) (hh : I64 hi) :
    Calls Try.prog 14 #[.agg #[.int .i64 a1, .int .i64 a2, .int .i64 a3, .int .i64 a4, .int .i64 a5, .int .i64 a6], .int .i64 ax, .int .i64 lo, .int .i64 hi] w fun en w' => en = .returned (.int .i64 (bBin ((a1, a2, a3), (a4, a5, a6)) ax lo hi)) ∧ Below w.heap.size w w' := by
  have KA := Lib.hid (fun w => ref10_Right a1 a2 a3 a4 a5 a6 w)
  have KM := Lib.hid (fun w => ref10_Mid a1 a2 a3 a4 a5 a6 ax w)
  have hm := bMid_in ((a1, a2, a3), (a4, a5, a6)) ax
  unfold bBin
  cases h : bRight ((a1, a2, a3), (a4, a5, a6)) with
  | false => rw [if_neg (fun k => by cases k.1)]; rw [h] at KA; exact ref15_Bin_no a1 a2 a3 a4 a5 a6 ax lo hi _ w KA KM
  | true =>
    rw [h] at KA
    by_cases h1 : ax < 0
    · rw [if_neg (fun k => by omega)]; exact ref15_Bin_neg a1 a2 a3 a4 a5 a6 ax lo hi _ w KA KM h1
    by_cases h2 : 2 < ax
    · rw [if_neg (fun k => by omega)]; exact ref15_Bin_far a1 a2 a3 a4 a5 a6 ax lo hi _ w KA KM h1 h2
    by_cases h3 : lo < -2097152
    · rw [if_neg (fun k => by omega)]; exact ref15_Bin_lo a1 a2 a3 a4 a5 a6 ax lo hi _ w KA KM h1 h2 h3
    by_cases h4 : 2097152 < hi
    · rw [if_neg (fun k => by omega)]; exact ref15_Bin_hi a1 a2 a3 a4 a5 a6 ax lo hi _ w KA KM h1 h2 h3 h4
    by_cases h5 : bMid ((a1, a2, a3), (a4, a5, a6)) ax < lo
    · rw [if_neg (fun k => by omega)]; exact ref15_Bin_below a1 a2 a3 a4 a5 a6 ax lo hi _ w KA KM h1 h2 h3 h4 h5
    by_cases h6 : hi < bMid ((a1, a2, a3), (a4, a5, a6)) ax
    · rw [if_neg (fun k => by omega)]; exact ref15_Bin_above a1 a2 a3 a4 a5 a6 ax lo hi _ w KA KM h1 h2 h3 h4 h5 h6
    have KD := Lib.hid (fun w => below_of_same (fun w => ref_Div ((bMid ((a1, a2, a3), (a4, a5, a6)) ax - lo) * 8) (hi - lo + 1) w (by unfold I64; omega) (by unfold I64; omega)) w)
    rw [show dv ((bMid ((a1, a2, a3), (a4, a5, a6)) ax - lo) * 8) (hi - lo + 1) = (bMid ((a1, a2, a3), (a4, a5, a6)) ax - lo) * 8 / (hi - lo + 1) by unfold dv; rw [if_neg (by omega)]] at KD
    rw [if_pos ⟨rfl, by omega, by omega, by omega, by omega, by omega, by omega⟩]
    exact ref15_Bin_yes a1 a2 a3 a4 a5 a6 ax lo hi _ _ w KA KM h1 h2 h3 h4 h5 h6 KD

set_option maxRecDepth 100000 in
set_option maxHeartbeats 4000000 in
theorem ref15_Left_none (ax at_ lo hi a1 a2 a3 a4 a5 a6 z : Int) (w : World) (KB : Hid (∀ w, Calls Try.prog 14 #[.agg #[.int .i64 a1, .int .i64 a2, .int .i64 a3, .int .i64 a4, .int .i64 a5, .int .i64 a6], .int .i64 ax, .int .i64 lo, .int .i64 hi] w fun en w' => en = .returned (.int .i64 z) ∧ Below w.heap.size w w')) (h1 : z < 0) :
    Calls Try.prog 16 #[.agg #[.int .i64 ax, .int .i64 at_, .int .i64 lo, .int .i64 hi], .agg #[.int .i64 a1, .int .i64 a2, .int .i64 a3, .int .i64 a4, .int .i64 a5, .int .i64 a6]] w fun en w' => en = .returned (.bool false) ∧ Below w.heap.size w w' := by
  have t1 : decide (0 ≤ z) = false := decide_eq_false (by omega)
  clear h1
  go_enter Try.func16, Try.ntmps16
  go_upto_region 1 with (fail)
  obtain ⟨W1, hW1⟩ : ∃ W, W = (w.alloc (.cells #[.int .i64 ax, .int .i64 at_, .int .i64 lo, .int .i64 hi] 24)).alloc (.cells #[.int .i64 a1, .int .i64 a2, .int .i64 a3, .int .i64 a4, .int .i64 a5, .int .i64 a6] 28) := ⟨_, rfl⟩
  obtain ⟨k_s, k_b, B1⟩ := st2 hW1
  rw [← hW1]
  clear hW1
  have l_b : w.heap.size < w.heap.size + 1 := by omega
  generalize w.heap.size + 1 = g_b at *
  obtain ⟨c_s_0, c_s_1, c_s_2, c_s_3⟩ := bwc4 (k_s)
  obtain ⟨c_b_0, c_b_1, c_b_2, c_b_3, c_b_4, c_b_5⟩ := bwc6 (k_b)
  obtain ⟨p1, hp1⟩ : ∃ p : BW W1, p.w = W1 := ⟨BW.start W1, rfl⟩
  rw [← hp1]
  clear hp1
  go_wp2_with (first
    | (go_at_call 14; (first | (with_reducible refine (bw_call KB.out _).mono ?_)); rintro e w' ⟨rfl, q, rfl⟩))
  go_ret
  exact ⟨rfl, bw_below B1 _⟩

set_option maxRecDepth 100000 in
set_option maxHeartbeats 4000000 in
theorem ref15_Left_in (ax at_ lo hi a1 a2 a3 a4 a5 a6 z : Int) (w : World) (KB : Hid (∀ w, Calls Try.prog 14 #[.agg #[.int .i64 a1, .int .i64 a2, .int .i64 a3, .int .i64 a4, .int .i64 a5, .int .i64 a6], .int .i64 ax, .int .i64 lo, .int .i64 hi] w fun en w' => en = .returned (.int .i64 z) ∧ Below w.heap.size w w')) (h1 : ¬ z < 0) (h2 : z < at_) :
    Calls Try.prog 16 #[.agg #[.int .i64 ax, .int .i64 at_, .int .i64 lo, .int .i64 hi], .agg #[.int .i64 a1, .int .i64 a2, .int .i64 a3, .int .i64 a4, .int .i64 a5, .int .i64 a6]] w fun en w' => en = .returned (.bool true) ∧ Below w.heap.size w w' := by
  have t1 : decide (0 ≤ z) = true := decide_eq_true (by omega)
  have t2 : decide (z < at_) = true := decide_eq_true h2
  clear h1 h2
  go_enter Try.func16, Try.ntmps16
  go_upto_region 1 with (fail)
  obtain ⟨W1, hW1⟩ : ∃ W, W = (w.alloc (.cells #[.int .i64 ax, .int .i64 at_, .int .i64 lo, .int .i64 hi] 24)).alloc (.cells #[.int .i64 a1, .int .i64 a2, .int .i64 a3, .int .i64 a4, .int .i64 a5, .int .i64 a6] 28) := ⟨_, rfl⟩
  obtain ⟨k_s, k_b, B1⟩ := st2 hW1
  rw [← hW1]
  clear hW1
  have l_b : w.heap.size < w.heap.size + 1 := by omega
  generalize w.heap.size + 1 = g_b at *
  obtain ⟨c_s_0, c_s_1, c_s_2, c_s_3⟩ := bwc4 (k_s)
  obtain ⟨c_b_0, c_b_1, c_b_2, c_b_3, c_b_4, c_b_5⟩ := bwc6 (k_b)
  obtain ⟨p1, hp1⟩ : ∃ p : BW W1, p.w = W1 := ⟨BW.start W1, rfl⟩
  rw [← hp1]
  clear hp1
  go_wp2_with (first
    | (go_at_call 14; (first | (with_reducible refine (bw_call KB.out _).mono ?_)); rintro e w' ⟨rfl, q, rfl⟩))
  go_ret
  exact ⟨rfl, bw_below B1 _⟩

set_option maxRecDepth 100000 in
set_option maxHeartbeats 4000000 in
theorem ref15_Left_out (ax at_ lo hi a1 a2 a3 a4 a5 a6 z : Int) (w : World) (KB : Hid (∀ w, Calls Try.prog 14 #[.agg #[.int .i64 a1, .int .i64 a2, .int .i64 a3, .int .i64 a4, .int .i64 a5, .int .i64 a6], .int .i64 ax, .int .i64 lo, .int .i64 hi] w fun en w' => en = .returned (.int .i64 z) ∧ Below w.heap.size w w')) (h1 : ¬ z < 0) (h2 : ¬ z < at_) :
    Calls Try.prog 16 #[.agg #[.int .i64 ax, .int .i64 at_, .int .i64 lo, .int .i64 hi], .agg #[.int .i64 a1, .int .i64 a2, .int .i64 a3, .int .i64 a4, .int .i64 a5, .int .i64 a6]] w fun en w' => en = .returned (.bool false) ∧ Below w.heap.size w w' := by
  have t1 : decide (0 ≤ z) = true := decide_eq_true (by omega)
  have t2 : decide (z < at_) = false := decide_eq_false h2
  clear h1 h2
  go_enter Try.func16, Try.ntmps16
  go_upto_region 1 with (fail)
  obtain ⟨W1, hW1⟩ : ∃ W, W = (w.alloc (.cells #[.int .i64 ax, .int .i64 at_, .int .i64 lo, .int .i64 hi] 24)).alloc (.cells #[.int .i64 a1, .int .i64 a2, .int .i64 a3, .int .i64 a4, .int .i64 a5, .int .i64 a6] 28) := ⟨_, rfl⟩
  obtain ⟨k_s, k_b, B1⟩ := st2 hW1
  rw [← hW1]
  clear hW1
  have l_b : w.heap.size < w.heap.size + 1 := by omega
  generalize w.heap.size + 1 = g_b at *
  obtain ⟨c_s_0, c_s_1, c_s_2, c_s_3⟩ := bwc4 (k_s)
  obtain ⟨c_b_0, c_b_1, c_b_2, c_b_3, c_b_4, c_b_5⟩ := bwc6 (k_b)
  obtain ⟨p1, hp1⟩ : ∃ p : BW W1, p.w = W1 := ⟨BW.start W1, rfl⟩
  rw [← hp1]
  clear hp1
  go_wp2_with (first
    | (go_at_call 14; (first | (with_reducible refine (bw_call KB.out _).mono ?_)); rintro e w' ⟨rfl, q, rfl⟩))
  go_ret
  exact ⟨rfl, bw_below B1 _⟩

theorem ref15_Left (ax at_ lo hi a1 a2 a3 a4 a5 a6 : Int) (w : World) (hx : I64 ax) (hl : I64 lo) (hh : I64 hi) :
    Calls Try.prog 16 #[.agg #[.int .i64 ax, .int .i64 at_, .int .i64 lo, .int .i64 hi], .agg #[.int .i64 a1, .int .i64 a2, .int .i64 a3, .int .i64 a4, .int .i64 a5, .int .i64 a6]] w fun en w' => en = .returned (.bool (isL ax lo hi at_ ((a1, a2, a3), (a4, a5, a6)))) ∧ Below w.heap.size w w' := by
  have KB := Lib.hid (fun w => ref15_Bin a1 a2 a3 a4 a5 a6 ax lo hi w hx hl hh)
  unfold isL
  generalize bBin ((a1, a2, a3), (a4, a5, a6)) ax lo hi = z at *
  by_cases h1 : z < 0
  · rw [decide_eq_false (by omega)]; exact ref15_Left_none ax at_ lo hi a1 a2 a3 a4 a5 a6 z w KB h1
  by_cases h2 : z < at_
  · rw [decide_eq_true (by omega)]; exact ref15_Left_in ax at_ lo hi a1 a2 a3 a4 a5 a6 z w KB h1 h2
  · rw [decide_eq_false (by omega)]; exact ref15_Left_out ax at_ lo hi a1 a2 a3 a4 a5 a6 z w KB h1 h2

end Go.Proofs.Ytfdolgdfadipeaa
