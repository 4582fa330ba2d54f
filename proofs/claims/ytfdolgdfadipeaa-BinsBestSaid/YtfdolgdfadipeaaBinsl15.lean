/- Contracts of package bins, below: groups, what a side costs, bins, the least and the greatest middle. -/
import Derived.Test.YtfdolgdfadipeaaMem15
import Derived.Test.YtfdolgdfadipeaaBoxm10
import Derived.Test.YtfdolgdfadipeaaNum01
import Derived.Test.YtfdolgdfadipeaaRow
import Derived.Test.YtfdolgdfadipeaaFloat
import Derived.Lib.MinMax
import Derived.Deep.DeepCutAuto
namespace Go.Proofs.Ytfdolgdfadipeaa
open Go.RowKit Go.Proofs.Sky
set_option linter.unusedVariables false

set_option maxRecDepth 100000 in
set_option maxHeartbeats 4000000 in
theorem bins_with_left (a1 a2 a3 a4 a5 a6 b1 b2 b3 b4 b5 b6 m : Int) (w : World) :
    Calls Try.prog 31 #[.agg #[.int .i64 a1, .int .i64 a2, .int .i64 a3, .int .i64 a4, .int .i64 a5, .int .i64 a6, .int .i64 0], .agg #[.int .i64 b1, .int .i64 b2, .int .i64 b3, .int .i64 b4, .int .i64 b5, .int .i64 b6, .int .i64 m]] w fun en w' => en = .returned (.agg #[.int .i64 b1, .int .i64 b2, .int .i64 b3, .int .i64 b4, .int .i64 b5, .int .i64 b6, .int .i64 m]) ∧ Below w.heap.size w w' := by
  go_enter Try.func31, Try.ntmps31
  go_upto_region 1 with (fail)
  obtain ⟨W1, hW1⟩ : ∃ W, W = ((w.alloc (.cells #[.int .i64 a1, .int .i64 a2, .int .i64 a3, .int .i64 a4, .int .i64 a5, .int .i64 a6, .int .i64 0] 55)).alloc (.cells #[.int .i64 b1, .int .i64 b2, .int .i64 b3, .int .i64 b4, .int .i64 b5, .int .i64 b6, .int .i64 m] 55)).alloc (.cells #[.int .i64 0, .int .i64 0, .int .i64 0, .int .i64 0, .int .i64 0, .int .i64 0, .int .i64 0] 55) := ⟨_, rfl⟩
  obtain ⟨k_a, k_b, k_r, B1⟩ := st3 hW1
  rw [← hW1]
  clear hW1
  have l_b : w.heap.size < w.heap.size + 1 := by omega
  have l_r : w.heap.size + 1 < w.heap.size + 1 + 1 := by omega
  generalize w.heap.size + 1 + 1 = g_r at *
  generalize w.heap.size + 1 = g_b at *
  obtain ⟨c_a_0, c_a_1, c_a_2, c_a_3, c_a_4, c_a_5, c_a_6⟩ := bwc7 (k_a)
  obtain ⟨c_b_0, c_b_1, c_b_2, c_b_3, c_b_4, c_b_5, c_b_6⟩ := bwc7 (k_b)
  obtain ⟨c_r_0, c_r_1, c_r_2, c_r_3, c_r_4, c_r_5, c_r_6⟩ := bwc7 (k_r)
  obtain ⟨f_r_0, f_r_1, f_r_2, f_r_3, f_r_4, f_r_5, f_r_6⟩ := bwf7 (k_r)
  obtain ⟨p1, hp1⟩ : ∃ p : BW W1, p.w = W1 := ⟨BW.start W1, rfl⟩
  rw [← hp1]
  clear hp1
  go_wp2
  have kr := bkp7 (k_r.below p1.h) (.int .i64 b1) (.int .i64 b2) (.int .i64 b3) (.int .i64 b4) (.int .i64 b5) (.int .i64 b6) (.int .i64 m)
  obtain ⟨rc0, rc1, rc2, rc3, rc4, rc5, rc6⟩ := rwc7 kr
  exact bodyPost_ret (v := .agg #[.int .i64 b1, .int .i64 b2, .int .i64 b3, .int .i64 b4, .int .i64 b5, .int .i64 b6, .int .i64 m]) (by simp [results, Try.results31, go_sem, rc0, rc1, rc2, rc3, rc4, rc5, rc6]) rfl ⟨rfl, blp7 (bw_below B1 p1) (by omega)⟩

set_option maxRecDepth 100000 in
set_option maxHeartbeats 4000000 in
theorem bins_with_right (a1 a2 a3 a4 a5 a6 n b1 b2 b3 b4 b5 b6 : Int) (w : World)  (hn : ¬ n = 0) :
    Calls Try.prog 31 #[.agg #[.int .i64 a1, .int .i64 a2, .int .i64 a3, .int .i64 a4, .int .i64 a5, .int .i64 a6, .int .i64 n], .agg #[.int .i64 b1, .int .i64 b2, .int .i64 b3, .int .i64 b4, .int .i64 b5, .int .i64 b6, .int .i64 0]] w fun en w' => en = .returned (.agg #[.int .i64 a1, .int .i64 a2, .int .i64 a3, .int .i64 a4, .int .i64 a5, .int .i64 a6, .int .i64 n]) ∧ Below w.heap.size w w' := by
  go_enter Try.func31, Try.ntmps31
  go_upto_region 1 with (fail)
  obtain ⟨W1, hW1⟩ : ∃ W, W = ((w.alloc (.cells #[.int .i64 a1, .int .i64 a2, .int .i64 a3, .int .i64 a4, .int .i64 a5, .int .i64 a6, .int .i64 n] 55)).alloc (.cells #[.int .i64 b1, .int .i64 b2, .int .i64 b3, .int .i64 b4, .int .i64 b5, .int .i64 b6, .int .i64 0] 55)).alloc (.cells #[.int .i64 0, .int .i64 0, .int .i64 0, .int .i64 0, .int .i64 0, .int .i64 0, .int .i64 0] 55) := ⟨_, rfl⟩
  obtain ⟨k_a, k_b, k_r, B1⟩ := st3 hW1
  rw [← hW1]
  clear hW1
  have l_b : w.heap.size < w.heap.size + 1 := by omega
  have l_r : w.heap.size + 1 < w.heap.size + 1 + 1 := by omega
  generalize w.heap.size + 1 + 1 = g_r at *
  generalize w.heap.size + 1 = g_b at *
  obtain ⟨c_a_0, c_a_1, c_a_2, c_a_3, c_a_4, c_a_5, c_a_6⟩ := bwc7 (k_a)
  obtain ⟨c_b_0, c_b_1, c_b_2, c_b_3, c_b_4, c_b_5, c_b_6⟩ := bwc7 (k_b)
  obtain ⟨c_r_0, c_r_1, c_r_2, c_r_3, c_r_4, c_r_5, c_r_6⟩ := bwc7 (k_r)
  obtain ⟨f_r_0, f_r_1, f_r_2, f_r_3, f_r_4, f_r_5, f_r_6⟩ := bwf7 (k_r)
  obtain ⟨p1, hp1⟩ : ∃ p : BW W1, p.w = W1 := ⟨BW.start W1, rfl⟩
  rw [← hp1]
  clear hp1
  go_wp2
  have kr := bkp7 (k_r.below p1.h) (.int .i64 a1) (.int .i64 a2) (.int .i64 a3) (.int .i64 a4) (.int .i64 a5) (.int .i64 a6) (.int .i64 n)
  obtain ⟨rc0, rc1, rc2, rc3, rc4, rc5, rc6⟩ := rwc7 kr
  exact bodyPost_ret (v := .agg #[.int .i64 a1, .int .i64 a2, .int .i64 a3, .int .i64 a4, .int .i64 a5, .int .i64 a6, .int .i64 n]) (by simp [results, Try.results31, go_sem, rc0, rc1, rc2, rc3, rc4, rc5, rc6]) rfl ⟨rfl, blp7 (bw_below B1 p1) (by omega)⟩

set_option maxRecDepth 100000 in
set_option maxHeartbeats 4000000 in
theorem bins_with_both (a1 a2 a3 a4 a5 a6 n b1 b2 b3 b4 b5 b6 m m1 m2 m3 m4 m5 m6 s : Int) (w : World)  (hn : ¬ n = 0) (hm : ¬ m = 0) (hs : wrap64 (n + m) = s) (KJ : Hid (∀ w, Calls Try.prog 40 #[.agg #[.int .i64 a1, .int .i64 a2, .int .i64 a3, .int .i64 a4, .int .i64 a5, .int .i64 a6], .agg #[.int .i64 b1, .int .i64 b2, .int .i64 b3, .int .i64 b4, .int .i64 b5, .int .i64 b6]] w fun en w' => en = .returned (.agg #[.int .i64 m1, .int .i64 m2, .int .i64 m3, .int .i64 m4, .int .i64 m5, .int .i64 m6]) ∧ Below w.heap.size w w')) :
    Calls Try.prog 31 #[.agg #[.int .i64 a1, .int .i64 a2, .int .i64 a3, .int .i64 a4, .int .i64 a5, .int .i64 a6, .int .i64 n], .agg #[.int .i64 b1, .int .i64 b2, .int .i64 b3, .int .i64 b4, .int .i64 b5, .int .i64 b6, .int .i64 m]] w fun en w' => en = .returned (.agg #[.int .i64 m1, .int .i64 m2, .int .i64 m3, .int .i64 m4, .int .i64 m5, .int .i64 m6, .int .i64 s]) ∧ Below w.heap.size w w' := by
  go_enter Try.func31, Try.ntmps31
  go_upto_region 1 with (fail)
  obtain ⟨W1, hW1⟩ : ∃ W, W = ((w.alloc (.cells #[.int .i64 a1, .int .i64 a2, .int .i64 a3, .int .i64 a4, .int .i64 a5, .int .i64 a6, .int .i64 n] 55)).alloc (.cells #[.int .i64 b1, .int .i64 b2, .int .i64 b3, .int .i64 b4, .int .i64 b5, .int .i64 b6, .int .i64 m] 55)).alloc (.cells #[.int .i64 0, .int .i64 0, .int .i64 0, .int .i64 0, .int .i64 0, .int .i64 0, .int .i64 0] 55) := ⟨_, rfl⟩
  obtain ⟨k_a, k_b, k_r, B1⟩ := st3 hW1
  rw [← hW1]
  clear hW1
  have l_b : w.heap.size < w.heap.size + 1 := by omega
  have l_r : w.heap.size + 1 < w.heap.size + 1 + 1 := by omega
  generalize w.heap.size + 1 + 1 = g_r at *
  generalize w.heap.size + 1 = g_b at *
  obtain ⟨c_a_0, c_a_1, c_a_2, c_a_3, c_a_4, c_a_5, c_a_6⟩ := bwc7 (k_a)
  obtain ⟨c_b_0, c_b_1, c_b_2, c_b_3, c_b_4, c_b_5, c_b_6⟩ := bwc7 (k_b)
  obtain ⟨c_r_0, c_r_1, c_r_2, c_r_3, c_r_4, c_r_5, c_r_6⟩ := bwc7 (k_r)
  obtain ⟨f_r_0, f_r_1, f_r_2, f_r_3, f_r_4, f_r_5, f_r_6⟩ := bwf7 (k_r)
  obtain ⟨p1, hp1⟩ : ∃ p : BW W1, p.w = W1 := ⟨BW.start W1, rfl⟩
  rw [← hp1]
  clear hp1
  go_upto_region 5 with (fail)
  refine wp_region_bw_tail 10 (by kernel_rfl) (by kernel_rfl) (by kernel_rfl) ?_
  simp only [List.take_succ_cons, List.take_zero, List.drop_succ_cons, List.drop_zero]
  repeat (go_big_quiet_step (first
    | (go_at_call 40; (first | (with_reducible exact bw_call KJ.out _)))))
  refine wpQuiet_nil ?_
  intro _ hw'
  obtain ⟨q, rfl⟩ := hw'
  go_wp2
  have kr := bkp7 (k_r.below q.h) (.int .i64 m1) (.int .i64 m2) (.int .i64 m3) (.int .i64 m4) (.int .i64 m5) (.int .i64 m6) (.int .i64 s)
  obtain ⟨rc0, rc1, rc2, rc3, rc4, rc5, rc6⟩ := rwc7 kr
  exact bodyPost_ret (v := .agg #[.int .i64 m1, .int .i64 m2, .int .i64 m3, .int .i64 m4, .int .i64 m5, .int .i64 m6, .int .i64 s]) (by simp [results, Try.results31, go_sem, rc0, rc1, rc2, rc3, rc4, rc5, rc6]) rfl ⟨rfl, blp7 (bw_below B1 q) (by omega)⟩

theorem bins_with (g h : Gp) (w : World) (hg : gOk g) (hh : gOk h) (hb : g.2 + h.2 ≤ 1048576) :
    Calls Try.prog 31 #[.agg (gcells g).toArray, .agg (gcells h).toArray] w fun e w' => e = .returned (.agg (gcells (gW g h)).toArray) ∧ Below w.heap.size w w' := by
  obtain ⟨⟨⟨a1, a2, a3⟩, a4, a5, a6⟩, n⟩ := g
  obtain ⟨⟨⟨b1, b2, b3⟩, b4, b5, b6⟩, m⟩ := h
  dsimp only at hb
  unfold gW
  by_cases h1 : n = 0
  · subst h1
    rw [if_pos rfl]
    exact bins_with_left a1 a2 a3 a4 a5 a6 b1 b2 b3 b4 b5 b6 (m : Int) w
  · rw [if_neg h1]
    by_cases h2 : m = 0
    · subst h2
      rw [if_pos rfl]
      exact bins_with_right a1 a2 a3 a4 a5 a6 (n : Int) b1 b2 b3 b4 b5 b6 w (by omega)
    · rw [if_neg h2]
      have hl := hg.resolve_left h1
      have hr := hh.resolve_left h2
      have hJ := fun w => box_Join a1 a2 a3 a4 a5 a6 b1 b2 b3 b4 b5 b6 w
      rw [uJoin_right hl hr] at hJ
      have hc : ((n + m : Nat) : Int) = (n : Int) + m := by omega
      have K := bins_with_both a1 a2 a3 a4 a5 a6 (n : Int) b1 b2 b3 b4 b5 b6 (m : Int) _ _ _ _ _ _ _ w (by omega) (by omega) (IntWalk.wrap64_in _ (by omega)) (Lib.hid hJ)
      rw [← hc] at K
      exact K

set_option maxRecDepth 100000 in
set_option maxHeartbeats 4000000 in
theorem bins_cost_w (a1 a2 a3 a4 a5 a6 n z c : Int) (w : World) (KA : Hid (∀ w, Calls Try.prog 41 #[.agg #[.int .i64 a1, .int .i64 a2, .int .i64 a3, .int .i64 a4, .int .i64 a5, .int .i64 a6]] w fun en w' => en = .returned (.int .i64 z) ∧ Below w.heap.size w w')) (hz : wrap64 (z * n) = c) :
    Calls Try.prog 32 #[.agg #[.int .i64 a1, .int .i64 a2, .int .i64 a3, .int .i64 a4, .int .i64 a5, .int .i64 a6, .int .i64 n]] w fun en w' => en = .returned (.int .i64 c) ∧ Below w.heap.size w w' := by
  go_enter Try.func32, Try.ntmps32
  go_upto_region 1 with (fail)
  obtain ⟨W1, hW1⟩ : ∃ W, W = w.alloc (.cells #[.int .i64 a1, .int .i64 a2, .int .i64 a3, .int .i64 a4, .int .i64 a5, .int .i64 a6, .int .i64 n] 55) := ⟨_, rfl⟩
  obtain ⟨k_a, B1⟩ := st1 hW1
  rw [← hW1]
  clear hW1
  obtain ⟨c_a_0, c_a_1, c_a_2, c_a_3, c_a_4, c_a_5, c_a_6⟩ := bwc7 (k_a)
  obtain ⟨p1, hp1⟩ : ∃ p : BW W1, p.w = W1 := ⟨BW.start W1, rfl⟩
  rw [← hp1]
  clear hp1
  refine wp_region_bw (by kernel_rfl) (by kernel_rfl) ?_
  repeat (go_big_quiet_step (first
    | (go_at_call 41; (first | (with_reducible exact bw_call KA.out _)))))
  refine wpQuiet_nil ?_
  intro _ hw'
  obtain ⟨q, rfl⟩ := hw'
  go_wp2
  go_ret
  exact ⟨ret_int hz, bw_below B1 _⟩

theorem bins_cost (g : Gp) (w : World) (hb : g.2 ≤ 1024) :
    Calls Try.prog 32 #[.agg (gcells g).toArray] w fun e w' => e = .returned (.int .i64 (gCost g)) ∧ Below w.heap.size w w' := by
  have hc := gCost_in hb
  unfold gCost at hc ⊢
  obtain ⟨⟨⟨a1, a2, a3⟩, a4, a5, a6⟩, n⟩ := g
  dsimp only at hc
  exact bins_cost_w a1 a2 a3 a4 a5 a6 (n : Int) _ _ w (Lib.hid (fun w => box_Area a1 a2 a3 a4 a5 a6 w)) (IntWalk.wrap64_in _ (by omega))

set_option maxRecDepth 100000 in
set_option maxHeartbeats 4000000 in
theorem bins_apart_left (a1 a2 a3 a4 a5 a6 b1 b2 b3 b4 b5 b6 m : Int) (w : World) :
    Calls Try.prog 22 #[.agg #[.int .i64 a1, .int .i64 a2, .int .i64 a3, .int .i64 a4, .int .i64 a5, .int .i64 a6, .int .i64 0], .agg #[.int .i64 b1, .int .i64 b2, .int .i64 b3, .int .i64 b4, .int .i64 b5, .int .i64 b6, .int .i64 m]] w fun en w' => en = .returned (.tuple #[.int .i64 0, .bool false]) ∧ Below w.heap.size w w' := by
  go_enter Try.func22, Try.ntmps22
  go_upto_region 1 with (fail)
  obtain ⟨W1, hW1⟩ : ∃ W, W = (w.alloc (.cells #[.int .i64 a1, .int .i64 a2, .int .i64 a3, .int .i64 a4, .int .i64 a5, .int .i64 a6, .int .i64 0] 55)).alloc (.cells #[.int .i64 b1, .int .i64 b2, .int .i64 b3, .int .i64 b4, .int .i64 b5, .int .i64 b6, .int .i64 m] 55) := ⟨_, rfl⟩
  obtain ⟨k_a, k_b, B1⟩ := st2 hW1
  rw [← hW1]
  clear hW1
  have l_b : w.heap.size < w.heap.size + 1 := by omega
  generalize w.heap.size + 1 = g_b at *
  obtain ⟨c_a_0, c_a_1, c_a_2, c_a_3, c_a_4, c_a_5, c_a_6⟩ := bwc7 (k_a)
  obtain ⟨c_b_0, c_b_1, c_b_2, c_b_3, c_b_4, c_b_5, c_b_6⟩ := bwc7 (k_b)
  obtain ⟨p1, hp1⟩ : ∃ p : BW W1, p.w = W1 := ⟨BW.start W1, rfl⟩
  rw [← hp1]
  clear hp1
  go_wp2
  go_ret2
  exact ⟨rfl, bw_below B1 _⟩

set_option maxRecDepth 100000 in
set_option maxHeartbeats 4000000 in
theorem bins_apart_right (a1 a2 a3 a4 a5 a6 n b1 b2 b3 b4 b5 b6 : Int) (w : World) (hn : ¬ n = 0) :
    Calls Try.prog 22 #[.agg #[.int .i64 a1, .int .i64 a2, .int .i64 a3, .int .i64 a4, .int .i64 a5, .int .i64 a6, .int .i64 n], .agg #[.int .i64 b1, .int .i64 b2, .int .i64 b3, .int .i64 b4, .int .i64 b5, .int .i64 b6, .int .i64 0]] w fun en w' => en = .returned (.tuple #[.int .i64 0, .bool false]) ∧ Below w.heap.size w w' := by
  have tn : (n == 0) = false := by rw [beq_eq_false_iff_ne]; exact hn
  go_enter Try.func22, Try.ntmps22
  go_upto_region 1 with (fail)
  obtain ⟨W1, hW1⟩ : ∃ W, W = (w.alloc (.cells #[.int .i64 a1, .int .i64 a2, .int .i64 a3, .int .i64 a4, .int .i64 a5, .int .i64 a6, .int .i64 n] 55)).alloc (.cells #[.int .i64 b1, .int .i64 b2, .int .i64 b3, .int .i64 b4, .int .i64 b5, .int .i64 b6, .int .i64 0] 55) := ⟨_, rfl⟩
  obtain ⟨k_a, k_b, B1⟩ := st2 hW1
  rw [← hW1]
  clear hW1
  have l_b : w.heap.size < w.heap.size + 1 := by omega
  generalize w.heap.size + 1 = g_b at *
  obtain ⟨c_a_0, c_a_1, c_a_2, c_a_3, c_a_4, c_a_5, c_a_6⟩ := bwc7 (k_a)
  obtain ⟨c_b_0, c_b_1, c_b_2, c_b_3, c_b_4, c_b_5, c_b_6⟩ := bwc7 (k_b)
  obtain ⟨p1, hp1⟩ : ∃ p : BW W1, p.w = W1 := ⟨BW.start W1, rfl⟩
  rw [← hp1]
  clear hp1
  go_wp2
  go_ret2
  exact ⟨rfl, bw_below B1 _⟩

set_option maxRecDepth 100000 in
set_option maxHeartbeats 4000000 in
theorem bins_apart_both (a1 a2 a3 a4 a5 a6 n b1 b2 b3 b4 b5 b6 m c d s : Int) (w : World) (hn : ¬ n = 0) (hm : ¬ m = 0) (K1 : Hid (∀ w, Calls Try.prog 32 #[.agg #[.int .i64 a1, .int .i64 a2, .int .i64 a3, .int .i64 a4, .int .i64 a5, .int .i64 a6, .int .i64 n]] w fun en w' => en = .returned (.int .i64 c) ∧ Below w.heap.size w w')) (K2 : Hid (∀ w, Calls Try.prog 32 #[.agg #[.int .i64 b1, .int .i64 b2, .int .i64 b3, .int .i64 b4, .int .i64 b5, .int .i64 b6, .int .i64 m]] w fun en w' => en = .returned (.int .i64 d) ∧ Below w.heap.size w w')) (hs : wrap64 (c + d) = s) :
    Calls Try.prog 22 #[.agg #[.int .i64 a1, .int .i64 a2, .int .i64 a3, .int .i64 a4, .int .i64 a5, .int .i64 a6, .int .i64 n], .agg #[.int .i64 b1, .int .i64 b2, .int .i64 b3, .int .i64 b4, .int .i64 b5, .int .i64 b6, .int .i64 m]] w fun en w' => en = .returned (.tuple #[.int .i64 s, .bool true]) ∧ Below w.heap.size w w' := by
  have tn : (n == 0) = false := by rw [beq_eq_false_iff_ne]; exact hn
  have tm : (m == 0) = false := by rw [beq_eq_false_iff_ne]; exact hm
  go_enter Try.func22, Try.ntmps22
  go_upto_region 1 with (fail)
  obtain ⟨W1, hW1⟩ : ∃ W, W = (w.alloc (.cells #[.int .i64 a1, .int .i64 a2, .int .i64 a3, .int .i64 a4, .int .i64 a5, .int .i64 a6, .int .i64 n] 55)).alloc (.cells #[.int .i64 b1, .int .i64 b2, .int .i64 b3, .int .i64 b4, .int .i64 b5, .int .i64 b6, .int .i64 m] 55) := ⟨_, rfl⟩
  obtain ⟨k_a, k_b, B1⟩ := st2 hW1
  rw [← hW1]
  clear hW1
  have l_b : w.heap.size < w.heap.size + 1 := by omega
  generalize w.heap.size + 1 = g_b at *
  obtain ⟨c_a_0, c_a_1, c_a_2, c_a_3, c_a_4, c_a_5, c_a_6⟩ := bwc7 (k_a)
  obtain ⟨c_b_0, c_b_1, c_b_2, c_b_3, c_b_4, c_b_5, c_b_6⟩ := bwc7 (k_b)
  obtain ⟨p1, hp1⟩ : ∃ p : BW W1, p.w = W1 := ⟨BW.start W1, rfl⟩
  rw [← hp1]
  clear hp1
  go_upto_region 3 with (fail)
  refine wp_region_bw (by kernel_rfl) (by kernel_rfl) ?_
  repeat (go_big_quiet_step (first
    | (go_at_call 32; (first | (with_reducible exact bw_call K1.out _) | (with_reducible exact bw_call K2.out _)))))
  refine wpQuiet_nil ?_
  intro _ hw'
  obtain ⟨q, rfl⟩ := hw'
  go_wp2
  go_ret2
  exact ⟨by rw [← hs]; rfl, bw_below B1 _⟩

theorem bins_apart (g h : Gp) (w : World) (hg : g.2 ≤ 1024) (hh : h.2 ≤ 1024) :
    Calls Try.prog 22 #[.agg (gcells g).toArray, .agg (gcells h).toArray] w fun e w' => e = .returned (.tuple #[.int .i64 (if g.2 ≠ 0 ∧ h.2 ≠ 0 then gCost g + gCost h else 0), .bool (decide (g.2 ≠ 0 ∧ h.2 ≠ 0))]) ∧ Below w.heap.size w w' := by
  have K1 := Lib.hid (fun w => bins_cost g w hg)
  have K2 := Lib.hid (fun w => bins_cost h w hh)
  have h1 := gCost_in hg
  have h2 := gCost_in hh
  generalize gCost g = c at *
  generalize gCost h = d at *
  obtain ⟨⟨⟨a1, a2, a3⟩, a4, a5, a6⟩, n⟩ := g
  obtain ⟨⟨⟨b1, b2, b3⟩, b4, b5, b6⟩, m⟩ := h
  dsimp only
  by_cases h3 : n = 0
  · subst h3
    rw [if_neg (fun k => k.1 rfl), decide_eq_false (fun k => k.1 rfl)]
    exact bins_apart_left a1 a2 a3 a4 a5 a6 b1 b2 b3 b4 b5 b6 (m : Int) w
  · by_cases h4 : m = 0
    · subst h4
      rw [if_neg (fun k => k.2 rfl), decide_eq_false (fun k => k.2 rfl)]
      exact bins_apart_right a1 a2 a3 a4 a5 a6 (n : Int) b1 b2 b3 b4 b5 b6 w (by omega)
    · rw [if_pos ⟨h3, h4⟩, decide_eq_true ⟨h3, h4⟩]
      exact bins_apart_both a1 a2 a3 a4 a5 a6 (n : Int) b1 b2 b3 b4 b5 b6 (m : Int) c d _ w (by omega) (by omega) K1 K2 (IntWalk.wrap64_in _ (by omega))

set_option maxRecDepth 100000 in
set_option maxHeartbeats 4000000 in
theorem bins_Bin_no (a1 a2 a3 a4 a5 a6 ax lo hi m : Int) (w : World) (KA : Hid (∀ w, Calls Try.prog 26 #[.agg #[.int .i64 a1, .int .i64 a2, .int .i64 a3, .int .i64 a4, .int .i64 a5, .int .i64 a6]] w fun en w' => en = .returned (.bool false) ∧ Below w.heap.size w w')) (KM : Hid (∀ w, Calls Try.prog 27 #[.agg #[.int .i64 a1, .int .i64 a2, .int .i64 a3, .int .i64 a4, .int .i64 a5, .int .i64 a6], .int .i64 ax] w fun en w' => en = .returned (.int .i64 m) ∧ Below w.heap.size w w')) :
    Calls Try.prog 13 #[.agg #[.int .i64 a1, .int .i64 a2, .int .i64 a3, .int .i64 a4, .int .i64 a5, .int .i64 a6], .int .i64 ax, .int .i64 lo, .int .i64 hi] w fun en w' => en = .returned (.int .i64 (-1)) ∧ Below w.heap.size w w' := by
  go_enter Try.func13, Try.ntmps13
  go_upto_region 1 with (fail)
  obtain ⟨W1, hW1⟩ : ∃ W, W = w.alloc (.cells #[.int .i64 a1, .int .i64 a2, .int .i64 a3, .int .i64 a4, .int .i64 a5, .int .i64 a6] 31) := ⟨_, rfl⟩
  obtain ⟨k_b, B1⟩ := st1 hW1
  rw [← hW1]
  clear hW1
  obtain ⟨c_b_0, c_b_1, c_b_2, c_b_3, c_b_4, c_b_5⟩ := bwc6 (k_b)
  obtain ⟨p1, hp1⟩ : ∃ p : BW W1, p.w = W1 := ⟨BW.start W1, rfl⟩
  rw [← hp1]
  clear hp1
  go_wp2_with (first
    | (go_at_call 26; (first | (with_reducible refine (bw_call KA.out _).mono ?_)); rintro e w' ⟨rfl, q, rfl⟩)
    | (go_at_call 27; (first | (with_reducible refine (bw_call KM.out _).mono ?_)); rintro e w' ⟨rfl, q, rfl⟩))
  go_ret
  exact ⟨rfl, bw_below B1 _⟩

set_option maxRecDepth 100000 in
set_option maxHeartbeats 4000000 in
theorem bins_Bin_neg (a1 a2 a3 a4 a5 a6 ax lo hi m : Int) (w : World) (KA : Hid (∀ w, Calls Try.prog 26 #[.agg #[.int .i64 a1, .int .i64 a2, .int .i64 a3, .int .i64 a4, .int .i64 a5, .int .i64 a6]] w fun en w' => en = .returned (.bool true) ∧ Below w.heap.size w w')) (KM : Hid (∀ w, Calls Try.prog 27 #[.agg #[.int .i64 a1, .int .i64 a2, .int .i64 a3, .int .i64 a4, .int .i64 a5, .int .i64 a6], .int .i64 ax] w fun en w' => en = .returned (.int .i64 m) ∧ Below w.heap.size w w')) (h1 : ax < 0) :
    Calls Try.prog 13 #[.agg #[.int .i64 a1, .int .i64 a2, .int .i64 a3, .int .i64 a4, .int .i64 a5, .int .i64 a6], .int .i64 ax, .int .i64 lo, .int .i64 hi] w fun en w' => en = .returned (.int .i64 (-1)) ∧ Below w.heap.size w w' := by
  have t1 : decide (ax < 0) = true := decide_eq_true h1
  clear h1
  go_enter Try.func13, Try.ntmps13
  go_upto_region 1 with (fail)
  obtain ⟨W1, hW1⟩ : ∃ W, W = w.alloc (.cells #[.int .i64 a1, .int .i64 a2, .int .i64 a3, .int .i64 a4, .int .i64 a5, .int .i64 a6] 31) := ⟨_, rfl⟩
  obtain ⟨k_b, B1⟩ := st1 hW1
  rw [← hW1]
  clear hW1
  obtain ⟨c_b_0, c_b_1, c_b_2, c_b_3, c_b_4, c_b_5⟩ := bwc6 (k_b)
  obtain ⟨p1, hp1⟩ : ∃ p : BW W1, p.w = W1 := ⟨BW.start W1, rfl⟩
  rw [← hp1]
  clear hp1
  go_wp2_with (first
    | (go_at_call 26; (first | (with_reducible refine (bw_call KA.out _).mono ?_)); rintro e w' ⟨rfl, q, rfl⟩)
    | (go_at_call 27; (first | (with_reducible refine (bw_call KM.out _).mono ?_)); rintro e w' ⟨rfl, q, rfl⟩))
  go_ret
  exact ⟨rfl, bw_below B1 _⟩

set_option maxRecDepth 100000 in
set_option maxHeartbeats 4000000 in
theorem bins_Bin_far (a1 a2 a3 a4 a5 a6 ax lo hi m : Int) (w : World) (KA : Hid (∀ w, Calls Try.prog 26 #[.agg #[.int .i64 a1, .int .i64 a2, .int .i64 a3, .int .i64 a4, .int .i64 a5, .int .i64 a6]] w fun en w' => en = .returned (.bool true) ∧ Below w.heap.size w w')) (KM : Hid (∀ w, Calls Try.prog 27 #[.agg #[.int .i64 a1, .int .i64 a2, .int .i64 a3, .int .i64 a4, .int .i64 a5, .int .i64 a6], .int .i64 ax] w fun en w' => en = .returned (.int .i64 m) ∧ Below w.heap.size w w')) (h1 : ¬ ax < 0) (h2 : 2 < ax) :
    Calls Try.prog 13 #[.agg #[.int .i64 a1, .int .i64 a2, .int .i64 a3, .int .i64 a4, .int .i64 a5, .int .i64 a6], .int .i64 ax, .int .i64 lo, .int .i64 hi] w fun en w' => en = .returned (.int .i64 (-1)) ∧ Below w.heap.size w w' := by
  have t1 : decide (ax < 0) = false := decide_eq_false h1
  have t2 : decide (2 < ax) = true := decide_eq_true h2
  clear h1 h2
  go_enter Try.func13, Try.ntmps13
  go_upto_region 1 with (fail)
  obtain ⟨W1, hW1⟩ : ∃ W, W = w.alloc (.cells #[.int .i64 a1, .int .i64 a2, .int .i64 a3, .int .i64 a4, .int .i64 a5, .int .i64 a6] 31) := ⟨_, rfl⟩
  obtain ⟨k_b, B1⟩ := st1 hW1
  rw [← hW1]
  clear hW1
  obtain ⟨c_b_0, c_b_1, c_b_2, c_b_3, c_b_4, c_b_5⟩ := bwc6 (k_b)
  obtain ⟨p1, hp1⟩ : ∃ p : BW W1, p.w = W1 := ⟨BW.start W1, rfl⟩
  rw [← hp1]
  clear hp1
  go_wp2_with (first
    | (go_at_call 26; (first | (with_reducible refine (bw_call KA.out _).mono ?_)); rintro e w' ⟨rfl, q, rfl⟩)
    | (go_at_call 27; (first | (with_reducible refine (bw_call KM.out _).mono ?_)); rintro e w' ⟨rfl, q, rfl⟩))
  go_ret
  exact ⟨rfl, bw_below B1 _⟩

set_option maxRecDepth 100000 in
set_option maxHeartbeats 4000000 in
theorem bins_Bin_lo (a1 a2 a3 a4 a5 a6 ax lo hi m : Int) (w : World) (KA : Hid (∀ w, Calls Try.prog 26 #[.agg #[.int .i64 a1, .int .i64 a2, .int .i64 a3, .int .i64 a4, .int .i64 a5, .int .i64 a6]] w fun en w' => en = .returned (.bool true) ∧ Below w.heap.size w w')) (KM : Hid (∀ w, Calls Try.prog 27 #[.agg #[.int .i64 a1, .int .i64 a2, .int .i64 a3, .int .i64 a4, .int .i64 a5, .int .i64 a6], .int .i64 ax] w fun en w' => en = .returned (.int .i64 m) ∧ Below w.heap.size w w')) (h1 : ¬ ax < 0) (h2 : ¬ 2 < ax) (h3 : lo < -2097152) :
    Calls Try.prog 13 #[.agg #[.int .i64 a1, .int .i64 a2, .int .i64 a3, .int .i64 a4, .int .i64 a5, .int .i64 a6], .int .i64 ax, .int .i64 lo, .int .i64 hi] w fun en w' => en = .returned (.int .i64 (-1)) ∧ Below w.heap.size w w' := by
  have t1 : decide (ax < 0) = false := decide_eq_false h1
  have t2 : decide (2 < ax) = false := decide_eq_false h2
  have t3 : decide (lo < -2097152) = true := decide_eq_true h3
  clear h1 h2 h3
  go_enter Try.func13, Try.ntmps13
  go_upto_region 1 with (fail)
  obtain ⟨W1, hW1⟩ : ∃ W, W = w.alloc (.cells #[.int .i64 a1, .int .i64 a2, .int .i64 a3, .int .i64 a4, .int .i64 a5, .int .i64 a6] 31) := ⟨_, rfl⟩
  obtain ⟨k_b, B1⟩ := st1 hW1
  rw [← hW1]
  clear hW1
  obtain ⟨c_b_0, c_b_1, c_b_2, c_b_3, c_b_4, c_b_5⟩ := bwc6 (k_b)
  obtain ⟨p1, hp1⟩ : ∃ p : BW W1, p.w = W1 := ⟨BW.start W1, rfl⟩
  rw [← hp1]
  clear hp1
  go_wp2_with (first
    | (go_at_call 26; (first | (with_reducible refine (bw_call KA.out _).mono ?_)); rintro e w' ⟨rfl, q, rfl⟩)
    | (go_at_call 27; (first | (with_reducible refine (bw_call KM.out _).mono ?_)); rintro e w' ⟨rfl, q, rfl⟩))
  go_ret
  exact ⟨rfl, bw_below B1 _⟩

set_option maxRecDepth 100000 in
set_option maxHeartbeats 4000000 in
theorem bins_Bin_hi (a1 a2 a3 a4 a5 a6 ax lo hi m : Int) (w : World) (KA : Hid (∀ w, Calls Try.prog 26 #[.agg #[.int .i64 a1, .int .i64 a2, .int .i64 a3, .int .i64 a4, .int .i64 a5, .int .i64 a6]] w fun en w' => en = .returned (.bool true) ∧ Below w.heap.size w w')) (KM : Hid (∀ w, Calls Try.prog 27 #[.agg #[.int .i64 a1, .int .i64 a2, .int .i64 a3, .int .i64 a4, .int .i64 a5, .int .i64 a6], .int .i64 ax] w fun en w' => en = .returned (.int .i64 m) ∧ Below w.heap.size w w')) (h1 : ¬ ax < 0) (h2 : ¬ 2 < ax) (h3 : ¬ lo < -2097152) (h4 : 2097152 < hi) :
    Calls Try.prog 13 #[.agg #[.int .i64 a1, .int .i64 a2, .int .i64 a3, .int .i64 a4, .int .i64 a5, .int .i64 a6], .int .i64 ax, .int .i64 lo, .int .i64 hi] w fun en w' => en = .returned (.int .i64 (-1)) ∧ Below w.heap.size w w' := by
  have t1 : decide (ax < 0) = false := decide_eq_false h1
  have t2 : decide (2 < ax) = false := decide_eq_false h2
  have t3 : decide (lo < -2097152) = false := decide_eq_false h3
  have t4 : decide (2097152 < hi) = true := decide_eq_true h4
  clear h1 h2 h3 h4
  go_enter Try.func13, Try.ntmps13
  go_upto_region 1 with (fail)
  obtain ⟨W1, hW1⟩ : ∃ W, W = w.alloc (.cells #[.int .i64 a1, .int .i64 a2, .int .i64 a3, .int .i64 a4, .int .i64 a5, .int .i64 a6] 31) := ⟨_, rfl⟩
  obtain ⟨k_b, B1⟩ := st1 hW1
  rw [← hW1]
  clear hW1
  obtain ⟨c_b_0, c_b_1, c_b_2, c_b_3, c_b_4, c_b_5⟩ := bwc6 (k_b)
  obtain ⟨p1, hp1⟩ : ∃ p : BW W1, p.w = W1 := ⟨BW.start W1, rfl⟩
  rw [← hp1]
  clear hp1
  go_wp2_with (first
    | (go_at_call 26; (first | (with_reducible refine (bw_call KA.out _).mono ?_)); rintro e w' ⟨rfl, q, rfl⟩)
    | (go_at_call 27; (first | (with_reducible refine (bw_call KM.out _).mono ?_)); rintro e w' ⟨rfl, q, rfl⟩))
  go_ret
  exact ⟨rfl, bw_below B1 _⟩

set_option maxRecDepth 100000 in
set_option maxHeartbeats 4000000 in
theorem bins_Bin_below (a1 a2 a3 a4 a5 a6 ax lo hi m : Int) (w : World) (KA : Hid (∀ w, Calls Try.prog 26 #[.agg #[.int .i64 a1, .int .i64 a2, .int .i64 a3, .int .i64 a4, .int .i64 a5, .int .i64 a6]] w fun en w' => en = .returned (.bool true) ∧ Below w.heap.size w w')) (KM : Hid (∀ w, Calls Try.prog 27 #[.agg #[.int .i64 a1, .int .i64 a2, .int .i64 a3, .int .i64 a4, .int .i64 a5, .int .i64 a6], .int .i64 ax] w fun en w' => en = .returned (.int .i64 m) ∧ Below w.heap.size w w')) (h1 : ¬ ax < 0) (h2 : ¬ 2 < ax) (h3 : ¬ lo < -2097152) (h4 : ¬ 2097152 < hi) (h5 : m < lo) :
    Calls Try.prog 13 #[.agg #[.int .i64 a1, .int .i64 a2, .int .i64 a3, .int .i64 a4, .int .i64 a5, .int .i64 a6], .int .i64 ax, .int .i64 lo, .int .i64 hi] w fun en w' => en = .returned (.int .i64 (-1)) ∧ Below w.heap.size w w' := by
  have t1 : decide (ax < 0) = false := decide_eq_false h1
  have t2 : decide (2 < ax) = false := decide_eq_false h2
  have t3 : decide (lo < -2097152) = false := decide_eq_false h3
  have t4 : decide (2097152 < hi) = false := decide_eq_false h4
  have t5 : decide (m < lo) = true := decide_eq_true h5
  clear h1 h2 h3 h4 h5
  go_enter Try.func13, Try.ntmps13
  go_upto_region 1 with (fail)
  obtain ⟨W1, hW1⟩ : ∃ W, W = w.alloc (.cells #[.int .i64 a1, .int .i64 a2, .int .i64 a3, .int .i64 a4, .int .i64 a5, .int .i64 a6] 31) := ⟨_, rfl⟩
  obtain ⟨k_b, B1⟩ := st1 hW1
  rw [← hW1]
  clear hW1
  obtain ⟨c_b_0, c_b_1, c_b_2, c_b_3, c_b_4, c_b_5⟩ := bwc6 (k_b)
  obtain ⟨p1, hp1⟩ : ∃ p : BW W1, p.w = W1 := ⟨BW.start W1, rfl⟩
  rw [← hp1]
  clear hp1
  go_wp2_with (first
    | (go_at_call 26; (first | (with_reducible refine (bw_call KA.out _).mono ?_)); rintro e w' ⟨rfl, q, rfl⟩)
    | (go_at_call 27; (first | (with_reducible refine (bw_call KM.out _).mono ?_)); rintro e w' ⟨rfl, q, rfl⟩))
  go_ret
  exact ⟨rfl, bw_below B1 _⟩

set_option maxRecDepth 100000 in
set_option maxHeartbeats 4000000 in
theorem bins_Bin_above (a1 a2 a3 a4 a5 a6 ax lo hi m : Int) (w : World) (KA : Hid (∀ w, Calls Try.prog 26 #[.agg #[.int .i64 a1, .int .i64 a2, .int .i64 a3, .int .i64 a4, .int .i64 a5, .int .i64 a6]] w fun en w' => en = .returned (.bool true) ∧ Below w.heap.size w w')) (KM : Hid (∀ w, Calls Try.prog 27 #[.agg #[.int .i64 a1, .int .i64 a2, .int .i64 a3, .int .i64 a4, .int .i64 a5, .int .i64 a6], .int .i64 ax] w fun en w' => en = .returned (.int .i64 m) ∧ Below w.heap.size w w')) (h1 : ¬ ax < 0) (h2 : ¬ 2 < ax) (h3 : ¬ lo < -2097152) (h4 : ¬ 2097152 < hi) (h5 : ¬ m < lo) (h6 : hi < m) :
    Calls Try.prog 13 #[.agg #[.int .i64 a1, .int .i64 a2, .int .i64 a3, .int .i64 a4, .int .i64 a5, .int .i64 a6], .int .i64 ax, .int .i64 lo, .int .i64 hi] w fun en w' => en = .returned (.int .i64 (-1)) ∧ Below w.heap.size w w' := by
  have t1 : decide (ax < 0) = false := decide_eq_false h1
  have t2 : decide (2 < ax) = false := decide_eq_false h2
  have t3 : decide (lo < -2097152) = false := decide_eq_false h3
  have t4 : decide (2097152 < hi) = false := decide_eq_false h4
  have t5 : decide (m < lo) = false := decide_eq_false h5
  have t6 : decide (hi < m) = true := decide_eq_true h6
  clear h1 h2 h3 h4 h5 h6
  go_enter Try.func13, Try.ntmps13
  go_upto_region 1 with (fail)
  obtain ⟨W1, hW1⟩ : ∃ W, W = w.alloc (.cells #[.int .i64 a1, .int .i64 a2, .int .i64 a3, .int .i64 a4, .int .i64 a5, .int .i64 a6] 31) := ⟨_, rfl⟩
  obtain ⟨k_b, B1⟩ := st1 hW1
  rw [← hW1]
  clear hW1
  obtain ⟨c_b_0, c_b_1, c_b_2, c_b_3, c_b_4, c_b_5⟩ := bwc6 (k_b)
  obtain ⟨p1, hp1⟩ : ∃ p : BW W1, p.w = W1 := ⟨BW.start W1, rfl⟩
  rw [← hp1]
  clear hp1
  go_wp2_with (first
    | (go_at_call 26; (first | (with_reducible refine (bw_call KA.out _).mono ?_)); rintro e w' ⟨rfl, q, rfl⟩)
    | (go_at_call 27; (first | (with_reducible refine (bw_call KM.out _).mono ?_)); rintro e w' ⟨rfl, q, rfl⟩))
  go_ret
  exact ⟨rfl, bw_below B1 _⟩

set_option maxRecDepth 100000 in
set_option maxHeartbeats 4000000 in
theorem bins_Bin_yes (a1 a2 a3 a4 a5 a6 ax lo hi m z : Int) (w : World) (KA : Hid (∀ w, Calls Try.prog 26 #[.agg #[.int .i64 a1, .int .i64 a2, .int .i64 a3, .int .i64 a4, .int .i64 a5, .int .i64 a6]] w fun en w' => en = .returned (.bool true) ∧ Below w.heap.size w w')) (KM : Hid (∀ w, Calls Try.prog 27 #[.agg #[.int .i64 a1, .int .i64 a2, .int .i64 a3, .int .i64 a4, .int .i64 a5, .int .i64 a6], .int .i64 ax] w fun en w' => en = .returned (.int .i64 m) ∧ Below w.heap.size w w')) (h1 : ¬ ax < 0) (h2 : ¬ 2 < ax) (h3 : ¬ lo < -2097152) (h4 : ¬ 2097152 < hi) (h5 : ¬ m < lo) (h6 : ¬ hi < m) (KD : Hid (∀ w, Calls Try.prog 28 #[.int .i64 ((m - lo) * 8), .int .i64 (hi - lo + 1)] w fun en w' => en = .returned (.int .i64 z) ∧ Below w.heap.size w w')) :
    Calls Try.prog 13 #[.agg #[.int .i64 a1, .int .i64 a2, .int .i64 a3, .int .i64 a4, .int .i64 a5, .int .i64 a6], .int .i64 ax, .int .i64 lo, .int .i64 hi] w fun en w' => en = .returned (.int .i64 z) ∧ Below w.heap.size w w' := by
  have t1 : decide (ax < 0) = false := decide_eq_false h1
  have t2 : decide (2 < ax) = false := decide_eq_false h2
  have t3 : decide (lo < -2097152) = false := decide_eq_false h3
  have t4 : decide (2097152 < hi) = false := decide_eq_false h4
  have t5 : decide (m < lo) = false := decide_eq_false h5
  have t6 : decide (hi < m) = false := decide_eq_false h6
  have v1 : wrap64 (m - lo) = m - lo := IntWalk.wrap64_in _ (by omega)
  have v2 : wrap64 ((m - lo) * 8) = (m - lo) * 8 := IntWalk.wrap64_in _ (by omega)
  have v3 : wrap64 (hi - lo) = hi - lo := IntWalk.wrap64_in _ (by omega)
  have v4 : wrap64 (hi - lo + 1) = hi - lo + 1 := IntWalk.wrap64_in _ (by omega)
  clear h1 h2 h3 h4 h5 h6
  go_enter Try.func13, Try.ntmps13
  go_upto_region 1 with (fail)
  obtain ⟨W1, hW1⟩ : ∃ W, W = w.alloc (.cells #[.int .i64 a1, .int .i64 a2, .int .i64 a3, .int .i64 a4, .int .i64 a5, .int .i64 a6] 31) := ⟨_, rfl⟩
  obtain ⟨k_b, B1⟩ := st1 hW1
  rw [← hW1]
  clear hW1
  obtain ⟨c_b_0, c_b_1, c_b_2, c_b_3, c_b_4, c_b_5⟩ := bwc6 (k_b)
  obtain ⟨p1, hp1⟩ : ∃ p : BW W1, p.w = W1 := ⟨BW.start W1, rfl⟩
  rw [← hp1]
  clear hp1
  go_wp2_with (first
    | (go_at_call 26; (first | (with_reducible refine (bw_call KA.out _).mono ?_)); rintro e w' ⟨rfl, q, rfl⟩)
    | (go_at_call 27; (first | (with_reducible refine (bw_call KM.out _).mono ?_)); rintro e w' ⟨rfl, q, rfl⟩)
    | (go_at_call 28; (first | (with_reducible refine (bw_call KD.out _).mono ?_)); rintro e w' ⟨rfl, q, rfl⟩))
  go_ret
  exact ⟨rfl, bw_below B1 _⟩

theorem bins_Bin (a1 a2 a3 a4 a5 a6 ax lo hi : Int) (w : World) (hx : I64 ax) (hl : I64 lo) (hh : I64 hi) :
    Calls Try.prog 13 #[.agg #[.int .i64 a1, .int .i64 a2, .int .i64 a3, .int .i64 a4, .int .i64 a5, .int .i64 a6], .int .i64 ax, .int .i64 lo, .int .i64 hi] w fun en w' => en = .returned (.int .i64 (bBin ((a1, a2, a3), (a4, a5, a6)) ax lo hi)) ∧ Below w.heap.size w w' := by
  have KA := Lib.hid (fun w => box_Right a1 a2 a3 a4 a5 a6 w)
  have KM := Lib.hid (fun w => box_Mid a1 a2 a3 a4 a5 a6 ax w hx)
  have hm := bMid_in ((a1, a2, a3), (a4, a5, a6)) ax
  unfold bBin
  cases h : bRight ((a1, a2, a3), (a4, a5, a6)) with
  | false => rw [if_neg (fun k => by cases k.1)]; rw [h] at KA; exact bins_Bin_no a1 a2 a3 a4 a5 a6 ax lo hi _ w KA KM
  | true =>
    rw [h] at KA
    by_cases h1 : ax < 0
    · rw [if_neg (fun k => by omega)]; exact bins_Bin_neg a1 a2 a3 a4 a5 a6 ax lo hi _ w KA KM h1
    by_cases h2 : 2 < ax
    · rw [if_neg (fun k => by omega)]; exact bins_Bin_far a1 a2 a3 a4 a5 a6 ax lo hi _ w KA KM h1 h2
    by_cases h3 : lo < -2097152
    · rw [if_neg (fun k => by omega)]; exact bins_Bin_lo a1 a2 a3 a4 a5 a6 ax lo hi _ w KA KM h1 h2 h3
    by_cases h4 : 2097152 < hi
    · rw [if_neg (fun k => by omega)]; exact bins_Bin_hi a1 a2 a3 a4 a5 a6 ax lo hi _ w KA KM h1 h2 h3 h4
    by_cases h5 : bMid ((a1, a2, a3), (a4, a5, a6)) ax < lo
    · rw [if_neg (fun k => by omega)]; exact bins_Bin_below a1 a2 a3 a4 a5 a6 ax lo hi _ w KA KM h1 h2 h3 h4 h5
    by_cases h6 : hi < bMid ((a1, a2, a3), (a4, a5, a6)) ax
    · rw [if_neg (fun k => by omega)]; exact bins_Bin_above a1 a2 a3 a4 a5 a6 ax lo hi _ w KA KM h1 h2 h3 h4 h5 h6
    have KD := Lib.hid (fun w => below_of_same (fun w => num_Div ((bMid ((a1, a2, a3), (a4, a5, a6)) ax - lo) * 8) (hi - lo + 1) w (by unfold I64; omega) (by unfold I64; omega)) w)
    rw [show dv ((bMid ((a1, a2, a3), (a4, a5, a6)) ax - lo) * 8) (hi - lo + 1) = (bMid ((a1, a2, a3), (a4, a5, a6)) ax - lo) * 8 / (hi - lo + 1) by unfold dv; rw [if_neg (by omega)]] at KD
    rw [if_pos ⟨rfl, by omega, by omega, by omega, by omega, by omega, by omega⟩]
    exact bins_Bin_yes a1 a2 a3 a4 a5 a6 ax lo hi _ _ w KA KM h1 h2 h3 h4 h5 h6 KD

set_option maxRecDepth 100000 in
set_option maxHeartbeats 4000000 in
theorem bins_Left_none (ax at_ lo hi a1 a2 a3 a4 a5 a6 z : Int) (w : World) (KB : Hid (∀ w, Calls Try.prog 13 #[.agg #[.int .i64 a1, .int .i64 a2, .int .i64 a3, .int .i64 a4, .int .i64 a5, .int .i64 a6], .int .i64 ax, .int .i64 lo, .int .i64 hi] w fun en w' => en = .returned (.int .i64 z) ∧ Below w.heap.size w w')) (h1 : z < 0) :
    Calls Try.prog 15 #[.agg #[.int .i64 ax, .int .i64 at_, .int .i64 lo, .int .i64 hi], .agg #[.int .i64 a1, .int .i64 a2, .int .i64 a3, .int .i64 a4, .int .i64 a5, .int .i64 a6]] w fun en w' => en = .returned (.bool false) ∧ Below w.heap.size w w' := by
  have t1 : decide (0 ≤ z) = false := decide_eq_false (by omega)
  clear h1
  go_enter Try.func15, Try.ntmps15
  go_upto_region 1 with (fail)
  obtain ⟨W1, hW1⟩ : ∃ W, W = (w.alloc (.cells #[.int .i64 ax, .int .i64 at_, .int .i64 lo, .int .i64 hi] 30)).alloc (.cells #[.int .i64 a1, .int .i64 a2, .int .i64 a3, .int .i64 a4, .int .i64 a5, .int .i64 a6] 31) := ⟨_, rfl⟩
  obtain ⟨k_s, k_b, B1⟩ := st2 hW1
  rw [← hW1]
  clear hW1
  have l_b : w.heap.size < w.heap.size + 1 := by omega
  generalize w.heap.size + 1 = g_b at *
  obtain ⟨c_s_0, c_s_1, c_s_2, c_s_3⟩ := bwc4 (k_s)
  obtain ⟨c_b_0, c_b_1, c_b_2, c_b_3, c_b_4, c_b_5⟩ := bwc6 (k_b)
  obtain ⟨p1, hp1⟩ : ∃ p : BW W1, p.w = W1 := ⟨BW.start W1, rfl⟩
  rw [← hp1]
  clear hp1
  go_wp2_with (first
    | (go_at_call 13; (first | (with_reducible refine (bw_call KB.out _).mono ?_)); rintro e w' ⟨rfl, q, rfl⟩))
  go_ret
  exact ⟨rfl, bw_below B1 _⟩

set_option maxRecDepth 100000 in
set_option maxHeartbeats 4000000 in
theorem bins_Left_in (ax at_ lo hi a1 a2 a3 a4 a5 a6 z : Int) (w : World) (KB : Hid (∀ w, Calls Try.prog 13 #[.agg #[.int .i64 a1, .int .i64 a2, .int .i64 a3, .int .i64 a4, .int .i64 a5, .int .i64 a6], .int .i64 ax, .int .i64 lo, .int .i64 hi] w fun en w' => en = .returned (.int .i64 z) ∧ Below w.heap.size w w')) (h1 : ¬ z < 0) (h2 : z < at_) :
    Calls Try.prog 15 #[.agg #[.int .i64 ax, .int .i64 at_, .int .i64 lo, .int .i64 hi], .agg #[.int .i64 a1, .int .i64 a2, .int .i64 a3, .int .i64 a4, .int .i64 a5, .int .i64 a6]] w fun en w' => en = .returned (.bool true) ∧ Below w.heap.size w w' := by
  have t1 : decide (0 ≤ z) = true := decide_eq_true (by omega)
  have t2 : decide (z < at_) = true := decide_eq_true h2
  clear h1 h2
  go_enter Try.func15, Try.ntmps15
  go_upto_region 1 with (fail)
  obtain ⟨W1, hW1⟩ : ∃ W, W = (w.alloc (.cells #[.int .i64 ax, .int .i64 at_, .int .i64 lo, .int .i64 hi] 30)).alloc (.cells #[.int .i64 a1, .int .i64 a2, .int .i64 a3, .int .i64 a4, .int .i64 a5, .int .i64 a6] 31) := ⟨_, rfl⟩
  obtain ⟨k_s, k_b, B1⟩ := st2 hW1
  rw [← hW1]
  clear hW1
  have l_b : w.heap.size < w.heap.size + 1 := by omega
  generalize w.heap.size + 1 = g_b at *
  obtain ⟨c_s_0, c_s_1, c_s_2, c_s_3⟩ := bwc4 (k_s)
  obtain ⟨c_b_0, c_b_1, c_b_2, c_b_3, c_b_4, c_b_5⟩ := bwc6 (k_b)
  obtain ⟨p1, hp1⟩ : ∃ p : BW W1, p.w = W1 := ⟨BW.start W1, rfl⟩
  rw [← hp1]
  clear hp1
  go_wp2_with (first
    | (go_at_call 13; (first | (with_reducible refine (bw_call KB.out _).mono ?_)); rintro e w' ⟨rfl, q, rfl⟩))
  go_ret
  exact ⟨rfl, bw_below B1 _⟩

set_option maxRecDepth 100000 in
set_option maxHeartbeats 4000000 in
theorem bins_Left_out (ax at_ lo hi a1 a2 a3 a4 a5 a6 z : Int) (w : World) (KB : Hid (∀ w, Calls Try.prog 13 #[.agg #[.int .i64 a1, .int .i64 a2, .int .i64 a3, .int .i64 a4, .int .i64 a5, .int .i64 a6], .int .i64 ax, .int .i64 lo, .int .i64 hi] w fun en w' => en = .returned (.int .i64 z) ∧ Below w.heap.size w w')) (h1 : ¬ z < 0) (h2 : ¬ z < at_) :
    Calls Try.prog 15 #[.agg #[.int .i64 ax, .int .i64 at_, .int .i64 lo, .int .i64 hi], .agg #[.int .i64 a1, .int .i64 a2, .int .i64 a3, .int .i64 a4, .int .i64 a5, .int .i64 a6]] w fun en w' => en = .returned (.bool false) ∧ Below w.heap.size w w' := by
  have t1 : decide (0 ≤ z) = true := decide_eq_true (by omega)
  have t2 : decide (z < at_) = false := decide_eq_false h2
  clear h1 h2
  go_enter Try.func15, Try.ntmps15
  go_upto_region 1 with (fail)
  obtain ⟨W1, hW1⟩ : ∃ W, W = (w.alloc (.cells #[.int .i64 ax, .int .i64 at_, .int .i64 lo, .int .i64 hi] 30)).alloc (.cells #[.int .i64 a1, .int .i64 a2, .int .i64 a3, .int .i64 a4, .int .i64 a5, .int .i64 a6] 31) := ⟨_, rfl⟩
  obtain ⟨k_s, k_b, B1⟩ := st2 hW1
  rw [← hW1]
  clear hW1
  have l_b : w.heap.size < w.heap.size + 1 := by omega
  generalize w.heap.size + 1 = g_b at *
  obtain ⟨c_s_0, c_s_1, c_s_2, c_s_3⟩ := bwc4 (k_s)
  obtain ⟨c_b_0, c_b_1, c_b_2, c_b_3, c_b_4, c_b_5⟩ := bwc6 (k_b)
  obtain ⟨p1, hp1⟩ : ∃ p : BW W1, p.w = W1 := ⟨BW.start W1, rfl⟩
  rw [← hp1]
  clear hp1
  go_wp2_with (first
    | (go_at_call 13; (first | (with_reducible refine (bw_call KB.out _).mono ?_)); rintro e w' ⟨rfl, q, rfl⟩))
  go_ret
  exact ⟨rfl, bw_below B1 _⟩

theorem bins_Left (ax at_ lo hi a1 a2 a3 a4 a5 a6 : Int) (w : World) (hx : I64 ax) (hl : I64 lo) (hh : I64 hi) :
    Calls Try.prog 15 #[.agg #[.int .i64 ax, .int .i64 at_, .int .i64 lo, .int .i64 hi], .agg #[.int .i64 a1, .int .i64 a2, .int .i64 a3, .int .i64 a4, .int .i64 a5, .int .i64 a6]] w fun en w' => en = .returned (.bool (isL ax lo hi at_ ((a1, a2, a3), (a4, a5, a6)))) ∧ Below w.heap.size w w' := by
  have KB := Lib.hid (fun w => bins_Bin a1 a2 a3 a4 a5 a6 ax lo hi w hx hl hh)
  unfold isL
  generalize bBin ((a1, a2, a3), (a4, a5, a6)) ax lo hi = z at *
  by_cases h1 : z < 0
  · rw [decide_eq_false (by omega)]; exact bins_Left_none ax at_ lo hi a1 a2 a3 a4 a5 a6 z w KB h1
  by_cases h2 : z < at_
  · rw [decide_eq_true (by omega)]; exact bins_Left_in ax at_ lo hi a1 a2 a3 a4 a5 a6 z w KB h1 h2
  · rw [decide_eq_false (by omega)]; exact bins_Left_out ax at_ lo hi a1 a2 a3 a4 a5 a6 z w KB h1 h2

end Go.Proofs.Ytfdolgdfadipeaa
