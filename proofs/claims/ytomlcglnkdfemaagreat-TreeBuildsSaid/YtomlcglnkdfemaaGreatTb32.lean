/- Contracts of package bins, below: groups, what a side costs, bins, the least and the greatest middle. Contracts of package bins, below: the least and the greatest middle, the boxes bin by bin, the sums from both ends. Contracts of package bins: Sides, Cost, Best. -/
import Derived.Test.YtomlcglnkdfemaaGreatTb19
import Derived.Test.YtomlcglnkdfemaaGreatTb31
import Derived.Test.YtomlcglnkdfemaaGreatTb5
import Derived.Test.YtomlcglnkdfemaaGreatTb6
import Derived.Test.YtomlcglnkdfemaaGreatTb7
import Derived.Lib.MinMax
import Derived.Deep.DeepCutAuto
import Derived.Deep.MidRow


namespace Go.Proofs.YtomlcglnkdfemaaGreat
section

section

open Go.RowKit Go.Proofs.Sky

set_option linter.unusedVariables false

set_option maxRecDepth 100000 in
set_option maxHeartbeats 4000000 in
theorem bins_with_left (a1 a2 a3 a4 a5 a6 b1 b2 b3 b4 b5 b6 m : Int) (w : World) :
    Calls Tryz.prog 68 #[.agg #[.int .i64 a1, .int .i64 a2, .int .i64 a3, .int .i64 a4, .int .i64 a5, .int .i64 a6, .int .i64 0], .agg #[.int .i64 b1, .int .i64 b2, .int .i64 b3, .int .i64 b4, .int .i64 b5, .int .i64 b6, .int .i64 m]] w fun en w' => en = .returned (.agg #[.int .i64 b1, .int .i64 b2, .int .i64 b3, .int .i64 b4, .int .i64 b5, .int .i64 b6, .int .i64 m]) ∧ Below w.heap.size w w' := by
  go_enter Tryz.func68, Tryz.ntmps68
  go_upto_region 1 with (fail)
  obtain ⟨W1, hW1⟩ : ∃ W, W = ((w.alloc (.cells #[.int .i64 a1, .int .i64 a2, .int .i64 a3, .int .i64 a4, .int .i64 a5, .int .i64 a6, .int .i64 0] 109)).alloc (.cells #[.int .i64 b1, .int .i64 b2, .int .i64 b3, .int .i64 b4, .int .i64 b5, .int .i64 b6, .int .i64 m] 109)).alloc (.cells #[.int .i64 0, .int .i64 0, .int .i64 0, .int .i64 0, .int .i64 0, .int .i64 0, .int .i64 0] 109) := ⟨_, rfl⟩
  obtain ⟨k_a, k_b, k_r, B1⟩ := st3 hW1
  rw [← hW1]
  clear hW1
  have l_b : w.heap.size < w.heap.size + 1 := by omega
  have l_r : w.heap.size + 1 < w.heap.size + 1 + 1 := by omega
  generalize w.heap.size + 1 + 1 = g_r at *
  generalize w.heap.size + 1 = g_b at *
  obtain ⟨c_a_0, c_a_1, c_a_2, c_a_3, c_a_4, c_a_5, c_a_6⟩ := bwc7 (k_a)
  obtain ⟨c_b_0, c_b_1, c_b_2, c_b_3, c_b_4, c_b_5, c_b_6⟩ := bwc7 (k_b)
  obtain ⟨c_r_0, c_r_1, c_r_2, c_r_3, c_r_4, c_r_5, c_r_6⟩ := bwc7 (k_r)
  obtain ⟨f_r_0, f_r_1, f_r_2, f_r_3, f_r_4, f_r_5, f_r_6⟩ := bwf7 (k_r)
  obtain ⟨p1, hp1⟩ : ∃ p : BW W1, p.w = W1 := ⟨BW.start W1, rfl⟩
  rw [← hp1]
  clear hp1
  go_wp2
  have kr := bkp7 (k_r.below p1.h) (.int .i64 b1) (.int .i64 b2) (.int .i64 b3) (.int .i64 b4) (.int .i64 b5) (.int .i64 b6) (.int .i64 m)
  obtain ⟨rc0, rc1, rc2, rc3, rc4, rc5, rc6⟩ := rwc7 kr
  exact bodyPost_ret (v := .agg #[.int .i64 b1, .int .i64 b2, .int .i64 b3, .int .i64 b4, .int .i64 b5, .int .i64 b6, .int .i64 m]) (by simp [results, Tryz.results68, go_sem, rc0, rc1, rc2, rc3, rc4, rc5, rc6]) rfl ⟨rfl, blp7 (bw_below B1 p1) (by omega)⟩

set_option maxRecDepth 100000 in
set_option maxHeartbeats 4000000 in
theorem bins_with_right (a1 a2 a3 a4 a5 a6 n b1 b2 b3 b4 b5 b6 : Int) (w : World)  (hn : ¬ n = 0) :
    Calls Tryz.prog 68 #[.agg #[.int .i64 a1, .int .i64 a2, .int .i64 a3, .int .i64 a4, .int .i64 a5, .int .i64 a6, .int .i64 n], .agg #[.int .i64 b1, .int .i64 b2, .int .i64 b3, .int .i64 b4, .int .i64 b5, .int .i64 b6, .int .i64 0]] w fun en w' => en = .returned (.agg #[.int .i64 a1, .int .i64 a2, .int .i64 a3, .int .i64 a4, .int .i64 a5, .int .i64 a6, .int .i64 n]) ∧ Below w.heap.size w w' := by
  go_enter Tryz.func68, Tryz.ntmps68
  go_upto_region 1 with (fail)
  obtain ⟨W1, hW1⟩ : ∃ W, W = ((w.alloc (.cells #[.int .i64 a1, .int .i64 a2, .int .i64 a3, .int .i64 a4, .int .i64 a5, .int .i64 a6, .int .i64 n] 109)).alloc (.cells #[.int .i64 b1, .int .i64 b2, .int .i64 b3, .int .i64 b4, .int .i64 b5, .int .i64 b6, .int .i64 0] 109)).alloc (.cells #[.int .i64 0, .int .i64 0, .int .i64 0, .int .i64 0, .int .i64 0, .int .i64 0, .int .i64 0] 109) := ⟨_, rfl⟩
  obtain ⟨k_a, k_b, k_r, B1⟩ := st3 hW1
  rw [← hW1]
  clear hW1
  have l_b : w.heap.size < w.heap.size + 1 := by omega
  have l_r : w.heap.size + 1 < w.heap.size + 1 + 1 := by omega
  generalize w.heap.size + 1 + 1 = g_r at *
  generalize w.heap.size + 1 = g_b at *
  obtain ⟨c_a_0, c_a_1, c_a_2, c_a_3, c_a_4, c_a_5, c_a_6⟩ := bwc7 (k_a)
  obtain ⟨c_b_0, c_b_1, c_b_2, c_b_3, c_b_4, c_b_5, c_b_6⟩ := bwc7 (k_b)
  obtain ⟨c_r_0, c_r_1, c_r_2, c_r_3, c_r_4, c_r_5, c_r_6⟩ := bwc7 (k_r)
  obtain ⟨f_r_0, f_r_1, f_r_2, f_r_3, f_r_4, f_r_5, f_r_6⟩ := bwf7 (k_r)
  obtain ⟨p1, hp1⟩ : ∃ p : BW W1, p.w = W1 := ⟨BW.start W1, rfl⟩
  rw [← hp1]
  clear hp1
  go_wp2
  have kr := bkp7 (k_r.below p1.h) (.int .i64 a1) (.int .i64 a2) (.int .i64 a3) (.int .i64 a4) (.int .i64 a5) (.int .i64 a6) (.int .i64 n)
  obtain ⟨rc0, rc1, rc2, rc3, rc4, rc5, rc6⟩ := rwc7 kr
  exact bodyPost_ret (v := .agg #[.int .i64 a1, .int .i64 a2, .int .i64 a3, .int .i64 a4, .int .i64 a5, .int .i64 a6, .int .i64 n]) (by simp [results, Tryz.results68, go_sem, rc0, rc1, rc2, rc3, rc4, rc5, rc6]) rfl ⟨rfl, blp7 (bw_below B1 p1) (by omega)⟩

set_option maxRecDepth 100000 in
set_option maxHeartbeats 4000000 in
theorem bins_with_both (a1 a2 a3 a4 a5 a6 n b1 b2 b3 b4 b5 b6 m m1 m2 m3 m4 m5 m6 s : Int) (w : World)  (hn : ¬ n = 0) (hm : ¬ m = 0) (hs : wrap64 (n + m) = s) (KJ : Hid (∀ w, Calls Tryz.prog 29 #[.agg #[.int .i64 a1, .int .i64 a2, .int .i64 a3, .int .i64 a4, .int .i64 a5, .int .i64 a6], .agg #[.int .i64 b1, .int .i64 b2, .int .i64 b3, .int .i64 b4, .int .i64 b5, .int .i64 b6]] w fun en w' => en = .returned (.agg #[.int .i64 m1, .int .i64 m2, .int .i64 m3, .int .i64 m4, .int .i64 m5, .int .i64 m6]) ∧ Below w.heap.size w w')) :
    Calls Tryz.prog 68 #[.agg #[.int .i64 a1, .int .i64 a2, .int .i64 a3, .int .i64 a4, .int .i64 a5, .int .i64 a6, .int .i64 n], .agg #[.int .i64 b1, .int .i64 b2, .int .i64 b3, .int .i64 b4, .int .i64 b5, .int .i64 b6, .int .i64 m]] w fun en w' => en = .returned (.agg #[.int .i64 m1, .int .i64 m2, .int .i64 m3, .int .i64 m4, .int .i64 m5, .int .i64 m6, .int .i64 s]) ∧ Below w.heap.size w w' := by
  go_enter Tryz.func68, Tryz.ntmps68
  go_upto_region 1 with (fail)
  obtain ⟨W1, hW1⟩ : ∃ W, W = ((w.alloc (.cells #[.int .i64 a1, .int .i64 a2, .int .i64 a3, .int .i64 a4, .int .i64 a5, .int .i64 a6, .int .i64 n] 109)).alloc (.cells #[.int .i64 b1, .int .i64 b2, .int .i64 b3, .int .i64 b4, .int .i64 b5, .int .i64 b6, .int .i64 m] 109)).alloc (.cells #[.int .i64 0, .int .i64 0, .int .i64 0, .int .i64 0, .int .i64 0, .int .i64 0, .int .i64 0] 109) := ⟨_, rfl⟩
  obtain ⟨k_a, k_b, k_r, B1⟩ := st3 hW1
  rw [← hW1]
  clear hW1
  have l_b : w.heap.size < w.heap.size + 1 := by omega
  have l_r : w.heap.size + 1 < w.heap.size + 1 + 1 := by omega
  generalize w.heap.size + 1 + 1 = g_r at *
  generalize w.heap.size + 1 = g_b at *
  obtain ⟨c_a_0, c_a_1, c_a_2, c_a_3, c_a_4, c_a_5, c_a_6⟩ := bwc7 (k_a)
  obtain ⟨c_b_0, c_b_1, c_b_2, c_b_3, c_b_4, c_b_5, c_b_6⟩ := bwc7 (k_b)
  obtain ⟨c_r_0, c_r_1, c_r_2, c_r_3, c_r_4, c_r_5, c_r_6⟩ := bwc7 (k_r)
  obtain ⟨f_r_0, f_r_1, f_r_2, f_r_3, f_r_4, f_r_5, f_r_6⟩ := bwf7 (k_r)
  obtain ⟨p1, hp1⟩ : ∃ p : BW W1, p.w = W1 := ⟨BW.start W1, rfl⟩
  rw [← hp1]
  clear hp1
  go_upto_region 5 with (fail)
  refine wp_region_bw_tail 10 (by kernel_rfl) (by kernel_rfl) (by kernel_rfl) ?_
  simp only [List.take_succ_cons, List.take_zero, List.drop_succ_cons, List.drop_zero]
  repeat (go_big_quiet_step (first
    | (go_at_call 29; (first | (with_reducible exact bw_call KJ.out _)))))
  refine wpQuiet_nil ?_
  intro _ hw'
  obtain ⟨q, rfl⟩ := hw'
  go_wp2
  have kr := bkp7 (k_r.below q.h) (.int .i64 m1) (.int .i64 m2) (.int .i64 m3) (.int .i64 m4) (.int .i64 m5) (.int .i64 m6) (.int .i64 s)
  obtain ⟨rc0, rc1, rc2, rc3, rc4, rc5, rc6⟩ := rwc7 kr
  exact bodyPost_ret (v := .agg #[.int .i64 m1, .int .i64 m2, .int .i64 m3, .int .i64 m4, .int .i64 m5, .int .i64 m6, .int .i64 s]) (by simp [results, Tryz.results68, go_sem, rc0, rc1, rc2, rc3, rc4, rc5, rc6]) rfl ⟨rfl, blp7 (bw_below B1 q) (by omega)⟩

theorem bins_with (g h : Gp) (w : World) (hg : gOk g) (hh : gOk h) (hb : g.2 + h.2 ≤ 1048576) :
    Calls Tryz.prog 68 #[.agg (gcells g).toArray, .agg (gcells h).toArray] w fun e w' => e = .returned (.agg (gcells (gW g h)).toArray) ∧ Below w.heap.size w w' := by
  obtain ⟨⟨⟨a1, a2, a3⟩, a4, a5, a6⟩, n⟩ := g
  obtain ⟨⟨⟨b1, b2, b3⟩, b4, b5, b6⟩, m⟩ := h
  dsimp only at hb
  unfold gW
  by_cases h1 : n = 0
  · subst h1
    rw [if_pos rfl]
    exact bins_with_left a1 a2 a3 a4 a5 a6 b1 b2 b3 b4 b5 b6 (m : Int) w
  · rw [if_neg h1]
    by_cases h2 : m = 0
    · subst h2
      rw [if_pos rfl]
      exact bins_with_right a1 a2 a3 a4 a5 a6 (n : Int) b1 b2 b3 b4 b5 b6 w (by omega)
    · rw [if_neg h2]
      have hl := hg.resolve_left h1
      have hr := hh.resolve_left h2
      have hJ := fun w => box_Join a1 a2 a3 a4 a5 a6 b1 b2 b3 b4 b5 b6 w
      rw [uJoin_right hl hr] at hJ
      have hc : ((n + m : Nat) : Int) = (n : Int) + m := by omega
      have K := bins_with_both a1 a2 a3 a4 a5 a6 (n : Int) b1 b2 b3 b4 b5 b6 (m : Int) _ _ _ _ _ _ _ w (by omega) (by omega) (IntWalk.wrap64_in _ (by omega)) (Lib.hid hJ)
      rw [← hc] at K
      exact K

set_option maxRecDepth 100000 in
set_option maxHeartbeats 4000000 in
theorem bins_cost_w (a1 a2 a3 a4 a5 a6 n z c : Int) (w : World) (KA : Hid (∀ w, Calls Tryz.prog 85 #[.agg #[.int .i64 a1, .int .i64 a2, .int .i64 a3, .int .i64 a4, .int .i64 a5, .int .i64 a6]] w fun en w' => en = .returned (.int .i64 z) ∧ Below w.heap.size w w')) (hz : wrap64 (z * n) = c) :
    Calls Tryz.prog 69 #[.agg #[.int .i64 a1, .int .i64 a2, .int .i64 a3, .int .i64 a4, .int .i64 a5, .int .i64 a6, .int .i64 n]] w fun en w' => en = .returned (.int .i64 c) ∧ Below w.heap.size w w' := by
  go_enter Tryz.func69, Tryz.ntmps69
  go_upto_region 1 with (fail)
  obtain ⟨W1, hW1⟩ : ∃ W, W = w.alloc (.cells #[.int .i64 a1, .int .i64 a2, .int .i64 a3, .int .i64 a4, .int .i64 a5, .int .i64 a6, .int .i64 n] 109) := ⟨_, rfl⟩
  obtain ⟨k_a, B1⟩ := st1 hW1
  rw [← hW1]
  clear hW1
  obtain ⟨c_a_0, c_a_1, c_a_2, c_a_3, c_a_4, c_a_5, c_a_6⟩ := bwc7 (k_a)
  obtain ⟨p1, hp1⟩ : ∃ p : BW W1, p.w = W1 := ⟨BW.start W1, rfl⟩
  rw [← hp1]
  clear hp1
  refine wp_region_bw (by kernel_rfl) (by kernel_rfl) ?_
  repeat (go_big_quiet_step (first
    | (go_at_call 85; (first | (with_reducible exact bw_call KA.out _)))))
  refine wpQuiet_nil ?_
  intro _ hw'
  obtain ⟨q, rfl⟩ := hw'
  go_wp2
  go_ret
  exact ⟨ret_int hz, bw_below B1 _⟩

theorem bins_cost (g : Gp) (w : World) (hb : g.2 ≤ 1024) :
    Calls Tryz.prog 69 #[.agg (gcells g).toArray] w fun e w' => e = .returned (.int .i64 (gCost g)) ∧ Below w.heap.size w w' := by
  have hc := gCost_in hb
  unfold gCost at hc ⊢
  obtain ⟨⟨⟨a1, a2, a3⟩, a4, a5, a6⟩, n⟩ := g
  dsimp only at hc
  exact bins_cost_w a1 a2 a3 a4 a5 a6 (n : Int) _ _ w (Lib.hid (fun w => box_Area a1 a2 a3 a4 a5 a6 w)) (IntWalk.wrap64_in _ (by omega))

set_option maxRecDepth 100000 in
set_option maxHeartbeats 4000000 in
theorem bins_apart_left (a1 a2 a3 a4 a5 a6 b1 b2 b3 b4 b5 b6 m : Int) (w : World) :
    Calls Tryz.prog 46 #[.agg #[.int .i64 a1, .int .i64 a2, .int .i64 a3, .int .i64 a4, .int .i64 a5, .int .i64 a6, .int .i64 0], .agg #[.int .i64 b1, .int .i64 b2, .int .i64 b3, .int .i64 b4, .int .i64 b5, .int .i64 b6, .int .i64 m]] w fun en w' => en = .returned (.tuple #[.int .i64 0, .bool false]) ∧ Below w.heap.size w w' := by
  go_enter Tryz.func46, Tryz.ntmps46
  go_upto_region 1 with (fail)
  obtain ⟨W1, hW1⟩ : ∃ W, W = (w.alloc (.cells #[.int .i64 a1, .int .i64 a2, .int .i64 a3, .int .i64 a4, .int .i64 a5, .int .i64 a6, .int .i64 0] 109)).alloc (.cells #[.int .i64 b1, .int .i64 b2, .int .i64 b3, .int .i64 b4, .int .i64 b5, .int .i64 b6, .int .i64 m] 109) := ⟨_, rfl⟩
  obtain ⟨k_a, k_b, B1⟩ := st2 hW1
  rw [← hW1]
  clear hW1
  have l_b : w.heap.size < w.heap.size + 1 := by omega
  generalize w.heap.size + 1 = g_b at *
  obtain ⟨c_a_0, c_a_1, c_a_2, c_a_3, c_a_4, c_a_5, c_a_6⟩ := bwc7 (k_a)
  obtain ⟨c_b_0, c_b_1, c_b_2, c_b_3, c_b_4, c_b_5, c_b_6⟩ := bwc7 (k_b)
  obtain ⟨p1, hp1⟩ : ∃ p : BW W1, p.w = W1 := ⟨BW.start W1, rfl⟩
  rw [← hp1]
  clear hp1
  go_wp2
  go_ret2
  exact ⟨rfl, bw_below B1 _⟩

set_option maxRecDepth 100000 in
set_option maxHeartbeats 4000000 in
theorem bins_apart_right (a1 a2 a3 a4 a5 a6 n b1 b2 b3 b4 b5 b6 : Int) (w : World) (hn : ¬ n = 0) :
    Calls Tryz.prog 46 #[.agg #[.int .i64 a1, .int .i64 a2, .int .i64 a3, .int .i64 a4, .int .i64 a5, .int .i64 a6, .int .i64 n], .agg #[.int .i64 b1, .int .i64 b2, .int .i64 b3, .int .i64 b4, .int .i64 b5, .int .i64 b6, .int .i64 0]] w fun en w' => en = .returned (.tuple #[.int .i64 0, .bool false]) ∧ Below w.heap.size w w' := by
  have tn : (n == 0) = false := by rw [beq_eq_false_iff_ne]; exact hn
  go_enter Tryz.func46, Tryz.ntmps46
  go_upto_region 1 with (fail)
  obtain ⟨W1, hW1⟩ : ∃ W, W = (w.alloc (.cells #[.int .i64 a1, .int .i64 a2, .int .i64 a3, .int .i64 a4, .int .i64 a5, .int .i64 a6, .int .i64 n] 109)).alloc (.cells #[.int .i64 b1, .int .i64 b2, .int .i64 b3, .int .i64 b4, .int .i64 b5, .int .i64 b6, .int .i64 0] 109) := ⟨_, rfl⟩
  obtain ⟨k_a, k_b, B1⟩ := st2 hW1
  rw [← hW1]
  clear hW1
  have l_b : w.heap.size < w.heap.size + 1 := by omega
  generalize w.heap.size + 1 = g_b at *
  obtain ⟨c_a_0, c_a_1, c_a_2, c_a_3, c_a_4, c_a_5, c_a_6⟩ := bwc7 (k_a)
  obtain ⟨c_b_0, c_b_1, c_b_2, c_b_3, c_b_4, c_b_5, c_b_6⟩ := bwc7 (k_b)
  obtain ⟨p1, hp1⟩ : ∃ p : BW W1, p.w = W1 := ⟨BW.start W1, rfl⟩
  rw [← hp1]
  clear hp1
  go_wp2
  go_ret2
  exact ⟨rfl, bw_below B1 _⟩

set_option maxRecDepth 100000 in
set_option maxHeartbeats 4000000 in
theorem bins_apart_both (a1 a2 a3 a4 a5 a6 n b1 b2 b3 b4 b5 b6 m c d s : Int) (w : World) (hn : ¬ n = 0) (hm : ¬ m = 0) (K1 : Hid (∀ w, Calls Tryz.prog 69 #[.agg #[.int .i64 a1, .int .i64 a2, .int .i64 a3, .int .i64 a4, .int .i64 a5, .int .i64 a6, .int .i64 n]] w fun en w' => en = .returned (.int .i64 c) ∧ Below w.heap.size w w')) (K2 : Hid (∀ w, Calls Tryz.prog 69 #[.agg #[.int .i64 b1, .int .i64 b2, .int .i64 b3, .int .i64 b4, .int .i64 b5, .int .i64 b6, .int .i64 m]] w fun en w' => en = .returned (.int .i64 d) ∧ Below w.heap.size w w')) (hs : wrap64 (c + d) = s) :
    Calls Tryz.prog 46 #[.agg #[.int .i64 a1, .int .i64 a2, .int .i64 a3, .int .i64 a4, .int .i64 a5, .int .i64 a6, .int .i64 n], .agg #[.int .i64 b1, .int .i64 b2, .int .i64 b3, .int .i64 b4, .int .i64 b5, .int .i64 b6, .int .i64 m]] w fun en w' => en = .returned (.tuple #[.int .i64 s, .bool true]) ∧ Below w.heap.size w w' := by
  have tn : (n == 0) = false := by rw [beq_eq_false_iff_ne]; exact hn
  have tm : (m == 0) = false := by rw [beq_eq_false_iff_ne]; exact hm
  go_enter Tryz.func46, Tryz.ntmps46
  go_upto_region 1 with (fail)
  obtain ⟨W1, hW1⟩ : ∃ W, W = (w.alloc (.cells #[.int .i64 a1, .int .i64 a2, .int .i64 a3, .int .i64 a4, .int .i64 a5, .int .i64 a6, .int .i64 n] 109)).alloc (.cells #[.int .i64 b1, .int .i64 b2, .int .i64 b3, .int .i64 b4, .int .i64 b5, .int .i64 b6, .int .i64 m] 109) := ⟨_, rfl⟩
  obtain ⟨k_a, k_b, B1⟩ := st2 hW1
  rw [← hW1]
  clear hW1
  have l_b : w.heap.size < w.heap.size + 1 := by omega
  generalize w.heap.size + 1 = g_b at *
  obtain ⟨c_a_0, c_a_1, c_a_2, c_a_3, c_a_4, c_a_5, c_a_6⟩ := bwc7 (k_a)
  obtain ⟨c_b_0, c_b_1, c_b_2, c_b_3, c_b_4, c_b_5, c_b_6⟩ := bwc7 (k_b)
  obtain ⟨p1, hp1⟩ : ∃ p : BW W1, p.w = W1 := ⟨BW.start W1, rfl⟩
  rw [← hp1]
  clear hp1
  go_upto_region 3 with (fail)
  refine wp_region_bw (by kernel_rfl) (by kernel_rfl) ?_
  repeat (go_big_quiet_step (first
    | (go_at_call 69; (first | (with_reducible exact bw_call K1.out _) | (with_reducible exact bw_call K2.out _)))))
  refine wpQuiet_nil ?_
  intro _ hw'
  obtain ⟨q, rfl⟩ := hw'
  go_wp2
  go_ret2
  exact ⟨by rw [← hs]; rfl, bw_below B1 _⟩

theorem bins_apart (g h : Gp) (w : World) (hg : g.2 ≤ 1024) (hh : h.2 ≤ 1024) :
    Calls Tryz.prog 46 #[.agg (gcells g).toArray, .agg (gcells h).toArray] w fun e w' => e = .returned (.tuple #[.int .i64 (if g.2 ≠ 0 ∧ h.2 ≠ 0 then gCost g + gCost h else 0), .bool (decide (g.2 ≠ 0 ∧ h.2 ≠ 0))]) ∧ Below w.heap.size w w' := by
  have K1 := Lib.hid (fun w => bins_cost g w hg)
  have K2 := Lib.hid (fun w => bins_cost h w hh)
  have h1 := gCost_in hg
  have h2 := gCost_in hh
  generalize gCost g = c at *
  generalize gCost h = d at *
  obtain ⟨⟨⟨a1, a2, a3⟩, a4, a5, a6⟩, n⟩ := g
  obtain ⟨⟨⟨b1, b2, b3⟩, b4, b5, b6⟩, m⟩ := h
  dsimp only
  by_cases h3 : n = 0
  · subst h3
    rw [if_neg (fun k => k.1 rfl), decide_eq_false (fun k => k.1 rfl)]
    exact bins_apart_left a1 a2 a3 a4 a5 a6 b1 b2 b3 b4 b5 b6 (m : Int) w
  · by_cases h4 : m = 0
    · subst h4
      rw [if_neg (fun k => k.2 rfl), decide_eq_false (fun k => k.2 rfl)]
      exact bins_apart_right a1 a2 a3 a4 a5 a6 (n : Int) b1 b2 b3 b4 b5 b6 w (by omega)
    · rw [if_pos ⟨h3, h4⟩, decide_eq_true ⟨h3, h4⟩]
      exact bins_apart_both a1 a2 a3 a4 a5 a6 (n : Int) b1 b2 b3 b4 b5 b6 (m : Int) c d _ w (by omega) (by omega) K1 K2 (IntWalk.wrap64_in _ (by omega))

set_option maxRecDepth 100000 in
set_option maxHeartbeats 4000000 in
theorem bins_Bin_no (a1 a2 a3 a4 a5 a6 ax lo hi m : Int) (w : World) (KA : Hid (∀ w, Calls Tryz.prog 48 #[.agg #[.int .i64 a1, .int .i64 a2, .int .i64 a3, .int .i64 a4, .int .i64 a5, .int .i64 a6]] w fun en w' => en = .returned (.bool false) ∧ Below w.heap.size w w')) (KM : Hid (∀ w, Calls Tryz.prog 66 #[.agg #[.int .i64 a1, .int .i64 a2, .int .i64 a3, .int .i64 a4, .int .i64 a5, .int .i64 a6], .int .i64 ax] w fun en w' => en = .returned (.int .i64 m) ∧ Below w.heap.size w w')) :
    Calls Tryz.prog 67 #[.agg #[.int .i64 a1, .int .i64 a2, .int .i64 a3, .int .i64 a4, .int .i64 a5, .int .i64 a6], .int .i64 ax, .int .i64 lo, .int .i64 hi] w fun en w' => en = .returned (.int .i64 (-1)) ∧ Below w.heap.size w w' := by
  go_enter Tryz.func67, Tryz.ntmps67
  go_upto_region 1 with (fail)
  obtain ⟨W1, hW1⟩ : ∃ W, W = w.alloc (.cells #[.int .i64 a1, .int .i64 a2, .int .i64 a3, .int .i64 a4, .int .i64 a5, .int .i64 a6] 41) := ⟨_, rfl⟩
  obtain ⟨k_b, B1⟩ := st1 hW1
  rw [← hW1]
  clear hW1
  obtain ⟨c_b_0, c_b_1, c_b_2, c_b_3, c_b_4, c_b_5⟩ := bwc6 (k_b)
  obtain ⟨p1, hp1⟩ : ∃ p : BW W1, p.w = W1 := ⟨BW.start W1, rfl⟩
  rw [← hp1]
  clear hp1
  go_wp2_with (first
    | (go_at_call 48; (first | (with_reducible refine (bw_call KA.out _).mono ?_)); rintro e w' ⟨rfl, q, rfl⟩)
    | (go_at_call 66; (first | (with_reducible refine (bw_call KM.out _).mono ?_)); rintro e w' ⟨rfl, q, rfl⟩))
  go_ret
  exact ⟨rfl, bw_below B1 _⟩

set_option maxRecDepth 100000 in
set_option maxHeartbeats 4000000 in
theorem bins_Bin_neg (a1 a2 a3 a4 a5 a6 ax lo hi m : Int) (w : World) (KA : Hid (∀ w, Calls Tryz.prog 48 #[.agg #[.int .i64 a1, .int .i64 a2, .int .i64 a3, .int .i64 a4, .int .i64 a5, .int .i64 a6]] w fun en w' => en = .returned (.bool true) ∧ Below w.heap.size w w')) (KM : Hid (∀ w, Calls Tryz.prog 66 #[.agg #[.int .i64 a1, .int .i64 a2, .int .i64 a3, .int .i64 a4, .int .i64 a5, .int .i64 a6], .int .i64 ax] w fun en w' => en = .returned (.int .i64 m) ∧ Below w.heap.size w w')) (h1 : ax < 0) :
    Calls Tryz.prog 67 #[.agg #[.int .i64 a1, .int .i64 a2, .int .i64 a3, .int .i64 a4, .int .i64 a5, .int .i64 a6], .int .i64 ax, .int .i64 lo, .int .i64 hi] w fun en w' => en = .returned (.int .i64 (-1)) ∧ Below w.heap.size w w' := by
  have t1 : decide (ax < 0) = true := decide_eq_true h1
  clear h1
  go_enter Tryz.func67, Tryz.ntmps67
  go_upto_region 1 with (fail)
  obtain ⟨W1, hW1⟩ : ∃ W, W = w.alloc (.cells #[.int .i64 a1, .int .i64 a2, .int .i64 a3, .int .i64 a4, .int .i64 a5, .int .i64 a6] 41) := ⟨_, rfl⟩
  obtain ⟨k_b, B1⟩ := st1 hW1
  rw [← hW1]
  clear hW1
  obtain ⟨c_b_0, c_b_1, c_b_2, c_b_3, c_b_4, c_b_5⟩ := bwc6 (k_b)
  obtain ⟨p1, hp1⟩ : ∃ p : BW W1, p.w = W1 := ⟨BW.start W1, rfl⟩
  rw [← hp1]
  clear hp1
  go_wp2_with (first
    | (go_at_call 48; (first | (with_reducible refine (bw_call KA.out _).mono ?_)); rintro e w' ⟨rfl, q, rfl⟩)
    | (go_at_call 66; (first | (with_reducible refine (bw_call KM.out _).mono ?_)); rintro e w' ⟨rfl, q, rfl⟩))
  go_ret
  exact ⟨rfl, bw_below B1 _⟩

set_option maxRecDepth 100000 in
set_option maxHeartbeats 4000000 in
theorem bins_Bin_far (a1 a2 a3 a4 a5 a6 ax lo hi m : Int) (w : World) (KA : Hid (∀ w, Calls Tryz.prog 48 #[.agg #[.int .i64 a1, .int .i64 a2, .int .i64 a3, .int .i64 a4, .int .i64 a5, .int .i64 a6]] w fun en w' => en = .returned (.bool true) ∧ Below w.heap.size w w')) (KM : Hid (∀ w, Calls Tryz.prog 66 #[.agg #[.int .i64 a1, .int .i64 a2, .int .i64 a3, .int .i64 a4, .int .i64 a5, .int .i64 a6], .int .i64 ax] w fun en w' => en = .returned (.int .i64 m) ∧ Below w.heap.size w w')) (h1 : ¬ ax < 0) (h2 : 2 < ax) :
    Calls Tryz.prog 67 #[.agg #[.int .i64 a1, .int .i64 a2, .int .i64 a3, .int .i64 a4, .int .i64 a5, .int .i64 a6], .int .i64 ax, .int .i64 lo, .int .i64 hi] w fun en w' => en = .returned (.int .i64 (-1)) ∧ Below w.heap.size w w' := by
  have t1 : decide (ax < 0) = false := decide_eq_false h1
  have t2 : decide (2 < ax) = true := decide_eq_true h2
  clear h1 h2
  go_enter Tryz.func67, Tryz.ntmps67
  go_upto_region 1 with (fail)
  obtain ⟨W1, hW1⟩ : ∃ W, W = w.alloc (.cells #[.int .i64 a1, .int .i64 a2, .int .i64 a3, .int .i64 a4, .int .i64 a5, .int .i64 a6] 41) := ⟨_, rfl⟩
  obtain ⟨k_b, B1⟩ := st1 hW1
  rw [← hW1]
  clear hW1
  obtain ⟨c_b_0, c_b_1, c_b_2, c_b_3, c_b_4, c_b_5⟩ := bwc6 (k_b)
  obtain ⟨p1, hp1⟩ : ∃ p : BW W1, p.w = W1 := ⟨BW.start W1, rfl⟩
  rw [← hp1]
  clear hp1
  go_wp2_with (first
    | (go_at_call 48; (first | (with_reducible refine (bw_call KA.out _).mono ?_)); rintro e w' ⟨rfl, q, rfl⟩)
    | (go_at_call 66; (first | (with_reducible refine (bw_call KM.out _).mono ?_)); rintro e w' ⟨rfl, q, rfl⟩))
  go_ret
  exact ⟨rfl, bw_below B1 _⟩

set_option maxRecDepth 100000 in
set_option maxHeartbeats 4000000 in
theorem bins_Bin_lo (a1 a2 a3 a4 a5 a6 ax lo hi m : Int) (w : World) (KA : Hid (∀ w, Calls Tryz.prog 48 #[.agg #[.int .i64 a1, .int .i64 a2, .int .i64 a3, .int .i64 a4, .int .i64 a5, .int .i64 a6]] w fun en w' => en = .returned (.bool true) ∧ Below w.heap.size w w')) (KM : Hid (∀ w, Calls Tryz.prog 66 #[.agg #[.int .i64 a1, .int .i64 a2, .int .i64 a3, .int .i64 a4, .int .i64 a5, .int .i64 a6], .int .i64 ax] w fun en w' => en = .returned (.int .i64 m) ∧ Below w.heap.size w w')) (h1 : ¬ ax < 0) (h2 : ¬ 2 < ax) (h3 : lo < -2097152) :
    Calls Tryz.prog 67 #[.agg #[.int .i64 a1, .int .i64 a2, .int .i64 a3, .int .i64 a4, .int .i64 a5, .int .i64 a6], .int .i64 ax, .int .i64 lo, .int .i64 hi] w fun en w' => en = .returned (.int .i64 (-1)) ∧ Below w.heap.size w w' := by
  have t1 : decide (ax < 0) = false := decide_eq_false h1
  have t2 : decide (2 < ax) = false := decide_eq_false h2
  have t3 : decide (lo < -2097152) = true := decide_eq_true h3
  clear h1 h2 h3
  go_enter Tryz.func67, Tryz.ntmps67
  go_upto_region 1 with (fail)
  obtain ⟨W1, hW1⟩ : ∃ W, W = w.alloc (.cells #[.int .i64 a1, .int .i64 a2, .int .i64 a3, .int .i64 a4, .int .i64 a5, .int .i64 a6] 41) := ⟨_, rfl⟩
  obtain ⟨k_b, B1⟩ := st1 hW1
  rw [← hW1]
  clear hW1
  obtain ⟨c_b_0, c_b_1, c_b_2, c_b_3, c_b_4, c_b_5⟩ := bwc6 (k_b)
  obtain ⟨p1, hp1⟩ : ∃ p : BW W1, p.w = W1 := ⟨BW.start W1, rfl⟩
  rw [← hp1]
  clear hp1
  go_wp2_with (first
    | (go_at_call 48; (first | (with_reducible refine (bw_call KA.out _).mono ?_)); rintro e w' ⟨rfl, q, rfl⟩)
    | (go_at_call 66; (first | (with_reducible refine (bw_call KM.out _).mono ?_)); rintro e w' ⟨rfl, q, rfl⟩))
  go_ret
  exact ⟨rfl, bw_below B1 _⟩

set_option maxRecDepth 100000 in
set_option maxHeartbeats 4000000 in
theorem bins_Bin_hi (a1 a2 a3 a4 a5 a6 ax lo hi m : Int) (w : World) (KA : Hid (∀ w, Calls Tryz.prog 48 #[.agg #[.int .i64 a1, .int .i64 a2, .int .i64 a3, .int .i64 a4, .int .i64 a5, .int .i64 a6]] w fun en w' => en = .returned (.bool true) ∧ Below w.heap.size w w')) (KM : Hid (∀ w, Calls Tryz.prog 66 #[.agg #[.int .i64 a1, .int .i64 a2, .int .i64 a3, .int .i64 a4, .int .i64 a5, .int .i64 a6], .int .i64 ax] w fun en w' => en = .returned (.int .i64 m) ∧ Below w.heap.size w w')) (h1 : ¬ ax < 0) (h2 : ¬ 2 < ax) (h3 : ¬ lo < -2097152) (h4 : 2097152 < hi) :
    Calls Tryz.prog 67 #[.agg #[.int .i64 a1, .int .i64 a2, .int .i64 a3, .int .i64 a4, .int .i64 a5, .int .i64 a6], .int .i64 ax, .int .i64 lo, .int .i64 hi] w fun en w' => en = .returned (.int .i64 (-1)) ∧ Below w.heap.size w w' := by
  have t1 : decide (ax < 0) = false := decide_eq_false h1
  have t2 : decide (2 < ax) = false := decide_eq_false h2
  have t3 : decide (lo < -2097152) = false := decide_eq_false h3
  have t4 : decide (2097152 < hi) = true := decide_eq_true h4
  clear h1 h2 h3 h4
  go_enter Tryz.func67, Tryz.ntmps67
  go_upto_region 1 with (fail)
  obtain ⟨W1, hW1⟩ : ∃ W, W = w.alloc (.cells #[.int .i64 a1, .int .i64 a2, .int .i64 a3, .int .i64 a4, .int .i64 a5, .int .i64 a6] 41) := ⟨_, rfl⟩
  obtain ⟨k_b, B1⟩ := st1 hW1
  rw [← hW1]
  clear hW1
  obtain ⟨c_b_0, c_b_1, c_b_2, c_b_3, c_b_4, c_b_5⟩ := bwc6 (k_b)
  obtain ⟨p1, hp1⟩ : ∃ p : BW W1, p.w = W1 := ⟨BW.start W1, rfl⟩
  rw [← hp1]
  clear hp1
  go_wp2_with (first
    | (go_at_call 48; (first | (with_reducible refine (bw_call KA.out _).mono ?_)); rintro e w' ⟨rfl, q, rfl⟩)
    | (go_at_call 66; (first | (with_reducible refine (bw_call KM.out _).mono ?_)); rintro e w' ⟨rfl, q, rfl⟩))
  go_ret
  exact ⟨rfl, bw_below B1 _⟩

set_option maxRecDepth 100000 in
set_option maxHeartbeats 4000000 in
theorem bins_Bin_below (a1 a2 a3 a4 a5 a6 ax lo hi m : Int) (w : World) (KA : Hid (∀ w, Calls Tryz.prog 48 #[.agg #[.int .i64 a1, .int .i64 a2, .int .i64 a3, .int .i64 a4, .int .i64 a5, .int .i64 a6]] w fun en w' => en = .returned (.bool true) ∧ Below w.heap.size w w')) (KM : Hid (∀ w, Calls Tryz.prog 66 #[.agg #[.int .i64 a1, .int .i64 a2, .int .i64 a3, .int .i64 a4, .int .i64 a5, .int .i64 a6], .int .i64 ax] w fun en w' => en = .returned (.int .i64 m) ∧ Below w.heap.size w w')) (h1 : ¬ ax < 0) (h2 : ¬ 2 < ax) (h3 : ¬ lo < -2097152) (h4 : ¬ 2097152 < hi) (h5 : m < lo) :
    Calls Tryz.prog 67 #[.agg #[.int .i64 a1, .int .i64 a2, .int .i64 a3, .int .i64 a4, .int .i64 a5, .int .i64 a6], .int .i64 ax, .int .i64 lo, .int .i64 hi] w fun en w' => en = .returned (.int .i64 (-1)) ∧ Below w.heap.size w w' := by
  have t1 : decide (ax < 0) = false := decide_eq_false h1
  have t2 : decide (2 < ax) = false := decide_eq_false h2
  have t3 : decide (lo < -2097152) = false := decide_eq_false h3
  have t4 : decide (2097152 < hi) = false := decide_eq_false h4
  have t5 : decide (m < lo) = true := decide_eq_true h5
  clear h1 h2 h3 h4 h5
  go_enter Tryz.func67, Tryz.ntmps67
  go_upto_region 1 with (fail)
  obtain ⟨W1, hW1⟩ : ∃ W, W = w.alloc (.cells #[.int .i64 a1, .int .i64 a2, .int .i64 a3, .int .i64 a4, .int .i64 a5, .int .i64 a6] 41) := ⟨_, rfl⟩
  obtain ⟨k_b, B1⟩ := st1 hW1
  rw [← hW1]
  clear hW1
  obtain ⟨c_b_0, c_b_1, c_b_2, c_b_3, c_b_4, c_b_5⟩ := bwc6 (k_b)
  obtain ⟨p1, hp1⟩ : ∃ p : BW W1, p.w = W1 := ⟨BW.start W1, rfl⟩
  rw [← hp1]
  clear hp1
  go_wp2_with (first
    | (go_at_call 48; (first | (with_reducible refine (bw_call KA.out _).mono ?_)); rintro e w' ⟨rfl, q, rfl⟩)
    | (go_at_call 66; (first | (with_reducible refine (bw_call KM.out _).mono ?_)); rintro e w' ⟨rfl, q, rfl⟩))
  go_ret
  exact ⟨rfl, bw_below B1 _⟩

set_option maxRecDepth 100000 in
set_option maxHeartbeats 4000000 in
theorem bins_Bin_above (a1 a2 a3 a4 a5 a6 ax lo hi m : Int) (w : World) (KA : Hid (∀ w, Calls Tryz.prog 48 #[.agg #[.int .i64 a1, .int .i64 a2, .int .i64 a3, .int .i64 a4, .int .i64 a5, .int .i64 a6]] w fun en w' => en = .returned (.bool true) ∧ Below w.heap.size w w')) (KM : Hid (∀ w, Calls Tryz.prog 66 #[.agg #[.int .i64 a1, .int .i64 a2, .int .i64 a3, .int .i64 a4, .int .i64 a5, .int .i64 a6], .int .i64 ax] w fun en w' => en = .returned (.int .i64 m) ∧ Below w.heap.size w w')) (h1 : ¬ ax < 0) (h2 : ¬ 2 < ax) (h3 : ¬ lo < -2097152) (h4 : ¬ 2097152 < hi) (h5 : ¬ m < lo) (h6 : hi < m) :
    Calls Tryz.prog 67 #[.agg #[.int .i64 a1, .int .i64 a2, .int .i64 a3, .int .i64 a4, .int .i64 a5, .int .i64 a6], .int .i64 ax, .int .i64 lo, .int .i64 hi] w fun en w' => en = .returned (.int .i64 (-1)) ∧ Below w.heap.size w w' := by
  have t1 : decide (ax < 0) = false := decide_eq_false h1
  have t2 : decide (2 < ax) = false := decide_eq_false h2
  have t3 : decide (lo < -2097152) = false := decide_eq_false h3
  have t4 : decide (2097152 < hi) = false := decide_eq_false h4
  have t5 : decide (m < lo) = false := decide_eq_false h5
  have t6 : decide (hi < m) = true := decide_eq_true h6
  clear h1 h2 h3 h4 h5 h6
  go_enter Tryz.func67, Tryz.ntmps67
  go_upto_region 1 with (fail)
  obtain ⟨W1, hW1⟩ : ∃ W, W = w.alloc (.cells #[.int .i64 a1, .int .i64 a2, .int .i64 a3, .int .i64 a4, .int .i64 a5, .int .i64 a6] 41) := ⟨_, rfl⟩
  obtain ⟨k_b, B1⟩ := st1 hW1
  rw [← hW1]
  clear hW1
  obtain ⟨c_b_0, c_b_1, c_b_2, c_b_3, c_b_4, c_b_5⟩ := bwc6 (k_b)
  obtain ⟨p1, hp1⟩ : ∃ p : BW W1, p.w = W1 := ⟨BW.start W1, rfl⟩
  rw [← hp1]
  clear hp1
  go_wp2_with (first
    | (go_at_call 48; (first | (with_reducible refine (bw_call KA.out _).mono ?_)); rintro e w' ⟨rfl, q, rfl⟩)
    | (go_at_call 66; (first | (with_reducible refine (bw_call KM.out _).mono ?_)); rintro e w' ⟨rfl, q, rfl⟩))
  go_ret
  exact ⟨rfl, bw_below B1 _⟩

set_option maxRecDepth 100000 in
set_option maxHeartbeats 4000000 in
theorem bins_Bin_yes (a1 a2 a3 a4 a5 a6 ax lo hi m z : Int) (w : World) (KA : Hid (∀ w, Calls Tryz.prog 48 #[.agg #[.int .i64 a1, .int .i64 a2, .int .i64 a3, .int .i64 a4, .int .i64 a5, .int .i64 a6]] w fun en w' => en = .returned (.bool true) ∧ Below w.heap.size w w')) (KM : Hid (∀ w, Calls Tryz.prog 66 #[.agg #[.int .i64 a1, .int .i64 a2, .int .i64 a3, .int .i64 a4, .int .i64 a5, .int .i64 a6], .int .i64 ax] w fun en w' => en = .returned (.int .i64 m) ∧ Below w.heap.size w w')) (h1 : ¬ ax < 0) (h2 : ¬ 2 < ax) (h3 : ¬ lo < -2097152) (h4 : ¬ 2097152 < hi) (h5 : ¬ m < lo) (h6 : ¬ hi < m) (KD : Hid (∀ w, Calls Tryz.prog 84 #[.int .i64 ((m - lo) * 8), .int .i64 (hi - lo + 1)] w fun en w' => en = .returned (.int .i64 z) ∧ Below w.heap.size w w')) :
    Calls Tryz.prog 67 #[.agg #[.int .i64 a1, .int .i64 a2, .int .i64 a3, .int .i64 a4, .int .i64 a5, .int .i64 a6], .int .i64 ax, .int .i64 lo, .int .i64 hi] w fun en w' => en = .returned (.int .i64 z) ∧ Below w.heap.size w w' := by
  have t1 : decide (ax < 0) = false := decide_eq_false h1
  have t2 : decide (2 < ax) = false := decide_eq_false h2
  have t3 : decide (lo < -2097152) = false := decide_eq_false h3
  have t4 : decide (2097152 < hi) = false := decide_eq_false h4
  have t5 : decide (m < lo) = false := decide_eq_false h5
  have t6 : decide (hi < m) = false := decide_eq_false h6
  have v1 : wrap64 (m - lo) = m - lo := IntWalk.wrap64_in _ (by omega)
  have v2 : wrap64 ((m - lo) * 8) = (m - lo) * 8 := IntWalk.wrap64_in _ (by omega)
  have v3 : wrap64 (hi - lo) = hi - lo := IntWalk.wrap64_in _ (by omega)
  have v4 : wrap64 (hi - lo + 1) = hi - lo + 1 := IntWalk.wrap64_in _ (by omega)
  clear h1 h2 h3 h4 h5 h6
  go_enter Tryz.func67, Tryz.ntmps67
  go_upto_region 1 with (fail)
  obtain ⟨W1, hW1⟩ : ∃ W, W = w.alloc (.cells #[.int .i64 a1, .int .i64 a2, .int .i64 a3, .int .i64 a4, .int .i64 a5, .int .i64 a6] 41) := ⟨_, rfl⟩
  obtain ⟨k_b, B1⟩ := st1 hW1
  rw [← hW1]
  clear hW1
  obtain ⟨c_b_0, c_b_1, c_b_2, c_b_3, c_b_4, c_b_5⟩ := bwc6 (k_b)
  obtain ⟨p1, hp1⟩ : ∃ p : BW W1, p.w = W1 := ⟨BW.start W1, rfl⟩
  rw [← hp1]
  clear hp1
  go_wp2_with (first
    | (go_at_call 48; (first | (with_reducible refine (bw_call KA.out _).mono ?_)); rintro e w' ⟨rfl, q, rfl⟩)
    | (go_at_call 66; (first | (with_reducible refine (bw_call KM.out _).mono ?_)); rintro e w' ⟨rfl, q, rfl⟩)
    | (go_at_call 84; (first | (with_reducible refine (bw_call KD.out _).mono ?_)); rintro e w' ⟨rfl, q, rfl⟩))
  go_ret
  exact ⟨rfl, bw_below B1 _⟩

theorem bins_Bin (a1 a2 a3 a4 a5 a6 ax lo hi : Int) (w : World) (hx : I64 ax) (hl : I64 lo) (hh : I64 hi) :
    Calls Tryz.prog 67 #[.agg #[.int .i64 a1, .int .i64 a2, .int .i64 a3, .int .i64 a4, .int .i64 a5, .int .i64 a6], .int .i64 ax, .int .i64 lo, .int .i64 hi] w fun en w' => en = .returned (.int .i64 (bBin ((a1, a2, a3), (a4, a5, a6)) ax lo hi)) ∧ Below w.heap.size w w' := by
  have KA := Lib.hid (fun w => box_Right a1 a2 a3 a4 a5 a6 w)
  have KM := Lib.hid (fun w => box_Mid a1 a2 a3 a4 a5 a6 ax w hx)
  have hm := bMid_in ((a1, a2, a3), (a4, a5, a6)) ax
  unfold bBin
  cases h : bRight ((a1, a2, a3), (a4, a5, a6)) with
  | false => rw [if_neg (fun k => by cases k.1)]; rw [h] at KA; exact bins_Bin_no a1 a2 a3 a4 a5 a6 ax lo hi _ w KA KM
  | true =>
    rw [h] at KA
    by_cases h1 : ax < 0
    · rw [if_neg (fun k => by omega)]; exact bins_Bin_neg a1 a2 a3 a4 a5 a6 ax lo hi _ w KA KM h1
    by_cases h2 : 2 < ax
    · rw [if_neg (fun k => by omega)]; exact bins_Bin_far a1 a2 a3 a4 a5 a6 ax lo hi _ w KA KM h1 h2
    by_cases h3 : lo < -2097152
    · rw [if_neg (fun k => by omega)]; exact bins_Bin_lo a1 a2 a3 a4 a5 a6 ax lo hi _ w KA KM h1 h2 h3
    by_cases h4 : 2097152 < hi
    · rw [if_neg (fun k => by omega)]; exact bins_Bin_hi a1 a2 a3 a4 a5 a6 ax lo hi _ w KA KM h1 h2 h3 h4
    by_cases h5 : bMid ((a1, a2, a3), (a4, a5, a6)) ax < lo
    · rw [if_neg (fun k => by omega)]; exact bins_Bin_below a1 a2 a3 a4 a5 a6 ax lo hi _ w KA KM h1 h2 h3 h4 h5
    by_cases h6 : hi < bMid ((a1, a2, a3), (a4, a5, a6)) ax
    · rw [if_neg (fun k => by omega)]; exact bins_Bin_above a1 a2 a3 a4 a5 a6 ax lo hi _ w KA KM h1 h2 h3 h4 h5 h6
    have KD := Lib.hid (fun w => below_of_same (fun w => num_Div ((bMid ((a1, a2, a3), (a4, a5, a6)) ax - lo) * 8) (hi - lo + 1) w (by unfold I64; omega) (by unfold I64; omega)) w)
    rw [show dv ((bMid ((a1, a2, a3), (a4, a5, a6)) ax - lo) * 8) (hi - lo + 1) = (bMid ((a1, a2, a3), (a4, a5, a6)) ax - lo) * 8 / (hi - lo + 1) by unfold dv; rw [if_neg (by omega)]] at KD
    rw [if_pos ⟨rfl, by omega, by omega, by omega, by omega, by omega, by omega⟩]
    exact bins_Bin_yes a1 a2 a3 a4 a5 a6 ax lo hi _ _ w KA KM h1 h2 h3 h4 h5 h6 KD

set_option maxRecDepth 100000 in
set_option maxHeartbeats 4000000 in
theorem bins_Left_none (ax at_ lo hi a1 a2 a3 a4 a5 a6 z : Int) (w : World) (KB : Hid (∀ w, Calls Tryz.prog 67 #[.agg #[.int .i64 a1, .int .i64 a2, .int .i64 a3, .int .i64 a4, .int .i64 a5, .int .i64 a6], .int .i64 ax, .int .i64 lo, .int .i64 hi] w fun en w' => en = .returned (.int .i64 z) ∧ Below w.heap.size w w')) (h1 : z < 0) :
    Calls Tryz.prog 47 #[.agg #[.int .i64 ax, .int .i64 at_, .int .i64 lo, .int .i64 hi], .agg #[.int .i64 a1, .int .i64 a2, .int .i64 a3, .int .i64 a4, .int .i64 a5, .int .i64 a6]] w fun en w' => en = .returned (.bool false) ∧ Below w.heap.size w w' := by
  have t1 : decide (0 ≤ z) = false := decide_eq_false (by omega)
  clear h1
  go_enter Tryz.func47, Tryz.ntmps47
  go_upto_region 1 with (fail)
  obtain ⟨W1, hW1⟩ : ∃ W, W = (w.alloc (.cells #[.int .i64 ax, .int .i64 at_, .int .i64 lo, .int .i64 hi] 74)).alloc (.cells #[.int .i64 a1, .int .i64 a2, .int .i64 a3, .int .i64 a4, .int .i64 a5, .int .i64 a6] 41) := ⟨_, rfl⟩
  obtain ⟨k_s, k_b, B1⟩ := st2 hW1
  rw [← hW1]
  clear hW1
  have l_b : w.heap.size < w.heap.size + 1 := by omega
  generalize w.heap.size + 1 = g_b at *
  obtain ⟨c_s_0, c_s_1, c_s_2, c_s_3⟩ := bwc4 (k_s)
  obtain ⟨c_b_0, c_b_1, c_b_2, c_b_3, c_b_4, c_b_5⟩ := bwc6 (k_b)
  obtain ⟨p1, hp1⟩ : ∃ p : BW W1, p.w = W1 := ⟨BW.start W1, rfl⟩
  rw [← hp1]
  clear hp1
  go_wp2_with (first
    | (go_at_call 67; (first | (with_reducible refine (bw_call KB.out _).mono ?_)); rintro e w' ⟨rfl, q, rfl⟩))
  go_ret
  exact ⟨rfl, bw_below B1 _⟩

set_option maxRecDepth 100000 in
set_option maxHeartbeats 4000000 in
theorem bins_Left_in (ax at_ lo hi a1 a2 a3 a4 a5 a6 z : Int) (w : World) (KB : Hid (∀ w, Calls Tryz.prog 67 #[.agg #[.int .i64 a1, .int .i64 a2, .int .i64 a3, .int .i64 a4, .int .i64 a5, .int .i64 a6], .int .i64 ax, .int .i64 lo, .int .i64 hi] w fun en w' => en = .returned (.int .i64 z) ∧ Below w.heap.size w w')) (h1 : ¬ z < 0) (h2 : z < at_) :
    Calls Tryz.prog 47 #[.agg #[.int .i64 ax, .int .i64 at_, .int .i64 lo, .int .i64 hi], .agg #[.int .i64 a1, .int .i64 a2, .int .i64 a3, .int .i64 a4, .int .i64 a5, .int .i64 a6]] w fun en w' => en = .returned (.bool true) ∧ Below w.heap.size w w' := by
  have t1 : decide (0 ≤ z) = true := decide_eq_true (by omega)
  have t2 : decide (z < at_) = true := decide_eq_true h2
  clear h1 h2
  go_enter Tryz.func47, Tryz.ntmps47
  go_upto_region 1 with (fail)
  obtain ⟨W1, hW1⟩ : ∃ W, W = (w.alloc (.cells #[.int .i64 ax, .int .i64 at_, .int .i64 lo, .int .i64 hi] 74)).alloc (.cells #[.int .i64 a1, .int .i64 a2, .int .i64 a3, .int .i64 a4, .int .i64 a5, .int .i64 a6] 41) := ⟨_, rfl⟩
  obtain ⟨k_s, k_b, B1⟩ := st2 hW1
  rw [← hW1]
  clear hW1
  have l_b : w.heap.size < w.heap.size + 1 := by omega
  generalize w.heap.size + 1 = g_b at *
  obtain ⟨c_s_0, c_s_1, c_s_2, c_s_3⟩ := bwc4 (k_s)
  obtain ⟨c_b_0, c_b_1, c_b_2, c_b_3, c_b_4, c_b_5⟩ := bwc6 (k_b)
  obtain ⟨p1, hp1⟩ : ∃ p : BW W1, p.w = W1 := ⟨BW.start W1, rfl⟩
  rw [← hp1]
  clear hp1
  go_wp2_with (first
    | (go_at_call 67; (first | (with_reducible refine (bw_call KB.out _).mono ?_)); rintro e w' ⟨rfl, q, rfl⟩))
  go_ret
  exact ⟨rfl, bw_below B1 _⟩

set_option maxRecDepth 100000 in
set_option maxHeartbeats 4000000 in
theorem bins_Left_out (ax at_ lo hi a1 a2 a3 a4 a5 a6 z : Int) (w : World) (KB : Hid (∀ w, Calls Tryz.prog 67 #[.agg #[.int .i64 a1, .int .i64 a2, .int .i64 a3, .int .i64 a4, .int .i64 a5, .int .i64 a6], .int .i64 ax, .int .i64 lo, .int .i64 hi] w fun en w' => en = .returned (.int .i64 z) ∧ Below w.heap.size w w')) (h1 : ¬ z < 0) (h2 : ¬ z < at_) :
    Calls Tryz.prog 47 #[.agg #[.int .i64 ax, .int .i64 at_, .int .i64 lo, .int .i64 hi], .agg #[.int .i64 a1, .int .i64 a2, .int .i64 a3, .int .i64 a4, .int .i64 a5, .int .i64 a6]] w fun en w' => en = .returned (.bool false) ∧ Below w.heap.size w w' := by
  have t1 : decide (0 ≤ z) = true := decide_eq_true (by omega)
  have t2 : decide (z < at_) = false := decide_eq_false h2
  clear h1 h2
  go_enter Tryz.func47, Tryz.ntmps47
  go_upto_region 1 with (fail)
  obtain ⟨W1, hW1⟩ : ∃ W, W = (w.alloc (.cells #[.int .i64 ax, .int .i64 at_, .int .i64 lo, .int .i64 hi] 74)).alloc (.cells #[.int .i64 a1, .int .i64 a2, .int .i64 a3, .int .i64 a4, .int .i64 a5, .int .i64 a6] 41) := ⟨_, rfl⟩
  obtain ⟨k_s, k_b, B1⟩ := st2 hW1
  rw [← hW1]
  clear hW1
  have l_b : w.heap.size < w.heap.size + 1 := by omega
  generalize w.heap.size + 1 = g_b at *
  obtain ⟨c_s_0, c_s_1, c_s_2, c_s_3⟩ := bwc4 (k_s)
  obtain ⟨c_b_0, c_b_1, c_b_2, c_b_3, c_b_4, c_b_5⟩ := bwc6 (k_b)
  obtain ⟨p1, hp1⟩ : ∃ p : BW W1, p.w = W1 := ⟨BW.start W1, rfl⟩
  rw [← hp1]
  clear hp1
  go_wp2_with (first
    | (go_at_call 67; (first | (with_reducible refine (bw_call KB.out _).mono ?_)); rintro e w' ⟨rfl, q, rfl⟩))
  go_ret
  exact ⟨rfl, bw_below B1 _⟩

theorem bins_Left (ax at_ lo hi a1 a2 a3 a4 a5 a6 : Int) (w : World) (hx : I64 ax) (hl : I64 lo) (hh : I64 hi) :
    Calls Tryz.prog 47 #[.agg #[.int .i64 ax, .int .i64 at_, .int .i64 lo, .int .i64 hi], .agg #[.int .i64 a1, .int .i64 a2, .int .i64 a3, .int .i64 a4, .int .i64 a5, .int .i64 a6]] w fun en w' => en = .returned (.bool (isL ax lo hi at_ ((a1, a2, a3), (a4, a5, a6)))) ∧ Below w.heap.size w w' := by
  have KB := Lib.hid (fun w => bins_Bin a1 a2 a3 a4 a5 a6 ax lo hi w hx hl hh)
  unfold isL
  generalize bBin ((a1, a2, a3), (a4, a5, a6)) ax lo hi = z at *
  by_cases h1 : z < 0
  · rw [decide_eq_false (by omega)]; exact bins_Left_none ax at_ lo hi a1 a2 a3 a4 a5 a6 z w KB h1
  by_cases h2 : z < at_
  · rw [decide_eq_true (by omega)]; exact bins_Left_in ax at_ lo hi a1 a2 a3 a4 a5 a6 z w KB h1 h2
  · rw [decide_eq_false (by omega)]; exact bins_Left_out ax at_ lo hi a1 a2 a3 a4 a5 a6 z w KB h1 h2

end

end
end Go.Proofs.YtomlcglnkdfemaaGreat

namespace Go.Proofs.YtomlcglnkdfemaaGreat
section

section

open Go.RowKit Go.Proofs.Sky

set_option linter.unusedVariables false

theorem mnV_next (V : Nat → Bx) (k : Nat) (ax : Int) : mnV V (k + 1) ax = (if k = 0 then bMid (V k) ax else min (mnV V k ax) (bMid (V k) ax)) ∧ mxV V (k + 1) ax = (if k = 0 then bMid (V k) ax else max (mxV V k ax) (bMid (V k) ax)) := by
  by_cases h : k = 0
  · subst h
    simp [mnV, mxV, mnAt, mxAt]
  · rw [if_neg h, if_neg h]
    unfold mnV mxV
    rw [if_neg (by omega), if_neg h, if_neg (by omega), if_neg h]
    exact ⟨rfl, rfl⟩

set_option maxRecDepth 100000 in
set_option maxHeartbeats 4000000 in
theorem bins_span (a : Option Addr) (n cap : Nat) (V : Nat → Bx) (ax : Int) (w : World) (hs : Boxes w (.slice a n cap) n V) (hx : I64 ax) (hn : n ≤ 1048576) :
    Calls Tryz.prog 43 #[.slice a n cap, .int .i64 ax] w fun e w' => e = .returned (.tuple #[.int .i64 (mnV V n ax), .int .i64 (mxV V n ax)]) ∧ Below w.heap.size w w' := by
  have HS := Lib.hid hs
  have KMH := Lib.hid (fun (b : Bx) w => box_Mid b.1.1 b.1.2.1 b.1.2.2 b.2.1 b.2.2.1 b.2.2.2 ax w hx)
  clear hs
  go_enter Tryz.func43, Tryz.ntmps43
  go_wp2
  go_loopw [4, 5, 11] (fun lo hi i wr => ∃ k : Nat, k ≤ n ∧ i = .int .i64 k ∧ lo = .int .i64 (mnV V k ax) ∧ hi = .int .i64 (mxV V k ax) ∧ Below w.heap.size w wr) (fun _ _ i _ => n - (intOf i).toNat)
  case atStart => exact ⟨0, by omega, rfl, rfl, rfl, Below.refl _ _⟩
  case round =>
    obtain ⟨k, hk, rfl, rfl, rfl, BO⟩ := hrel
    by_cases hlt : k < n
    · have hst := mnV_next V k ax
      have KM := Lib.hid (fun w => KMH.out (V k) w)
      obtain ⟨_, _, hsl, _, hS⟩ := HS.out
      cases hsl
      obtain ⟨bb, off, rfl, hbb, hcell⟩ := hS.resolve_left (by omega)
      have x0 : w.cell? ⟨bb, off + k * 6, none⟩ = some (.int .i64 (V k).1.1) := hcell k hlt 0 (by omega)
      have x1 : w.cell? ⟨bb, off + k * 6 + 1, none⟩ = some (.int .i64 (V k).1.2.1) := hcell k hlt 1 (by omega)
      have x2 : w.cell? ⟨bb, off + k * 6 + 2, none⟩ = some (.int .i64 (V k).1.2.2) := hcell k hlt 2 (by omega)
      have x3 : w.cell? ⟨bb, off + k * 6 + 3, none⟩ = some (.int .i64 (V k).2.1) := hcell k hlt 3 (by omega)
      have x4 : w.cell? ⟨bb, off + k * 6 + 4, none⟩ = some (.int .i64 (V k).2.2.1) := hcell k hlt 4 (by omega)
      have x5 : w.cell? ⟨bb, off + k * 6 + 5, none⟩ = some (.int .i64 (V k).2.2.2) := hcell k hlt 5 (by omega)
      clear hcell hS
      obtain ⟨ml, hml⟩ : ∃ m, m = mnV V k ax := ⟨_, rfl⟩
      obtain ⟨mh, hmh⟩ : ∃ m, m = mxV V k ax := ⟨_, rfl⟩
      rw [← hml, ← hmh] at hst ⊢
      clear hml hmh
      obtain ⟨md, hmd⟩ : ∃ m, m = bMid (V k) ax := ⟨_, rfl⟩
      rw [← hmd] at hst
      change Hid (∀ w, Calls Tryz.prog 66 #[.agg #[.int .i64 (V k).1.1, .int .i64 (V k).1.2.1, .int .i64 (V k).1.2.2, .int .i64 (V k).2.1, .int .i64 (V k).2.2.1, .int .i64 (V k).2.2.2], .int .i64 ax] w fun en w' => en = .returned (.int .i64 (bMid (V k) ax)) ∧ Below w.heap.size w w') at KM
      rw [← hmd] at KM
      clear hmd KMH
      obtain ⟨vk, hvk⟩ : ∃ vk, vk = V k := ⟨_, rfl⟩
      rw [← hvk] at x0 x1 x2 x3 x4 x5 KM
      clear hvk
      obtain ⟨⟨v1, v2, v3⟩, v4, v5, v6⟩ := vk
      dsimp only at x0 x1 x2 x3 x4 x5 KM
      have HST := Lib.hid hst
      clear hst
      by_cases h0 : k = 0
      · have B1 := BO
        have hr : mnV V (k + 1) ax = md ∧ mxV V (k + 1) ax = md := by have := HST.out; rwa [if_pos h0, if_pos h0] at this
        have HR := Lib.hid hr
        clear hr
        clear HST
        have H0 := Lib.hid h0
        clear h0
        have c_e0 : ∀ p : BW wr, p.w.cell? ⟨bb, off + k * 6, none⟩ = some (.int .i64 v1) := bw_cell ((B1.cell (p := ⟨bb, off + k * 6, none⟩) hbb).trans x0)
        have c_e1 : ∀ p : BW wr, p.w.cell? ⟨bb, off + k * 6 + 1, none⟩ = some (.int .i64 v2) := bw_cell ((B1.cell (p := ⟨bb, off + k * 6 + 1, none⟩) hbb).trans x1)
        have c_e2 : ∀ p : BW wr, p.w.cell? ⟨bb, off + k * 6 + 2, none⟩ = some (.int .i64 v3) := bw_cell ((B1.cell (p := ⟨bb, off + k * 6 + 2, none⟩) hbb).trans x2)
        have c_e3 : ∀ p : BW wr, p.w.cell? ⟨bb, off + k * 6 + 3, none⟩ = some (.int .i64 v4) := bw_cell ((B1.cell (p := ⟨bb, off + k * 6 + 3, none⟩) hbb).trans x3)
        have c_e4 : ∀ p : BW wr, p.w.cell? ⟨bb, off + k * 6 + 4, none⟩ = some (.int .i64 v5) := bw_cell ((B1.cell (p := ⟨bb, off + k * 6 + 4, none⟩) hbb).trans x4)
        have c_e5 : ∀ p : BW wr, p.w.cell? ⟨bb, off + k * 6 + 5, none⟩ = some (.int .i64 v6) := bw_cell ((B1.cell (p := ⟨bb, off + k * 6 + 5, none⟩) hbb).trans x5)
        obtain ⟨p1, hp1⟩ : ∃ p : BW wr, p.w = wr := ⟨BW.start wr, rfl⟩
        rw [← hp1]
        clear hp1
        go_upto_region 4 with (fail)
        obtain ⟨W2, hW2⟩ : ∃ W, W = p1.w.alloc (.cells #[.int .i64 v1, .int .i64 v2, .int .i64 v3, .int .i64 v4, .int .i64 v5, .int .i64 v6] 41) := ⟨_, rfl⟩
        have B2 : Below w.heap.size w W2 := by rw [hW2]; exact (bw_below B1 p1).alloc (bw_below B1 p1).size _
        have o_b : w.heap.size ≤ p1.w.heap.size := (bw_below B1 p1).size
        have k_b := bkn hW2
        rw [← hW2]
        clear hW2
        clear B1
        clear c_e0 c_e1 c_e2 c_e3 c_e4 c_e5
        generalize p1.w.heap.size = g_b at *
        obtain ⟨c_b_0, c_b_1, c_b_2, c_b_3, c_b_4, c_b_5⟩ := bwc6 (k_b)
        obtain ⟨p2, hp2⟩ : ∃ p : BW W2, p.w = W2 := ⟨BW.start W2, rfl⟩
        rw [← hp2]
        clear hp2
        go_upto_region 5 with (first
          | (go_at_call 66; (first | (with_reducible refine (bw_call KM.out _).mono ?_)); rintro e w' ⟨rfl, q, rfl⟩))
        have h0 := H0.out
        have h0i : (k : Int) = 0 := by omega
        go_wp2
        go_roundw
        case rel => exact ⟨k + 1, by omega, by go_num, by rw [HR.out.1], by rw [HR.out.2], bw_below B2 _⟩
        case measure => simp [intOf]; omega
      · have B1 := BO
        have hr : mnV V (k + 1) ax = min ml md ∧ mxV V (k + 1) ax = max mh md := by have := HST.out; rwa [if_neg h0, if_neg h0] at this
        have HR := Lib.hid hr
        clear hr
        clear HST
        have H0 := Lib.hid h0
        clear h0
        have c_e0 : ∀ p : BW wr, p.w.cell? ⟨bb, off + k * 6, none⟩ = some (.int .i64 v1) := bw_cell ((B1.cell (p := ⟨bb, off + k * 6, none⟩) hbb).trans x0)
        have c_e1 : ∀ p : BW wr, p.w.cell? ⟨bb, off + k * 6 + 1, none⟩ = some (.int .i64 v2) := bw_cell ((B1.cell (p := ⟨bb, off + k * 6 + 1, none⟩) hbb).trans x1)
        have c_e2 : ∀ p : BW wr, p.w.cell? ⟨bb, off + k * 6 + 2, none⟩ = some (.int .i64 v3) := bw_cell ((B1.cell (p := ⟨bb, off + k * 6 + 2, none⟩) hbb).trans x2)
        have c_e3 : ∀ p : BW wr, p.w.cell? ⟨bb, off + k * 6 + 3, none⟩ = some (.int .i64 v4) := bw_cell ((B1.cell (p := ⟨bb, off + k * 6 + 3, none⟩) hbb).trans x3)
        have c_e4 : ∀ p : BW wr, p.w.cell? ⟨bb, off + k * 6 + 4, none⟩ = some (.int .i64 v5) := bw_cell ((B1.cell (p := ⟨bb, off + k * 6 + 4, none⟩) hbb).trans x4)
        have c_e5 : ∀ p : BW wr, p.w.cell? ⟨bb, off + k * 6 + 5, none⟩ = some (.int .i64 v6) := bw_cell ((B1.cell (p := ⟨bb, off + k * 6 + 5, none⟩) hbb).trans x5)
        obtain ⟨p1, hp1⟩ : ∃ p : BW wr, p.w = wr := ⟨BW.start wr, rfl⟩
        rw [← hp1]
        clear hp1
        go_upto_region 4 with (fail)
        obtain ⟨W2, hW2⟩ : ∃ W, W = p1.w.alloc (.cells #[.int .i64 v1, .int .i64 v2, .int .i64 v3, .int .i64 v4, .int .i64 v5, .int .i64 v6] 41) := ⟨_, rfl⟩
        have B2 : Below w.heap.size w W2 := by rw [hW2]; exact (bw_below B1 p1).alloc (bw_below B1 p1).size _
        have o_b : w.heap.size ≤ p1.w.heap.size := (bw_below B1 p1).size
        have k_b := bkn hW2
        rw [← hW2]
        clear hW2
        clear B1
        clear c_e0 c_e1 c_e2 c_e3 c_e4 c_e5
        generalize p1.w.heap.size = g_b at *
        obtain ⟨c_b_0, c_b_1, c_b_2, c_b_3, c_b_4, c_b_5⟩ := bwc6 (k_b)
        obtain ⟨p2, hp2⟩ : ∃ p : BW W2, p.w = W2 := ⟨BW.start W2, rfl⟩
        rw [← hp2]
        clear hp2
        go_upto_region 5 with (first
          | (go_at_call 66; (first | (with_reducible refine (bw_call KM.out _).mono ?_)); rintro e w' ⟨rfl, q, rfl⟩))
        have h0 := H0.out
        have h0i : ¬ (k : Int) = 0 := by omega
        go_wp2
        go_roundw
        case rel => exact ⟨k + 1, by omega, by go_num, by rw [HR.out.1], by rw [HR.out.2], bw_below B2 _⟩
        case measure => simp [intOf]; omega
    · obtain rfl : k = n := by omega
      go_wp2
      go_ret2
      exact ⟨rfl, BO⟩

theorem isB_group {ax lo hi : Int} {V : Nat → Bx} {k : Nat} {z : Nat} (h : bBin (V k) ax lo hi = z) : (fun j : Nat => gL (isB ax lo hi j) (bls V (k + 1))) = gset (fun j : Nat => gL (isB ax lo hi j) (bls V k)) z (gW (gL (isB ax lo hi z) (bls V k)) (V k, 1)) := by
  funext j
  rw [gL_succ]
  unfold gset gPut isB
  rw [h]
  by_cases e : j = z
  · subst e; simp
  · rw [if_neg (by simp; omega), if_neg e]

theorem allBin_succ {ax lo hi : Int} {V : Nat → Bx} {k : Nat} (h : allBin ax lo hi (bls V k) = true) (h2 : 0 ≤ bBin (V k) ax lo hi) : allBin ax lo hi (bls V (k + 1)) = true := by
  rw [allBin_iff] at *
  intro b hb
  rw [bls_succ] at hb
  rcases List.mem_append.1 hb with hb | hb
  · exact h b hb
  · simp at hb; rw [hb]; exact h2

theorem allBin_not {ax lo hi : Int} {V : Nat → Bx} {k n : Nat} (h : bBin (V k) ax lo hi < 0) (hk : k < n) : allBin ax lo hi (bls V n) = false := by
  cases e : allBin ax lo hi (bls V n) with
  | false => rfl
  | true => have := allBin_iff.1 e (V k) (bls_mem.2 ⟨k, hk, rfl⟩); omega

set_option maxRecDepth 100000 in
set_option maxHeartbeats 4000000 in
theorem bins_binned (a : Option Addr) (n cap : Nat) (V : Nat → Bx) (ax lo hi : Int) (w : World) (hs : Boxes w (.slice a n cap) n V) (hx : I64 ax) (hl : I64 lo) (hh : I64 hi) (hn : n ≤ 1024) :
    Calls Tryz.prog 44 #[.slice a n cap, .int .i64 ax, .int .i64 lo, .int .i64 hi] w fun e w' => e = .returned (.tuple #[.agg (if allBin ax lo hi (bls V n) = true then GA (fun j : Nat => gL (isB ax lo hi j) (bls V n)) else GA (fun _ => g0)), .bool (allBin ax lo hi (bls V n))]) ∧ Below w.heap.size w w' := by
  have HS := Lib.hid hs
  have KBH := Lib.hid (fun (b : Bx) w => bins_Bin b.1.1 b.1.2.1 b.1.2.2 b.2.1 b.2.2.1 b.2.2.2 ax lo hi w hx hl hh)
  have hb0 : ∀ w, (Instr.build 110 #[]).run Tryz.prog w = .ok (.agg (GA (fun _ => g0))) w := fun _ => by kernel_rfl
  clear hs hx hl hh
  go_enter Tryz.func44, Tryz.ntmps44
  go_upto_region 2 with (fail)
  obtain ⟨W1, hW1⟩ : ∃ W, W = (w.alloc (.cells #[.int .i64 0, .int .i64 0, .int .i64 0, .int .i64 0, .int .i64 0, .int .i64 0, .int .i64 0, .int .i64 0, .int .i64 0, .int .i64 0, .int .i64 0, .int .i64 0, .int .i64 0, .int .i64 0, .int .i64 0, .int .i64 0, .int .i64 0, .int .i64 0, .int .i64 0, .int .i64 0, .int .i64 0, .int .i64 0, .int .i64 0, .int .i64 0, .int .i64 0, .int .i64 0, .int .i64 0, .int .i64 0, .int .i64 0, .int .i64 0, .int .i64 0, .int .i64 0, .int .i64 0, .int .i64 0, .int .i64 0, .int .i64 0, .int .i64 0, .int .i64 0, .int .i64 0, .int .i64 0, .int .i64 0, .int .i64 0, .int .i64 0, .int .i64 0, .int .i64 0, .int .i64 0, .int .i64 0, .int .i64 0, .int .i64 0, .int .i64 0, .int .i64 0, .int .i64 0, .int .i64 0, .int .i64 0, .int .i64 0, .int .i64 0] 110)).alloc (.cells #[.int .i64 0, .int .i64 0, .int .i64 0, .int .i64 0, .int .i64 0, .int .i64 0, .int .i64 0, .int .i64 0, .int .i64 0, .int .i64 0, .int .i64 0, .int .i64 0, .int .i64 0, .int .i64 0, .int .i64 0, .int .i64 0, .int .i64 0, .int .i64 0, .int .i64 0, .int .i64 0, .int .i64 0, .int .i64 0, .int .i64 0, .int .i64 0, .int .i64 0, .int .i64 0, .int .i64 0, .int .i64 0, .int .i64 0, .int .i64 0, .int .i64 0, .int .i64 0, .int .i64 0, .int .i64 0, .int .i64 0, .int .i64 0, .int .i64 0, .int .i64 0, .int .i64 0, .int .i64 0, .int .i64 0, .int .i64 0, .int .i64 0, .int .i64 0, .int .i64 0, .int .i64 0, .int .i64 0, .int .i64 0, .int .i64 0, .int .i64 0, .int .i64 0, .int .i64 0, .int .i64 0, .int .i64 0, .int .i64 0, .int .i64 0] 110) := ⟨_, rfl⟩
  obtain ⟨k_r, k_g, B1⟩ := st2 hW1
  rw [← hW1]
  clear hW1
  have l_g : w.heap.size < w.heap.size + 1 := by omega
  generalize w.heap.size + 1 = g_g at *
  change Bk W1 w.heap.size 110 (GA (fun _ => g0)) at k_r
  change Bk W1 g_g 110 (GA (fun _ => g0)) at k_g
  go_wp2
  go_loopw [16] (fun i wr => ∃ k : Nat, k ≤ n ∧ i = .int .i64 k ∧ Bk wr w.heap.size 110 (GA (fun _ => g0)) ∧ Bk wr g_g 110 (GA (fun j : Nat => gL (isB ax lo hi j) (bls V k))) ∧ Below w.heap.size w wr ∧ allBin ax lo hi (bls V k) = true) (fun i _ => n - (intOf i).toNat)
  case atStart => exact ⟨0, by omega, rfl, k_r, k_g, B1, rfl⟩
  case round =>
    clear k_r k_g B1
    obtain ⟨k, hk, rfl, k_r, k_g, BO, hall⟩ := hrel
    have HALL := Lib.hid hall
    clear hall
    by_cases hlt : k < n
    · have KB := Lib.hid (fun w => KBH.out (V k) w)
      obtain ⟨_, _, hsl, _, hS⟩ := HS.out
      cases hsl
      obtain ⟨bb, off, rfl, hbb, hcell⟩ := hS.resolve_left (by omega)
      have x0 : w.cell? ⟨bb, off + k * 6, none⟩ = some (.int .i64 (V k).1.1) := hcell k hlt 0 (by omega)
      have x1 : w.cell? ⟨bb, off + k * 6 + 1, none⟩ = some (.int .i64 (V k).1.2.1) := hcell k hlt 1 (by omega)
      have x2 : w.cell? ⟨bb, off + k * 6 + 2, none⟩ = some (.int .i64 (V k).1.2.2) := hcell k hlt 2 (by omega)
      have x3 : w.cell? ⟨bb, off + k * 6 + 3, none⟩ = some (.int .i64 (V k).2.1) := hcell k hlt 3 (by omega)
      have x4 : w.cell? ⟨bb, off + k * 6 + 4, none⟩ = some (.int .i64 (V k).2.2.1) := hcell k hlt 4 (by omega)
      have x5 : w.cell? ⟨bb, off + k * 6 + 5, none⟩ = some (.int .i64 (V k).2.2.2) := hcell k hlt 5 (by omega)
      clear hcell hS
      change Hid (∀ w, Calls Tryz.prog 67 #[.agg #[.int .i64 (V k).1.1, .int .i64 (V k).1.2.1, .int .i64 (V k).1.2.2, .int .i64 (V k).2.1, .int .i64 (V k).2.2.1, .int .i64 (V k).2.2.2], .int .i64 ax, .int .i64 lo, .int .i64 hi] w fun en w' => en = .returned (.int .i64 (bBin (V k) ax lo hi)) ∧ Below w.heap.size w w') at KB
      obtain ⟨z, hz⟩ : ∃ z, z = bBin (V k) ax lo hi := ⟨_, rfl⟩
      rw [← hz] at KB
      have hz7 := bBin_lt (V k) ax lo hi
      rw [← hz] at hz7
      clear KBH
      obtain ⟨vk, hvk⟩ : ∃ vk, vk = V k := ⟨_, rfl⟩
      rw [← hvk] at x0 x1 x2 x3 x4 x5 KB hz
      have HVK := Lib.hid hvk
      clear hvk
      obtain ⟨⟨v1, v2, v3⟩, v4, v5, v6⟩ := vk
      dsimp only at x0 x1 x2 x3 x4 x5 KB
      have HZ := Lib.hid hz
      clear hz
      by_cases hneg : z < 0
      · have B1 := BO
        have tz : decide (z < 0) = true := decide_eq_true hneg
        have HN := Lib.hid hneg
        clear hneg hz7
        have c_e0 : ∀ p : BW wr, p.w.cell? ⟨bb, off + k * 6, none⟩ = some (.int .i64 v1) := bw_cell ((B1.cell (p := ⟨bb, off + k * 6, none⟩) hbb).trans x0)
        have c_e1 : ∀ p : BW wr, p.w.cell? ⟨bb, off + k * 6 + 1, none⟩ = some (.int .i64 v2) := bw_cell ((B1.cell (p := ⟨bb, off + k * 6 + 1, none⟩) hbb).trans x1)
        have c_e2 : ∀ p : BW wr, p.w.cell? ⟨bb, off + k * 6 + 2, none⟩ = some (.int .i64 v3) := bw_cell ((B1.cell (p := ⟨bb, off + k * 6 + 2, none⟩) hbb).trans x2)
        have c_e3 : ∀ p : BW wr, p.w.cell? ⟨bb, off + k * 6 + 3, none⟩ = some (.int .i64 v4) := bw_cell ((B1.cell (p := ⟨bb, off + k * 6 + 3, none⟩) hbb).trans x3)
        have c_e4 : ∀ p : BW wr, p.w.cell? ⟨bb, off + k * 6 + 4, none⟩ = some (.int .i64 v5) := bw_cell ((B1.cell (p := ⟨bb, off + k * 6 + 4, none⟩) hbb).trans x4)
        have c_e5 : ∀ p : BW wr, p.w.cell? ⟨bb, off + k * 6 + 5, none⟩ = some (.int .i64 v6) := bw_cell ((B1.cell (p := ⟨bb, off + k * 6 + 5, none⟩) hbb).trans x5)
        obtain ⟨p1, hp1⟩ : ∃ p : BW wr, p.w = wr := ⟨BW.start wr, rfl⟩
        rw [← hp1]
        clear hp1
        go_upto_region 5 with (fail)
        obtain ⟨W2, hW2⟩ : ∃ W, W = p1.w.alloc (.cells #[.int .i64 v1, .int .i64 v2, .int .i64 v3, .int .i64 v4, .int .i64 v5, .int .i64 v6] 41) := ⟨_, rfl⟩
        have B2 : Below w.heap.size w W2 := by rw [hW2]; exact (bw_below B1 p1).alloc (bw_below B1 p1).size _
        have l_b : g_g < p1.w.heap.size := (k_g.below p1.h).lt
        have o_b : w.heap.size ≤ p1.w.heap.size := (bw_below B1 p1).size
        have l_b_r : w.heap.size < p1.w.heap.size := (k_r.below p1.h).lt
        have k_r := bka hW2 (k_r.below p1.h)
        have k_g := bka hW2 (k_g.below p1.h)
        have k_b := bkn hW2
        rw [← hW2]
        clear hW2
        clear B1
        clear c_e0 c_e1 c_e2 c_e3 c_e4 c_e5
        generalize p1.w.heap.size = g_b at *
        obtain ⟨c_b_0, c_b_1, c_b_2, c_b_3, c_b_4, c_b_5⟩ := bwc6 (k_b)
        obtain ⟨p2, hp2⟩ : ∃ p : BW W2, p.w = W2 := ⟨BW.start W2, rfl⟩
        rw [← hp2]
        clear hp2
        go_upto_region 7 with (first
          | (go_at_call 67; (first | (with_reducible refine (bw_call KB.out _).mono ?_)); rintro e w' ⟨rfl, q, rfl⟩))
        repeat (first | (with_reducible refine gwp_none ?_) | ((with_reducible refine gwp_store_all (g := w.heap.size) (H := fun _ => g0) ?hx ?hy (k_r.below q.h) ?_); (case hx => rfl); (case hy => rfl)) | go_values | go_skip | go_guarded | go_step | go_upon)
        refine bodyPost_ret (results_cell_tmp rfl _ _ w.heap.size 110 (GA (fun _ => g0)) _ rfl (bk_row (k_r.below q.h)) Tryz.underlying110 rfl ga_info) rfl ⟨?_, below_row (bw_below B2 q) (Nat.le_refl _)⟩
        have hno : allBin ax lo hi (bls V n) = false := allBin_not (k := k) (by rw [← HVK.out]; have := HZ.out; have := HN.out; omega) hlt
        rw [hno]
        rfl
      · have B1 := BO
        have tz : decide (z < 0) = false := decide_eq_false hneg
        obtain ⟨zn, rfl⟩ : ∃ zn : Nat, z = zn := ⟨z.toNat, by omega⟩
        have hz8 : zn < 8 := by omega
        clear hneg hz7
        have c_e0 : ∀ p : BW wr, p.w.cell? ⟨bb, off + k * 6, none⟩ = some (.int .i64 v1) := bw_cell ((B1.cell (p := ⟨bb, off + k * 6, none⟩) hbb).trans x0)
        have c_e1 : ∀ p : BW wr, p.w.cell? ⟨bb, off + k * 6 + 1, none⟩ = some (.int .i64 v2) := bw_cell ((B1.cell (p := ⟨bb, off + k * 6 + 1, none⟩) hbb).trans x1)
        have c_e2 : ∀ p : BW wr, p.w.cell? ⟨bb, off + k * 6 + 2, none⟩ = some (.int .i64 v3) := bw_cell ((B1.cell (p := ⟨bb, off + k * 6 + 2, none⟩) hbb).trans x2)
        have c_e3 : ∀ p : BW wr, p.w.cell? ⟨bb, off + k * 6 + 3, none⟩ = some (.int .i64 v4) := bw_cell ((B1.cell (p := ⟨bb, off + k * 6 + 3, none⟩) hbb).trans x3)
        have c_e4 : ∀ p : BW wr, p.w.cell? ⟨bb, off + k * 6 + 4, none⟩ = some (.int .i64 v5) := bw_cell ((B1.cell (p := ⟨bb, off + k * 6 + 4, none⟩) hbb).trans x4)
        have c_e5 : ∀ p : BW wr, p.w.cell? ⟨bb, off + k * 6 + 5, none⟩ = some (.int .i64 v6) := bw_cell ((B1.cell (p := ⟨bb, off + k * 6 + 5, none⟩) hbb).trans x5)
        obtain ⟨p1, hp1⟩ : ∃ p : BW wr, p.w = wr := ⟨BW.start wr, rfl⟩
        rw [← hp1]
        clear hp1
        go_upto_region 5 with (fail)
        obtain ⟨W2, hW2⟩ : ∃ W, W = p1.w.alloc (.cells #[.int .i64 v1, .int .i64 v2, .int .i64 v3, .int .i64 v4, .int .i64 v5, .int .i64 v6] 41) := ⟨_, rfl⟩
        have B2 : Below w.heap.size w W2 := by rw [hW2]; exact (bw_below B1 p1).alloc (bw_below B1 p1).size _
        have l_b : g_g < p1.w.heap.size := (k_g.below p1.h).lt
        have o_b : w.heap.size ≤ p1.w.heap.size := (bw_below B1 p1).size
        have l_b_r : w.heap.size < p1.w.heap.size := (k_r.below p1.h).lt
        have k_r := bka hW2 (k_r.below p1.h)
        have k_g := bka hW2 (k_g.below p1.h)
        have k_b := bkn hW2
        rw [← hW2]
        clear hW2
        clear B1
        clear c_e0 c_e1 c_e2 c_e3 c_e4 c_e5
        generalize p1.w.heap.size = g_b at *
        obtain ⟨c_b_0, c_b_1, c_b_2, c_b_3, c_b_4, c_b_5⟩ := bwc6 (k_b)
        obtain ⟨p2, hp2⟩ : ∃ p : BW W2, p.w = W2 := ⟨BW.start W2, rfl⟩
        rw [← hp2]
        clear hp2
        go_upto_region 8 with (first
          | (go_at_call 67; (first | (with_reducible refine (bw_call KB.out _).mono ?_)); rintro e w' ⟨rfl, q, rfl⟩))
        obtain ⟨gz, hgz⟩ : ∃ gz, gz = gL (isB ax lo hi zn) (bls V k) := ⟨_, rfl⟩
        have hall := allBin_iff.1 HALL.out
        have okz : gOk gz := by rw [hgz]; exact gB_ok hall _
        have lez : gz.2 ≤ 1024 := by rw [hgz]; exact Nat.le_trans (gL_le _ _) (by rw [bls_len]; omega)
        have okv : bRight ((v1, v2, v3), v4, v5, v6) = true := (bBin_nonneg.1 (show 0 ≤ bBin ((v1, v2, v3), v4, v5, v6) ax lo hi by rw [← HZ.out]; omega)).1
        have KW := Lib.hid (fun w => bins_with gz (((v1, v2, v3), v4, v5, v6), 1) w okz (.inr okv) (by dsimp only; omega))
        have hnx := isB_group (V := V) (k := k) (z := zn) (ax := ax) (lo := lo) (hi := hi) (by rw [← HVK.out]; exact HZ.out.symm)
        rw [← hgz, ← HVK.out] at hnx
        have HNX := Lib.hid hnx
        have c_q := group_bw k_g hz8
        have f_q := group_fz k_g zn
        try dsimp only at c_q
        rw [← hgz] at c_q
        have hix := fun w => ga_index g_g zn hz8 w
        have HG := Lib.hid hgz
        clear hall hnx hgz okz lez okv
        obtain ⟨gn, hgn⟩ : ∃ gn, gn = gW gz (((v1, v2, v3), v4, v5, v6), 1) := ⟨_, rfl⟩
        rw [← hgn] at KW HNX
        clear hgn
        obtain ⟨⟨⟨p1, p2, p3⟩, p4, p5, p6⟩, pn⟩ := gz
        obtain ⟨⟨⟨r1, r2, r3⟩, r4, r5, r6⟩, rn⟩ := gn
        change Hid (∀ w, Calls Tryz.prog 68 #[.agg #[.int .i64 p1, .int .i64 p2, .int .i64 p3, .int .i64 p4, .int .i64 p5, .int .i64 p6, .int .i64 pn], .agg #[.int .i64 v1, .int .i64 v2, .int .i64 v3, .int .i64 v4, .int .i64 v5, .int .i64 v6, .int .i64 1]] w fun e w' => e = .returned (.agg #[.int .i64 r1, .int .i64 r2, .int .i64 r3, .int .i64 r4, .int .i64 r5, .int .i64 r6, .int .i64 rn]) ∧ Below w.heap.size w w') at KW
        obtain ⟨c_q0, c_q1, c_q2, c_q3, c_q4, c_q5, c_q6⟩ := c_q
        obtain ⟨f_q0, f_q1, f_q2, f_q3, f_q4, f_q5, f_q6⟩ := f_q
        dsimp only at c_q0 c_q1 c_q2 c_q3 c_q4 c_q5 c_q6
        refine wp_region_bw_tail 8 (by kernel_rfl) (by kernel_rfl) (by kernel_rfl) ?_
        simp only [List.take_succ_cons, List.take_zero, List.drop_succ_cons, List.drop_zero]
        repeat (go_big_quiet_step (first
          | (go_at_call 68; (first | (with_reducible exact bw_call KW.out _)))))
        refine wpQuiet_nil ?_
        intro _ hw'
        obtain ⟨q, rfl⟩ := hw'
        go_wp2
        go_roundw
        case rel => exact ⟨k + 1, by omega, by go_num, setCells_other (gcells (((r1, r2, r3), r4, r5, r6), rn)) (zn * 7) _ (k_r.below (BW.h _)) (by omega), (by rw [HNX.out]; exact group_stored (k_g.below (BW.h _)) hz8 (((r1, r2, r3), r4, r5, r6), rn)), setCells_below (by omega) (gcells (((r1, r2, r3), r4, r5, r6), rn)) (zn * 7) _ (bw_below B2 _), allBin_succ HALL.out (by rw [← HVK.out, ← HZ.out]; omega)⟩
        case measure => simp [intOf]; omega
    · obtain rfl : k = n := by omega
      obtain ⟨p1, hp1⟩ : ∃ p : BW wr, p.w = wr := ⟨BW.start wr, rfl⟩
      rw [← hp1]
      clear hp1
      repeat (first | ((with_reducible refine gwp_load_all (g := g_g) ?hx (k_g.below p1.h) ?_); (case hx => rfl)) | ((with_reducible refine gwp_store_all (g := w.heap.size) (H := fun j : Nat => gL (isB ax lo hi j) (bls V k)) ?hx ?hy (k_r.below p1.h) ?_); (case hx => rfl); (case hy => rfl)) | go_values | go_skip | go_guarded | go_step | go_upon)
      exact bodyPost_ret (results_cell_tmp rfl _ _ w.heap.size 110 _ _ rfl (bk_row (k_r.below p1.h)) Tryz.underlying110 rfl ga_info) rfl ⟨by rw [HALL.out, if_pos rfl]; rfl, below_row (bw_below BO p1) (Nat.le_refl _)⟩

set_option maxRecDepth 100000 in
set_option maxHeartbeats 4000000 in
theorem bins_parted (l : List Bx) (ax lo hi : Int) (w : World) (hall : ∀ b ∈ l, 0 ≤ bBin b ax lo hi) (hn : l.length ≤ 1024) :
    Calls Tryz.prog 45 #[.agg (GA (fun j : Nat => gL (isB ax lo hi j) l))] w fun e w' => e = .returned (.tuple #[.agg (GA (fun j : Nat => gL (isL ax lo hi j) l)), .agg (GA (fun j : Nat => gL (isR ax lo hi j) l))]) ∧ Below w.heap.size w w' := by
  have HALL := Lib.hid hall
  have HLE := Lib.hid (fun p => Nat.le_trans (gL_le p l) hn)
  clear hall hn
  obtain ⟨LA, hLA⟩ : ∃ LA, LA = GA (fun j : Nat => gL (isB ax lo hi j) l) := ⟨_, rfl⟩
  rw [← hLA]
  have HLA := Lib.hid hLA
  clear hLA
  go_enter Tryz.func45, Tryz.ntmps45
  go_upto_region 1 with (fail)
  obtain ⟨W1, hW1⟩ : ∃ W, W = ((w.alloc (.cells LA 110)).alloc (.cells #[.int .i64 0, .int .i64 0, .int .i64 0, .int .i64 0, .int .i64 0, .int .i64 0, .int .i64 0, .int .i64 0, .int .i64 0, .int .i64 0, .int .i64 0, .int .i64 0, .int .i64 0, .int .i64 0, .int .i64 0, .int .i64 0, .int .i64 0, .int .i64 0, .int .i64 0, .int .i64 0, .int .i64 0, .int .i64 0, .int .i64 0, .int .i64 0, .int .i64 0, .int .i64 0, .int .i64 0, .int .i64 0, .int .i64 0, .int .i64 0, .int .i64 0, .int .i64 0, .int .i64 0, .int .i64 0, .int .i64 0, .int .i64 0, .int .i64 0, .int .i64 0, .int .i64 0, .int .i64 0, .int .i64 0, .int .i64 0, .int .i64 0, .int .i64 0, .int .i64 0, .int .i64 0, .int .i64 0, .int .i64 0, .int .i64 0, .int .i64 0, .int .i64 0, .int .i64 0, .int .i64 0, .int .i64 0, .int .i64 0, .int .i64 0] 110)).alloc (.cells #[.int .i64 0, .int .i64 0, .int .i64 0, .int .i64 0, .int .i64 0, .int .i64 0, .int .i64 0, .int .i64 0, .int .i64 0, .int .i64 0, .int .i64 0, .int .i64 0, .int .i64 0, .int .i64 0, .int .i64 0, .int .i64 0, .int .i64 0, .int .i64 0, .int .i64 0, .int .i64 0, .int .i64 0, .int .i64 0, .int .i64 0, .int .i64 0, .int .i64 0, .int .i64 0, .int .i64 0, .int .i64 0, .int .i64 0, .int .i64 0, .int .i64 0, .int .i64 0, .int .i64 0, .int .i64 0, .int .i64 0, .int .i64 0, .int .i64 0, .int .i64 0, .int .i64 0, .int .i64 0, .int .i64 0, .int .i64 0, .int .i64 0, .int .i64 0, .int .i64 0, .int .i64 0, .int .i64 0, .int .i64 0, .int .i64 0, .int .i64 0, .int .i64 0, .int .i64 0, .int .i64 0, .int .i64 0, .int .i64 0, .int .i64 0] 110) := ⟨_, rfl⟩
  obtain ⟨k_a, k_b, k_o, B1⟩ := st3 hW1
  rw [← hW1]
  clear hW1
  have l_b : w.heap.size < w.heap.size + 1 := by omega
  have l_o : w.heap.size + 1 < w.heap.size + 1 + 1 := by omega
  generalize w.heap.size + 1 + 1 = g_o at *
  generalize w.heap.size + 1 = g_b at *
  rw [HLA.out] at k_a
  change Bk W1 g_b 110 (GA (fun _ => g0)) at k_b
  change Bk W1 g_o 110 (GA (fun _ => g0)) at k_o
  repeat (first | ((with_reducible refine gwp_load (k := 7) ?hx (k_a) (show 7 < 8 by omega) ?_); (case hx => rfl)) | ((with_reducible refine gwp_store (k := 7) (z := gL (isB ax lo hi (7 : Nat)) l) ?hx ?hy (k_o) (show 7 < 8 by omega) ?_); (case hx => rfl); (case hy => rfl)) | go_values | go_skip | go_guarded | go_step | go_upon)
  obtain ⟨W2, hW2⟩ : ∃ W, W = W1.setCells g_o 49 (gcells (gL (isB ax lo hi 7) l)) := ⟨_, rfl⟩
  have k_a : Bk W2 w.heap.size 110 (GA (fun j : Nat => gL (isB ax lo hi j) l)) := by rw [hW2]; exact setCells_other _ _ _ k_a (by omega)
  have k_b : Bk W2 g_b 110 (GA (gBefore ax lo hi l 0)) := by rw [hW2, gBefore_start]; exact setCells_other _ _ _ k_b (by omega)
  have k_o : Bk W2 g_o 110 (GA (gOthers ax lo hi l 0)) := by rw [hW2, ← gOthers_start]; exact group_stored k_o (show 7 < 8 by omega) _
  have B2 : Below w.heap.size w W2 := by rw [hW2]; exact setCells_below (by omega) _ _ _ B1
  rw [← hW2]
  clear hW2 B1
  go_loopw [9] (fun i wr => ∃ k : Nat, k ≤ 7 ∧ i = .int .i64 k ∧ Bk wr w.heap.size 110 (GA (fun j : Nat => gL (isB ax lo hi j) l)) ∧ Bk wr g_b 110 (GA (gBefore ax lo hi l k)) ∧ Bk wr g_o 110 (GA (gOthers ax lo hi l k)) ∧ Below w.heap.size w wr) (fun i _ => 7 - (intOf i).toNat)
  case atStart => exact ⟨0, by omega, rfl, k_a, k_b, k_o, B2⟩
  case round =>
    clear k_a k_b k_o B2
    obtain ⟨k, hk, rfl, k_a, k_b, k_o, BO⟩ := hrel
    by_cases hlt : k < 7
    · obtain ⟨m, hm⟩ : ∃ m, m = 6 - k := ⟨_, rfl⟩
      have E2 := Lib.hid (show (6 : Int) - (k : Int) = (m : Int) by omega)
      obtain ⟨x, hx⟩ : ∃ x, x = gBefore ax lo hi l k k := ⟨_, rfl⟩
      obtain ⟨y, hy⟩ : ∃ y, y = gL (isB ax lo hi k) l := ⟨_, rfl⟩
      obtain ⟨u, hu⟩ : ∃ u, u = gOthers ax lo hi l k (m + 1) := ⟨_, rfl⟩
      obtain ⟨v, hv⟩ : ∃ v, v = gL (isB ax lo hi m) l := ⟨_, rfl⟩
      have n1 := gBefore_step (ax := ax) (lo := lo) (hi := hi) l k
      have n2 := gOthers_step (ax := ax) (lo := lo) (hi := hi) l k m (by omega)
      rw [← hx, ← hy] at n1
      rw [← hu, ← hv] at n2
      have okA : ∀ p, gOk (gL p l) := fun p => gB_ok HALL.out p
      have ex : x = gL (isL ax lo hi k) l := by rw [hx]; unfold gBefore; rw [if_pos (Nat.le_refl _)]
      have eu : u = gL (isR ax lo hi (m + 1 : Nat)) l := by rw [hu]; unfold gOthers; rw [if_pos (by omega)]
      have KX := Lib.hid (fun w => bins_with x y w (by rw [ex]; exact okA _) (by rw [hy]; exact okA _) (by rw [ex, hy]; have := HLE.out (isL ax lo hi k); have := HLE.out (isB ax lo hi k); omega))
      have KU := Lib.hid (fun w => bins_with u v w (by rw [eu]; exact okA _) (by rw [hv]; exact okA _) (by rw [eu, hv]; have := HLE.out (isR ax lo hi (m + 1 : Nat)); have := HLE.out (isB ax lo hi m); omega))
      have c_x := group_bw k_b (show k < 8 by omega)
      have c_y := group_bw k_a (show k < 8 by omega)
      rw [← hx] at c_x
      rw [← hy] at c_y
      have HX := Lib.hid hx
      have HY := Lib.hid hy
      have HU := Lib.hid hu
      have HV := Lib.hid hv
      have HN1 := Lib.hid n1
      have HN2 := Lib.hid n2
      obtain ⟨X, hX⟩ : ∃ X, X = gW x y := ⟨_, rfl⟩
      obtain ⟨U, hU⟩ : ∃ U, U = gW u v := ⟨_, rfl⟩
      rw [← hX] at KX HN1
      rw [← hU] at KU HN2
      have HM := Lib.hid hm
      have hk8 : k < 8 := by omega
      have hk18 : k + 1 < 8 := by omega
      have hm8 : m < 8 := by omega
      have hm18 : m + 1 < 8 := by omega
      clear hX hU hx hy hu hv n1 n2 okA ex eu hm
      have B2 := BO
      clear BO
      obtain ⟨⟨⟨x1, x2, x3⟩, x4, x5, x6⟩, xn⟩ := x
      obtain ⟨⟨⟨y1, y2, y3⟩, y4, y5, y6⟩, yn⟩ := y
      obtain ⟨⟨⟨u1, u2, u3⟩, u4, u5, u6⟩, un⟩ := u
      obtain ⟨⟨⟨v1, v2, v3⟩, v4, v5, v6⟩, vn⟩ := v
      obtain ⟨⟨⟨p1, p2, p3⟩, p4, p5, p6⟩, pn⟩ := X
      obtain ⟨⟨⟨q1, q2, q3⟩, q4, q5, q6⟩, qn⟩ := U
      change Hid (∀ w, Calls Tryz.prog 68 #[.agg #[.int .i64 x1, .int .i64 x2, .int .i64 x3, .int .i64 x4, .int .i64 x5, .int .i64 x6, .int .i64 xn], .agg #[.int .i64 y1, .int .i64 y2, .int .i64 y3, .int .i64 y4, .int .i64 y5, .int .i64 y6, .int .i64 yn]] w fun e w' => e = .returned (.agg #[.int .i64 p1, .int .i64 p2, .int .i64 p3, .int .i64 p4, .int .i64 p5, .int .i64 p6, .int .i64 pn]) ∧ Below w.heap.size w w') at KX
      change Hid (∀ w, Calls Tryz.prog 68 #[.agg #[.int .i64 u1, .int .i64 u2, .int .i64 u3, .int .i64 u4, .int .i64 u5, .int .i64 u6, .int .i64 un], .agg #[.int .i64 v1, .int .i64 v2, .int .i64 v3, .int .i64 v4, .int .i64 v5, .int .i64 v6, .int .i64 vn]] w fun e w' => e = .returned (.agg #[.int .i64 q1, .int .i64 q2, .int .i64 q3, .int .i64 q4, .int .i64 q5, .int .i64 q6, .int .i64 qn]) ∧ Below w.heap.size w w') at KU
      obtain ⟨c_x0, c_x1, c_x2, c_x3, c_x4, c_x5, c_x6⟩ := c_x
      dsimp only at c_x0 c_x1 c_x2 c_x3 c_x4 c_x5 c_x6
      obtain ⟨c_y0, c_y1, c_y2, c_y3, c_y4, c_y5, c_y6⟩ := c_y
      dsimp only at c_y0 c_y1 c_y2 c_y3 c_y4 c_y5 c_y6
      obtain ⟨f_b0, f_b1, f_b2, f_b3, f_b4, f_b5, f_b6⟩ := group_fz k_b (k + 1)
      obtain ⟨d_b0, d_b1, d_b2, d_b3, d_b4, d_b5, d_b6⟩ := group_bw k_b hk18
      have i1 := fun w => ga_index g_b k hk8 w
      have i2 := ga_index w.heap.size k hk8
      have i3 := ga_index g_b (k + 1) hk18
      obtain ⟨pw, hpw⟩ : ∃ p : BW wr, p.w = wr := ⟨BW.start wr, rfl⟩
      rw [← hpw]
      clear hpw
      go_upto_region 5 with (fail)
      refine wp_region_bw_tail 10 (by kernel_rfl) (by kernel_rfl) (by kernel_rfl) ?_
      simp only [List.take_succ_cons, List.take_zero, List.drop_succ_cons, List.drop_zero]
      repeat (go_big_quiet_step (first
        | (go_at_call 68; (first | (with_reducible exact bw_call KX.out _)))))
      refine wpQuiet_nil ?_
      intro _ hw'
      obtain ⟨q, rfl⟩ := hw'
      go_upto_region 6 with (fail)
      obtain ⟨W3, hW3⟩ : ∃ W, W = ((((((q.w.setCell ⟨g_b, (k + 1) * 7, none⟩ (.int .i64 p1)).setCell ⟨g_b, (k + 1) * 7 + 1, none⟩ (.int .i64 p2)).setCell ⟨g_b, (k + 1) * 7 + 2, none⟩ (.int .i64 p3)).setCell ⟨g_b, (k + 1) * 7 + 3, none⟩ (.int .i64 p4)).setCell ⟨g_b, (k + 1) * 7 + 4, none⟩ (.int .i64 p5)).setCell ⟨g_b, (k + 1) * 7 + 5, none⟩ (.int .i64 p6)).setCell ⟨g_b, (k + 1) * 7 + 6, none⟩ (.int .i64 pn) := ⟨_, rfl⟩
      have k_a : Bk W3 w.heap.size 110 (GA (fun j : Nat => gL (isB ax lo hi j) l)) := by rw [hW3]; exact setCells_other (gcells (((p1, p2, p3), p4, p5, p6), pn)) ((k + 1) * 7) _ (k_a.below q.h) (by omega)
      have k_b : Bk W3 g_b 110 (GA (gBefore ax lo hi l (k + 1))) := by rw [hW3, ← HN1.out]; exact group_stored (k_b.below q.h) hk18 (((p1, p2, p3), p4, p5, p6), pn)
      have k_o : Bk W3 g_o 110 (GA (gOthers ax lo hi l k)) := by rw [hW3]; exact setCells_other (gcells (((p1, p2, p3), p4, p5, p6), pn)) ((k + 1) * 7) _ (k_o.below q.h) (by omega)
      have B3 : Below w.heap.size w W3 := by rw [hW3]; exact setCells_below (by omega) (gcells (((p1, p2, p3), p4, p5, p6), pn)) ((k + 1) * 7) _ (bw_below B2 q)
      rw [← hW3]
      clear hW3 B2
      clear i1 i2 i3
      clear c_x0 c_y0 f_b0 d_b0 c_x1 c_y1 f_b1 d_b1 c_x2 c_y2 f_b2 d_b2 c_x3 c_y3 f_b3 d_b3 c_x4 c_y4 f_b4 d_b4 c_x5 c_y5 f_b5 d_b5 c_x6 c_y6 f_b6 d_b6
      have c_x := group_bw k_o hm18
      have c_y := group_bw k_a hm8
      rw [← HU.out] at c_x
      rw [← HV.out] at c_y
      obtain ⟨c_x0, c_x1, c_x2, c_x3, c_x4, c_x5, c_x6⟩ := c_x
      dsimp only at c_x0 c_x1 c_x2 c_x3 c_x4 c_x5 c_x6
      obtain ⟨c_y0, c_y1, c_y2, c_y3, c_y4, c_y5, c_y6⟩ := c_y
      dsimp only at c_y0 c_y1 c_y2 c_y3 c_y4 c_y5 c_y6
      obtain ⟨f_o0, f_o1, f_o2, f_o3, f_o4, f_o5, f_o6⟩ := group_fz k_o m
      obtain ⟨d_o0, d_o1, d_o2, d_o3, d_o4, d_o5, d_o6⟩ := group_bw k_o hm8
      have i1 := ga_index g_o (m + 1) hm18
      have i2 := ga_index w.heap.size m hm8
      have i3 := ga_index g_o m hm8
      obtain ⟨pw, hpw⟩ : ∃ p : BW W3, p.w = W3 := ⟨BW.start W3, rfl⟩
      rw [← hpw]
      clear hpw
      have e2 := E2.out
      go_upto_region 7 with (fail)
      refine wp_region_bw_tail 10 (by kernel_rfl) (by kernel_rfl) (by kernel_rfl) ?_
      simp only [List.take_succ_cons, List.take_zero, List.drop_succ_cons, List.drop_zero]
      repeat (go_big_quiet_step (first
        | (go_at_call 68; (first | (with_reducible exact bw_call KU.out _)))))
      refine wpQuiet_nil ?_
      intro _ hw'
      obtain ⟨q, rfl⟩ := hw'
      go_wp2
      go_roundw
      case rel => exact ⟨k + 1, by omega, by go_num, setCells_other (gcells (((q1, q2, q3), q4, q5, q6), qn)) (m * 7) _ (k_a.below (BW.h _)) (by omega), setCells_other (gcells (((q1, q2, q3), q4, q5, q6), qn)) (m * 7) _ (k_b.below (BW.h _)) (by omega), (by rw [← HN2.out]; exact group_stored (k_o.below (BW.h _)) hm8 (((q1, q2, q3), q4, q5, q6), qn)), setCells_below (by omega) (gcells (((q1, q2, q3), q4, q5, q6), qn)) (m * 7) _ (bw_below B3 _)⟩
      case measure => simp [intOf]; omega
    · obtain rfl : k = 7 := by omega
      rw [gBefore_end] at k_b
      rw [gOthers_end] at k_o
      go_upto_region 9 with (fail)
      refine wp_region_any (by kernel_rfl) ?_
      have k_b : Bk { wr with drawn := wr.drawn + 1 } g_b 110 (GA (fun j : Nat => gL (isL ax lo hi j) l)) := k_b
      have k_o : Bk { wr with drawn := wr.drawn + 1 } g_o 110 (GA (fun j : Nat => gL (isR ax lo hi j) l)) := k_o
      have B3 : Below w.heap.size w { wr with drawn := wr.drawn + 1 } := BO.trans ⟨rfl, rfl, rfl, Nat.le_refl _, fun _ _ => rfl⟩
      generalize { wr with drawn := wr.drawn + 1 } = w9 at *
      refine wpAny_ready (rs := [0, 1]) (by kernel_rfl) (by simp) ?_
      refine AllReady.cons rfl (fun K hK => ?_) (AllReady.cons rfl (fun K hK => ?_) (AllReady.nil))
      · rw [if_pos (by rfl)]
        refine gwp_load_all (g := g_b) rfl k_b ?_
        refine hK _ _ ?_
        clear hK K
        refine wpAny_ready (rs := [1, 2]) (by kernel_rfl) (by simp) ?_
        refine AllReady.cons rfl (fun K hK => ?_) (AllReady.cons rfl (fun K hK => ?_) (AllReady.nil))
        · rw [if_pos (by rfl)]
          refine gwp_load_all (g := g_o) rfl k_o ?_
          refine hK _ _ ?_
          clear hK K
          refine wpAny_ready (rs := [2]) (by kernel_rfl) (by simp) ?_
          refine AllReady.cons rfl (fun K hK => ?_) (AllReady.nil)
          rw [if_pos (by rfl)]
          refine gwp_store_same (g := g_b) rfl rfl k_b ?_
          refine hK _ _ ?_
          clear hK K
          refine wpAny_ready (rs := [3]) (by kernel_rfl) (by simp) ?_
          refine AllReady.cons rfl (fun K hK => ?_) (AllReady.nil)
          rw [if_pos (by rfl)]
          refine gwp_store_same (g := g_o) rfl rfl k_o ?_
          refine hK _ _ ?_
          clear hK K
          refine wpAny_done (by kernel_rfl) ?_ _
          simp only [Act.put, List.setIfInBounds_toArray, List.set_cons_zero, List.set_cons_succ]
          go_wp2
          exact bodyPost_ret (results_cell_cell rfl _ _ g_b 110 _ _ rfl k_b Tryz.underlying110 rfl ga_info g_o 110 _ _ rfl k_o Tryz.underlying110 rfl ga_info) rfl ⟨rfl, B3⟩
        · rw [if_pos (by rfl)]
          refine gwp_store_same (g := g_b) rfl rfl k_b ?_
          refine hK _ _ ?_
          clear hK K
          refine wpAny_ready (rs := [1]) (by kernel_rfl) (by simp) ?_
          refine AllReady.cons rfl (fun K hK => ?_) (AllReady.nil)
          rw [if_pos (by rfl)]
          refine gwp_load_all (g := g_o) rfl k_o ?_
          refine hK _ _ ?_
          clear hK K
          refine wpAny_ready (rs := [3]) (by kernel_rfl) (by simp) ?_
          refine AllReady.cons rfl (fun K hK => ?_) (AllReady.nil)
          rw [if_pos (by rfl)]
          refine gwp_store_same (g := g_o) rfl rfl k_o ?_
          refine hK _ _ ?_
          clear hK K
          refine wpAny_done (by kernel_rfl) ?_ _
          simp only [Act.put, List.setIfInBounds_toArray, List.set_cons_zero, List.set_cons_succ]
          go_wp2
          exact bodyPost_ret (results_cell_cell rfl _ _ g_b 110 _ _ rfl k_b Tryz.underlying110 rfl ga_info g_o 110 _ _ rfl k_o Tryz.underlying110 rfl ga_info) rfl ⟨rfl, B3⟩
      · rw [if_pos (by rfl)]
        refine gwp_load_all (g := g_o) rfl k_o ?_
        refine hK _ _ ?_
        clear hK K
        refine wpAny_ready (rs := [0]) (by kernel_rfl) (by simp) ?_
        refine AllReady.cons rfl (fun K hK => ?_) (AllReady.nil)
        rw [if_pos (by rfl)]
        refine gwp_load_all (g := g_b) rfl k_b ?_
        refine hK _ _ ?_
        clear hK K
        refine wpAny_ready (rs := [2]) (by kernel_rfl) (by simp) ?_
        refine AllReady.cons rfl (fun K hK => ?_) (AllReady.nil)
        rw [if_pos (by rfl)]
        refine gwp_store_same (g := g_b) rfl rfl k_b ?_
        refine hK _ _ ?_
        clear hK K
        refine wpAny_ready (rs := [3]) (by kernel_rfl) (by simp) ?_
        refine AllReady.cons rfl (fun K hK => ?_) (AllReady.nil)
        rw [if_pos (by rfl)]
        refine gwp_store_same (g := g_o) rfl rfl k_o ?_
        refine hK _ _ ?_
        clear hK K
        refine wpAny_done (by kernel_rfl) ?_ _
        simp only [Act.put, List.setIfInBounds_toArray, List.set_cons_zero, List.set_cons_succ]
        go_wp2
        exact bodyPost_ret (results_cell_cell rfl _ _ g_b 110 _ _ rfl k_b Tryz.underlying110 rfl ga_info g_o 110 _ _ rfl k_o Tryz.underlying110 rfl ga_info) rfl ⟨rfl, B3⟩

end

end
end Go.Proofs.YtomlcglnkdfemaaGreat

namespace Go.Proofs.YtomlcglnkdfemaaGreat
section

section

open Go.RowKit Go.Proofs.Sky

set_option linter.unusedVariables false

set_option linter.unusedSimpArgs false

set_option maxRecDepth 100000 in
set_option maxHeartbeats 4000000 in
theorem bins_Sides (a : Option Addr) (n cap : Nat) (V : Nat → Bx) (ax at_ lo hi : Int) (w : World) (hs : Boxes w (.slice a n cap) n V) (hx : I64 ax) (hl : I64 lo) (hh : I64 hi) (hn : n ≤ 1024) :
    Calls Tryz.prog 27 #[.agg #[.int .i64 ax, .int .i64 at_, .int .i64 lo, .int .i64 hi], .slice a n cap] w fun e w' => ∃ u v, e = .returned (.tuple #[u, v]) ∧ Ints w' w.heap.size u (ix (isL ax lo hi at_) V n) ∧ Ints w' w.heap.size v (ix (fun b => !isL ax lo hi at_ b) V n) ∧ Below w.heap.size w w' := by
  have HS := Lib.hid hs
  have KLH := Lib.hid (fun (b : Bx) w => bins_Left ax at_ lo hi b.1.1 b.1.2.1 b.1.2.2 b.2.1 b.2.2.1 b.2.2.2 w hx hl hh)
  obtain ⟨i0, hi0, hz0, hz1, hz2⟩ := info_parts int_info15
  clear hs hx hl hh
  go_enter Tryz.func27, Tryz.ntmps27
  go_upto_region 1 with (fail)
  obtain ⟨W1, hW1⟩ : ∃ W, W = w.alloc (.cells #[.int .i64 ax, .int .i64 at_, .int .i64 lo, .int .i64 hi] 74) := ⟨_, rfl⟩
  obtain ⟨k_s, B1⟩ := st1 hW1
  rw [← hW1]
  clear hW1
  go_wp2
  go_loopw [6, 7, 12] (fun u v i wr => ∃ k : Nat, k ≤ n ∧ i = .int .i64 k ∧ Bk wr w.heap.size 74 #[.int .i64 ax, .int .i64 at_, .int .i64 lo, .int .i64 hi] ∧ Ints wr (w.heap.size + 1) u (ix (isL ax lo hi at_) V k) ∧ Ints wr (w.heap.size + 1) v (ix (fun b => !isL ax lo hi at_ b) V k) ∧ Apart2 u v ∧ Below w.heap.size w wr ∧ w.heap.size + 1 ≤ wr.heap.size) (fun u v i _ => n - (intOf i).toNat)
  case atStart => exact ⟨0, by omega, rfl, k_s, World.ownsRow_nil _ _ _ _, World.ownsRow_nil _ _ _ _, (fun j h => by cases h), B1, k_s.lt⟩
  case round =>
    clear k_s B1
    obtain ⟨k, hk, rfl, k_s, hu, hv, hap, BO, hsz⟩ := hrel
    by_cases hlt : k < n
    · have KL := Lib.hid (fun w => KLH.out (V k) w)
      obtain ⟨_, _, hsl, _, hS⟩ := HS.out
      cases hsl
      obtain ⟨bb, off, rfl, hbb, hcell⟩ := hS.resolve_left (by omega)
      have x0 : w.cell? ⟨bb, off + k * 6, none⟩ = some (.int .i64 (V k).1.1) := hcell k hlt 0 (by omega)
      have x1 : w.cell? ⟨bb, off + k * 6 + 1, none⟩ = some (.int .i64 (V k).1.2.1) := hcell k hlt 1 (by omega)
      have x2 : w.cell? ⟨bb, off + k * 6 + 2, none⟩ = some (.int .i64 (V k).1.2.2) := hcell k hlt 2 (by omega)
      have x3 : w.cell? ⟨bb, off + k * 6 + 3, none⟩ = some (.int .i64 (V k).2.1) := hcell k hlt 3 (by omega)
      have x4 : w.cell? ⟨bb, off + k * 6 + 4, none⟩ = some (.int .i64 (V k).2.2.1) := hcell k hlt 4 (by omega)
      have x5 : w.cell? ⟨bb, off + k * 6 + 5, none⟩ = some (.int .i64 (V k).2.2.2) := hcell k hlt 5 (by omega)
      clear hcell hS
      change Hid (∀ w, Calls Tryz.prog 47 #[.agg #[.int .i64 ax, .int .i64 at_, .int .i64 lo, .int .i64 hi], .agg #[.int .i64 (V k).1.1, .int .i64 (V k).1.2.1, .int .i64 (V k).1.2.2, .int .i64 (V k).2.1, .int .i64 (V k).2.2.1, .int .i64 (V k).2.2.2]] w fun en w' => en = .returned (.bool (isL ax lo hi at_ (V k))) ∧ Below w.heap.size w w') at KL
      obtain ⟨z, hz⟩ : ∃ z, z = isL ax lo hi at_ (V k) := ⟨_, rfl⟩
      rw [← hz] at KL
      clear KLH
      obtain ⟨vk, hvk⟩ : ∃ vk, vk = V k := ⟨_, rfl⟩
      rw [← hvk] at x0 x1 x2 x3 x4 x5 KL hz
      have HVK := Lib.hid hvk
      clear hvk
      obtain ⟨⟨v1, v2, v3⟩, v4, v5, v6⟩ := vk
      dsimp only at x0 x1 x2 x3 x4 x5 KL
      have HZ := Lib.hid hz
      clear hz
      cases z with
      | true =>
        have B1 := BO
        obtain ⟨c_s_0, c_s_1, c_s_2, c_s_3⟩ := bwc4 (k_s)
        have c_e0 : ∀ p : BW wr, p.w.cell? ⟨bb, off + k * 6, none⟩ = some (.int .i64 v1) := bw_cell ((B1.cell (p := ⟨bb, off + k * 6, none⟩) hbb).trans x0)
        have c_e1 : ∀ p : BW wr, p.w.cell? ⟨bb, off + k * 6 + 1, none⟩ = some (.int .i64 v2) := bw_cell ((B1.cell (p := ⟨bb, off + k * 6 + 1, none⟩) hbb).trans x1)
        have c_e2 : ∀ p : BW wr, p.w.cell? ⟨bb, off + k * 6 + 2, none⟩ = some (.int .i64 v3) := bw_cell ((B1.cell (p := ⟨bb, off + k * 6 + 2, none⟩) hbb).trans x2)
        have c_e3 : ∀ p : BW wr, p.w.cell? ⟨bb, off + k * 6 + 3, none⟩ = some (.int .i64 v4) := bw_cell ((B1.cell (p := ⟨bb, off + k * 6 + 3, none⟩) hbb).trans x3)
        have c_e4 : ∀ p : BW wr, p.w.cell? ⟨bb, off + k * 6 + 4, none⟩ = some (.int .i64 v5) := bw_cell ((B1.cell (p := ⟨bb, off + k * 6 + 4, none⟩) hbb).trans x4)
        have c_e5 : ∀ p : BW wr, p.w.cell? ⟨bb, off + k * 6 + 5, none⟩ = some (.int .i64 v6) := bw_cell ((B1.cell (p := ⟨bb, off + k * 6 + 5, none⟩) hbb).trans x5)
        obtain ⟨p1, hp1⟩ : ∃ p : BW wr, p.w = wr := ⟨BW.start wr, rfl⟩
        rw [← hp1]
        clear hp1
        go_upto_region 5 with (fail)
        obtain ⟨W2, hW2⟩ : ∃ W, W = p1.w.alloc (.cells #[.int .i64 v1, .int .i64 v2, .int .i64 v3, .int .i64 v4, .int .i64 v5, .int .i64 v6] 41) := ⟨_, rfl⟩
        have B2 : Below w.heap.size w W2 := by rw [hW2]; exact (bw_below B1 p1).alloc (bw_below B1 p1).size _
        have l_b : w.heap.size < p1.w.heap.size := (k_s.below p1.h).lt
        have o_b : w.heap.size ≤ p1.w.heap.size := (bw_below B1 p1).size
        have k_s := bka hW2 (k_s.below p1.h)
        have hu := ints_alloc hW2 (hu.below p1.h)
        have hv := ints_alloc hW2 (hv.below p1.h)
        have k_b := bkn hW2
        rw [← hW2]
        clear hW2
        clear B1
        clear c_s_0 c_s_1 c_s_2 c_s_3 c_e0 c_e1 c_e2 c_e3 c_e4 c_e5
        generalize p1.w.heap.size = g_b at *
        obtain ⟨c_s_0, c_s_1, c_s_2, c_s_3⟩ := bwc4 (k_s)
        obtain ⟨c_b_0, c_b_1, c_b_2, c_b_3, c_b_4, c_b_5⟩ := bwc6 (k_b)
        obtain ⟨p2, hp2⟩ : ∃ p : BW W2, p.w = W2 := ⟨BW.start W2, rfl⟩
        rw [← hp2]
        clear hp2
        go_upto_region 6 with (first
          | (go_at_call 47; (first | (with_reducible refine (bw_call KL.out _).mono ?_)); rintro e w' ⟨rfl, q, rfl⟩))
        have hu := hu.below q.h
        have hv := hv.below q.h
        have k_s := k_s.below q.h
        have hsz2 := (bw_below B2 q).size
        have BQ := bw_below B2 q
        have hlu : (ix (isL ax lo hi at_) V k).length ≤ k := ix_le _ _ _
        have hlv : (ix (fun b => !isL ax lo hi at_ b) V k).length ≤ k := ix_le _ _ _
        have hlq : w.heap.size + 1 ≤ q.w.heap.size := k_s.lt
        go_wp2_with (at_builtin; refine wpList_append_at rfl _ _ 26 rfl (w.heap.size + 1) 3 i0 (.int .i64 0) 1 8 Tryz.underlying26 hi0 hz0 hz1 hz2 rfl (by decide) _ _ _ rfl (World.ownsRow.alloc hu _) ⟨q.w.heap.size, 0, none⟩ 1 1 [.int .i64 (k : Int)] rfl rfl ?g1 ?g2 ?g3 ?g4 ?g5 ?_)
        case g1 => exact cell_one_new _ _ _
        case g2 => intro u hu; simp only [List.mem_cons, List.not_mem_nil, or_false] at hu; rw [hu]; rfl
        case g3 => unfold maxLen; omega
        case g4 => omega
        case g5 => simp; omega
        intro v' w1 hown hgrow hat
        obtain ⟨r1, r2, r3⟩ := Ints.put hown (World.ownsRow.alloc hv _) hap hgrow (by simpa using hat)
        have hk1 : Bk w1 w.heap.size 74 #[.int .i64 ax, .int .i64 at_, .int .i64 lo, .int .i64 hi] := Bk.grown (k_s.alloc _) hgrow (fun e => by have := (World.ownsRow.lt hu _ e.symm).1; omega)
        have hb1 : Below w.heap.size w w1 := (BQ.alloc (by omega) _).grown hgrow (by simp; omega) (fun j ej => by have := (World.ownsRow.lt hu _ ej).1; omega)
        have hs1 : w.heap.size + 1 ≤ w1.heap.size := hk1.lt
        have eu : ix (isL ax lo hi at_) V (k + 1) = ix (isL ax lo hi at_) V k ++ [k] := by rw [ix_succ, ← HVK.out, if_pos (by rw [← HZ.out]; first | done | decide)]
        have ev : ix (fun b => !isL ax lo hi at_ b) V (k + 1) = ix (fun b => !isL ax lo hi at_ b) V k ++ [] := by rw [ix_succ, ← HVK.out, if_neg (by rw [← HZ.out]; first | done | decide)]
        go_wp2
        go_roundw
        case rel => exact ⟨k + 1, by omega, by go_num, hk1, (by rw [eu]; exact r1), (by rw [ev]; exact (by rw [List.append_nil]; exact r2)), r3, hb1, hs1⟩
        case measure => simp [intOf]; omega
      | false =>
        have B1 := BO
        obtain ⟨c_s_0, c_s_1, c_s_2, c_s_3⟩ := bwc4 (k_s)
        have c_e0 : ∀ p : BW wr, p.w.cell? ⟨bb, off + k * 6, none⟩ = some (.int .i64 v1) := bw_cell ((B1.cell (p := ⟨bb, off + k * 6, none⟩) hbb).trans x0)
        have c_e1 : ∀ p : BW wr, p.w.cell? ⟨bb, off + k * 6 + 1, none⟩ = some (.int .i64 v2) := bw_cell ((B1.cell (p := ⟨bb, off + k * 6 + 1, none⟩) hbb).trans x1)
        have c_e2 : ∀ p : BW wr, p.w.cell? ⟨bb, off + k * 6 + 2, none⟩ = some (.int .i64 v3) := bw_cell ((B1.cell (p := ⟨bb, off + k * 6 + 2, none⟩) hbb).trans x2)
        have c_e3 : ∀ p : BW wr, p.w.cell? ⟨bb, off + k * 6 + 3, none⟩ = some (.int .i64 v4) := bw_cell ((B1.cell (p := ⟨bb, off + k * 6 + 3, none⟩) hbb).trans x3)
        have c_e4 : ∀ p : BW wr, p.w.cell? ⟨bb, off + k * 6 + 4, none⟩ = some (.int .i64 v5) := bw_cell ((B1.cell (p := ⟨bb, off + k * 6 + 4, none⟩) hbb).trans x4)
        have c_e5 : ∀ p : BW wr, p.w.cell? ⟨bb, off + k * 6 + 5, none⟩ = some (.int .i64 v6) := bw_cell ((B1.cell (p := ⟨bb, off + k * 6 + 5, none⟩) hbb).trans x5)
        obtain ⟨p1, hp1⟩ : ∃ p : BW wr, p.w = wr := ⟨BW.start wr, rfl⟩
        rw [← hp1]
        clear hp1
        go_upto_region 5 with (fail)
        obtain ⟨W2, hW2⟩ : ∃ W, W = p1.w.alloc (.cells #[.int .i64 v1, .int .i64 v2, .int .i64 v3, .int .i64 v4, .int .i64 v5, .int .i64 v6] 41) := ⟨_, rfl⟩
        have B2 : Below w.heap.size w W2 := by rw [hW2]; exact (bw_below B1 p1).alloc (bw_below B1 p1).size _
        have l_b : w.heap.size < p1.w.heap.size := (k_s.below p1.h).lt
        have o_b : w.heap.size ≤ p1.w.heap.size := (bw_below B1 p1).size
        have k_s := bka hW2 (k_s.below p1.h)
        have hu := ints_alloc hW2 (hu.below p1.h)
        have hv := ints_alloc hW2 (hv.below p1.h)
        have k_b := bkn hW2
        rw [← hW2]
        clear hW2
        clear B1
        clear c_s_0 c_s_1 c_s_2 c_s_3 c_e0 c_e1 c_e2 c_e3 c_e4 c_e5
        generalize p1.w.heap.size = g_b at *
        obtain ⟨c_s_0, c_s_1, c_s_2, c_s_3⟩ := bwc4 (k_s)
        obtain ⟨c_b_0, c_b_1, c_b_2, c_b_3, c_b_4, c_b_5⟩ := bwc6 (k_b)
        obtain ⟨p2, hp2⟩ : ∃ p : BW W2, p.w = W2 := ⟨BW.start W2, rfl⟩
        rw [← hp2]
        clear hp2
        go_upto_region 7 with (first
          | (go_at_call 47; (first | (with_reducible refine (bw_call KL.out _).mono ?_)); rintro e w' ⟨rfl, q, rfl⟩))
        have hu := hu.below q.h
        have hv := hv.below q.h
        have k_s := k_s.below q.h
        have hsz2 := (bw_below B2 q).size
        have BQ := bw_below B2 q
        have hlu : (ix (isL ax lo hi at_) V k).length ≤ k := ix_le _ _ _
        have hlv : (ix (fun b => !isL ax lo hi at_ b) V k).length ≤ k := ix_le _ _ _
        have hlq : w.heap.size + 1 ≤ q.w.heap.size := k_s.lt
        go_wp2_with (at_builtin; refine wpList_append_at rfl _ _ 26 rfl (w.heap.size + 1) 3 i0 (.int .i64 0) 1 8 Tryz.underlying26 hi0 hz0 hz1 hz2 rfl (by decide) _ _ _ rfl (World.ownsRow.alloc hv _) ⟨q.w.heap.size, 0, none⟩ 1 1 [.int .i64 (k : Int)] rfl rfl ?g1 ?g2 ?g3 ?g4 ?g5 ?_)
        case g1 => exact cell_one_new _ _ _
        case g2 => intro u hu; simp only [List.mem_cons, List.not_mem_nil, or_false] at hu; rw [hu]; rfl
        case g3 => unfold maxLen; omega
        case g4 => omega
        case g5 => simp; omega
        intro v' w1 hown hgrow hat
        obtain ⟨r1, r2, r3⟩ := Ints.put hown (World.ownsRow.alloc hu _) hap.symm hgrow (by simpa using hat)
        have hk1 : Bk w1 w.heap.size 74 #[.int .i64 ax, .int .i64 at_, .int .i64 lo, .int .i64 hi] := Bk.grown (k_s.alloc _) hgrow (fun e => by have := (World.ownsRow.lt hv _ e.symm).1; omega)
        have hb1 : Below w.heap.size w w1 := (BQ.alloc (by omega) _).grown hgrow (by simp; omega) (fun j ej => by have := (World.ownsRow.lt hv _ ej).1; omega)
        have hs1 : w.heap.size + 1 ≤ w1.heap.size := hk1.lt
        have eu : ix (isL ax lo hi at_) V (k + 1) = ix (isL ax lo hi at_) V k ++ [] := by rw [ix_succ, ← HVK.out, if_neg (by rw [← HZ.out]; first | done | decide)]
        have ev : ix (fun b => !isL ax lo hi at_ b) V (k + 1) = ix (fun b => !isL ax lo hi at_ b) V k ++ [k] := by rw [ix_succ, ← HVK.out, if_pos (by rw [← HZ.out]; first | done | decide)]
        go_wp2
        go_roundw
        case rel => exact ⟨k + 1, by omega, by go_num, hk1, (by rw [eu]; exact (by rw [List.append_nil]; exact r2)), (by rw [ev]; exact r1), r3.symm, hb1, hs1⟩
        case measure => simp [intOf]; omega
    · obtain rfl : k = n := by omega
      go_wp2
      go_ret2
      exact ⟨_, _, rfl, hu.mono (by omega), hv.mono (by omega), BO⟩

theorem apart_is {ax lo hi a : Int} {l : List Bx} (h : allBin ax lo hi l = true) (hn : l.length ≤ 1024) :
    (if (gL (isL ax lo hi a) l).2 ≠ 0 ∧ (gL (isR ax lo hi a) l).2 ≠ 0 then gCost (gL (isL ax lo hi a) l) + gCost (gL (isR ax lo hi a) l) else 0) = sCost ax lo hi a l ∧
    decide ((gL (isL ax lo hi a) l).2 ≠ 0 ∧ (gL (isR ax lo hi a) l).2 ≠ 0) = sOk ax lo hi a l := by
  rw [gOthers_not (allBin_iff.1 h)]
  have e : decide ((gL (isL ax lo hi a) l).2 ≠ 0 ∧ (gL (fun b => !isL ax lo hi a b) l).2 ≠ 0) = sOk ax lo hi a l := by
    rw [Bool.eq_iff_iff, sOk_iff, decide_eq_true_eq]
    exact ⟨fun k => ⟨hn, allBin_iff.1 h, k⟩, fun k => k.2.2⟩
  refine ⟨?_, e⟩
  unfold sCost sVal
  rw [← e]
  simp only [decide_eq_true_eq]

set_option maxRecDepth 100000 in
set_option maxHeartbeats 4000000 in
theorem bins_Best_many (a : Option Addr) (n cap : Nat)  (w : World) (hn : 1024 < n) :
    Calls Tryz.prog 26 #[.slice a n cap] w fun e w' => e = .returned (.tuple #[.agg #[.int .i64 0, .int .i64 0, .int .i64 0, .int .i64 0], .bool false]) ∧ Below w.heap.size w w' := by
  have t1 : decide ((1024 : Int) < n) = true := decide_eq_true (by omega)
  clear hn
  go_enter Tryz.func26, Tryz.ntmps26
  go_upto_region 1 with (fail)
  obtain ⟨W1, hW1⟩ : ∃ W, W = w.alloc (.cells #[.int .i64 0, .int .i64 0, .int .i64 0, .int .i64 0] 74) := ⟨_, rfl⟩
  obtain ⟨k_r, B1⟩ := st1 hW1
  rw [← hW1]
  clear hW1
  obtain ⟨c_r_0, c_r_1, c_r_2, c_r_3⟩ := bwc4 (k_r)
  obtain ⟨f_r_0, f_r_1, f_r_2, f_r_3⟩ := bwf4 (k_r)
  obtain ⟨p1, hp1⟩ : ∃ p : BW W1, p.w = W1 := ⟨BW.start W1, rfl⟩
  rw [← hp1]
  clear hp1
  go_wp2
  have kr := bkp4 (k_r.below p1.h) (.int .i64 0) (.int .i64 0) (.int .i64 0) (.int .i64 0)
  obtain ⟨rc0, rc1, rc2, rc3⟩ := rwc4 kr
  exact bodyPost_ret (v := .tuple #[.agg #[.int .i64 0, .int .i64 0, .int .i64 0, .int .i64 0], .bool false]) (by simp [results, Tryz.results26, go_sem, rc0, rc1, rc2, rc3]) rfl ⟨rfl, blp4 (bw_below B1 p1) (by omega)⟩

set_option maxRecDepth 100000 in
set_option maxHeartbeats 4000000 in
theorem bins_Best_none (a : Option Addr) (n cap : Nat) (V : Nat → Bx) (w : World) (hn : n ≤ 1024) (KS : Hid (∀ (k : Nat) X, Below w.heap.size w X → k < 3 → Calls Tryz.prog 43 #[.slice a n cap, .int .i64 (k : Int)] X fun e w' => e = .returned (.tuple #[.int .i64 (mnV V n k), .int .i64 (mxV V n k)]) ∧ Below X.heap.size X w')) (KB : Hid (∀ (k : Nat) X, k < 3 → Below w.heap.size w X → Calls Tryz.prog 44 #[.slice a n cap, .int .i64 (k : Int), .int .i64 (mnV V n k), .int .i64 (mxV V n k)] X fun e w' => e = .returned (.tuple #[.agg (GA (fun _ : Nat => g0)), .bool false]) ∧ Below X.heap.size X w')) :
    Calls Tryz.prog 26 #[.slice a n cap] w fun e w' => e = .returned (.tuple #[.agg #[.int .i64 0, .int .i64 0, .int .i64 0, .int .i64 0], .bool false]) ∧ Below w.heap.size w w' := by
  have t1 : decide ((1024 : Int) < n) = false := decide_eq_false (by omega)
  clear hn
  have KSk := Lib.hid (fun X hX => KS.out 0 X hX (by omega))
  have KBk := Lib.hid (fun X hX => KB.out 0 X (by omega) hX)
  change Hid (∀ X, Below w.heap.size w X → Calls Tryz.prog 43 #[.slice a n cap, .int .i64 0] X fun e w' => e = .returned (.tuple #[.int .i64 (mnV V n (0 : Nat)), .int .i64 (mxV V n (0 : Nat))]) ∧ Below X.heap.size X w') at KSk
  change Hid (∀ X, Below w.heap.size w X → Calls Tryz.prog 44 #[.slice a n cap, .int .i64 0, .int .i64 (mnV V n (0 : Nat)), .int .i64 (mxV V n (0 : Nat))] X fun e w' => e = .returned (.tuple #[.agg (GA (fun _ : Nat => g0)), .bool false]) ∧ Below X.heap.size X w') at KBk
  obtain ⟨lo, hlo⟩ : ∃ m, m = mnV V n (0 : Nat) := ⟨_, rfl⟩
  obtain ⟨hi, hhi⟩ : ∃ m, m = mxV V n (0 : Nat) := ⟨_, rfl⟩
  rw [← hlo, ← hhi] at KSk KBk
  clear hlo hhi KS KB
  go_enter Tryz.func26, Tryz.ntmps26
  go_upto_region 1 with (fail)
  obtain ⟨W1, hW1⟩ : ∃ W, W = w.alloc (.cells #[.int .i64 0, .int .i64 0, .int .i64 0, .int .i64 0] 74) := ⟨_, rfl⟩
  obtain ⟨k_r, B1⟩ := st1 hW1
  rw [← hW1]
  clear hW1
  obtain ⟨c_r_0, c_r_1, c_r_2, c_r_3⟩ := bwc4 (k_r)
  obtain ⟨f_r_0, f_r_1, f_r_2, f_r_3⟩ := bwf4 (k_r)
  obtain ⟨p1, hp1⟩ : ∃ p : BW W1, p.w = W1 := ⟨BW.start W1, rfl⟩
  rw [← hp1]
  clear hp1
  go_upto_region 4 with (fail)
  obtain ⟨W2, hW2⟩ : ∃ W, W = p1.w.alloc (.cells #[.int .i64 0, .int .i64 0, .int .i64 0, .int .i64 0] 74) := ⟨_, rfl⟩
  have B2 : Below w.heap.size w W2 := by rw [hW2]; exact (bw_below B1 p1).alloc (bw_below B1 p1).size _
  have l_e : w.heap.size < p1.w.heap.size := (k_r.below p1.h).lt
  have o_e : w.heap.size ≤ p1.w.heap.size := (bw_below B1 p1).size
  have k_r := bka hW2 (k_r.below p1.h)
  have k_e := bkn hW2
  rw [← hW2]
  clear hW2
  clear B1
  clear c_r_0 c_r_1 c_r_2 c_r_3 f_r_0 f_r_1 f_r_2 f_r_3
  generalize p1.w.heap.size = g_e at *
  obtain ⟨c_r_0, c_r_1, c_r_2, c_r_3⟩ := bwc4 (k_r)
  obtain ⟨f_r_0, f_r_1, f_r_2, f_r_3⟩ := bwf4 (k_r)
  obtain ⟨c_e_0, c_e_1, c_e_2, c_e_3⟩ := bwc4 (k_e)
  obtain ⟨p2, hp2⟩ : ∃ p : BW W2, p.w = W2 := ⟨BW.start W2, rfl⟩
  rw [← hp2]
  clear hp2
  go_wp2
  refine wp_loop_rounds 1 ?_
  rw [rounds_succ]
  repeat ((fail_if_success (guard_target = Code.wp _ (Code.region 9 _ _) _ _ _)); first | (go_at_call 43; refine (KSk.out _ (bw_below B2 _)).mono ?_; rintro e w1 ⟨rfl, hb⟩; obtain ⟨q, rfl⟩ := bw_take hb; dsimp only) | (go_at_call 44; refine (KBk.out _ (bw_below B2 _)).mono ?_; rintro e w1 ⟨rfl, hb⟩; obtain ⟨q, rfl⟩ := bw_take hb; dsimp only) | ((with_reducible refine gwp_store_new (H := (fun _ : Nat => g0)) ?hx ?hy ?hc ?_); (case hx => first | rfl | (rw [← hs_one]; rfl)); (case hy => rfl); (case hc => rfl)) | go_values | go_skip | go_guarded | go_step | go_upon)
  try simp only [Act.put, List.setIfInBounds_toArray, List.set_cons_zero, List.set_cons_succ]
  obtain ⟨W3, hW3⟩ : ∃ W, W = q.w.alloc (.cells (GA (fun _ : Nat => g0)) 110) := ⟨_, rfl⟩
  have B3 : Below w.heap.size w W3 := by rw [hW3]; exact (bw_below B2 q).alloc (bw_below B2 q).size _
  have l_g : g_e < q.w.heap.size := (k_e.below q.h).lt
  have o_g : w.heap.size ≤ q.w.heap.size := (bw_below B2 q).size
  have k_r := bka hW3 (k_r.below q.h)
  have k_e := bka hW3 (k_e.below q.h)
  have k_g := bkn hW3
  rw [← hW3]
  clear hW3
  clear B2
  clear c_r_0 c_r_1 c_r_2 c_r_3 f_r_0 f_r_1 f_r_2 f_r_3 c_e_0 c_e_1 c_e_2 c_e_3
  generalize q.w.heap.size = g_g at *
  obtain ⟨c_r_0, c_r_1, c_r_2, c_r_3⟩ := bwc4 (k_r)
  obtain ⟨f_r_0, f_r_1, f_r_2, f_r_3⟩ := bwf4 (k_r)
  obtain ⟨c_e_0, c_e_1, c_e_2, c_e_3⟩ := bwc4 (k_e)
  obtain ⟨p3, hp3⟩ : ∃ p : BW W3, p.w = W3 := ⟨BW.start W3, rfl⟩
  rw [← hp3]
  clear hp3
  go_wp2
  have kr := bkp4 (k_r.below p3.h) (.int .i64 0) (.int .i64 0) (.int .i64 0) (.int .i64 0)
  obtain ⟨rc0, rc1, rc2, rc3⟩ := rwc4 kr
  exact bodyPost_ret (v := .tuple #[.agg #[.int .i64 0, .int .i64 0, .int .i64 0, .int .i64 0], .bool false]) (by simp [results, Tryz.results26, go_sem, rc0, rc1, rc2, rc3]) rfl ⟨rfl, blp4 (bw_below B3 p3) (by omega)⟩

set_option maxRecDepth 100000 in
set_option maxHeartbeats 4000000 in
theorem bins_Best_yes (a : Option Addr) (n cap : Nat) (V : Nat → Bx) (w : World) (hn : n ≤ 1024) (hall : ∀ k : Nat, k < 3 → allBin k (mnV V n k) (mxV V n k) (bls V n) = true) (KS : Hid (∀ (k : Nat) X, Below w.heap.size w X → k < 3 → Calls Tryz.prog 43 #[.slice a n cap, .int .i64 (k : Int)] X fun e w' => e = .returned (.tuple #[.int .i64 (mnV V n k), .int .i64 (mxV V n k)]) ∧ Below X.heap.size X w')) (KB : Hid (∀ (k : Nat) X, k < 3 → Below w.heap.size w X → Calls Tryz.prog 44 #[.slice a n cap, .int .i64 (k : Int), .int .i64 (mnV V n k), .int .i64 (mxV V n k)] X fun e w' => e = .returned (.tuple #[.agg (GA (fun j : Nat => gL (isB k (mnV V n k) (mxV V n k) j) (bls V n))), .bool true]) ∧ Below X.heap.size X w')) :
    Calls Tryz.prog 26 #[.slice a n cap] w fun e w' => e = .returned (.tuple #[.agg #[.int .i64 (bOut V n 3).1.1, .int .i64 (bOut V n 3).1.2.1, .int .i64 (bOut V n 3).1.2.2.1, .int .i64 (bOut V n 3).1.2.2.2], .bool (bOut V n 3).2.2]) ∧ Below w.heap.size w w' := by
  have t1 : decide ((1024 : Int) < n) = false := decide_eq_false (by omega)
  have HA := Lib.hid hall
  have HN := Lib.hid hn
  clear hn hall
  go_enter Tryz.func26, Tryz.ntmps26
  go_upto_region 1 with (fail)
  obtain ⟨W1, hW1⟩ : ∃ W, W = w.alloc (.cells #[.int .i64 0, .int .i64 0, .int .i64 0, .int .i64 0] 74) := ⟨_, rfl⟩
  obtain ⟨k_r, B1⟩ := st1 hW1
  rw [← hW1]
  clear hW1
  obtain ⟨c_r_0, c_r_1, c_r_2, c_r_3⟩ := bwc4 (k_r)
  obtain ⟨f_r_0, f_r_1, f_r_2, f_r_3⟩ := bwf4 (k_r)
  obtain ⟨p1, hp1⟩ : ∃ p : BW W1, p.w = W1 := ⟨BW.start W1, rfl⟩
  rw [← hp1]
  clear hp1
  go_upto_region 4 with (fail)
  obtain ⟨W2, hW2⟩ : ∃ W, W = p1.w.alloc (.cells #[.int .i64 0, .int .i64 0, .int .i64 0, .int .i64 0] 74) := ⟨_, rfl⟩
  have B2 : Below w.heap.size w W2 := by rw [hW2]; exact (bw_below B1 p1).alloc (bw_below B1 p1).size _
  have l_e : w.heap.size < p1.w.heap.size := (k_r.below p1.h).lt
  have o_e : w.heap.size ≤ p1.w.heap.size := (bw_below B1 p1).size
  have k_r := bka hW2 (k_r.below p1.h)
  have k_e := bkn hW2
  rw [← hW2]
  clear hW2
  clear B1
  clear c_r_0 c_r_1 c_r_2 c_r_3 f_r_0 f_r_1 f_r_2 f_r_3
  generalize p1.w.heap.size = g_e at *
  obtain ⟨c_r_0, c_r_1, c_r_2, c_r_3⟩ := bwc4 (k_r)
  obtain ⟨c_e_0, c_e_1, c_e_2, c_e_3⟩ := bwc4 (k_e)
  obtain ⟨p2, hp2⟩ : ∃ p : BW W2, p.w = W2 := ⟨BW.start W2, rfl⟩
  rw [← hp2]
  clear hp2
  clear c_r_0 c_r_1 c_r_2 c_r_3 c_e_0 c_e_1 c_e_2 c_e_3
  have hge : w.heap.size < g_e := l_e
  go_wp2
  go_loopw [5, 6, 22] (fun lv fv i wr => ∃ (k : Nat) (e1 e2 e3 e4 ls : Int) (fd : Bool), k ≤ 3 ∧ i = .int .i64 k ∧ ((e1, e2, e3, e4), ls, fd) = bOut V n k ∧ lv = .int .i64 ls ∧ fv = .bool fd ∧ Bk wr w.heap.size 74 #[.int .i64 0, .int .i64 0, .int .i64 0, .int .i64 0] ∧ Bk wr g_e 74 #[.int .i64 e1, .int .i64 e2, .int .i64 e3, .int .i64 e4] ∧ Below w.heap.size w wr) (fun _ _ i _ => 3 - (intOf i).toNat)
  case atStart => exact ⟨0, 0, 0, 0, 0, 0, false, by omega, rfl, rfl, rfl, rfl, k_r.below (BW.h _), k_e.below (BW.h _), bw_below B2 _⟩
  case round =>
    clear k_r k_e B2
    obtain ⟨k, e1, e2, e3, e4, ls, fd, hk, rfl, hst, rfl, rfl, k_r, k_e, BO⟩ := hrel
    by_cases hlt : k < 3
    · have hall := HA.out k hlt
      have KSk := Lib.hid (fun X hX => KS.out k X hX hlt)
      have KBk := Lib.hid (fun X hX => KB.out k X hlt hX)
      have hin := mnV_in V n k
      have hnx : bOut V n (k + 1) = bIn k (mnV V n k) (mxV V n k) (bls V n) (bOut V n k) 7 := rfl
      rw [← hst] at hnx
      change Hid (∀ X, Below w.heap.size w X → Calls Tryz.prog 43 #[.slice a n cap, .int .i64 (k : Int)] X fun e w' => e = .returned (.tuple #[.int .i64 (mnV V n k), .int .i64 (mxV V n k)]) ∧ Below X.heap.size X w') at KSk
      change Hid (∀ X, Below w.heap.size w X → Calls Tryz.prog 44 #[.slice a n cap, .int .i64 (k : Int), .int .i64 (mnV V n k), .int .i64 (mxV V n k)] X fun e w' => e = .returned (.tuple #[.agg (GA (fun j : Nat => gL (isB k (mnV V n k) (mxV V n k) j) (bls V n))), .bool true]) ∧ Below X.heap.size X w') at KBk
      obtain ⟨lo, hlo⟩ : ∃ m, m = mnV V n k := ⟨_, rfl⟩
      obtain ⟨hi, hhi⟩ : ∃ m, m = mxV V n k := ⟨_, rfl⟩
      rw [← hlo, ← hhi] at KSk KBk hall hin hnx
      clear hlo hhi
      obtain ⟨l, hl⟩ : ∃ l, l = bls V n := ⟨_, rfl⟩
      have hll : l.length ≤ 1024 := by rw [hl, bls_len]; exact HN.out
      rw [← hl] at KBk hall hnx
      clear hl
      have HALL := Lib.hid hall
      have HST := Lib.hid hst
      have HNX := Lib.hid hnx
      have HLL := Lib.hid hll
      have KP := Lib.hid (fun w => bins_parted l k lo hi w (allBin_iff.1 hall) hll)
      clear hall hst hnx hll hin
      have B3 := BO
      clear BO
      obtain ⟨c_r_0, c_r_1, c_r_2, c_r_3⟩ := bwc4 (k_r)
      obtain ⟨c_e_0, c_e_1, c_e_2, c_e_3⟩ := bwc4 (k_e)
      obtain ⟨p3, hp3⟩ : ∃ p : BW wr, p.w = wr := ⟨BW.start wr, rfl⟩
      rw [← hp3]
      clear hp3
      repeat ((fail_if_success (guard_target = Code.wp _ (Code.region 9 _ _) _ _ _)); first | (go_at_call 43; refine (KSk.out _ (bw_below B3 _)).mono ?_; rintro e w1 ⟨rfl, hb⟩; obtain ⟨q, rfl⟩ := bw_take hb; dsimp only) | (go_at_call 44; refine (KBk.out _ (bw_below B3 _)).mono ?_; rintro e w1 ⟨rfl, hb⟩; obtain ⟨q, rfl⟩ := bw_take hb; dsimp only) | ((with_reducible refine gwp_store_new (H := (fun j : Nat => gL (isB k lo hi j) l)) ?hx ?hy ?hc ?_); (case hx => first | rfl | (rw [← hs_one]; rfl)); (case hy => rfl); (case hc => rfl)) | go_values | go_skip | go_guarded | go_step | go_upon)
      try simp only [Act.put, List.setIfInBounds_toArray, List.set_cons_zero, List.set_cons_succ]
      obtain ⟨W4, hW4⟩ : ∃ W, W = q.w.alloc (.cells (GA (fun j : Nat => gL (isB k lo hi j) l)) 110) := ⟨_, rfl⟩
      have B4 : Below w.heap.size w W4 := by rw [hW4]; exact (bw_below B3 q).alloc (bw_below B3 q).size _
      have l_g : g_e < q.w.heap.size := (k_e.below q.h).lt
      have o_g : w.heap.size ≤ q.w.heap.size := (bw_below B3 q).size
      have l_g_r : w.heap.size < q.w.heap.size := (k_r.below q.h).lt
      have k_r := bka hW4 (k_r.below q.h)
      have k_e := bka hW4 (k_e.below q.h)
      have k_g := bkn hW4
      rw [← hW4]
      clear hW4
      clear B3
      clear c_r_0 c_r_1 c_r_2 c_r_3 c_e_0 c_e_1 c_e_2 c_e_3
      generalize q.w.heap.size = g_g at *
      obtain ⟨c_r_0, c_r_1, c_r_2, c_r_3⟩ := bwc4 (k_r)
      obtain ⟨c_e_0, c_e_1, c_e_2, c_e_3⟩ := bwc4 (k_e)
      obtain ⟨p4, hp4⟩ : ∃ p : BW W4, p.w = W4 := ⟨BW.start W4, rfl⟩
      rw [← hp4]
      clear hp4
      repeat ((fail_if_success (guard_target = Code.wp _ (Code.region 12 _ _) _ _ _)); first | ((with_reducible refine gwp_load_all (g := g_g) ?hx (k_g.below (BW.h _)) ?_); (case hx => rfl)) | (go_at_call 45; (with_reducible refine (bw_call KP.out _).mono ?_); rintro e w' ⟨rfl, q, rfl⟩; dsimp only) | ((with_reducible refine gwp_store_new (H := (fun j : Nat => gL (isR k lo hi j) l)) ?hx ?hy ?hc ?_); (case hx => first | rfl | (rw [← hs_one]; rfl)); (case hy => rfl); (case hc => rfl)) | ((with_reducible refine gwp_store_elder (H := (fun j : Nat => gL (isL k lo hi j) l)) ?hx ?hy ?hc ?_); (case hx => rfl); (case hy => rfl); (case hc => rfl)) | go_values | go_skip | go_guarded | go_step | go_upon)
      try simp only [Act.put, List.setIfInBounds_toArray, List.set_cons_zero, List.set_cons_succ]
      obtain ⟨W9, hW9⟩ : ∃ W, W = (q.w.alloc (.cells (GA (fun j : Nat => gL (isL k lo hi j) l)) 110)).alloc (.cells (GA (fun j : Nat => gL (isR k lo hi j) l)) 110) := ⟨_, rfl⟩
      have k_b : Bk W9 q.w.heap.size 110 (GA (fun j : Nat => gL (isL k lo hi j) l)) := by rw [hW9]; exact (Bk.new _ _ _).alloc _
      have k_o : Bk W9 (q.w.heap.size + 1) 110 (GA (fun j : Nat => gL (isR k lo hi j) l)) := by rw [hW9]; exact Bk.new_at _ _ _ _ (by simp)
      have l_b : g_e < q.w.heap.size := (k_e.below q.h).lt
      have k_r := ((k_r.below q.h).alloc (.cells (GA (fun j : Nat => gL (isL k lo hi j) l)) 110)).alloc (.cells (GA (fun j : Nat => gL (isR k lo hi j) l)) 110)
      have k_e := ((k_e.below q.h).alloc (.cells (GA (fun j : Nat => gL (isL k lo hi j) l)) 110)).alloc (.cells (GA (fun j : Nat => gL (isR k lo hi j) l)) 110)
      rw [← hW9] at k_r k_e
      have BP := bw_below B4 q
      have B9 : Below w.heap.size w W9 := by rw [hW9]; exact (BP.alloc BP.size _).alloc (Nat.le_trans BP.size (by simp)) _
      rw [← hW9]
      clear hW9 BP B4
      clear c_r_0 c_r_1 c_r_2 c_r_3 c_e_0 c_e_1 c_e_2 c_e_3
      obtain ⟨g_o, hgo⟩ : ∃ g, g = q.w.heap.size + 1 := ⟨_, rfl⟩
      rw [← hgo] at k_o ⊢
      have l_o : q.w.heap.size < g_o := by omega
      clear hgo
      generalize q.w.heap.size = g_b at *
      go_wp2
      go_loopw [5, 6, 14] (fun lv fv jv wr => ∃ (j : Nat) (d1 d2 d3 d4 lt : Int) (fe : Bool), 1 ≤ j ∧ j ≤ 8 ∧ jv = .int .i64 j ∧ ((d1, d2, d3, d4), lt, fe) = bIn k lo hi l (((e1, e2, e3, e4), ls, fd)) (j - 1) ∧ lv = .int .i64 lt ∧ fv = .bool fe ∧ Bk wr w.heap.size 74 #[.int .i64 0, .int .i64 0, .int .i64 0, .int .i64 0] ∧ Bk wr g_e 74 #[.int .i64 d1, .int .i64 d2, .int .i64 d3, .int .i64 d4] ∧ Bk wr g_b 110 (GA (fun j : Nat => gL (isL k lo hi j) l)) ∧ Bk wr g_o 110 (GA (fun j : Nat => gL (isR k lo hi j) l)) ∧ Below w.heap.size w wr) (fun _ _ j _ => 8 - (intOf j).toNat)
      case atStart => exact ⟨1, _, _, _, _, _, _, by omega, by omega, rfl, rfl, rfl, rfl, k_r, k_e, k_b, k_o, B9⟩
      case round =>
        clear k_r k_e k_b k_o B9
        obtain ⟨j, d1, d2, d3, d4, lt, fe, h1, h8, rfl, hbi, rfl, rfl, k_r, k_e, k_b, k_o, BO⟩ := hrel
        by_cases hj : j < 8
        · obtain ⟨ap1, ap2⟩ := apart_is (a := (j : Int)) HALL.out HLL.out
          have KA := Lib.hid (fun w => bins_apart (gL (isL k lo hi j) l) (gL (isR k lo hi j) l) w (Nat.le_trans (gL_le _ _) HLL.out) (Nat.le_trans (gL_le _ _) HLL.out))
          rw [ap1, ap2] at KA
          have hsc : sOk k lo hi j l = true → sVal k lo hi j l = sCost k lo hi j l := fun h => by unfold sCost; rw [if_pos h]
          have hst : bIn k lo hi l (((e1, e2, e3, e4), ls, fd)) (j + 1 - 1) = bTry (sOk k lo hi j l) (sVal k lo hi j l) (k, j, lo, hi) (bIn k lo hi l (((e1, e2, e3, e4), ls, fd)) (j - 1)) := by
            obtain ⟨m, rfl⟩ : ∃ m, j = m + 1 := ⟨j - 1, by omega⟩
            rfl
          rw [← hbi] at hst
          obtain ⟨ok, hok⟩ : ∃ ok, ok = sOk k lo hi j l := ⟨_, rfl⟩
          obtain ⟨sv, hsv⟩ : ∃ sv, sv = sVal k lo hi j l := ⟨_, rfl⟩
          obtain ⟨c, hc⟩ : ∃ c, c = sCost k lo hi j l := ⟨_, rfl⟩
          rw [← hok, ← hsv] at hst
          rw [← hc, ← hok] at KA
          rw [← hok, ← hsv, ← hc] at hsc
          have HBI := Lib.hid hst
          have HSC := Lib.hid hsc
          have j8 : j < 8 := hj
          clear hok hsv hc hst hsc hbi ap1 ap2
          obtain ⟨x, hx⟩ : ∃ x, x = gL (isL k lo hi j) l := ⟨_, rfl⟩
          obtain ⟨y, hy⟩ : ∃ y, y = gL (isR k lo hi j) l := ⟨_, rfl⟩
          rw [← hx, ← hy] at KA
          have c_x := group_bw k_b j8
          have c_y := group_bw k_o j8
          try dsimp only at c_x c_y
          rw [← hx] at c_x
          rw [← hy] at c_y
          clear hx hy
          obtain ⟨⟨⟨x1, x2, x3⟩, x4, x5, x6⟩, xn⟩ := x
          obtain ⟨⟨⟨y1, y2, y3⟩, y4, y5, y6⟩, yn⟩ := y
          change Hid (∀ w, Calls Tryz.prog 46 #[.agg #[.int .i64 x1, .int .i64 x2, .int .i64 x3, .int .i64 x4, .int .i64 x5, .int .i64 x6, .int .i64 xn], .agg #[.int .i64 y1, .int .i64 y2, .int .i64 y3, .int .i64 y4, .int .i64 y5, .int .i64 y6, .int .i64 yn]] w fun e w' => e = .returned (.tuple #[.int .i64 c, .bool ok]) ∧ Below w.heap.size w w') at KA
          obtain ⟨c_x0, c_x1, c_x2, c_x3, c_x4, c_x5, c_x6⟩ := c_x
          obtain ⟨c_y0, c_y1, c_y2, c_y3, c_y4, c_y5, c_y6⟩ := c_y
          dsimp only at c_x0 c_x1 c_x2 c_x3 c_x4 c_x5 c_x6 c_y0 c_y1 c_y2 c_y3 c_y4 c_y5 c_y6
          have i1 := ga_index g_b j j8
          have i2 := ga_index g_o j j8
          have tj : decide ((j : Int) < 8) = true := decide_eq_true (by omega)
          cases ok with
          | false =>
            have B4 := BO
            have HR := Lib.hid (show ((d1, d2, d3, d4), lt, fe) = bIn k lo hi l ((e1, e2, e3, e4), ls, fd) (j + 1 - 1) from by rw [HBI.out]; unfold bTry; rw [if_neg (by simp)])
            clear HBI
            obtain ⟨c_e_0, c_e_1, c_e_2, c_e_3⟩ := bwc4 (k_e)
            obtain ⟨f_e_0, f_e_1, f_e_2, f_e_3⟩ := bwf4 (k_e)
            obtain ⟨p4, hp4⟩ : ∃ p : BW wr, p.w = wr := ⟨BW.start wr, rfl⟩
            rw [← hp4]
            clear hp4
            go_upto_region 15 with (fail)
            refine wp_region_bw (by kernel_rfl) (by kernel_rfl) ?_
            repeat (go_big_quiet_step (first
              | (go_at_call 46; (first | (with_reducible exact bw_call KA.out _)))))
            refine wpQuiet_nil ?_
            intro _ hw'
            obtain ⟨q, rfl⟩ := hw'
            go_wp2
            go_roundw
            case rel => exact ⟨j + 1, _, _, _, _, _, _, by omega, by omega, by go_num, HR.out, rfl, rfl, k_r.below q.h, k_e.below q.h, k_b.below q.h, k_o.below q.h, bw_below B4 q⟩
            case measure => simp [intOf]; omega
          | true =>
            cases fe with
            | false =>
              have B4 := BO
              have HR := Lib.hid (show (((k : Int), (j : Int), lo, hi), c, true) = bIn k lo hi l ((e1, e2, e3, e4), ls, fd) (j + 1 - 1) from by rw [HBI.out, HSC.out rfl]; unfold bTry; rw [if_pos (by exact ⟨rfl, .inl rfl⟩)])
              clear HBI
              obtain ⟨c_e_0, c_e_1, c_e_2, c_e_3⟩ := bwc4 (k_e)
              obtain ⟨f_e_0, f_e_1, f_e_2, f_e_3⟩ := bwf4 (k_e)
              obtain ⟨p4, hp4⟩ : ∃ p : BW wr, p.w = wr := ⟨BW.start wr, rfl⟩
              rw [← hp4]
              clear hp4
              go_upto_region 15 with (fail)
              refine wp_region_bw (by kernel_rfl) (by kernel_rfl) ?_
              repeat (go_big_quiet_step (first
                | (go_at_call 46; (first | (with_reducible exact bw_call KA.out _)))))
              refine wpQuiet_nil ?_
              intro _ hw'
              obtain ⟨q, rfl⟩ := hw'
              go_wp2
              go_roundw
              case rel => exact ⟨j + 1, _, _, _, _, _, _, by omega, by omega, by go_num, HR.out, rfl, rfl, bko4 (k_r.below q.h) (by omega), bkp4 (k_e.below q.h) _ _ _ _, bko4 (k_b.below q.h) (by omega), bko4 (k_o.below q.h) (by omega), blp4 (bw_below B4 q) (by omega)⟩
              case measure => simp [intOf]; omega
            | true =>
              by_cases hlc : c < lt
              · have tc : decide (c < lt) = true := decide_eq_true hlc
                have B4 := BO
                have HR := Lib.hid (show (((k : Int), (j : Int), lo, hi), c, true) = bIn k lo hi l ((e1, e2, e3, e4), ls, fd) (j + 1 - 1) from by rw [HBI.out, HSC.out rfl]; unfold bTry; rw [if_pos (by exact ⟨rfl, .inr hlc⟩)])
                clear HBI
                clear hlc
                obtain ⟨c_e_0, c_e_1, c_e_2, c_e_3⟩ := bwc4 (k_e)
                obtain ⟨f_e_0, f_e_1, f_e_2, f_e_3⟩ := bwf4 (k_e)
                obtain ⟨p4, hp4⟩ : ∃ p : BW wr, p.w = wr := ⟨BW.start wr, rfl⟩
                rw [← hp4]
                clear hp4
                go_upto_region 15 with (fail)
                refine wp_region_bw (by kernel_rfl) (by kernel_rfl) ?_
                repeat (go_big_quiet_step (first
                  | (go_at_call 46; (first | (with_reducible exact bw_call KA.out _)))))
                refine wpQuiet_nil ?_
                intro _ hw'
                obtain ⟨q, rfl⟩ := hw'
                go_wp2
                go_roundw
                case rel => exact ⟨j + 1, _, _, _, _, _, _, by omega, by omega, by go_num, HR.out, rfl, rfl, bko4 (k_r.below q.h) (by omega), bkp4 (k_e.below q.h) _ _ _ _, bko4 (k_b.below q.h) (by omega), bko4 (k_o.below q.h) (by omega), blp4 (bw_below B4 q) (by omega)⟩
                case measure => simp [intOf]; omega
              · have tc : decide (c < lt) = false := decide_eq_false hlc
                have B4 := BO
                have HR := Lib.hid (show ((d1, d2, d3, d4), lt, true) = bIn k lo hi l ((e1, e2, e3, e4), ls, fd) (j + 1 - 1) from by rw [HBI.out, HSC.out rfl]; unfold bTry; rw [if_neg (by rintro ⟨_, h | h⟩ <;> first | exact hlc h | cases h)])
                clear HBI
                clear hlc
                obtain ⟨c_e_0, c_e_1, c_e_2, c_e_3⟩ := bwc4 (k_e)
                obtain ⟨f_e_0, f_e_1, f_e_2, f_e_3⟩ := bwf4 (k_e)
                obtain ⟨p4, hp4⟩ : ∃ p : BW wr, p.w = wr := ⟨BW.start wr, rfl⟩
                rw [← hp4]
                clear hp4
                go_upto_region 15 with (fail)
                refine wp_region_bw (by kernel_rfl) (by kernel_rfl) ?_
                repeat (go_big_quiet_step (first
                  | (go_at_call 46; (first | (with_reducible exact bw_call KA.out _)))))
                refine wpQuiet_nil ?_
                intro _ hw'
                obtain ⟨q, rfl⟩ := hw'
                go_wp2
                go_roundw
                case rel => exact ⟨j + 1, _, _, _, _, _, _, by omega, by omega, by go_num, HR.out, rfl, rfl, k_r.below q.h, k_e.below q.h, k_b.below q.h, k_o.below q.h, bw_below B4 q⟩
                case measure => simp [intOf]; omega
        · obtain rfl : j = 8 := by omega
          have HR := Lib.hid hbi
          clear hbi
          have tj : decide (((8 : Nat) : Int) < 8) = false := decide_eq_false (by omega)
          go_wp2
          go_roundw
          case rel => exact ⟨k + 1, d1, d2, d3, d4, lt, fe, by omega, by go_num, (by rw [HNX.out]; exact HR.out), rfl, rfl, k_r, k_e, BO⟩
          case measure => simp [intOf]; omega
    · obtain rfl : k = 3 := by omega
      have HR := Lib.hid hst
      clear hst
      have B3 := BO
      obtain ⟨c_r_0, c_r_1, c_r_2, c_r_3⟩ := bwc4 (k_r)
      obtain ⟨f_r_0, f_r_1, f_r_2, f_r_3⟩ := bwf4 (k_r)
      obtain ⟨c_e_0, c_e_1, c_e_2, c_e_3⟩ := bwc4 (k_e)
      obtain ⟨p3, hp3⟩ : ∃ p : BW wr, p.w = wr := ⟨BW.start wr, rfl⟩
      rw [← hp3]
      clear hp3
      go_wp2
      have kr := bkp4 (k_r.below p3.h) (.int .i64 e1) (.int .i64 e2) (.int .i64 e3) (.int .i64 e4)
      obtain ⟨rc0, rc1, rc2, rc3⟩ := rwc4 kr
      exact bodyPost_ret (v := .tuple #[.agg #[.int .i64 e1, .int .i64 e2, .int .i64 e3, .int .i64 e4], .bool fd]) (by simp [results, Tryz.results26, go_sem, rc0, rc1, rc2, rc3]) rfl ⟨by rw [← HR.out], blp4 (bw_below B3 p3) (by omega)⟩

theorem bins_Best (a : Option Addr) (n cap : Nat) (V : Nat → Bx) (w : World) (hs : Boxes w (.slice a n cap) n V) :
    Calls Tryz.prog 26 #[.slice a n cap] w fun e w' => e = .returned (.tuple #[.agg #[.int .i64 (bBest V n).1.1, .int .i64 (bBest V n).1.2.1, .int .i64 (bBest V n).1.2.2.1, .int .i64 (bBest V n).1.2.2.2], .bool (bBest V n).2]) ∧ Below w.heap.size w w' := by
  by_cases hn : 1024 < n
  · have h : bBest V n = ((0, 0, 0, 0), false) := by
      unfold bBest bestOk
      rw [decide_eq_false (by omega)]
      rfl
    rw [h]
    exact bins_Best_many a n cap w hn
  have hn : n ≤ 1024 := by omega
  have hi : ∀ k : Nat, k < 3 → I64 (k : Int) := fun k h => by unfold I64; omega
  have KS := Lib.hid (fun (k : Nat) X (hX : Below w.heap.size w X) (h : k < 3) => bins_span a n cap V k X (hs.below hX (Nat.le_refl _)) (hi k h) (by omega))
  have hm := fun k : Nat => mnV_in V n k
  have KB := fun (k : Nat) X (h : k < 3) (hX : Below w.heap.size w X) => bins_binned a n cap V k (mnV V n k) (mxV V n k) X (hs.below hX (Nat.le_refl _)) (hi k h) (by have := hm k; unfold I64; omega) (by have := hm k; unfold I64; omega) hn
  have hA : ∀ k : Nat, k < 3 → allBin k (mnV V n k) (mxV V n k) (bls V n) = allR (bls V n) := fun k h => allBin_mid (by omega) (by omega)
  cases hr : allR (bls V n) with
  | false =>
    have h : bBest V n = ((0, 0, 0, 0), false) := by
      unfold bBest bestOk
      rw [hr, Bool.and_false]
      rfl
    rw [h]
    exact bins_Best_none a n cap V w hn KS (Lib.hid (fun k X h hX => by
      have := KB k X h hX
      rw [hA k h, hr] at this
      exact this))
  | true =>
    have h : bBest V n = ((bOut V n 3).1, (bOut V n 3).2.2) := by
      unfold bBest bestOk
      rw [hr, decide_eq_true hn]
      rfl
    rw [h]
    exact bins_Best_yes a n cap V w hn (fun k h => by rw [hA k h, hr]) KS (Lib.hid (fun k X h hX => by
      have := KB k X h hX
      rw [hA k h, hr] at this
      exact this))

end

end
end Go.Proofs.YtomlcglnkdfemaaGreat
