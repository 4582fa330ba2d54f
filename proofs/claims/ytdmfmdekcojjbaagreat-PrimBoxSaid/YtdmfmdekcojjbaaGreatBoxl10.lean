/- Contracts of package box, below: lowest, highest, later, earlier, shared, empty, between, intervals, held. -/
import Derived.Test.YtdmfmdekcojjbaaGreatNum01
import Derived.Test.YtdmfmdekcojjbaaGreatFrac01
import Derived.Test.YtdmfmdekcojjbaaGreatVec06
import Derived.Test.YtdmfmdekcojjbaaGreatMath10
import Derived.Test.YtdmfmdekcojjbaaGreatMem06
import Derived.Test.YtdmfmdekcojjbaaGreatMem08
import Derived.Test.YtdmfmdekcojjbaaGreatTail
import Derived.Lib.MinMax
import Derived.Deep.DeepCutAuto
namespace Go.Proofs.YtdmfmdekcojjbaaGreat
open Go.RowKit Go.Proofs.Sky
set_option linter.unusedVariables false

set_option maxRecDepth 100000 in
set_option maxHeartbeats 4000000 in
theorem box_lowest (a b c x y z : Int) (w : World) :
    Calls Tryz.prog 29 #[.agg #[.int .i64 a, .int .i64 b, .int .i64 c], .agg #[.int .i64 x, .int .i64 y, .int .i64 z]] w fun en w' => en = .returned (.agg #[.int .i64 (min a x), .int .i64 (min b y), .int .i64 (min c z)]) ∧ Below w.heap.size w w' := by
  obtain ⟨m1, e1⟩ : ∃ m, min a x = m := ⟨_, rfl⟩
  obtain ⟨m2, e2⟩ : ∃ m, min b y = m := ⟨_, rfl⟩
  obtain ⟨m3, e3⟩ : ∃ m, min c z = m := ⟨_, rfl⟩
  rw [e1, e2, e3]
  go_enter Tryz.func29, Tryz.ntmps29
  go_upto_region 1 with (fail)
  obtain ⟨W1, hW1⟩ : ∃ W, W = ((w.alloc (.cells #[.int .i64 a, .int .i64 b, .int .i64 c] 23)).alloc (.cells #[.int .i64 x, .int .i64 y, .int .i64 z] 23)).alloc (.cells #[.int .i64 0, .int .i64 0, .int .i64 0] 23) := ⟨_, rfl⟩
  obtain ⟨k_a, k_x, k_r, B1⟩ := st3 hW1
  rw [← hW1]
  clear hW1
  have l_x : w.heap.size < w.heap.size + 1 := by omega
  have l_r : w.heap.size + 1 < w.heap.size + 1 + 1 := by omega
  generalize w.heap.size + 1 + 1 = g_r at *
  generalize w.heap.size + 1 = g_x at *
  obtain ⟨c_a_0, c_a_1, c_a_2⟩ := bwc3 (k_a)
  obtain ⟨c_x_0, c_x_1, c_x_2⟩ := bwc3 (k_x)
  obtain ⟨c_r_0, c_r_1, c_r_2⟩ := bwc3 (k_r)
  obtain ⟨f_r_0, f_r_1, f_r_2⟩ := bwf3 (k_r)
  obtain ⟨p1, hp1⟩ : ∃ p : BW W1, p.w = W1 := ⟨BW.start W1, rfl⟩
  rw [← hp1]
  clear hp1
  go_wp2
  have kr := bkp3 (k_r.below p1.h) (.int .i64 m1) (.int .i64 m2) (.int .i64 m3)
  obtain ⟨rc0, rc1, rc2⟩ := rwc3 kr
  exact bodyPost_ret (v := .agg #[.int .i64 m1, .int .i64 m2, .int .i64 m3]) (by simp [results, Tryz.results29, go_sem, rc0, rc1, rc2]) rfl ⟨rfl, blp3 (bw_below B1 p1) (by omega)⟩

set_option maxRecDepth 100000 in
set_option maxHeartbeats 4000000 in
theorem box_highest (a b c x y z : Int) (w : World) :
    Calls Tryz.prog 37 #[.agg #[.int .i64 a, .int .i64 b, .int .i64 c], .agg #[.int .i64 x, .int .i64 y, .int .i64 z]] w fun en w' => en = .returned (.agg #[.int .i64 (max a x), .int .i64 (max b y), .int .i64 (max c z)]) ∧ Below w.heap.size w w' := by
  obtain ⟨m1, e1⟩ : ∃ m, max a x = m := ⟨_, rfl⟩
  obtain ⟨m2, e2⟩ : ∃ m, max b y = m := ⟨_, rfl⟩
  obtain ⟨m3, e3⟩ : ∃ m, max c z = m := ⟨_, rfl⟩
  rw [e1, e2, e3]
  go_enter Tryz.func37, Tryz.ntmps37
  go_upto_region 1 with (fail)
  obtain ⟨W1, hW1⟩ : ∃ W, W = ((w.alloc (.cells #[.int .i64 a, .int .i64 b, .int .i64 c] 23)).alloc (.cells #[.int .i64 x, .int .i64 y, .int .i64 z] 23)).alloc (.cells #[.int .i64 0, .int .i64 0, .int .i64 0] 23) := ⟨_, rfl⟩
  obtain ⟨k_a, k_x, k_r, B1⟩ := st3 hW1
  rw [← hW1]
  clear hW1
  have l_x : w.heap.size < w.heap.size + 1 := by omega
  have l_r : w.heap.size + 1 < w.heap.size + 1 + 1 := by omega
  generalize w.heap.size + 1 + 1 = g_r at *
  generalize w.heap.size + 1 = g_x at *
  obtain ⟨c_a_0, c_a_1, c_a_2⟩ := bwc3 (k_a)
  obtain ⟨c_x_0, c_x_1, c_x_2⟩ := bwc3 (k_x)
  obtain ⟨c_r_0, c_r_1, c_r_2⟩ := bwc3 (k_r)
  obtain ⟨f_r_0, f_r_1, f_r_2⟩ := bwf3 (k_r)
  obtain ⟨p1, hp1⟩ : ∃ p : BW W1, p.w = W1 := ⟨BW.start W1, rfl⟩
  rw [← hp1]
  clear hp1
  go_wp2
  have kr := bkp3 (k_r.below p1.h) (.int .i64 m1) (.int .i64 m2) (.int .i64 m3)
  obtain ⟨rc0, rc1, rc2⟩ := rwc3 kr
  exact bodyPost_ret (v := .agg #[.int .i64 m1, .int .i64 m2, .int .i64 m3]) (by simp [results, Tryz.results37, go_sem, rc0, rc1, rc2]) rfl ⟨rfl, blp3 (bw_below B1 p1) (by omega)⟩

set_option maxRecDepth 100000 in
set_option maxHeartbeats 4000000 in
theorem box_later_true (n d m e : Int) (w : World) (hn : I64 n) (hd : I64 d) (hm : I64 m) (he : I64 e) (h : fless n d m e = true) :
    Calls Tryz.prog 58 #[.agg #[.int .i64 n, .int .i64 d], .agg #[.int .i64 m, .int .i64 e]] w fun en w' => en = .returned (.agg #[.int .i64 m, .int .i64 e]) ∧ Below w.heap.size w w' := by
  have K := Lib.hid (fun w => frac_Less n d m e w hn hd hm he)
  rw [h] at K
  clear h hn hd hm he
  go_enter Tryz.func58, Tryz.ntmps58
  go_upto_region 1 with (fail)
  obtain ⟨W1, hW1⟩ : ∃ W, W = ((w.alloc (.cells #[.int .i64 n, .int .i64 d] 32)).alloc (.cells #[.int .i64 m, .int .i64 e] 32)).alloc (.cells #[.int .i64 0, .int .i64 0] 32) := ⟨_, rfl⟩
  obtain ⟨k_a, k_x, k_r, B1⟩ := st3 hW1
  rw [← hW1]
  clear hW1
  have l_x : w.heap.size < w.heap.size + 1 := by omega
  have l_r : w.heap.size + 1 < w.heap.size + 1 + 1 := by omega
  generalize w.heap.size + 1 + 1 = g_r at *
  generalize w.heap.size + 1 = g_x at *
  obtain ⟨c_a_0, c_a_1⟩ := bwc2 (k_a)
  obtain ⟨c_x_0, c_x_1⟩ := bwc2 (k_x)
  obtain ⟨c_r_0, c_r_1⟩ := bwc2 (k_r)
  obtain ⟨f_r_0, f_r_1⟩ := bwf2 (k_r)
  obtain ⟨p1, hp1⟩ : ∃ p : BW W1, p.w = W1 := ⟨BW.start W1, rfl⟩
  rw [← hp1]
  clear hp1
  go_wp2_with (first
    | (go_at_call 60; (first | (with_reducible refine (bw_call K.out _).mono ?_)); rintro e w' ⟨rfl, q, rfl⟩))
  have kr := bkp2 (k_r.below q.h) (.int .i64 m) (.int .i64 e)
  obtain ⟨rc0, rc1⟩ := rwc2 kr
  exact bodyPost_ret (v := .agg #[.int .i64 m, .int .i64 e]) (by simp [results, Tryz.results58, go_sem, rc0, rc1]) rfl ⟨rfl, blp2 (bw_below B1 q) (by omega)⟩

set_option maxRecDepth 100000 in
set_option maxHeartbeats 4000000 in
theorem box_later_false (n d m e : Int) (w : World) (hn : I64 n) (hd : I64 d) (hm : I64 m) (he : I64 e) (h : fless n d m e = false) :
    Calls Tryz.prog 58 #[.agg #[.int .i64 n, .int .i64 d], .agg #[.int .i64 m, .int .i64 e]] w fun en w' => en = .returned (.agg #[.int .i64 n, .int .i64 d]) ∧ Below w.heap.size w w' := by
  have K := Lib.hid (fun w => frac_Less n d m e w hn hd hm he)
  rw [h] at K
  clear h hn hd hm he
  go_enter Tryz.func58, Tryz.ntmps58
  go_upto_region 1 with (fail)
  obtain ⟨W1, hW1⟩ : ∃ W, W = ((w.alloc (.cells #[.int .i64 n, .int .i64 d] 32)).alloc (.cells #[.int .i64 m, .int .i64 e] 32)).alloc (.cells #[.int .i64 0, .int .i64 0] 32) := ⟨_, rfl⟩
  obtain ⟨k_a, k_x, k_r, B1⟩ := st3 hW1
  rw [← hW1]
  clear hW1
  have l_x : w.heap.size < w.heap.size + 1 := by omega
  have l_r : w.heap.size + 1 < w.heap.size + 1 + 1 := by omega
  generalize w.heap.size + 1 + 1 = g_r at *
  generalize w.heap.size + 1 = g_x at *
  obtain ⟨c_a_0, c_a_1⟩ := bwc2 (k_a)
  obtain ⟨c_x_0, c_x_1⟩ := bwc2 (k_x)
  obtain ⟨c_r_0, c_r_1⟩ := bwc2 (k_r)
  obtain ⟨f_r_0, f_r_1⟩ := bwf2 (k_r)
  obtain ⟨p1, hp1⟩ : ∃ p : BW W1, p.w = W1 := ⟨BW.start W1, rfl⟩
  rw [← hp1]
  clear hp1
  go_wp2_with (first
    | (go_at_call 60; (first | (with_reducible refine (bw_call K.out _).mono ?_)); rintro e w' ⟨rfl, q, rfl⟩))
  have kr := bkp2 (k_r.below q.h) (.int .i64 n) (.int .i64 d)
  obtain ⟨rc0, rc1⟩ := rwc2 kr
  exact bodyPost_ret (v := .agg #[.int .i64 n, .int .i64 d]) (by simp [results, Tryz.results58, go_sem, rc0, rc1]) rfl ⟨rfl, blp2 (bw_below B1 q) (by omega)⟩

theorem box_later (n d m e : Int) (w : World) (hn : I64 n) (hd : I64 d) (hm : I64 m) (he : I64 e) :
    Calls Tryz.prog 58 #[.agg #[.int .i64 n, .int .i64 d], .agg #[.int .i64 m, .int .i64 e]] w fun en w' => en = .returned (.agg #[.int .i64 (ivLater (n, d) (m, e)).1, .int .i64 (ivLater (n, d) (m, e)).2]) ∧ Below w.heap.size w w' := by
  unfold ivLater
  cases h : fless n d m e with
  | true => rw [if_pos rfl]; exact box_later_true n d m e w hn hd hm he h
  | false => rw [if_neg (by simp)]; exact box_later_false n d m e w hn hd hm he h

set_option maxRecDepth 100000 in
set_option maxHeartbeats 4000000 in
theorem box_earlier_none (n d m e : Int) (w : World) (hn : I64 n) (hd : I64 d) (hm : I64 m) (he : I64 e) (h : d < 1) :
    Calls Tryz.prog 59 #[.agg #[.int .i64 n, .int .i64 d], .agg #[.int .i64 m, .int .i64 e]] w fun en w' => en = .returned (.agg #[.int .i64 m, .int .i64 e]) ∧ Below w.heap.size w w' := by
  have KR := Lib.hid (fun w => frac_Right n d w)
  rw [decide_eq_false (show ¬ 1 ≤ d by omega)] at KR
  clear h hn hd hm he
  go_enter Tryz.func59, Tryz.ntmps59
  go_upto_region 1 with (fail)
  obtain ⟨W1, hW1⟩ : ∃ W, W = ((w.alloc (.cells #[.int .i64 n, .int .i64 d] 32)).alloc (.cells #[.int .i64 m, .int .i64 e] 32)).alloc (.cells #[.int .i64 0, .int .i64 0] 32) := ⟨_, rfl⟩
  obtain ⟨k_a, k_x, k_r, B1⟩ := st3 hW1
  rw [← hW1]
  clear hW1
  have l_x : w.heap.size < w.heap.size + 1 := by omega
  have l_r : w.heap.size + 1 < w.heap.size + 1 + 1 := by omega
  generalize w.heap.size + 1 + 1 = g_r at *
  generalize w.heap.size + 1 = g_x at *
  obtain ⟨c_a_0, c_a_1⟩ := bwc2 (k_a)
  obtain ⟨c_x_0, c_x_1⟩ := bwc2 (k_x)
  obtain ⟨c_r_0, c_r_1⟩ := bwc2 (k_r)
  obtain ⟨f_r_0, f_r_1⟩ := bwf2 (k_r)
  obtain ⟨p1, hp1⟩ : ∃ p : BW W1, p.w = W1 := ⟨BW.start W1, rfl⟩
  rw [← hp1]
  clear hp1
  go_wp2_with (first
    | (go_at_call 78; (first | (with_reducible refine (bw_call KR.out _).mono ?_)); rintro e w' ⟨rfl, q, rfl⟩))
  have kr := bkp2 (k_r.below q.h) (.int .i64 m) (.int .i64 e)
  obtain ⟨rc0, rc1⟩ := rwc2 kr
  exact bodyPost_ret (v := .agg #[.int .i64 m, .int .i64 e]) (by simp [results, Tryz.results59, go_sem, rc0, rc1]) rfl ⟨rfl, blp2 (bw_below B1 q) (by omega)⟩

set_option maxRecDepth 100000 in
set_option maxHeartbeats 4000000 in
theorem box_earlier_true (n d m e : Int) (w : World) (hn : I64 n) (hd : I64 d) (hm : I64 m) (he : I64 e) (h : ¬ d < 1) (h2 : fless m e n d = true) :
    Calls Tryz.prog 59 #[.agg #[.int .i64 n, .int .i64 d], .agg #[.int .i64 m, .int .i64 e]] w fun en w' => en = .returned (.agg #[.int .i64 m, .int .i64 e]) ∧ Below w.heap.size w w' := by
  have KR := Lib.hid (fun w => frac_Right n d w)
  rw [decide_eq_true (show 1 ≤ d by omega)] at KR
  have K := Lib.hid (fun w => frac_Less m e n d w hm he hn hd)
  rw [h2] at K
  clear h h2 hn hd hm he
  go_enter Tryz.func59, Tryz.ntmps59
  go_upto_region 1 with (fail)
  obtain ⟨W1, hW1⟩ : ∃ W, W = ((w.alloc (.cells #[.int .i64 n, .int .i64 d] 32)).alloc (.cells #[.int .i64 m, .int .i64 e] 32)).alloc (.cells #[.int .i64 0, .int .i64 0] 32) := ⟨_, rfl⟩
  obtain ⟨k_a, k_x, k_r, B1⟩ := st3 hW1
  rw [← hW1]
  clear hW1
  have l_x : w.heap.size < w.heap.size + 1 := by omega
  have l_r : w.heap.size + 1 < w.heap.size + 1 + 1 := by omega
  generalize w.heap.size + 1 + 1 = g_r at *
  generalize w.heap.size + 1 = g_x at *
  obtain ⟨c_a_0, c_a_1⟩ := bwc2 (k_a)
  obtain ⟨c_x_0, c_x_1⟩ := bwc2 (k_x)
  obtain ⟨c_r_0, c_r_1⟩ := bwc2 (k_r)
  obtain ⟨f_r_0, f_r_1⟩ := bwf2 (k_r)
  obtain ⟨p1, hp1⟩ : ∃ p : BW W1, p.w = W1 := ⟨BW.start W1, rfl⟩
  rw [← hp1]
  clear hp1
  go_wp2_with (first
    | (go_at_call 78; (first | (with_reducible refine (bw_call KR.out _).mono ?_)); rintro e w' ⟨rfl, q, rfl⟩)
    | (go_at_call 60; (first | (with_reducible refine (bw_call K.out _).mono ?_)); rintro e w' ⟨rfl, q, rfl⟩))
  have kr := bkp2 (k_r.below q.h) (.int .i64 m) (.int .i64 e)
  obtain ⟨rc0, rc1⟩ := rwc2 kr
  exact bodyPost_ret (v := .agg #[.int .i64 m, .int .i64 e]) (by simp [results, Tryz.results59, go_sem, rc0, rc1]) rfl ⟨rfl, blp2 (bw_below B1 q) (by omega)⟩

set_option maxRecDepth 100000 in
set_option maxHeartbeats 4000000 in
theorem box_earlier_false (n d m e : Int) (w : World) (hn : I64 n) (hd : I64 d) (hm : I64 m) (he : I64 e) (h : ¬ d < 1) (h2 : fless m e n d = false) :
    Calls Tryz.prog 59 #[.agg #[.int .i64 n, .int .i64 d], .agg #[.int .i64 m, .int .i64 e]] w fun en w' => en = .returned (.agg #[.int .i64 n, .int .i64 d]) ∧ Below w.heap.size w w' := by
  have KR := Lib.hid (fun w => frac_Right n d w)
  rw [decide_eq_true (show 1 ≤ d by omega)] at KR
  have K := Lib.hid (fun w => frac_Less m e n d w hm he hn hd)
  rw [h2] at K
  clear h h2 hn hd hm he
  go_enter Tryz.func59, Tryz.ntmps59
  go_upto_region 1 with (fail)
  obtain ⟨W1, hW1⟩ : ∃ W, W = ((w.alloc (.cells #[.int .i64 n, .int .i64 d] 32)).alloc (.cells #[.int .i64 m, .int .i64 e] 32)).alloc (.cells #[.int .i64 0, .int .i64 0] 32) := ⟨_, rfl⟩
  obtain ⟨k_a, k_x, k_r, B1⟩ := st3 hW1
  rw [← hW1]
  clear hW1
  have l_x : w.heap.size < w.heap.size + 1 := by omega
  have l_r : w.heap.size + 1 < w.heap.size + 1 + 1 := by omega
  generalize w.heap.size + 1 + 1 = g_r at *
  generalize w.heap.size + 1 = g_x at *
  obtain ⟨c_a_0, c_a_1⟩ := bwc2 (k_a)
  obtain ⟨c_x_0, c_x_1⟩ := bwc2 (k_x)
  obtain ⟨c_r_0, c_r_1⟩ := bwc2 (k_r)
  obtain ⟨f_r_0, f_r_1⟩ := bwf2 (k_r)
  obtain ⟨p1, hp1⟩ : ∃ p : BW W1, p.w = W1 := ⟨BW.start W1, rfl⟩
  rw [← hp1]
  clear hp1
  go_wp2_with (first
    | (go_at_call 78; (first | (with_reducible refine (bw_call KR.out _).mono ?_)); rintro e w' ⟨rfl, q, rfl⟩)
    | (go_at_call 60; (first | (with_reducible refine (bw_call K.out _).mono ?_)); rintro e w' ⟨rfl, q, rfl⟩))
  have kr := bkp2 (k_r.below q.h) (.int .i64 n) (.int .i64 d)
  obtain ⟨rc0, rc1⟩ := rwc2 kr
  exact bodyPost_ret (v := .agg #[.int .i64 n, .int .i64 d]) (by simp [results, Tryz.results59, go_sem, rc0, rc1]) rfl ⟨rfl, blp2 (bw_below B1 q) (by omega)⟩

theorem box_earlier (n d m e : Int) (w : World) (hn : I64 n) (hd : I64 d) (hm : I64 m) (he : I64 e) :
    Calls Tryz.prog 59 #[.agg #[.int .i64 n, .int .i64 d], .agg #[.int .i64 m, .int .i64 e]] w fun en w' => en = .returned (.agg #[.int .i64 (ivEarlier (n, d) (m, e)).1, .int .i64 (ivEarlier (n, d) (m, e)).2]) ∧ Below w.heap.size w w' := by
  unfold ivEarlier
  by_cases h : d < 1
  · rw [if_pos (.inl h)]; exact box_earlier_none n d m e w hn hd hm he h
  · cases h2 : fless m e n d with
    | true => rw [if_pos (.inr rfl)]; exact box_earlier_true n d m e w hn hd hm he h h2
    | false => rw [if_neg (fun k => k.elim h (fun k => by cases k))]; exact box_earlier_false n d m e w hn hd hm he h h2

set_option maxRecDepth 100000 in
set_option maxHeartbeats 4000000 in
theorem box_shared (i1 i2 i3 i4 j1 j2 j3 j4 : Int) (w : World) (hi1 : I64 i1) (hi2 : I64 i2) (hi3 : I64 i3) (hi4 : I64 i4) (hj1 : I64 j1) (hj2 : I64 j2) (hj3 : I64 j3) (hj4 : I64 j4) :
    Calls Tryz.prog 31 #[.agg #[.int .i64 i1, .int .i64 i2, .int .i64 i3, .int .i64 i4], .agg #[.int .i64 j1, .int .i64 j2, .int .i64 j3, .int .i64 j4]] w fun en w' => en = .returned (.agg #[.int .i64 (ivShared ((i1, i2), (i3, i4)) ((j1, j2), (j3, j4))).1.1, .int .i64 (ivShared ((i1, i2), (i3, i4)) ((j1, j2), (j3, j4))).1.2, .int .i64 (ivShared ((i1, i2), (i3, i4)) ((j1, j2), (j3, j4))).2.1, .int .i64 (ivShared ((i1, i2), (i3, i4)) ((j1, j2), (j3, j4))).2.2]) ∧ Below w.heap.size w w' := by
  have KL := Lib.hid (fun w => box_later i1 i2 j1 j2 w hi1 hi2 hj1 hj2)
  have KE := Lib.hid (fun w => box_earlier i3 i4 j3 j4 w hi3 hi4 hj3 hj4)
  unfold ivShared
  dsimp only
  obtain ⟨⟨r1, r2⟩, e1⟩ : ∃ r, ivLater (i1, i2) (j1, j2) = r := ⟨_, rfl⟩
  obtain ⟨⟨r3, r4⟩, e2⟩ : ∃ r, ivEarlier (i3, i4) (j3, j4) = r := ⟨_, rfl⟩
  rw [e1] at KL ⊢
  rw [e2] at KE ⊢
  dsimp only at KL KE ⊢
  clear e1 e2 hi1 hi2 hi3 hi4 hj1 hj2 hj3 hj4
  go_enter Tryz.func31, Tryz.ntmps31
  go_upto_region 1 with (fail)
  obtain ⟨W1, hW1⟩ : ∃ W, W = ((w.alloc (.cells #[.int .i64 i1, .int .i64 i2, .int .i64 i3, .int .i64 i4] 62)).alloc (.cells #[.int .i64 j1, .int .i64 j2, .int .i64 j3, .int .i64 j4] 62)).alloc (.cells #[.int .i64 0, .int .i64 0, .int .i64 0, .int .i64 0] 62) := ⟨_, rfl⟩
  obtain ⟨k_i, k_j, k_r, B1⟩ := st3 hW1
  rw [← hW1]
  clear hW1
  have l_j : w.heap.size < w.heap.size + 1 := by omega
  have l_r : w.heap.size + 1 < w.heap.size + 1 + 1 := by omega
  generalize w.heap.size + 1 + 1 = g_r at *
  generalize w.heap.size + 1 = g_j at *
  obtain ⟨c_i_0, c_i_1, c_i_2, c_i_3⟩ := bwc4 (k_i)
  obtain ⟨c_j_0, c_j_1, c_j_2, c_j_3⟩ := bwc4 (k_j)
  obtain ⟨c_r_0, c_r_1, c_r_2, c_r_3⟩ := bwc4 (k_r)
  obtain ⟨f_r_0, f_r_1, f_r_2, f_r_3⟩ := bwf4 (k_r)
  obtain ⟨p1, hp1⟩ : ∃ p : BW W1, p.w = W1 := ⟨BW.start W1, rfl⟩
  rw [← hp1]
  clear hp1
  refine wp_region_bw_tail 10 (by kernel_rfl) (by kernel_rfl) (by kernel_rfl) ?_
  simp only [List.take_succ_cons, List.take_zero, List.drop_succ_cons, List.drop_zero]
  repeat (go_big_quiet_step (first
    | (go_at_call 58; (first | (with_reducible exact bw_call KL.out _)))
    | (go_at_call 59; (first | (with_reducible exact bw_call KE.out _)))))
  refine wpQuiet_nil ?_
  intro _ hw'
  obtain ⟨q, rfl⟩ := hw'
  go_wp2
  have kr := bkp4 (k_r.below q.h) (.int .i64 r1) (.int .i64 r2) (.int .i64 r3) (.int .i64 r4)
  obtain ⟨rc0, rc1, rc2, rc3⟩ := rwc4 kr
  exact bodyPost_ret (v := .agg #[.int .i64 r1, .int .i64 r2, .int .i64 r3, .int .i64 r4]) (by simp [results, Tryz.results31, go_sem, rc0, rc1, rc2, rc3]) rfl ⟨rfl, blp4 (bw_below B1 q) (by omega)⟩

set_option maxRecDepth 100000 in
set_option maxHeartbeats 4000000 in
theorem box_empty (i1 i2 i3 i4 : Int) (w : World) (hi1 : I64 i1) (hi2 : I64 i2) (hi3 : I64 i3) (hi4 : I64 i4) :
    Calls Tryz.prog 32 #[.agg #[.int .i64 i1, .int .i64 i2, .int .i64 i3, .int .i64 i4]] w fun en w' => en = .returned (.bool (ivEmpty ((i1, i2), (i3, i4)))) ∧ Below w.heap.size w w' := by
  have K := Lib.hid (fun w => frac_Less i3 i4 i1 i2 w hi3 hi4 hi1 hi2)
  unfold ivEmpty
  dsimp only
  generalize fless i3 i4 i1 i2 = t at *
  clear hi1 hi2 hi3 hi4
  go_enter Tryz.func32, Tryz.ntmps32
  go_upto_region 1 with (fail)
  obtain ⟨W1, hW1⟩ : ∃ W, W = w.alloc (.cells #[.int .i64 i1, .int .i64 i2, .int .i64 i3, .int .i64 i4] 62) := ⟨_, rfl⟩
  obtain ⟨k_i, B1⟩ := st1 hW1
  rw [← hW1]
  clear hW1
  obtain ⟨c_i_0, c_i_1, c_i_2, c_i_3⟩ := bwc4 (k_i)
  obtain ⟨p1, hp1⟩ : ∃ p : BW W1, p.w = W1 := ⟨BW.start W1, rfl⟩
  rw [← hp1]
  clear hp1
  go_wp2_with (first
    | (go_at_call 60; (first | (with_reducible refine (bw_call K.out _).mono ?_)); rintro e w' ⟨rfl, q, rfl⟩))
  go_ret
  exact ⟨rfl, bw_below B1 _⟩

set_option maxRecDepth 100000 in
set_option maxHeartbeats 4000000 in
theorem box_between_above (lo hi : Int) (w : World) (h : 0 < lo) :
    Calls Tryz.prog 57 #[.int .i64 lo, .int .i64 hi, .int .i64 0] w fun en w' => en = .returned (.agg #[.int .i64 1, .int .i64 1, .int .i64 0, .int .i64 1]) ∧ Below w.heap.size w w' := by
  have t1 : decide (0 < lo) = true := decide_eq_true h
  clear h
  go_enter Tryz.func57, Tryz.ntmps57
  go_upto_region 1 with (fail)
  obtain ⟨W1, hW1⟩ : ∃ W, W = w.alloc (.cells #[.int .i64 0, .int .i64 0, .int .i64 0, .int .i64 0] 62) := ⟨_, rfl⟩
  obtain ⟨k_r, B1⟩ := st1 hW1
  rw [← hW1]
  clear hW1
  obtain ⟨c_r_0, c_r_1, c_r_2, c_r_3⟩ := bwc4 (k_r)
  obtain ⟨f_r_0, f_r_1, f_r_2, f_r_3⟩ := bwf4 (k_r)
  obtain ⟨p1, hp1⟩ : ∃ p : BW W1, p.w = W1 := ⟨BW.start W1, rfl⟩
  rw [← hp1]
  clear hp1
  go_upto_region 2 with (fail)
  obtain ⟨W2, hW2⟩ : ∃ W, W = p1.w.alloc (.cells #[.int .i64 0, .int .i64 1] 32) := ⟨_, rfl⟩
  have B2 : Below w.heap.size w W2 := by rw [hW2]; exact (bw_below B1 p1).alloc (bw_below B1 p1).size _
  have l_s : w.heap.size < p1.w.heap.size := (k_r.below p1.h).lt
  have o_s : w.heap.size ≤ p1.w.heap.size := (bw_below B1 p1).size
  have k_r := bka hW2 (k_r.below p1.h)
  have k_s := bkn hW2
  rw [← hW2]
  clear hW2
  clear B1
  clear c_r_0 c_r_1 c_r_2 c_r_3 f_r_0 f_r_1 f_r_2 f_r_3
  generalize p1.w.heap.size = g_s at *
  obtain ⟨c_r_0, c_r_1, c_r_2, c_r_3⟩ := bwc4 (k_r)
  obtain ⟨f_r_0, f_r_1, f_r_2, f_r_3⟩ := bwf4 (k_r)
  obtain ⟨c_s_0, c_s_1⟩ := bwc2 (k_s)
  obtain ⟨p2, hp2⟩ : ∃ p : BW W2, p.w = W2 := ⟨BW.start W2, rfl⟩
  rw [← hp2]
  clear hp2
  go_wp2
  have kr := bkp4 (k_r.below p2.h) (.int .i64 1) (.int .i64 1) (.int .i64 0) (.int .i64 1)
  obtain ⟨rc0, rc1, rc2, rc3⟩ := rwc4 kr
  exact bodyPost_ret (v := .agg #[.int .i64 1, .int .i64 1, .int .i64 0, .int .i64 1]) (by simp [results, Tryz.results57, go_sem, rc0, rc1, rc2, rc3]) rfl ⟨rfl, blp4 (bw_below B2 p2) (by omega)⟩

set_option maxRecDepth 100000 in
set_option maxHeartbeats 4000000 in
theorem box_between_below (lo hi : Int) (w : World) (h : ¬ 0 < lo) (h2 : hi < 0) :
    Calls Tryz.prog 57 #[.int .i64 lo, .int .i64 hi, .int .i64 0] w fun en w' => en = .returned (.agg #[.int .i64 1, .int .i64 1, .int .i64 0, .int .i64 1]) ∧ Below w.heap.size w w' := by
  have t1 : decide (0 < lo) = false := decide_eq_false h
  have t2 : decide (hi < 0) = true := decide_eq_true h2
  clear h2
  clear h
  go_enter Tryz.func57, Tryz.ntmps57
  go_upto_region 1 with (fail)
  obtain ⟨W1, hW1⟩ : ∃ W, W = w.alloc (.cells #[.int .i64 0, .int .i64 0, .int .i64 0, .int .i64 0] 62) := ⟨_, rfl⟩
  obtain ⟨k_r, B1⟩ := st1 hW1
  rw [← hW1]
  clear hW1
  obtain ⟨c_r_0, c_r_1, c_r_2, c_r_3⟩ := bwc4 (k_r)
  obtain ⟨f_r_0, f_r_1, f_r_2, f_r_3⟩ := bwf4 (k_r)
  obtain ⟨p1, hp1⟩ : ∃ p : BW W1, p.w = W1 := ⟨BW.start W1, rfl⟩
  rw [← hp1]
  clear hp1
  go_upto_region 2 with (fail)
  obtain ⟨W2, hW2⟩ : ∃ W, W = p1.w.alloc (.cells #[.int .i64 0, .int .i64 1] 32) := ⟨_, rfl⟩
  have B2 : Below w.heap.size w W2 := by rw [hW2]; exact (bw_below B1 p1).alloc (bw_below B1 p1).size _
  have l_s : w.heap.size < p1.w.heap.size := (k_r.below p1.h).lt
  have o_s : w.heap.size ≤ p1.w.heap.size := (bw_below B1 p1).size
  have k_r := bka hW2 (k_r.below p1.h)
  have k_s := bkn hW2
  rw [← hW2]
  clear hW2
  clear B1
  clear c_r_0 c_r_1 c_r_2 c_r_3 f_r_0 f_r_1 f_r_2 f_r_3
  generalize p1.w.heap.size = g_s at *
  obtain ⟨c_r_0, c_r_1, c_r_2, c_r_3⟩ := bwc4 (k_r)
  obtain ⟨f_r_0, f_r_1, f_r_2, f_r_3⟩ := bwf4 (k_r)
  obtain ⟨c_s_0, c_s_1⟩ := bwc2 (k_s)
  obtain ⟨p2, hp2⟩ : ∃ p : BW W2, p.w = W2 := ⟨BW.start W2, rfl⟩
  rw [← hp2]
  clear hp2
  go_wp2
  have kr := bkp4 (k_r.below p2.h) (.int .i64 1) (.int .i64 1) (.int .i64 0) (.int .i64 1)
  obtain ⟨rc0, rc1, rc2, rc3⟩ := rwc4 kr
  exact bodyPost_ret (v := .agg #[.int .i64 1, .int .i64 1, .int .i64 0, .int .i64 1]) (by simp [results, Tryz.results57, go_sem, rc0, rc1, rc2, rc3]) rfl ⟨rfl, blp4 (bw_below B2 p2) (by omega)⟩

set_option maxRecDepth 100000 in
set_option maxHeartbeats 4000000 in
theorem box_between_in (lo hi : Int) (w : World) (h : ¬ 0 < lo) (h2 : ¬ hi < 0) :
    Calls Tryz.prog 57 #[.int .i64 lo, .int .i64 hi, .int .i64 0] w fun en w' => en = .returned (.agg #[.int .i64 0, .int .i64 1, .int .i64 0, .int .i64 0]) ∧ Below w.heap.size w w' := by
  have t1 : decide (0 < lo) = false := decide_eq_false h
  have t2 : decide (hi < 0) = false := decide_eq_false h2
  clear h2
  clear h
  go_enter Tryz.func57, Tryz.ntmps57
  go_upto_region 1 with (fail)
  obtain ⟨W1, hW1⟩ : ∃ W, W = w.alloc (.cells #[.int .i64 0, .int .i64 0, .int .i64 0, .int .i64 0] 62) := ⟨_, rfl⟩
  obtain ⟨k_r, B1⟩ := st1 hW1
  rw [← hW1]
  clear hW1
  obtain ⟨c_r_0, c_r_1, c_r_2, c_r_3⟩ := bwc4 (k_r)
  obtain ⟨f_r_0, f_r_1, f_r_2, f_r_3⟩ := bwf4 (k_r)
  obtain ⟨p1, hp1⟩ : ∃ p : BW W1, p.w = W1 := ⟨BW.start W1, rfl⟩
  rw [← hp1]
  clear hp1
  go_upto_region 2 with (fail)
  obtain ⟨W2, hW2⟩ : ∃ W, W = p1.w.alloc (.cells #[.int .i64 0, .int .i64 1] 32) := ⟨_, rfl⟩
  have B2 : Below w.heap.size w W2 := by rw [hW2]; exact (bw_below B1 p1).alloc (bw_below B1 p1).size _
  have l_s : w.heap.size < p1.w.heap.size := (k_r.below p1.h).lt
  have o_s : w.heap.size ≤ p1.w.heap.size := (bw_below B1 p1).size
  have k_r := bka hW2 (k_r.below p1.h)
  have k_s := bkn hW2
  rw [← hW2]
  clear hW2
  clear B1
  clear c_r_0 c_r_1 c_r_2 c_r_3 f_r_0 f_r_1 f_r_2 f_r_3
  generalize p1.w.heap.size = g_s at *
  obtain ⟨c_r_0, c_r_1, c_r_2, c_r_3⟩ := bwc4 (k_r)
  obtain ⟨f_r_0, f_r_1, f_r_2, f_r_3⟩ := bwf4 (k_r)
  obtain ⟨c_s_0, c_s_1⟩ := bwc2 (k_s)
  obtain ⟨p2, hp2⟩ : ∃ p : BW W2, p.w = W2 := ⟨BW.start W2, rfl⟩
  rw [← hp2]
  clear hp2
  go_wp2
  have kr := bkp4 (k_r.below p2.h) (.int .i64 0) (.int .i64 1) (.int .i64 0) (.int .i64 0)
  obtain ⟨rc0, rc1, rc2, rc3⟩ := rwc4 kr
  exact bodyPost_ret (v := .agg #[.int .i64 0, .int .i64 1, .int .i64 0, .int .i64 0]) (by simp [results, Tryz.results57, go_sem, rc0, rc1, rc2, rc3]) rfl ⟨rfl, blp4 (bw_below B2 p2) (by omega)⟩

set_option maxRecDepth 100000 in
set_option maxHeartbeats 4000000 in
theorem box_between_neg (lo hi way : Int) (w : World) (h0 : ¬ way = 0) (h : way < 0) (hl : -4194304 ≤ lo ∧ lo ≤ 4194304) (hh : -4194304 ≤ hi ∧ hi ≤ 4194304) (hy : -4194304 ≤ way ∧ way ≤ 4194304) :
    Calls Tryz.prog 57 #[.int .i64 lo, .int .i64 hi, .int .i64 way] w fun en w' => en = .returned (.agg #[.int .i64 (-hi), .int .i64 (-way), .int .i64 (-lo), .int .i64 (-way)]) ∧ Below w.heap.size w w' := by
  have KL := Lib.hid (fun w => frac_Make lo way w (by unfold I64; omega) (by unfold I64; omega))
  have KH := Lib.hid (fun w => frac_Make hi way w (by unfold I64; omega) (by unfold I64; omega))
  have ok_lo : fmakeOk lo way = true := decide_eq_true ⟨h0, by omega, by omega⟩
  rw [show fmake lo way = (-lo, -way) by unfold fmake; rw [if_pos ok_lo, if_pos h], ok_lo] at KL
  dsimp only at KL
  have ok_hi : fmakeOk hi way = true := decide_eq_true ⟨h0, by omega, by omega⟩
  rw [show fmake hi way = (-hi, -way) by unfold fmake; rw [if_pos ok_hi, if_pos h], ok_hi] at KH
  dsimp only at KH
  have t1 : decide (way < 0) = true := decide_eq_true h
  clear h hl hh hy ok_lo ok_hi
  generalize -hi = nh at *
  generalize -lo = nl at *
  generalize -way = nw at *
  go_enter Tryz.func57, Tryz.ntmps57
  go_upto_region 1 with (fail)
  obtain ⟨W1, hW1⟩ : ∃ W, W = w.alloc (.cells #[.int .i64 0, .int .i64 0, .int .i64 0, .int .i64 0] 62) := ⟨_, rfl⟩
  obtain ⟨k_r, B1⟩ := st1 hW1
  rw [← hW1]
  clear hW1
  obtain ⟨c_r_0, c_r_1, c_r_2, c_r_3⟩ := bwc4 (k_r)
  obtain ⟨f_r_0, f_r_1, f_r_2, f_r_3⟩ := bwf4 (k_r)
  obtain ⟨p1, hp1⟩ : ∃ p : BW W1, p.w = W1 := ⟨BW.start W1, rfl⟩
  rw [← hp1]
  clear hp1
  go_upto_region 2 with (fail)
  obtain ⟨W2, hW2⟩ : ∃ W, W = p1.w.alloc (.cells #[.int .i64 0, .int .i64 1] 32) := ⟨_, rfl⟩
  have B2 : Below w.heap.size w W2 := by rw [hW2]; exact (bw_below B1 p1).alloc (bw_below B1 p1).size _
  have l_s : w.heap.size < p1.w.heap.size := (k_r.below p1.h).lt
  have o_s : w.heap.size ≤ p1.w.heap.size := (bw_below B1 p1).size
  have k_r := bka hW2 (k_r.below p1.h)
  have k_s := bkn hW2
  rw [← hW2]
  clear hW2
  clear B1
  clear c_r_0 c_r_1 c_r_2 c_r_3 f_r_0 f_r_1 f_r_2 f_r_3
  generalize p1.w.heap.size = g_s at *
  obtain ⟨c_r_0, c_r_1, c_r_2, c_r_3⟩ := bwc4 (k_r)
  obtain ⟨f_r_0, f_r_1, f_r_2, f_r_3⟩ := bwf4 (k_r)
  obtain ⟨c_s_0, c_s_1⟩ := bwc2 (k_s)
  obtain ⟨p2, hp2⟩ : ∃ p : BW W2, p.w = W2 := ⟨BW.start W2, rfl⟩
  rw [← hp2]
  clear hp2
  go_upto_region 7 with (first
    | (go_at_call 43; (first | (with_reducible refine (bw_call KL.out _).mono ?_)); rintro e w' ⟨rfl, q, rfl⟩))
  obtain ⟨W3, hW3⟩ : ∃ W, W = q.w.alloc (.cells #[.int .i64 nl, .int .i64 nw] 32) := ⟨_, rfl⟩
  have B3 : Below w.heap.size w W3 := by rw [hW3]; exact (bw_below B2 q).alloc (bw_below B2 q).size _
  have l_f : g_s < q.w.heap.size := (k_s.below q.h).lt
  have o_f : w.heap.size ≤ q.w.heap.size := (bw_below B2 q).size
  have k_r := bka hW3 (k_r.below q.h)
  have k_s := bka hW3 (k_s.below q.h)
  have k_f := bkn hW3
  rw [← hW3]
  clear hW3
  clear B2
  clear c_r_0 c_r_1 c_r_2 c_r_3 f_r_0 f_r_1 f_r_2 f_r_3 c_s_0 c_s_1
  generalize q.w.heap.size = g_f at *
  obtain ⟨c_r_0, c_r_1, c_r_2, c_r_3⟩ := bwc4 (k_r)
  obtain ⟨f_r_0, f_r_1, f_r_2, f_r_3⟩ := bwf4 (k_r)
  obtain ⟨c_s_0, c_s_1⟩ := bwc2 (k_s)
  obtain ⟨c_f_0, c_f_1⟩ := bwc2 (k_f)
  obtain ⟨p3, hp3⟩ : ∃ p : BW W3, p.w = W3 := ⟨BW.start W3, rfl⟩
  rw [← hp3]
  clear hp3
  go_upto_region 8 with (first
    | (go_at_call 43; (first | (with_reducible refine (bw_call KH.out _).mono ?_)); rintro e w' ⟨rfl, q, rfl⟩))
  obtain ⟨W4, hW4⟩ : ∃ W, W = q.w.alloc (.cells #[.int .i64 nh, .int .i64 nw] 32) := ⟨_, rfl⟩
  have B4 : Below w.heap.size w W4 := by rw [hW4]; exact (bw_below B3 q).alloc (bw_below B3 q).size _
  have l_l : g_f < q.w.heap.size := (k_f.below q.h).lt
  have o_l : w.heap.size ≤ q.w.heap.size := (bw_below B3 q).size
  have k_r := bka hW4 (k_r.below q.h)
  have k_s := bka hW4 (k_s.below q.h)
  have k_f := bka hW4 (k_f.below q.h)
  have k_l := bkn hW4
  rw [← hW4]
  clear hW4
  clear B3
  clear c_r_0 c_r_1 c_r_2 c_r_3 f_r_0 f_r_1 f_r_2 f_r_3 c_s_0 c_s_1 c_f_0 c_f_1
  generalize q.w.heap.size = g_l at *
  obtain ⟨c_r_0, c_r_1, c_r_2, c_r_3⟩ := bwc4 (k_r)
  obtain ⟨f_r_0, f_r_1, f_r_2, f_r_3⟩ := bwf4 (k_r)
  obtain ⟨c_s_0, c_s_1⟩ := bwc2 (k_s)
  obtain ⟨c_f_0, c_f_1⟩ := bwc2 (k_f)
  obtain ⟨c_l_0, c_l_1⟩ := bwc2 (k_l)
  obtain ⟨p4, hp4⟩ : ∃ p : BW W4, p.w = W4 := ⟨BW.start W4, rfl⟩
  rw [← hp4]
  clear hp4
  go_wp2
  have kr := bkp4 (k_r.below p4.h) (.int .i64 nh) (.int .i64 nw) (.int .i64 nl) (.int .i64 nw)
  obtain ⟨rc0, rc1, rc2, rc3⟩ := rwc4 kr
  exact bodyPost_ret (v := .agg #[.int .i64 nh, .int .i64 nw, .int .i64 nl, .int .i64 nw]) (by simp [results, Tryz.results57, go_sem, rc0, rc1, rc2, rc3]) rfl ⟨rfl, blp4 (bw_below B4 p4) (by omega)⟩

set_option maxRecDepth 100000 in
set_option maxHeartbeats 4000000 in
theorem box_between_pos (lo hi way : Int) (w : World) (h0 : ¬ way = 0) (h : ¬ way < 0) (hl : -4194304 ≤ lo ∧ lo ≤ 4194304) (hh : -4194304 ≤ hi ∧ hi ≤ 4194304) (hy : -4194304 ≤ way ∧ way ≤ 4194304) :
    Calls Tryz.prog 57 #[.int .i64 lo, .int .i64 hi, .int .i64 way] w fun en w' => en = .returned (.agg #[.int .i64 lo, .int .i64 way, .int .i64 hi, .int .i64 way]) ∧ Below w.heap.size w w' := by
  have KL := Lib.hid (fun w => frac_Make lo way w (by unfold I64; omega) (by unfold I64; omega))
  have KH := Lib.hid (fun w => frac_Make hi way w (by unfold I64; omega) (by unfold I64; omega))
  have ok_lo : fmakeOk lo way = true := decide_eq_true ⟨h0, by omega, by omega⟩
  rw [show fmake lo way = (lo, way) by unfold fmake; rw [if_pos ok_lo, if_neg h], ok_lo] at KL
  dsimp only at KL
  have ok_hi : fmakeOk hi way = true := decide_eq_true ⟨h0, by omega, by omega⟩
  rw [show fmake hi way = (hi, way) by unfold fmake; rw [if_pos ok_hi, if_neg h], ok_hi] at KH
  dsimp only at KH
  have t1 : decide (way < 0) = false := decide_eq_false h
  clear h hl hh hy ok_lo ok_hi
  go_enter Tryz.func57, Tryz.ntmps57
  go_upto_region 1 with (fail)
  obtain ⟨W1, hW1⟩ : ∃ W, W = w.alloc (.cells #[.int .i64 0, .int .i64 0, .int .i64 0, .int .i64 0] 62) := ⟨_, rfl⟩
  obtain ⟨k_r, B1⟩ := st1 hW1
  rw [← hW1]
  clear hW1
  obtain ⟨c_r_0, c_r_1, c_r_2, c_r_3⟩ := bwc4 (k_r)
  obtain ⟨f_r_0, f_r_1, f_r_2, f_r_3⟩ := bwf4 (k_r)
  obtain ⟨p1, hp1⟩ : ∃ p : BW W1, p.w = W1 := ⟨BW.start W1, rfl⟩
  rw [← hp1]
  clear hp1
  go_upto_region 2 with (fail)
  obtain ⟨W2, hW2⟩ : ∃ W, W = p1.w.alloc (.cells #[.int .i64 0, .int .i64 1] 32) := ⟨_, rfl⟩
  have B2 : Below w.heap.size w W2 := by rw [hW2]; exact (bw_below B1 p1).alloc (bw_below B1 p1).size _
  have l_s : w.heap.size < p1.w.heap.size := (k_r.below p1.h).lt
  have o_s : w.heap.size ≤ p1.w.heap.size := (bw_below B1 p1).size
  have k_r := bka hW2 (k_r.below p1.h)
  have k_s := bkn hW2
  rw [← hW2]
  clear hW2
  clear B1
  clear c_r_0 c_r_1 c_r_2 c_r_3 f_r_0 f_r_1 f_r_2 f_r_3
  generalize p1.w.heap.size = g_s at *
  obtain ⟨c_r_0, c_r_1, c_r_2, c_r_3⟩ := bwc4 (k_r)
  obtain ⟨f_r_0, f_r_1, f_r_2, f_r_3⟩ := bwf4 (k_r)
  obtain ⟨c_s_0, c_s_1⟩ := bwc2 (k_s)
  obtain ⟨p2, hp2⟩ : ∃ p : BW W2, p.w = W2 := ⟨BW.start W2, rfl⟩
  rw [← hp2]
  clear hp2
  go_upto_region 7 with (first
    | (go_at_call 43; (first | (with_reducible refine (bw_call KL.out _).mono ?_)); rintro e w' ⟨rfl, q, rfl⟩))
  obtain ⟨W3, hW3⟩ : ∃ W, W = q.w.alloc (.cells #[.int .i64 lo, .int .i64 way] 32) := ⟨_, rfl⟩
  have B3 : Below w.heap.size w W3 := by rw [hW3]; exact (bw_below B2 q).alloc (bw_below B2 q).size _
  have l_f : g_s < q.w.heap.size := (k_s.below q.h).lt
  have o_f : w.heap.size ≤ q.w.heap.size := (bw_below B2 q).size
  have k_r := bka hW3 (k_r.below q.h)
  have k_s := bka hW3 (k_s.below q.h)
  have k_f := bkn hW3
  rw [← hW3]
  clear hW3
  clear B2
  clear c_r_0 c_r_1 c_r_2 c_r_3 f_r_0 f_r_1 f_r_2 f_r_3 c_s_0 c_s_1
  generalize q.w.heap.size = g_f at *
  obtain ⟨c_r_0, c_r_1, c_r_2, c_r_3⟩ := bwc4 (k_r)
  obtain ⟨f_r_0, f_r_1, f_r_2, f_r_3⟩ := bwf4 (k_r)
  obtain ⟨c_s_0, c_s_1⟩ := bwc2 (k_s)
  obtain ⟨c_f_0, c_f_1⟩ := bwc2 (k_f)
  obtain ⟨p3, hp3⟩ : ∃ p : BW W3, p.w = W3 := ⟨BW.start W3, rfl⟩
  rw [← hp3]
  clear hp3
  go_upto_region 8 with (first
    | (go_at_call 43; (first | (with_reducible refine (bw_call KH.out _).mono ?_)); rintro e w' ⟨rfl, q, rfl⟩))
  obtain ⟨W4, hW4⟩ : ∃ W, W = q.w.alloc (.cells #[.int .i64 hi, .int .i64 way] 32) := ⟨_, rfl⟩
  have B4 : Below w.heap.size w W4 := by rw [hW4]; exact (bw_below B3 q).alloc (bw_below B3 q).size _
  have l_l : g_f < q.w.heap.size := (k_f.below q.h).lt
  have o_l : w.heap.size ≤ q.w.heap.size := (bw_below B3 q).size
  have k_r := bka hW4 (k_r.below q.h)
  have k_s := bka hW4 (k_s.below q.h)
  have k_f := bka hW4 (k_f.below q.h)
  have k_l := bkn hW4
  rw [← hW4]
  clear hW4
  clear B3
  clear c_r_0 c_r_1 c_r_2 c_r_3 f_r_0 f_r_1 f_r_2 f_r_3 c_s_0 c_s_1 c_f_0 c_f_1
  generalize q.w.heap.size = g_l at *
  obtain ⟨c_r_0, c_r_1, c_r_2, c_r_3⟩ := bwc4 (k_r)
  obtain ⟨f_r_0, f_r_1, f_r_2, f_r_3⟩ := bwf4 (k_r)
  obtain ⟨c_s_0, c_s_1⟩ := bwc2 (k_s)
  obtain ⟨c_f_0, c_f_1⟩ := bwc2 (k_f)
  obtain ⟨c_l_0, c_l_1⟩ := bwc2 (k_l)
  obtain ⟨p4, hp4⟩ : ∃ p : BW W4, p.w = W4 := ⟨BW.start W4, rfl⟩
  rw [← hp4]
  clear hp4
  go_wp2
  have kr := bkp4 (k_r.below p4.h) (.int .i64 lo) (.int .i64 way) (.int .i64 hi) (.int .i64 way)
  obtain ⟨rc0, rc1, rc2, rc3⟩ := rwc4 kr
  exact bodyPost_ret (v := .agg #[.int .i64 lo, .int .i64 way, .int .i64 hi, .int .i64 way]) (by simp [results, Tryz.results57, go_sem, rc0, rc1, rc2, rc3]) rfl ⟨rfl, blp4 (bw_below B4 p4) (by omega)⟩

theorem box_between (lo hi way : Int) (w : World) (hl : -4194304 ≤ lo ∧ lo ≤ 4194304) (hh : -4194304 ≤ hi ∧ hi ≤ 4194304) (hy : -4194304 ≤ way ∧ way ≤ 4194304) :
    Calls Tryz.prog 57 #[.int .i64 lo, .int .i64 hi, .int .i64 way] w fun en w' => en = .returned (.agg #[.int .i64 (btw lo hi way).1.1, .int .i64 (btw lo hi way).1.2, .int .i64 (btw lo hi way).2.1, .int .i64 (btw lo hi way).2.2]) ∧ Below w.heap.size w w' := by
  unfold btw
  by_cases h0 : way = 0
  · subst h0
    rw [if_pos rfl]
    by_cases h : 0 < lo
    · rw [if_pos (.inl h)]; exact box_between_above lo hi w h
    · by_cases h2 : hi < 0
      · rw [if_pos (.inr h2)]; exact box_between_below lo hi w h h2
      · rw [if_neg (fun k => k.elim h h2)]; exact box_between_in lo hi w h h2
  · rw [if_neg h0]
    by_cases h : way < 0
    · rw [if_pos h]; exact box_between_neg lo hi way w h0 h hl hh hy
    · rw [if_neg h]; exact box_between_pos lo hi way w h0 h hl hh hy

end Go.Proofs.YtdmfmdekcojjbaaGreat
