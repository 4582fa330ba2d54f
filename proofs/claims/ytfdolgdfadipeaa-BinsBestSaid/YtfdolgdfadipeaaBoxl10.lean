/- Contracts of package box, below: lowest, highest, later, earlier, shared, empty, between, intervals, held. -/
import Derived.Test.YtfdolgdfadipeaaNum01
import Derived.Test.YtfdolgdfadipeaaFrac01
import Derived.Test.YtfdolgdfadipeaaVec06
import Derived.Test.YtfdolgdfadipeaaMath10
import Derived.Test.YtfdolgdfadipeaaMem06
import Derived.Test.YtfdolgdfadipeaaMem08
import Derived.Test.YtfdolgdfadipeaaBw
import Derived.Lib.MinMax
import Derived.Deep.DeepCutAuto
namespace Go.Proofs.Ytfdolgdfadipeaa
open Go.RowKit Go.Proofs.Sky
set_option linter.unusedVariables false

set_option maxRecDepth 100000 in
set_option maxHeartbeats 4000000 in
theorem box_lowest (a b c x y z : Int) (w : World) :
    Calls Try.prog 37 #[.agg #[.int .i64 a, .int .i64 b, .int .i64 c], .agg #[.int .i64 x, .int .i64 y, .int .i64 z]] w fun en w' => en = .returned (.agg #[.int .i64 (min a x), .int .i64 (min b y), .int .i64 (min c z)]) ∧ Below w.heap.size w w' := by
  obtain ⟨m1, e1⟩ : ∃ m, min a x = m := ⟨_, rfl⟩
  obtain ⟨m2, e2⟩ : ∃ m, min b y = m := ⟨_, rfl⟩
  obtain ⟨m3, e3⟩ : ∃ m, min c z = m := ⟨_, rfl⟩
  rw [e1, e2, e3]
  go_enter Try.func37, Try.ntmps37
  go_upto_region 1 with (fail)
  obtain ⟨W1, hW1⟩ : ∃ W, W = ((w.alloc (.cells #[.int .i64 a, .int .i64 b, .int .i64 c] 26)).alloc (.cells #[.int .i64 x, .int .i64 y, .int .i64 z] 26)).alloc (.cells #[.int .i64 0, .int .i64 0, .int .i64 0] 26) := ⟨_, rfl⟩
  obtain ⟨k_a, k_x, k_r, B1⟩ := st3 hW1
  rw [← hW1]
  clear hW1
  have l_x : w.heap.size < w.heap.size + 1 := by omega
  have l_r : w.heap.size + 1 < w.heap.size + 1 + 1 := by omega
  generalize w.heap.size + 1 + 1 = g_r at *
  generalize w.heap.size + 1 = g_x at *
  obtain ⟨c_a_0, c_a_1, c_a_2⟩ := bwc3 (k_a)
  obtain ⟨c_x_0, c_x_1, c_x_2⟩ := bwc3 (k_x)
  obtain ⟨c_r_0, c_r_1, c_r_2⟩ := bwc3 (k_r)
  obtain ⟨f_r_0, f_r_1, f_r_2⟩ := bwf3 (k_r)
  obtain ⟨p1, hp1⟩ : ∃ p : BW W1, p.w = W1 := ⟨BW.start W1, rfl⟩
  rw [← hp1]
  clear hp1
  go_wp2
  have kr := bkp3 (k_r.below p1.h) (.int .i64 m1) (.int .i64 m2) (.int .i64 m3)
  obtain ⟨rc0, rc1, rc2⟩ := rwc3 kr
  exact bodyPost_ret (v := .agg #[.int .i64 m1, .int .i64 m2, .int .i64 m3]) (by simp [results, Try.results37, go_sem, rc0, rc1, rc2]) rfl ⟨rfl, blp3 (bw_below B1 p1) (by omega)⟩

set_option maxRecDepth 100000 in
set_option maxHeartbeats 4000000 in
theorem box_highest (a b c x y z : Int) (w : World) :
    Calls Try.prog 45 #[.agg #[.int .i64 a, .int .i64 b, .int .i64 c], .agg #[.int .i64 x, .int .i64 y, .int .i64 z]] w fun en w' => en = .returned (.agg #[.int .i64 (max a x), .int .i64 (max b y), .int .i64 (max c z)]) ∧ Below w.heap.size w w' := by
  obtain ⟨m1, e1⟩ : ∃ m, max a x = m := ⟨_, rfl⟩
  obtain ⟨m2, e2⟩ : ∃ m, max b y = m := ⟨_, rfl⟩
  obtain ⟨m3, e3⟩ : ∃ m, max c z = m := ⟨_, rfl⟩
  rw [e1, e2, e3]
  go_enter Try.func45, Try.ntmps45
  go_upto_region 1 with (fail)
  obtain ⟨W1, hW1⟩ : ∃ W, W = ((w.alloc (.cells #[.int .i64 a, .int .i64 b, .int .i64 c] 26)).alloc (.cells #[.int .i64 x, .int .i64 y, .int .i64 z] 26)).alloc (.cells #[.int .i64 0, .int .i64 0, .int .i64 0] 26) := ⟨_, rfl⟩
  obtain ⟨k_a, k_x, k_r, B1⟩ := st3 hW1
  rw [← hW1]
  clear hW1
  have l_x : w.heap.size < w.heap.size + 1 := by omega
  have l_r : w.heap.size + 1 < w.heap.size + 1 + 1 := by omega
  generalize w.heap.size + 1 + 1 = g_r at *
  generalize w.heap.size + 1 = g_x at *
  obtain ⟨c_a_0, c_a_1, c_a_2⟩ := bwc3 (k_a)
  obtain ⟨c_x_0, c_x_1, c_x_2⟩ := bwc3 (k_x)
  obtain ⟨c_r_0, c_r_1, c_r_2⟩ := bwc3 (k_r)
  obtain ⟨f_r_0, f_r_1, f_r_2⟩ := bwf3 (k_r)
  obtain ⟨p1, hp1⟩ : ∃ p : BW W1, p.w = W1 := ⟨BW.start W1, rfl⟩
  rw [← hp1]
  clear hp1
  go_wp2
  have kr := bkp3 (k_r.below p1.h) (.int .i64 m1) (.int .i64 m2) (.int .i64 m3)
  obtain ⟨rc0, rc1, rc2⟩ := rwc3 kr
  exact bodyPost_ret (v := .agg #[.int .i64 m1, .int .i64 m2, .int .i64 m3]) (by simp [results, Try.results45, go_sem, rc0, rc1, rc2]) rfl ⟨rfl, blp3 (bw_below B1 p1) (by omega)⟩

end Go.Proofs.Ytfdolgdfadipeaa
