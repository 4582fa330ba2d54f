/- Contracts of package tri: the exported functions. -/
import Derived.Test.YtneacfhoinaeeaaMc25
import Derived.Test.YtneacfhoinaeeaaMc19
import Derived.Test.YtneacfhoinaeeaaMc4
import Derived.Test.YtneacfhoinaeeaaMc8


namespace Go.Proofs.Ytneacfhoinaeeaa
section

open Go.RowKit Go.Proofs.Sky

set_option linter.unusedVariables false

set_option linter.unusedSimpArgs false

set_option maxRecDepth 100000 in
set_option maxHeartbeats 4000000 in
theorem tri_Flat_0 (a1 a2 a3 b1 b2 b3 c1 c2 c3 : Int) (w : World) (h : ¬ (uprT (a1, a2, a3) (b1, b2, b3) (c1, c2, c3)).1 = 0) :
    Calls Try.prog 38 #[.agg #[.int .i64 a1, .int .i64 a2, .int .i64 a3], .agg #[.int .i64 b1, .int .i64 b2, .int .i64 b3], .agg #[.int .i64 c1, .int .i64 c2, .int .i64 c3]] w fun en w' => en = .returned (.bool false) ∧ Below w.heap.size w w' := by
  have K := Lib.hid (fun w => tri_upright a1 a2 a3 b1 b2 b3 c1 c2 c3 w)
  generalize uprT (a1, a2, a3) (b1, b2, b3) (c1, c2, c3) = U at *
  obtain ⟨u1, u2, u3⟩ := U
  dsimp only at K h
  go_enter Try.func38, Try.ntmps38
  go_upto_region 1 with (fail)
  obtain ⟨W1, hW1⟩ : ∃ W, W = ((w.alloc (.cells #[.int .i64 a1, .int .i64 a2, .int .i64 a3] 23)).alloc (.cells #[.int .i64 b1, .int .i64 b2, .int .i64 b3] 23)).alloc (.cells #[.int .i64 c1, .int .i64 c2, .int .i64 c3] 23) := ⟨_, rfl⟩
  obtain ⟨k_a, k_b, k_c, B1⟩ := st3 hW1
  rw [← hW1]
  clear hW1
  have l_b : w.heap.size < w.heap.size + 1 := by omega
  have l_c : w.heap.size + 1 < w.heap.size + 1 + 1 := by omega
  generalize w.heap.size + 1 + 1 = g_c at *
  generalize w.heap.size + 1 = g_b at *
  obtain ⟨c_a_0, c_a_1, c_a_2⟩ := bwc3 (k_a)
  obtain ⟨c_b_0, c_b_1, c_b_2⟩ := bwc3 (k_b)
  obtain ⟨c_c_0, c_c_1, c_c_2⟩ := bwc3 (k_c)
  obtain ⟨p1, hp1⟩ : ∃ p : BW W1, p.w = W1 := ⟨BW.start W1, rfl⟩
  rw [← hp1]
  clear hp1
  go_wp2_with (first
    | (go_at_call 54; (first | (with_reducible refine (bw_call K.out _).mono ?_)); rintro e w' ⟨rfl, q, rfl⟩))
  go_ret
  exact ⟨rfl, bw_below B1 _⟩

set_option maxRecDepth 100000 in
set_option maxHeartbeats 4000000 in
theorem tri_Flat_1 (a1 a2 a3 b1 b2 b3 c1 c2 c3 : Int) (w : World) (h : (uprT (a1, a2, a3) (b1, b2, b3) (c1, c2, c3)).1 = 0 ∧ ¬ (uprT (a1, a2, a3) (b1, b2, b3) (c1, c2, c3)).2.1 = 0) :
    Calls Try.prog 38 #[.agg #[.int .i64 a1, .int .i64 a2, .int .i64 a3], .agg #[.int .i64 b1, .int .i64 b2, .int .i64 b3], .agg #[.int .i64 c1, .int .i64 c2, .int .i64 c3]] w fun en w' => en = .returned (.bool false) ∧ Below w.heap.size w w' := by
  have K := Lib.hid (fun w => tri_upright a1 a2 a3 b1 b2 b3 c1 c2 c3 w)
  generalize uprT (a1, a2, a3) (b1, b2, b3) (c1, c2, c3) = U at *
  obtain ⟨u1, u2, u3⟩ := U
  dsimp only at K h
  obtain ⟨rfl, h⟩ := h
  go_enter Try.func38, Try.ntmps38
  go_upto_region 1 with (fail)
  obtain ⟨W1, hW1⟩ : ∃ W, W = ((w.alloc (.cells #[.int .i64 a1, .int .i64 a2, .int .i64 a3] 23)).alloc (.cells #[.int .i64 b1, .int .i64 b2, .int .i64 b3] 23)).alloc (.cells #[.int .i64 c1, .int .i64 c2, .int .i64 c3] 23) := ⟨_, rfl⟩
  obtain ⟨k_a, k_b, k_c, B1⟩ := st3 hW1
  rw [← hW1]
  clear hW1
  have l_b : w.heap.size < w.heap.size + 1 := by omega
  have l_c : w.heap.size + 1 < w.heap.size + 1 + 1 := by omega
  generalize w.heap.size + 1 + 1 = g_c at *
  generalize w.heap.size + 1 = g_b at *
  obtain ⟨c_a_0, c_a_1, c_a_2⟩ := bwc3 (k_a)
  obtain ⟨c_b_0, c_b_1, c_b_2⟩ := bwc3 (k_b)
  obtain ⟨c_c_0, c_c_1, c_c_2⟩ := bwc3 (k_c)
  obtain ⟨p1, hp1⟩ : ∃ p : BW W1, p.w = W1 := ⟨BW.start W1, rfl⟩
  rw [← hp1]
  clear hp1
  go_wp2_with (first
    | (go_at_call 54; (first | (with_reducible refine (bw_call K.out _).mono ?_)); rintro e w' ⟨rfl, q, rfl⟩))
  go_ret
  exact ⟨rfl, bw_below B1 _⟩

set_option maxRecDepth 100000 in
set_option maxHeartbeats 4000000 in
theorem tri_Flat_2 (a1 a2 a3 b1 b2 b3 c1 c2 c3 : Int) (w : World) (h : (uprT (a1, a2, a3) (b1, b2, b3) (c1, c2, c3)).1 = 0 ∧ (uprT (a1, a2, a3) (b1, b2, b3) (c1, c2, c3)).2.1 = 0 ∧ ¬ (uprT (a1, a2, a3) (b1, b2, b3) (c1, c2, c3)).2.2 = 0) :
    Calls Try.prog 38 #[.agg #[.int .i64 a1, .int .i64 a2, .int .i64 a3], .agg #[.int .i64 b1, .int .i64 b2, .int .i64 b3], .agg #[.int .i64 c1, .int .i64 c2, .int .i64 c3]] w fun en w' => en = .returned (.bool false) ∧ Below w.heap.size w w' := by
  have K := Lib.hid (fun w => tri_upright a1 a2 a3 b1 b2 b3 c1 c2 c3 w)
  generalize uprT (a1, a2, a3) (b1, b2, b3) (c1, c2, c3) = U at *
  obtain ⟨u1, u2, u3⟩ := U
  dsimp only at K h
  obtain ⟨rfl, rfl, h⟩ := h
  go_enter Try.func38, Try.ntmps38
  go_upto_region 1 with (fail)
  obtain ⟨W1, hW1⟩ : ∃ W, W = ((w.alloc (.cells #[.int .i64 a1, .int .i64 a2, .int .i64 a3] 23)).alloc (.cells #[.int .i64 b1, .int .i64 b2, .int .i64 b3] 23)).alloc (.cells #[.int .i64 c1, .int .i64 c2, .int .i64 c3] 23) := ⟨_, rfl⟩
  obtain ⟨k_a, k_b, k_c, B1⟩ := st3 hW1
  rw [← hW1]
  clear hW1
  have l_b : w.heap.size < w.heap.size + 1 := by omega
  have l_c : w.heap.size + 1 < w.heap.size + 1 + 1 := by omega
  generalize w.heap.size + 1 + 1 = g_c at *
  generalize w.heap.size + 1 = g_b at *
  obtain ⟨c_a_0, c_a_1, c_a_2⟩ := bwc3 (k_a)
  obtain ⟨c_b_0, c_b_1, c_b_2⟩ := bwc3 (k_b)
  obtain ⟨c_c_0, c_c_1, c_c_2⟩ := bwc3 (k_c)
  obtain ⟨p1, hp1⟩ : ∃ p : BW W1, p.w = W1 := ⟨BW.start W1, rfl⟩
  rw [← hp1]
  clear hp1
  go_wp2_with (first
    | (go_at_call 54; (first | (with_reducible refine (bw_call K.out _).mono ?_)); rintro e w' ⟨rfl, q, rfl⟩))
  go_ret
  exact ⟨rfl, bw_below B1 _⟩

set_option maxRecDepth 100000 in
set_option maxHeartbeats 4000000 in
theorem tri_Flat_3 (a1 a2 a3 b1 b2 b3 c1 c2 c3 : Int) (w : World) (h : (uprT (a1, a2, a3) (b1, b2, b3) (c1, c2, c3)).1 = 0 ∧ (uprT (a1, a2, a3) (b1, b2, b3) (c1, c2, c3)).2.1 = 0 ∧ (uprT (a1, a2, a3) (b1, b2, b3) (c1, c2, c3)).2.2 = 0) :
    Calls Try.prog 38 #[.agg #[.int .i64 a1, .int .i64 a2, .int .i64 a3], .agg #[.int .i64 b1, .int .i64 b2, .int .i64 b3], .agg #[.int .i64 c1, .int .i64 c2, .int .i64 c3]] w fun en w' => en = .returned (.bool true) ∧ Below w.heap.size w w' := by
  have K := Lib.hid (fun w => tri_upright a1 a2 a3 b1 b2 b3 c1 c2 c3 w)
  generalize uprT (a1, a2, a3) (b1, b2, b3) (c1, c2, c3) = U at *
  obtain ⟨u1, u2, u3⟩ := U
  dsimp only at K h
  obtain ⟨rfl, rfl, rfl⟩ := h
  go_enter Try.func38, Try.ntmps38
  go_upto_region 1 with (fail)
  obtain ⟨W1, hW1⟩ : ∃ W, W = ((w.alloc (.cells #[.int .i64 a1, .int .i64 a2, .int .i64 a3] 23)).alloc (.cells #[.int .i64 b1, .int .i64 b2, .int .i64 b3] 23)).alloc (.cells #[.int .i64 c1, .int .i64 c2, .int .i64 c3] 23) := ⟨_, rfl⟩
  obtain ⟨k_a, k_b, k_c, B1⟩ := st3 hW1
  rw [← hW1]
  clear hW1
  have l_b : w.heap.size < w.heap.size + 1 := by omega
  have l_c : w.heap.size + 1 < w.heap.size + 1 + 1 := by omega
  generalize w.heap.size + 1 + 1 = g_c at *
  generalize w.heap.size + 1 = g_b at *
  obtain ⟨c_a_0, c_a_1, c_a_2⟩ := bwc3 (k_a)
  obtain ⟨c_b_0, c_b_1, c_b_2⟩ := bwc3 (k_b)
  obtain ⟨c_c_0, c_c_1, c_c_2⟩ := bwc3 (k_c)
  obtain ⟨p1, hp1⟩ : ∃ p : BW W1, p.w = W1 := ⟨BW.start W1, rfl⟩
  rw [← hp1]
  clear hp1
  go_wp2_with (first
    | (go_at_call 54; (first | (with_reducible refine (bw_call K.out _).mono ?_)); rintro e w' ⟨rfl, q, rfl⟩))
  go_ret
  exact ⟨rfl, bw_below B1 _⟩

theorem tri_Flat (a1 a2 a3 b1 b2 b3 c1 c2 c3 : Int) (w : World) (ha : I3 (a1, a2, a3)) (hb : I3 (b1, b2, b3)) (hc : I3 (c1, c2, c3)) :
    Calls Try.prog 38 #[.agg #[.int .i64 a1, .int .i64 a2, .int .i64 a3], .agg #[.int .i64 b1, .int .i64 b2, .int .i64 b3], .agg #[.int .i64 c1, .int .i64 c2, .int .i64 c3]] w fun en w' => en = .returned (.bool (tFlat (a1, a2, a3) (b1, b2, b3) (c1, c2, c3))) ∧ Below w.heap.size w w' := by
  rw [flat_upr]
  unfold isZ
  by_cases e1 : (uprT (a1, a2, a3) (b1, b2, b3) (c1, c2, c3)).1 = 0
  · by_cases e2 : (uprT (a1, a2, a3) (b1, b2, b3) (c1, c2, c3)).2.1 = 0
    · by_cases e3 : (uprT (a1, a2, a3) (b1, b2, b3) (c1, c2, c3)).2.2 = 0
      · rw [decide_eq_true ⟨e1, e2, e3⟩]; exact tri_Flat_3 a1 a2 a3 b1 b2 b3 c1 c2 c3 w ⟨e1, e2, e3⟩
      · rw [decide_eq_false (fun e => e3 e.2.2)]; exact tri_Flat_2 a1 a2 a3 b1 b2 b3 c1 c2 c3 w ⟨e1, e2, e3⟩
    · rw [decide_eq_false (fun e => e2 e.2.1)]; exact tri_Flat_1 a1 a2 a3 b1 b2 b3 c1 c2 c3 w ⟨e1, e2⟩
  · rw [decide_eq_false (fun e => e1 e.1)]; exact tri_Flat_0 a1 a2 a3 b1 b2 b3 c1 c2 c3 w e1

end
end Go.Proofs.Ytneacfhoinaeeaa
