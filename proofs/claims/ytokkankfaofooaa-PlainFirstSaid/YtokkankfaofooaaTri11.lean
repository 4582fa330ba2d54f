/- Contracts of package tri: the exported functions. -/
import Derived.Test.YtokkankfaofooaaTril11
import Derived.Test.YtokkankfaofooaaFrac01
import Derived.Test.YtokkankfaofooaaWide01
import Derived.Test.YtokkankfaofooaaNum01
import Derived.Test.YtokkankfaofooaaFloat
namespace Go.Proofs.Ytokkankfaofooaa
open Go.RowKit Go.Proofs.Sky
set_option linter.unusedVariables false
set_option linter.unusedSimpArgs false

set_option maxRecDepth 100000 in
set_option maxHeartbeats 4000000 in
theorem tri_Flat_0 (a1 a2 a3 b1 b2 b3 c1 c2 c3 : Int) (w : World) (h : ¬ (uprT (a1, a2, a3) (b1, b2, b3) (c1, c2, c3)).1 = 0) :
    Calls Try.prog 95 #[.agg #[.int .i64 a1, .int .i64 a2, .int .i64 a3], .agg #[.int .i64 b1, .int .i64 b2, .int .i64 b3], .agg #[.int .i64 c1, .int .i64 c2, .int .i64 c3]] w fun en w' => en = .returned (.bool false) ∧ Below w.heap.size w w' := by
  have K := Lib.hid (fun w => tri_upright a1 a2 a3 b1 b2 b3 c1 c2 c3 w)
  generalize uprT (a1, a2, a3) (b1, b2, b3) (c1, c2, c3) = U at *
  obtain ⟨u1, u2, u3⟩ := U
  dsimp only at K h
  go_enter Try.func95, Try.ntmps95
  go_upto_region 1 with (fail)
  obtain ⟨W1, hW1⟩ : ∃ W, W = ((w.alloc (.cells #[.int .i64 a1, .int .i64 a2, .int .i64 a3] 24)).alloc (.cells #[.int .i64 b1, .int .i64 b2, .int .i64 b3] 24)).alloc (.cells #[.int .i64 c1, .int .i64 c2, .int .i64 c3] 24) := ⟨_, rfl⟩
  obtain ⟨k_a, k_b, k_c, B1⟩ := st3 hW1
  rw [← hW1]
  clear hW1
  have l_b : w.heap.size < w.heap.size + 1 := by omega
  have l_c : w.heap.size + 1 < w.heap.size + 1 + 1 := by omega
  generalize w.heap.size + 1 + 1 = g_c at *
  generalize w.heap.size + 1 = g_b at *
  obtain ⟨c_a_0, c_a_1, c_a_2⟩ := bwc3 (k_a)
  obtain ⟨c_b_0, c_b_1, c_b_2⟩ := bwc3 (k_b)
  obtain ⟨c_c_0, c_c_1, c_c_2⟩ := bwc3 (k_c)
  obtain ⟨p1, hp1⟩ : ∃ p : BW W1, p.w = W1 := ⟨BW.start W1, rfl⟩
  rw [← hp1]
  clear hp1
  go_wp2_with (first
    | (go_at_call 96; (first | (with_reducible refine (bw_call K.out _).mono ?_)); rintro e w' ⟨rfl, q, rfl⟩))
  go_ret
  exact ⟨rfl, bw_below B1 _⟩

set_option maxRecDepth 100000 in
set_option maxHeartbeats 4000000 in
theorem tri_Flat_1 (a1 a2 a3 b1 b2 b3 c1 c2 c3 : Int) (w : World) (h : (uprT (a1, a2, a3) (b1, b2, b3) (c1, c2, c3)).1 = 0 ∧ ¬ (uprT (a1, a2, a3) (b1, b2, b3) (c1, c2, c3)).2.1 = 0) :
    Calls Try.prog 95 #[.agg #[.int .i64 a1, .int .i64 a2, .int .i64 a3], .agg #[.int .i64 b1, .int .i64 b2, .int .i64 b3], .agg #[.int .i64 c1, .int .i64 c2, .int .i64 c3]] w fun en w' => en = .returned (.bool false) ∧ Below w.heap.size w w' := by
  have K := Lib.hid (fun w => tri_upright a1 a2 a3 b1 b2 b3 c1 c2 c3 w)
  generalize uprT (a1, a2, a3) (b1, b2, b3) (c1, c2, c3) = U at *
  obtain ⟨u1, u2, u3⟩ := U
  dsimp only at K h
  obtain ⟨rfl, h⟩ := h
  go_enter Try.func95, Try.ntmps95
  go_upto_region 1 with (fail)
  obtain ⟨W1, hW1⟩ : ∃ W, W = ((w.alloc (.cells #[.int .i64 a1, .int .i64 a2, .int .i64 a3] 24)).alloc (.cells #[.int .i64 b1, .int .i64 b2, .int .i64 b3] 24)).alloc (.cells #[.int .i64 c1, .int .i64 c2, .int .i64 c3] 24) := ⟨_, rfl⟩
  obtain ⟨k_a, k_b, k_c, B1⟩ := st3 hW1
  rw [← hW1]
  clear hW1
  have l_b : w.heap.size < w.heap.size + 1 := by omega
  have l_c : w.heap.size + 1 < w.heap.size + 1 + 1 := by omega
  generalize w.heap.size + 1 + 1 = g_c at *
  generalize w.heap.size + 1 = g_b at *
  obtain ⟨c_a_0, c_a_1, c_a_2⟩ := bwc3 (k_a)
  obtain ⟨c_b_0, c_b_1, c_b_2⟩ := bwc3 (k_b)
  obtain ⟨c_c_0, c_c_1, c_c_2⟩ := bwc3 (k_c)
  obtain ⟨p1, hp1⟩ : ∃ p : BW W1, p.w = W1 := ⟨BW.start W1, rfl⟩
  rw [← hp1]
  clear hp1
  go_wp2_with (first
    | (go_at_call 96; (first | (with_reducible refine (bw_call K.out _).mono ?_)); rintro e w' ⟨rfl, q, rfl⟩))
  go_ret
  exact ⟨rfl, bw_below B1 _⟩

set_option maxRecDepth 100000 in
set_option maxHeartbeats 4000000 in
theorem tri_Flat_2 (a1 a2 a3 b1 b2 b3 c1 c2 c3 : Int) (w : World) (h : (uprT (a1, a2, a3) (b1, b2, b3) (c1, c2, c3)).1 = 0 ∧ (uprT (a1, a2, a3) (b1, b2, b3) (c1, c2, c3)).2.1 = 0 ∧ ¬ (uprT (a1, a2, a3) (b1, b2, b3) (c1, c2, c3)).2.2 = 0) :
    Calls Try.prog 95 #[.agg #[.int .i64 a1, .int .i64 a2, .int .i64 a3], .agg #[.int .i64 b1, .int .i64 b2, .int .i64 b3], .agg #[.int .i64 c1, .int .i64 c2, .int .i64 c3]] w fun en w' => en = .returned (.bool false) ∧ Below w.heap.size w w' := by
  have K := Lib.hid (fun w => tri_upright a1 a2 a3 b1 b2 b3 c1 c2 c3 w)
  generalize uprT (a1, a2, a3) (b1, b2, b3) (c1, c2, c3) = U at *
  obtain ⟨u1, u2, u3⟩ := U
  dsimp only at K h
  obtain ⟨rfl, rfl, h⟩ := h
  go_enter Try.func95, Try.ntmps95
  go_upto_region 1 with (fail)
  obtain ⟨W1, hW1⟩ : ∃ W, W = ((w.alloc (.cells #[.int .i64 a1, .int .i64 a2, .int .i64 a3] 24)).alloc (.cells #[.int .i64 b1, .int .i64 b2, .int .i64 b3] 24)).alloc (.cells #[.int .i64 c1, .int .i64 c2, .int .i64 c3] 24) := ⟨_, rfl⟩
  obtain ⟨k_a, k_b, k_c, B1⟩ := st3 hW1
  rw [← hW1]
  clear hW1
  have l_b : w.heap.size < w.heap.size + 1 := by omega
  have l_c : w.heap.size + 1 < w.heap.size + 1 + 1 := by omega
  generalize w.heap.size + 1 + 1 = g_c at *
  generalize w.heap.size + 1 = g_b at *
  obtain ⟨c_a_0, c_a_1, c_a_2⟩ := bwc3 (k_a)
  obtain ⟨c_b_0, c_b_1, c_b_2⟩ := bwc3 (k_b)
  obtain ⟨c_c_0, c_c_1, c_c_2⟩ := bwc3 (k_c)
  obtain ⟨p1, hp1⟩ : ∃ p : BW W1, p.w = W1 := ⟨BW.start W1, rfl⟩
  rw [← hp1]
  clear hp1
  go_wp2_with (first
    | (go_at_call 96; (first | (with_reducible refine (bw_call K.out _).mono ?_)); rintro e w' ⟨rfl, q, rfl⟩))
  go_ret
  exact ⟨rfl, bw_below B1 _⟩

set_option maxRecDepth 100000 in
set_option maxHeartbeats 4000000 in
theorem tri_Flat_3 (a1 a2 a3 b1 b2 b3 c1 c2 c3 : Int) (w : World) (h : (uprT (a1, a2, a3) (b1, b2, b3) (c1, c2, c3)).1 = 0 ∧ (uprT (a1, a2, a3) (b1, b2, b3) (c1, c2, c3)).2.1 = 0 ∧ (uprT (a1, a2, a3) (b1, b2, b3) (c1, c2, c3)).2.2 = 0) :
    Calls Try.prog 95 #[.agg #[.int .i64 a1, .int .i64 a2, .int .i64 a3], .agg #[.int .i64 b1, .int .i64 b2, .int .i64 b3], .agg #[.int .i64 c1, .int .i64 c2, .int .i64 c3]] w fun en w' => en = .returned (.bool true) ∧ Below w.heap.size w w' := by
  have K := Lib.hid (fun w => tri_upright a1 a2 a3 b1 b2 b3 c1 c2 c3 w)
  generalize uprT (a1, a2, a3) (b1, b2, b3) (c1, c2, c3) = U at *
  obtain ⟨u1, u2, u3⟩ := U
  dsimp only at K h
  obtain ⟨rfl, rfl, rfl⟩ := h
  go_enter Try.func95, Try.ntmps95
  go_upto_region 1 with (fail)
  obtain ⟨W1, hW1⟩ : ∃ W, W = ((w.alloc (.cells #[.int .i64 a1, .int .i64 a2, .int .i64 a3] 24)).alloc (.cells #[.int .i64 b1, .int .i64 b2, .int .i64 b3] 24)).alloc (.cells #[.int .i64 c1, .int .i64 c2, .int .i64 c3] 24) := ⟨_, rfl⟩
  obtain ⟨k_a, k_b, k_c, B1⟩ := st3 hW1
  rw [← hW1]
  clear hW1
  have l_b : w.heap.size < w.heap.size + 1 := by omega
  have l_c : w.heap.size + 1 < w.heap.size + 1 + 1 := by omega
  generalize w.heap.size + 1 + 1 = g_c at *
  generalize w.heap.size + 1 = g_b at *
  obtain ⟨c_a_0, c_a_1, c_a_2⟩ := bwc3 (k_a)
  obtain ⟨c_b_0, c_b_1, c_b_2⟩ := bwc3 (k_b)
  obtain ⟨c_c_0, c_c_1, c_c_2⟩ := bwc3 (k_c)
  obtain ⟨p1, hp1⟩ : ∃ p : BW W1, p.w = W1 := ⟨BW.start W1, rfl⟩
  rw [← hp1]
  clear hp1
  go_wp2_with (first
    | (go_at_call 96; (first | (with_reducible refine (bw_call K.out _).mono ?_)); rintro e w' ⟨rfl, q, rfl⟩))
  go_ret
  exact ⟨rfl, bw_below B1 _⟩

theorem tri_Flat (a1 a2 a3 b1 b2 b3 c1 c2 c3 : Int) (w : World) (ha : I3 (a1, a2, a3)) (hb : I3 (b1, b2, b3)) (hc : I3 (c1, c2, c3)) :
    Calls Try.prog 95 #[.agg #[.int .i64 a1, .int .i64 a2, .int .i64 a3], .agg #[.int .i64 b1, .int .i64 b2, .int .i64 b3], .agg #[.int .i64 c1, .int .i64 c2, .int .i64 c3]] w fun en w' => en = .returned (.bool (tFlat (a1, a2, a3) (b1, b2, b3) (c1, c2, c3))) ∧ Below w.heap.size w w' := by
  rw [flat_upr]
  unfold isZ
  by_cases e1 : (uprT (a1, a2, a3) (b1, b2, b3) (c1, c2, c3)).1 = 0
  · by_cases e2 : (uprT (a1, a2, a3) (b1, b2, b3) (c1, c2, c3)).2.1 = 0
    · by_cases e3 : (uprT (a1, a2, a3) (b1, b2, b3) (c1, c2, c3)).2.2 = 0
      · rw [decide_eq_true ⟨e1, e2, e3⟩]; exact tri_Flat_3 a1 a2 a3 b1 b2 b3 c1 c2 c3 w ⟨e1, e2, e3⟩
      · rw [decide_eq_false (fun e => e3 e.2.2)]; exact tri_Flat_2 a1 a2 a3 b1 b2 b3 c1 c2 c3 w ⟨e1, e2, e3⟩
    · rw [decide_eq_false (fun e => e2 e.2.1)]; exact tri_Flat_1 a1 a2 a3 b1 b2 b3 c1 c2 c3 w ⟨e1, e2⟩
  · rw [decide_eq_false (fun e => e1 e.1)]; exact tri_Flat_0 a1 a2 a3 b1 b2 b3 c1 c2 c3 w e1

set_option maxRecDepth 100000 in
set_option maxHeartbeats 4000000 in
theorem tri_Hit_no (a1 a2 a3 b1 b2 b3 c1 c2 c3 o1 o2 o3 d1 d2 d3 fr : Int) (w : World) (hp : (pl3 (a1, a2, a3) (b1, b2, b3) (c1, c2, c3) && plc (o1, o2, o3)) = false) :
    Calls Try.prog 30 #[.agg #[.int .i64 a1, .int .i64 a2, .int .i64 a3], .agg #[.int .i64 b1, .int .i64 b2, .int .i64 b3], .agg #[.int .i64 c1, .int .i64 c2, .int .i64 c3], .agg #[.int .i64 o1, .int .i64 o2, .int .i64 o3, .int .i64 d1, .int .i64 d2, .int .i64 d3, .int .i64 fr]] w fun en w' => en = .returned (.tuple #[.agg #[.int .i64 0, .int .i64 0], .bool false]) ∧ Below w.heap.size w w' := by
  go_enter Try.func30, Try.ntmps30
  go_upto_region 1 with (fail)
  obtain ⟨W1, hW1⟩ : ∃ W, W = ((((w.alloc (.cells #[.int .i64 a1, .int .i64 a2, .int .i64 a3] 24)).alloc (.cells #[.int .i64 b1, .int .i64 b2, .int .i64 b3] 24)).alloc (.cells #[.int .i64 c1, .int .i64 c2, .int .i64 c3] 24)).alloc (.cells #[.int .i64 o1, .int .i64 o2, .int .i64 o3, .int .i64 d1, .int .i64 d2, .int .i64 d3, .int .i64 fr] 28)).alloc (.cells #[.int .i64 0, .int .i64 0] 30) := ⟨_, rfl⟩
  obtain ⟨k_a, k_b, k_c, k_y, k_r, B1⟩ := st5 hW1
  rw [← hW1]
  clear hW1
  have l_b : w.heap.size < w.heap.size + 1 := by omega
  have l_c : w.heap.size + 1 < w.heap.size + 1 + 1 := by omega
  have l_y : w.heap.size + 1 + 1 < w.heap.size + 1 + 1 + 1 := by omega
  have l_r : w.heap.size + 1 + 1 + 1 < w.heap.size + 1 + 1 + 1 + 1 := by omega
  generalize w.heap.size + 1 + 1 + 1 + 1 = g_r at *
  generalize w.heap.size + 1 + 1 + 1 = g_y at *
  generalize w.heap.size + 1 + 1 = g_c at *
  generalize w.heap.size + 1 = g_b at *
  obtain ⟨c_a_0, c_a_1, c_a_2⟩ := bwc3 (k_a)
  obtain ⟨c_b_0, c_b_1, c_b_2⟩ := bwc3 (k_b)
  obtain ⟨c_c_0, c_c_1, c_c_2⟩ := bwc3 (k_c)
  obtain ⟨c_y_0, c_y_1, c_y_2, c_y_3, c_y_4, c_y_5, c_y_6⟩ := bwc7 (k_y)
  obtain ⟨c_r_0, c_r_1⟩ := bwc2 (k_r)
  obtain ⟨f_r_0, f_r_1⟩ := bwf2 (k_r)
  obtain ⟨p1, hp1⟩ : ∃ p : BW W1, p.w = W1 := ⟨BW.start W1, rfl⟩
  rw [← hp1]
  clear hp1
  have KC : ∀ p : BW W1, Calls Try.prog 36 #[.slice (some ⟨p.w.heap.size, 0, none⟩) 4 4] (p.w.alloc (.cells #[.int .i64 a1, .int .i64 a2, .int .i64 a3, .int .i64 b1, .int .i64 b2, .int .i64 b3, .int .i64 c1, .int .i64 c2, .int .i64 c3, .int .i64 o1, .int .i64 o2, .int .i64 o3] 24)) fun e w' => e = .returned (.bool false) ∧ ∃ q : BW W1, w' = q.w := fun p =>
    (tri_places4 4 a1 a2 a3 b1 b2 b3 c1 c2 c3 o1 o2 o3 W1 p.w _ rfl p.h).mono fun e w' h => ⟨by rw [hp] at h; exact h.1, ⟨w', h.2⟩, rfl⟩
  clear hp
  go_wp2_with (go_at_call 36; (with_reducible refine (KC _).mono ?_); rintro e w' ⟨rfl, q, rfl⟩)
  have kr := bkp2 (k_r.below q.h) (.int .i64 0) (.int .i64 0)
  obtain ⟨rc0, rc1⟩ := rwc2 kr
  exact bodyPost_ret (v := .tuple #[.agg #[.int .i64 0, .int .i64 0], .bool false]) (by simp [results, Try.results30, go_sem, rc0, rc1]) rfl ⟨rfl, blp2 (bw_below B1 q) (by omega)⟩

set_option maxRecDepth 100000 in
set_option maxHeartbeats 4000000 in
theorem tri_Hit_nok (a1 a2 a3 b1 b2 b3 c1 c2 c3 o1 o2 o3 d1 d2 d3 fr : Int) (w : World) (hp : (pl3 (a1, a2, a3) (b1, b2, b3) (c1, c2, c3) && plc (o1, o2, o3)) = true) (hk : fmakeOk (vvol (b1 - a1) (b2 - a2) (b3 - a3) (c1 - a1) (c2 - a2) (c3 - a3) (a1 - o1) (a2 - o2) (a3 - o3)) (vvol (b1 - a1) (b2 - a2) (b3 - a3) (c1 - a1) (c2 - a2) (c3 - a3) d1 d2 d3) = false) :
    Calls Try.prog 30 #[.agg #[.int .i64 a1, .int .i64 a2, .int .i64 a3], .agg #[.int .i64 b1, .int .i64 b2, .int .i64 b3], .agg #[.int .i64 c1, .int .i64 c2, .int .i64 c3], .agg #[.int .i64 o1, .int .i64 o2, .int .i64 o3, .int .i64 d1, .int .i64 d2, .int .i64 d3, .int .i64 fr]] w fun en w' => en = .returned (.tuple #[.agg #[.int .i64 0, .int .i64 0], .bool false]) ∧ Below w.heap.size w w' := by
  obtain ⟨h0, h4⟩ := Bool.and_eq_true_iff.1 hp
  obtain ⟨h1, h2, h3⟩ := pl3_iff.1 h0
  have q1 := plc_iff.1 h1
  dsimp only at q1
  have q2 := plc_iff.1 h2
  dsimp only at q2
  have q3 := plc_iff.1 h3
  dsimp only at q3
  have q4 := plc_iff.1 h4
  dsimp only at q4
  have vb := @vvol_61
  have i1 := vb (b1 - a1) (b2 - a2) (b3 - a3) (c1 - a1) (c2 - a2) (c3 - a3) (a1 - o1) (a2 - o2) (a3 - o3)
  have i2 := vb (b1 - a1) (b2 - a2) (b3 - a3) (c1 - a1) (c2 - a2) (c3 - a3) d1 d2 d3
  have KM := Lib.hid (fun w => frac_Make (vvol (b1 - a1) (b2 - a2) (b3 - a3) (c1 - a1) (c2 - a2) (c3 - a3) (a1 - o1) (a2 - o2) (a3 - o3)) (vvol (b1 - a1) (b2 - a2) (b3 - a3) (c1 - a1) (c2 - a2) (c3 - a3) d1 d2 d3) w (by unfold I64; omega) (by unfold I64; omega))
  rw [hk] at KM
  clear vb i1 i2
  have KU := Lib.hid (fun w => vec_Sub b1 b2 b3 a1 a2 a3 w (by unfold I64; omega) (by unfold I64; omega) (by unfold I64; omega) (by unfold I64; omega) (by unfold I64; omega) (by unfold I64; omega))
  rw [vsub_pl (x := b1) (a := a1) (by omega) (by omega), vsub_pl (x := b2) (a := a2) (by omega) (by omega), vsub_pl (x := b3) (a := a3) (by omega) (by omega)] at KU
  obtain ⟨u1, hu1⟩ : ∃ t, t = b1 - a1 := ⟨_, rfl⟩
  obtain ⟨u2, hu2⟩ : ∃ t, t = b2 - a2 := ⟨_, rfl⟩
  obtain ⟨u3, hu3⟩ : ∃ t, t = b3 - a3 := ⟨_, rfl⟩
  rw [← hu1, ← hu2, ← hu3] at KU
  have KV := Lib.hid (fun w => vec_Sub c1 c2 c3 a1 a2 a3 w (by unfold I64; omega) (by unfold I64; omega) (by unfold I64; omega) (by unfold I64; omega) (by unfold I64; omega) (by unfold I64; omega))
  rw [vsub_pl (x := c1) (a := a1) (by omega) (by omega), vsub_pl (x := c2) (a := a2) (by omega) (by omega), vsub_pl (x := c3) (a := a3) (by omega) (by omega)] at KV
  obtain ⟨v1, hv1⟩ : ∃ t, t = c1 - a1 := ⟨_, rfl⟩
  obtain ⟨v2, hv2⟩ : ∃ t, t = c2 - a2 := ⟨_, rfl⟩
  obtain ⟨v3, hv3⟩ : ∃ t, t = c3 - a3 := ⟨_, rfl⟩
  rw [← hv1, ← hv2, ← hv3] at KV
  have KT := Lib.hid (fun w => vec_Sub a1 a2 a3 o1 o2 o3 w (by unfold I64; omega) (by unfold I64; omega) (by unfold I64; omega) (by unfold I64; omega) (by unfold I64; omega) (by unfold I64; omega))
  rw [vsub_pl (x := a1) (a := o1) (by omega) (by omega), vsub_pl (x := a2) (a := o2) (by omega) (by omega), vsub_pl (x := a3) (a := o3) (by omega) (by omega)] at KT
  obtain ⟨t1, ht1⟩ : ∃ t, t = a1 - o1 := ⟨_, rfl⟩
  obtain ⟨t2, ht2⟩ : ∃ t, t = a2 - o2 := ⟨_, rfl⟩
  obtain ⟨t3, ht3⟩ : ∃ t, t = a3 - o3 := ⟨_, rfl⟩
  rw [← ht1, ← ht2, ← ht3] at KT
  rw [← hu1, ← hu2, ← hu3, ← hv1, ← hv2, ← hv3, ← ht1, ← ht2, ← ht3] at KM hk
  have KN := Lib.hid (fun w => vec_Volume u1 u2 u3 v1 v2 v3 t1 t2 t3 w)
  have KD := Lib.hid (fun w => vec_Volume u1 u2 u3 v1 v2 v3 d1 d2 d3 w)
  generalize vvol u1 u2 u3 v1 v2 v3 t1 t2 t3 = num at *
  generalize vvol u1 u2 u3 v1 v2 v3 d1 d2 d3 = den at *
  generalize fmake num den = X at *
  obtain ⟨f1, f2⟩ := X
  dsimp only at KM
  clear hk h0 h1 h2 h3 h4 q1 q2 q3 q4 hu1 hu2 hu3 hv1 hv2 hv3 ht1 ht2 ht3
  go_enter Try.func30, Try.ntmps30
  go_upto_region 1 with (fail)
  obtain ⟨W1, hW1⟩ : ∃ W, W = ((((w.alloc (.cells #[.int .i64 a1, .int .i64 a2, .int .i64 a3] 24)).alloc (.cells #[.int .i64 b1, .int .i64 b2, .int .i64 b3] 24)).alloc (.cells #[.int .i64 c1, .int .i64 c2, .int .i64 c3] 24)).alloc (.cells #[.int .i64 o1, .int .i64 o2, .int .i64 o3, .int .i64 d1, .int .i64 d2, .int .i64 d3, .int .i64 fr] 28)).alloc (.cells #[.int .i64 0, .int .i64 0] 30) := ⟨_, rfl⟩
  obtain ⟨k_a, k_b, k_c, k_y, k_r, B1⟩ := st5 hW1
  rw [← hW1]
  clear hW1
  have l_b : w.heap.size < w.heap.size + 1 := by omega
  have l_c : w.heap.size + 1 < w.heap.size + 1 + 1 := by omega
  have l_y : w.heap.size + 1 + 1 < w.heap.size + 1 + 1 + 1 := by omega
  have l_r : w.heap.size + 1 + 1 + 1 < w.heap.size + 1 + 1 + 1 + 1 := by omega
  generalize w.heap.size + 1 + 1 + 1 + 1 = g_r at *
  generalize w.heap.size + 1 + 1 + 1 = g_y at *
  generalize w.heap.size + 1 + 1 = g_c at *
  generalize w.heap.size + 1 = g_b at *
  obtain ⟨c_a_0, c_a_1, c_a_2⟩ := bwc3 (k_a)
  obtain ⟨c_b_0, c_b_1, c_b_2⟩ := bwc3 (k_b)
  obtain ⟨c_c_0, c_c_1, c_c_2⟩ := bwc3 (k_c)
  obtain ⟨c_y_0, c_y_1, c_y_2, c_y_3, c_y_4, c_y_5, c_y_6⟩ := bwc7 (k_y)
  obtain ⟨c_r_0, c_r_1⟩ := bwc2 (k_r)
  obtain ⟨f_r_0, f_r_1⟩ := bwf2 (k_r)
  obtain ⟨p1, hp1⟩ : ∃ p : BW W1, p.w = W1 := ⟨BW.start W1, rfl⟩
  rw [← hp1]
  clear hp1
  have KC : ∀ p : BW W1, Calls Try.prog 36 #[.slice (some ⟨p.w.heap.size, 0, none⟩) 4 4] (p.w.alloc (.cells #[.int .i64 a1, .int .i64 a2, .int .i64 a3, .int .i64 b1, .int .i64 b2, .int .i64 b3, .int .i64 c1, .int .i64 c2, .int .i64 c3, .int .i64 o1, .int .i64 o2, .int .i64 o3] 24)) fun e w' => e = .returned (.bool true) ∧ ∃ q : BW W1, w' = q.w := fun p =>
    (tri_places4 4 a1 a2 a3 b1 b2 b3 c1 c2 c3 o1 o2 o3 W1 p.w _ rfl p.h).mono fun e w' h => ⟨by rw [hp] at h; exact h.1, ⟨w', h.2⟩, rfl⟩
  clear hp
  go_upto_region 3 with (go_at_call 36; (with_reducible refine (KC _).mono ?_); rintro e w' ⟨rfl, q, rfl⟩)
  clear KC
  refine wp_region_floatL 13 72 [⟨10, 10, 24, #[.int .i64 0, .int .i64 0, .int .i64 0]⟩, ⟨11, 11, 24, #[.int .i64 0, .int .i64 0, .int .i64 0]⟩, ⟨12, 12, 24, #[.int .i64 0, .int .i64 0, .int .i64 0]⟩] (by kernel_rfl) (by kernel_rfl) (by kernel_rfl) (by kernel_rfl) (by kernel_rfl) (by decide) (by kernel_rfl) ?_ ?_
  · exact ⟨⟨_, rfl, fun ev wx => by simp [execOp, go_sem]⟩, ⟨_, rfl, fun ev wx => by simp [execOp, go_sem]⟩, ⟨_, rfl, fun ev wx => by simp [execOp, go_sem]⟩, trivial⟩
  apply Exists.intro
  refine ⟨?_, ?_⟩
  · intro wb' hwb'
    obtain ⟨d_a_0, d_a_1, d_a_2⟩ := bwc3 (k_a.below hwb')
    obtain ⟨d_b_0, d_b_1, d_b_2⟩ := bwc3 (k_b.below hwb')
    obtain ⟨d_c_0, d_c_1, d_c_2⟩ := bwc3 (k_c.below hwb')
    obtain ⟨d_y_0, d_y_1, d_y_2, d_y_3, d_y_4, d_y_5, d_y_6⟩ := bwc7 (k_y.below hwb')
    obtain ⟨d_r_0, d_r_1⟩ := bwc2 (k_r.below hwb')
    simp only [List.map_cons, List.map_nil, maskL, List.foldr_cons, List.foldr_nil, maskAt, List.take_succ_cons, List.take_zero]
    repeat (go_big_quiet_step (first
      | (go_at_call 37; (first | (with_reducible exact bw_call KU.out _) | (with_reducible exact bw_call KV.out _) | (with_reducible exact bw_call KT.out _)))))
    refine wpQuiet_nil ?_
    exact rfl
  intro W2 st hW hst hne
  obtain ⟨g_u, e_u, hg_u, k_u⟩ := hst 0 _ rfl
  obtain ⟨g_v, e_v, hg_v, k_v⟩ := hst 1 _ rfl
  obtain ⟨g_t, e_t, hg_t, k_t⟩ := hst 2 _ rfl
  have n_u_v : g_u ≠ g_v := fun e => hne 0 1 _ (by simp) (by simp) (by omega) e_u (by rw [e]; exact e_v)
  have n_u_t : g_u ≠ g_t := fun e => hne 0 2 _ (by simp) (by simp) (by omega) e_u (by rw [e]; exact e_t)
  have n_v_t : g_v ≠ g_t := fun e => hne 1 2 _ (by simp) (by simp) (by omega) e_v (by rw [e]; exact e_t)
  have B2 : Below w.heap.size w W2 := B1.trans (hW.mono B1.size)
  have l_u : g_r < g_u := Nat.lt_of_lt_of_le k_r.lt hg_u
  have l_v : g_r < g_v := Nat.lt_of_lt_of_le k_r.lt hg_v
  have l_t : g_r < g_t := Nat.lt_of_lt_of_le k_r.lt hg_t
  have k_a := k_a.below hW
  have k_b := k_b.below hW
  have k_c := k_c.below hW
  have k_y := k_y.below hW
  have k_r := k_r.below hW
  simp only [List.drop_succ_cons, List.drop_zero, putAll, Nat.zero_add, Nat.reduceAdd, e_u, e_v, e_t, putO, Act.put, List.setIfInBounds_toArray, List.set_cons_zero, List.set_cons_succ]
  clear hW hst hne B1 hg_u e_u hg_v e_v hg_t e_t
  clear c_a_0 c_a_1 c_a_2 c_b_0 c_b_1 c_b_2 c_c_0 c_c_1 c_c_2 c_y_0 c_y_1 c_y_2 c_y_3 c_y_4 c_y_5 c_y_6 c_r_0 c_r_1 f_r_0 f_r_1
  obtain ⟨c_a_0, c_a_1, c_a_2⟩ := bwc3 (k_a)
  obtain ⟨c_b_0, c_b_1, c_b_2⟩ := bwc3 (k_b)
  obtain ⟨c_c_0, c_c_1, c_c_2⟩ := bwc3 (k_c)
  obtain ⟨c_y_0, c_y_1, c_y_2, c_y_3, c_y_4, c_y_5, c_y_6⟩ := bwc7 (k_y)
  obtain ⟨c_r_0, c_r_1⟩ := bwc2 (k_r)
  obtain ⟨c_u_0, c_u_1, c_u_2⟩ := bwc3 (k_u)
  obtain ⟨f_u_0, f_u_1, f_u_2⟩ := bwf3 (k_u)
  obtain ⟨c_v_0, c_v_1, c_v_2⟩ := bwc3 (k_v)
  obtain ⟨f_v_0, f_v_1, f_v_2⟩ := bwf3 (k_v)
  obtain ⟨c_t_0, c_t_1, c_t_2⟩ := bwc3 (k_t)
  obtain ⟨f_t_0, f_t_1, f_t_2⟩ := bwf3 (k_t)
  obtain ⟨p2, hp2⟩ : ∃ p : BW W2, p.w = W2 := ⟨BW.start W2, rfl⟩
  rw [← hp2]
  clear hp2
  go_upto_region 4 with (fail)
  obtain ⟨W3, hW3⟩ : ∃ W, W = ((p2.w.setCell ⟨g_u, 0, none⟩ (.int .i64 u1)).setCell ⟨g_u, 1, none⟩ (.int .i64 u2)).setCell ⟨g_u, 2, none⟩ (.int .i64 u3) := ⟨_, rfl⟩
  have B3 : Below w.heap.size w W3 := by rw [hW3]; exact blp3 (bw_below B2 p2) (by omega)
  have k_a := bkoe3 hW3 (k_a.below p2.h) (by omega)
  have k_b := bkoe3 hW3 (k_b.below p2.h) (by omega)
  have k_c := bkoe3 hW3 (k_c.below p2.h) (by omega)
  have k_y := bkoe3 hW3 (k_y.below p2.h) (by omega)
  have k_r := bkoe3 hW3 (k_r.below p2.h) (by omega)
  have k_u := bkpe3 hW3 (k_u.below p2.h)
  have k_v := bkoe3 hW3 (k_v.below p2.h) (by omega)
  have k_t := bkoe3 hW3 (k_t.below p2.h) (by omega)
  rw [← hW3]
  clear hW3
  clear B2
  clear c_a_0 c_a_1 c_a_2 c_b_0 c_b_1 c_b_2 c_c_0 c_c_1 c_c_2 c_y_0 c_y_1 c_y_2 c_y_3 c_y_4 c_y_5 c_y_6 c_r_0 c_r_1 c_u_0 c_u_1 c_u_2 f_u_0 f_u_1 f_u_2 c_v_0 c_v_1 c_v_2 f_v_0 f_v_1 f_v_2 c_t_0 c_t_1 c_t_2 f_t_0 f_t_1 f_t_2
  obtain ⟨c_a_0, c_a_1, c_a_2⟩ := bwc3 (k_a)
  obtain ⟨c_b_0, c_b_1, c_b_2⟩ := bwc3 (k_b)
  obtain ⟨c_c_0, c_c_1, c_c_2⟩ := bwc3 (k_c)
  obtain ⟨c_y_0, c_y_1, c_y_2, c_y_3, c_y_4, c_y_5, c_y_6⟩ := bwc7 (k_y)
  obtain ⟨c_r_0, c_r_1⟩ := bwc2 (k_r)
  obtain ⟨c_u_0, c_u_1, c_u_2⟩ := bwc3 (k_u)
  obtain ⟨f_u_0, f_u_1, f_u_2⟩ := bwf3 (k_u)
  obtain ⟨c_v_0, c_v_1, c_v_2⟩ := bwc3 (k_v)
  obtain ⟨f_v_0, f_v_1, f_v_2⟩ := bwf3 (k_v)
  obtain ⟨c_t_0, c_t_1, c_t_2⟩ := bwc3 (k_t)
  obtain ⟨f_t_0, f_t_1, f_t_2⟩ := bwf3 (k_t)
  obtain ⟨p3, hp3⟩ : ∃ p : BW W3, p.w = W3 := ⟨BW.start W3, rfl⟩
  rw [← hp3]
  clear hp3
  obtain ⟨W4, hW4⟩ : ∃ W, W = ((p3.w.setCell ⟨g_v, 0, none⟩ (.int .i64 v1)).setCell ⟨g_v, 1, none⟩ (.int .i64 v2)).setCell ⟨g_v, 2, none⟩ (.int .i64 v3) := ⟨_, rfl⟩
  have B4 : Below w.heap.size w W4 := by rw [hW4]; exact blp3 (bw_below B3 p3) (by omega)
  have k_a := bkoe3 hW4 (k_a.below p3.h) (by omega)
  have k_b := bkoe3 hW4 (k_b.below p3.h) (by omega)
  have k_c := bkoe3 hW4 (k_c.below p3.h) (by omega)
  have k_y := bkoe3 hW4 (k_y.below p3.h) (by omega)
  have k_r := bkoe3 hW4 (k_r.below p3.h) (by omega)
  have k_u := bkoe3 hW4 (k_u.below p3.h) (by omega)
  have k_v := bkpe3 hW4 (k_v.below p3.h)
  have k_t := bkoe3 hW4 (k_t.below p3.h) (by omega)
  rw [← hW4]
  clear hW4
  clear B3
  clear c_a_0 c_a_1 c_a_2 c_b_0 c_b_1 c_b_2 c_c_0 c_c_1 c_c_2 c_y_0 c_y_1 c_y_2 c_y_3 c_y_4 c_y_5 c_y_6 c_r_0 c_r_1 c_u_0 c_u_1 c_u_2 f_u_0 f_u_1 f_u_2 c_v_0 c_v_1 c_v_2 f_v_0 f_v_1 f_v_2 c_t_0 c_t_1 c_t_2 f_t_0 f_t_1 f_t_2
  obtain ⟨c_a_0, c_a_1, c_a_2⟩ := bwc3 (k_a)
  obtain ⟨c_b_0, c_b_1, c_b_2⟩ := bwc3 (k_b)
  obtain ⟨c_c_0, c_c_1, c_c_2⟩ := bwc3 (k_c)
  obtain ⟨c_y_0, c_y_1, c_y_2, c_y_3, c_y_4, c_y_5, c_y_6⟩ := bwc7 (k_y)
  obtain ⟨c_r_0, c_r_1⟩ := bwc2 (k_r)
  obtain ⟨c_u_0, c_u_1, c_u_2⟩ := bwc3 (k_u)
  obtain ⟨f_u_0, f_u_1, f_u_2⟩ := bwf3 (k_u)
  obtain ⟨c_v_0, c_v_1, c_v_2⟩ := bwc3 (k_v)
  obtain ⟨f_v_0, f_v_1, f_v_2⟩ := bwf3 (k_v)
  obtain ⟨c_t_0, c_t_1, c_t_2⟩ := bwc3 (k_t)
  obtain ⟨f_t_0, f_t_1, f_t_2⟩ := bwf3 (k_t)
  obtain ⟨p4, hp4⟩ : ∃ p : BW W4, p.w = W4 := ⟨BW.start W4, rfl⟩
  rw [← hp4]
  clear hp4
  obtain ⟨W5, hW5⟩ : ∃ W, W = ((p4.w.setCell ⟨g_t, 0, none⟩ (.int .i64 t1)).setCell ⟨g_t, 1, none⟩ (.int .i64 t2)).setCell ⟨g_t, 2, none⟩ (.int .i64 t3) := ⟨_, rfl⟩
  have B5 : Below w.heap.size w W5 := by rw [hW5]; exact blp3 (bw_below B4 p4) (by omega)
  have k_a := bkoe3 hW5 (k_a.below p4.h) (by omega)
  have k_b := bkoe3 hW5 (k_b.below p4.h) (by omega)
  have k_c := bkoe3 hW5 (k_c.below p4.h) (by omega)
  have k_y := bkoe3 hW5 (k_y.below p4.h) (by omega)
  have k_r := bkoe3 hW5 (k_r.below p4.h) (by omega)
  have k_u := bkoe3 hW5 (k_u.below p4.h) (by omega)
  have k_v := bkoe3 hW5 (k_v.below p4.h) (by omega)
  have k_t := bkpe3 hW5 (k_t.below p4.h)
  rw [← hW5]
  clear hW5
  clear B4
  clear c_a_0 c_a_1 c_a_2 c_b_0 c_b_1 c_b_2 c_c_0 c_c_1 c_c_2 c_y_0 c_y_1 c_y_2 c_y_3 c_y_4 c_y_5 c_y_6 c_r_0 c_r_1 c_u_0 c_u_1 c_u_2 f_u_0 f_u_1 f_u_2 c_v_0 c_v_1 c_v_2 f_v_0 f_v_1 f_v_2 c_t_0 c_t_1 c_t_2 f_t_0 f_t_1 f_t_2
  obtain ⟨c_a_0, c_a_1, c_a_2⟩ := bwc3 (k_a)
  obtain ⟨c_b_0, c_b_1, c_b_2⟩ := bwc3 (k_b)
  obtain ⟨c_c_0, c_c_1, c_c_2⟩ := bwc3 (k_c)
  obtain ⟨c_y_0, c_y_1, c_y_2, c_y_3, c_y_4, c_y_5, c_y_6⟩ := bwc7 (k_y)
  obtain ⟨c_r_0, c_r_1⟩ := bwc2 (k_r)
  obtain ⟨c_u_0, c_u_1, c_u_2⟩ := bwc3 (k_u)
  obtain ⟨c_v_0, c_v_1, c_v_2⟩ := bwc3 (k_v)
  obtain ⟨c_t_0, c_t_1, c_t_2⟩ := bwc3 (k_t)
  obtain ⟨p5, hp5⟩ : ∃ p : BW W5, p.w = W5 := ⟨BW.start W5, rfl⟩
  rw [← hp5]
  clear hp5
  refine wp_region_late 12 14 46 (by kernel_rfl) (by kernel_rfl) rfl rfl rfl (fun _ _ _ _ h => h) ?_
  refine any_region_float (t := 30) (zs := #[.int .i64 0, .int .i64 0]) 14 13 13 72 (by kernel_rfl) (by kernel_rfl) (by kernel_rfl) (by kernel_rfl) rfl ?_ ?_
  · intro ev wx
    simp [execOp, go_sem]
  apply Exists.intro
  refine ⟨?_, ?_⟩
  · intro wb' hwb'
    obtain ⟨d_a_0, d_a_1, d_a_2⟩ := bwc3 (k_a.below hwb')
    obtain ⟨d_b_0, d_b_1, d_b_2⟩ := bwc3 (k_b.below hwb')
    obtain ⟨d_c_0, d_c_1, d_c_2⟩ := bwc3 (k_c.below hwb')
    obtain ⟨d_y_0, d_y_1, d_y_2, d_y_3, d_y_4, d_y_5, d_y_6⟩ := bwc7 (k_y.below hwb')
    obtain ⟨d_r_0, d_r_1⟩ := bwc2 (k_r.below hwb')
    obtain ⟨d_u_0, d_u_1, d_u_2⟩ := bwc3 (k_u.below hwb')
    obtain ⟨d_v_0, d_v_1, d_v_2⟩ := bwc3 (k_v.below hwb')
    obtain ⟨d_t_0, d_t_1, d_t_2⟩ := bwc3 (k_t.below hwb')
    simp only [edgeAt, maskAt, List.take_succ_cons, List.take_zero]
    repeat (go_big_quiet_step (first
      | (go_at_call 39; (first | (with_reducible exact bw_call KN.out _) | (with_reducible exact bw_call KD.out _)))
      | (go_at_call 38; (first | (with_reducible exact bw_call KM.out _)))))
    refine wpQuiet_nil ?_
    exact rfl
  intro W6 g_f hW hg k_f
  have B6 : Below w.heap.size w W6 := B5.trans (hW.mono B5.size)
  have o_f : w.heap.size ≤ g_f := Nat.le_trans B5.size hg
  have l_f : g_t < g_f := Nat.lt_of_lt_of_le k_t.lt hg
  have l_f_u : g_u < g_f := Nat.lt_of_lt_of_le k_u.lt hg
  have l_f_v : g_v < g_f := Nat.lt_of_lt_of_le k_v.lt hg
  have k_a := k_a.below hW
  have k_b := k_b.below hW
  have k_c := k_c.below hW
  have k_y := k_y.below hW
  have k_r := k_r.below hW
  have k_u := k_u.below hW
  have k_v := k_v.below hW
  have k_t := k_t.below hW
  clear hW hg B5
  clear c_a_0 c_a_1 c_a_2 c_b_0 c_b_1 c_b_2 c_c_0 c_c_1 c_c_2 c_y_0 c_y_1 c_y_2 c_y_3 c_y_4 c_y_5 c_y_6 c_r_0 c_r_1 c_u_0 c_u_1 c_u_2 c_v_0 c_v_1 c_v_2 c_t_0 c_t_1 c_t_2
  simp only [edgeAt, List.drop_succ_cons, List.drop_zero, Act.put, List.setIfInBounds_toArray, List.set_cons_zero, List.set_cons_succ]
  obtain ⟨c_a_0, c_a_1, c_a_2⟩ := bwc3 (k_a)
  obtain ⟨c_b_0, c_b_1, c_b_2⟩ := bwc3 (k_b)
  obtain ⟨c_c_0, c_c_1, c_c_2⟩ := bwc3 (k_c)
  obtain ⟨c_y_0, c_y_1, c_y_2, c_y_3, c_y_4, c_y_5, c_y_6⟩ := bwc7 (k_y)
  obtain ⟨c_r_0, c_r_1⟩ := bwc2 (k_r)
  obtain ⟨c_u_0, c_u_1, c_u_2⟩ := bwc3 (k_u)
  obtain ⟨c_v_0, c_v_1, c_v_2⟩ := bwc3 (k_v)
  obtain ⟨c_t_0, c_t_1, c_t_2⟩ := bwc3 (k_t)
  obtain ⟨c_f_0, c_f_1⟩ := bwc2 (k_f)
  obtain ⟨f_f_0, f_f_1⟩ := bwf2 (k_f)
  obtain ⟨p6, hp6⟩ : ∃ p : BW W6, p.w = W6 := ⟨BW.start W6, rfl⟩
  rw [← hp6]
  clear hp6
  go_upto_region 5 with (fail)
  obtain ⟨W7, hW7⟩ : ∃ W, W = (p6.w.setCell ⟨g_f, 0, none⟩ (.int .i64 f1)).setCell ⟨g_f, 1, none⟩ (.int .i64 f2) := ⟨_, rfl⟩
  have B7 : Below w.heap.size w W7 := by rw [hW7]; exact blp2 (bw_below B6 p6) (by omega)
  have k_a := bkoe2 hW7 (k_a.below p6.h) (by omega)
  have k_b := bkoe2 hW7 (k_b.below p6.h) (by omega)
  have k_c := bkoe2 hW7 (k_c.below p6.h) (by omega)
  have k_y := bkoe2 hW7 (k_y.below p6.h) (by omega)
  have k_r := bkoe2 hW7 (k_r.below p6.h) (by omega)
  have k_u := bkoe2 hW7 (k_u.below p6.h) (by omega)
  have k_v := bkoe2 hW7 (k_v.below p6.h) (by omega)
  have k_t := bkoe2 hW7 (k_t.below p6.h) (by omega)
  have k_f := bkpe2 hW7 (k_f.below p6.h)
  rw [← hW7]
  clear hW7
  clear B6
  clear c_a_0 c_a_1 c_a_2 c_b_0 c_b_1 c_b_2 c_c_0 c_c_1 c_c_2 c_y_0 c_y_1 c_y_2 c_y_3 c_y_4 c_y_5 c_y_6 c_r_0 c_r_1 c_u_0 c_u_1 c_u_2 c_v_0 c_v_1 c_v_2 c_t_0 c_t_1 c_t_2 c_f_0 c_f_1 f_f_0 f_f_1
  obtain ⟨c_a_0, c_a_1, c_a_2⟩ := bwc3 (k_a)
  obtain ⟨c_b_0, c_b_1, c_b_2⟩ := bwc3 (k_b)
  obtain ⟨c_c_0, c_c_1, c_c_2⟩ := bwc3 (k_c)
  obtain ⟨c_y_0, c_y_1, c_y_2, c_y_3, c_y_4, c_y_5, c_y_6⟩ := bwc7 (k_y)
  obtain ⟨c_r_0, c_r_1⟩ := bwc2 (k_r)
  obtain ⟨f_r_0, f_r_1⟩ := bwf2 (k_r)
  obtain ⟨c_u_0, c_u_1, c_u_2⟩ := bwc3 (k_u)
  obtain ⟨c_v_0, c_v_1, c_v_2⟩ := bwc3 (k_v)
  obtain ⟨c_t_0, c_t_1, c_t_2⟩ := bwc3 (k_t)
  obtain ⟨c_f_0, c_f_1⟩ := bwc2 (k_f)
  obtain ⟨p7, hp7⟩ : ∃ p : BW W7, p.w = W7 := ⟨BW.start W7, rfl⟩
  rw [← hp7]
  clear hp7
  refine wp_region_bw (by kernel_rfl) (by kernel_rfl) ?_
  repeat (go_big_quiet_step (first
    | fail))
  refine wpQuiet_nil ?_
  intro _ hw'
  obtain ⟨q, rfl⟩ := hw'
  go_wp2
  have kr := bkp2 (k_r.below q.h) (.int .i64 0) (.int .i64 0)
  obtain ⟨rc0, rc1⟩ := rwc2 kr
  exact bodyPost_ret (v := .tuple #[.agg #[.int .i64 0, .int .i64 0], .bool false]) (by simp [results, Try.results30, go_sem, rc0, rc1]) rfl ⟨rfl, blp2 (bw_below B7 q) (by omega)⟩

set_option maxRecDepth 100000 in
set_option maxHeartbeats 4000000 in
theorem tri_Hit_neg (a1 a2 a3 b1 b2 b3 c1 c2 c3 o1 o2 o3 d1 d2 d3 fr : Int) (w : World) (hp : (pl3 (a1, a2, a3) (b1, b2, b3) (c1, c2, c3) && plc (o1, o2, o3)) = true) (hk : fmakeOk (vvol (b1 - a1) (b2 - a2) (b3 - a3) (c1 - a1) (c2 - a2) (c3 - a3) (a1 - o1) (a2 - o2) (a3 - o3)) (vvol (b1 - a1) (b2 - a2) (b3 - a3) (c1 - a1) (c2 - a2) (c3 - a3) d1 d2 d3) = true) (hg : decide ((fmake (vvol (b1 - a1) (b2 - a2) (b3 - a3) (c1 - a1) (c2 - a2) (c3 - a3) (a1 - o1) (a2 - o2) (a3 - o3)) (vvol (b1 - a1) (b2 - a2) (b3 - a3) (c1 - a1) (c2 - a2) (c3 - a3) d1 d2 d3)).1 ≤ 0) = true) :
    Calls Try.prog 30 #[.agg #[.int .i64 a1, .int .i64 a2, .int .i64 a3], .agg #[.int .i64 b1, .int .i64 b2, .int .i64 b3], .agg #[.int .i64 c1, .int .i64 c2, .int .i64 c3], .agg #[.int .i64 o1, .int .i64 o2, .int .i64 o3, .int .i64 d1, .int .i64 d2, .int .i64 d3, .int .i64 fr]] w fun en w' => en = .returned (.tuple #[.agg #[.int .i64 0, .int .i64 0], .bool false]) ∧ Below w.heap.size w w' := by
  obtain ⟨h0, h4⟩ := Bool.and_eq_true_iff.1 hp
  obtain ⟨h1, h2, h3⟩ := pl3_iff.1 h0
  have q1 := plc_iff.1 h1
  dsimp only at q1
  have q2 := plc_iff.1 h2
  dsimp only at q2
  have q3 := plc_iff.1 h3
  dsimp only at q3
  have q4 := plc_iff.1 h4
  dsimp only at q4
  have vb := @vvol_61
  have i1 := vb (b1 - a1) (b2 - a2) (b3 - a3) (c1 - a1) (c2 - a2) (c3 - a3) (a1 - o1) (a2 - o2) (a3 - o3)
  have i2 := vb (b1 - a1) (b2 - a2) (b3 - a3) (c1 - a1) (c2 - a2) (c3 - a3) d1 d2 d3
  have KM := Lib.hid (fun w => frac_Make (vvol (b1 - a1) (b2 - a2) (b3 - a3) (c1 - a1) (c2 - a2) (c3 - a3) (a1 - o1) (a2 - o2) (a3 - o3)) (vvol (b1 - a1) (b2 - a2) (b3 - a3) (c1 - a1) (c2 - a2) (c3 - a3) d1 d2 d3) w (by unfold I64; omega) (by unfold I64; omega))
  rw [hk] at KM
  clear vb i1 i2
  have KU := Lib.hid (fun w => vec_Sub b1 b2 b3 a1 a2 a3 w (by unfold I64; omega) (by unfold I64; omega) (by unfold I64; omega) (by unfold I64; omega) (by unfold I64; omega) (by unfold I64; omega))
  rw [vsub_pl (x := b1) (a := a1) (by omega) (by omega), vsub_pl (x := b2) (a := a2) (by omega) (by omega), vsub_pl (x := b3) (a := a3) (by omega) (by omega)] at KU
  obtain ⟨u1, hu1⟩ : ∃ t, t = b1 - a1 := ⟨_, rfl⟩
  obtain ⟨u2, hu2⟩ : ∃ t, t = b2 - a2 := ⟨_, rfl⟩
  obtain ⟨u3, hu3⟩ : ∃ t, t = b3 - a3 := ⟨_, rfl⟩
  rw [← hu1, ← hu2, ← hu3] at KU
  have KV := Lib.hid (fun w => vec_Sub c1 c2 c3 a1 a2 a3 w (by unfold I64; omega) (by unfold I64; omega) (by unfold I64; omega) (by unfold I64; omega) (by unfold I64; omega) (by unfold I64; omega))
  rw [vsub_pl (x := c1) (a := a1) (by omega) (by omega), vsub_pl (x := c2) (a := a2) (by omega) (by omega), vsub_pl (x := c3) (a := a3) (by omega) (by omega)] at KV
  obtain ⟨v1, hv1⟩ : ∃ t, t = c1 - a1 := ⟨_, rfl⟩
  obtain ⟨v2, hv2⟩ : ∃ t, t = c2 - a2 := ⟨_, rfl⟩
  obtain ⟨v3, hv3⟩ : ∃ t, t = c3 - a3 := ⟨_, rfl⟩
  rw [← hv1, ← hv2, ← hv3] at KV
  have KT := Lib.hid (fun w => vec_Sub a1 a2 a3 o1 o2 o3 w (by unfold I64; omega) (by unfold I64; omega) (by unfold I64; omega) (by unfold I64; omega) (by unfold I64; omega) (by unfold I64; omega))
  rw [vsub_pl (x := a1) (a := o1) (by omega) (by omega), vsub_pl (x := a2) (a := o2) (by omega) (by omega), vsub_pl (x := a3) (a := o3) (by omega) (by omega)] at KT
  obtain ⟨t1, ht1⟩ : ∃ t, t = a1 - o1 := ⟨_, rfl⟩
  obtain ⟨t2, ht2⟩ : ∃ t, t = a2 - o2 := ⟨_, rfl⟩
  obtain ⟨t3, ht3⟩ : ∃ t, t = a3 - o3 := ⟨_, rfl⟩
  rw [← ht1, ← ht2, ← ht3] at KT
  rw [← hu1, ← hu2, ← hu3, ← hv1, ← hv2, ← hv3, ← ht1, ← ht2, ← ht3] at KM hk hg
  have KN := Lib.hid (fun w => vec_Volume u1 u2 u3 v1 v2 v3 t1 t2 t3 w)
  have KD := Lib.hid (fun w => vec_Volume u1 u2 u3 v1 v2 v3 d1 d2 d3 w)
  generalize vvol u1 u2 u3 v1 v2 v3 t1 t2 t3 = num at *
  generalize vvol u1 u2 u3 v1 v2 v3 d1 d2 d3 = den at *
  generalize fmake num den = X at *
  obtain ⟨f1, f2⟩ := X
  dsimp only at KM hg
  clear hk h0 h1 h2 h3 h4 q1 q2 q3 q4 hu1 hu2 hu3 hv1 hv2 hv3 ht1 ht2 ht3
  go_enter Try.func30, Try.ntmps30
  go_upto_region 1 with (fail)
  obtain ⟨W1, hW1⟩ : ∃ W, W = ((((w.alloc (.cells #[.int .i64 a1, .int .i64 a2, .int .i64 a3] 24)).alloc (.cells #[.int .i64 b1, .int .i64 b2, .int .i64 b3] 24)).alloc (.cells #[.int .i64 c1, .int .i64 c2, .int .i64 c3] 24)).alloc (.cells #[.int .i64 o1, .int .i64 o2, .int .i64 o3, .int .i64 d1, .int .i64 d2, .int .i64 d3, .int .i64 fr] 28)).alloc (.cells #[.int .i64 0, .int .i64 0] 30) := ⟨_, rfl⟩
  obtain ⟨k_a, k_b, k_c, k_y, k_r, B1⟩ := st5 hW1
  rw [← hW1]
  clear hW1
  have l_b : w.heap.size < w.heap.size + 1 := by omega
  have l_c : w.heap.size + 1 < w.heap.size + 1 + 1 := by omega
  have l_y : w.heap.size + 1 + 1 < w.heap.size + 1 + 1 + 1 := by omega
  have l_r : w.heap.size + 1 + 1 + 1 < w.heap.size + 1 + 1 + 1 + 1 := by omega
  generalize w.heap.size + 1 + 1 + 1 + 1 = g_r at *
  generalize w.heap.size + 1 + 1 + 1 = g_y at *
  generalize w.heap.size + 1 + 1 = g_c at *
  generalize w.heap.size + 1 = g_b at *
  obtain ⟨c_a_0, c_a_1, c_a_2⟩ := bwc3 (k_a)
  obtain ⟨c_b_0, c_b_1, c_b_2⟩ := bwc3 (k_b)
  obtain ⟨c_c_0, c_c_1, c_c_2⟩ := bwc3 (k_c)
  obtain ⟨c_y_0, c_y_1, c_y_2, c_y_3, c_y_4, c_y_5, c_y_6⟩ := bwc7 (k_y)
  obtain ⟨c_r_0, c_r_1⟩ := bwc2 (k_r)
  obtain ⟨f_r_0, f_r_1⟩ := bwf2 (k_r)
  obtain ⟨p1, hp1⟩ : ∃ p : BW W1, p.w = W1 := ⟨BW.start W1, rfl⟩
  rw [← hp1]
  clear hp1
  have KC : ∀ p : BW W1, Calls Try.prog 36 #[.slice (some ⟨p.w.heap.size, 0, none⟩) 4 4] (p.w.alloc (.cells #[.int .i64 a1, .int .i64 a2, .int .i64 a3, .int .i64 b1, .int .i64 b2, .int .i64 b3, .int .i64 c1, .int .i64 c2, .int .i64 c3, .int .i64 o1, .int .i64 o2, .int .i64 o3] 24)) fun e w' => e = .returned (.bool true) ∧ ∃ q : BW W1, w' = q.w := fun p =>
    (tri_places4 4 a1 a2 a3 b1 b2 b3 c1 c2 c3 o1 o2 o3 W1 p.w _ rfl p.h).mono fun e w' h => ⟨by rw [hp] at h; exact h.1, ⟨w', h.2⟩, rfl⟩
  clear hp
  go_upto_region 3 with (go_at_call 36; (with_reducible refine (KC _).mono ?_); rintro e w' ⟨rfl, q, rfl⟩)
  clear KC
  refine wp_region_floatL 13 72 [⟨10, 10, 24, #[.int .i64 0, .int .i64 0, .int .i64 0]⟩, ⟨11, 11, 24, #[.int .i64 0, .int .i64 0, .int .i64 0]⟩, ⟨12, 12, 24, #[.int .i64 0, .int .i64 0, .int .i64 0]⟩] (by kernel_rfl) (by kernel_rfl) (by kernel_rfl) (by kernel_rfl) (by kernel_rfl) (by decide) (by kernel_rfl) ?_ ?_
  · exact ⟨⟨_, rfl, fun ev wx => by simp [execOp, go_sem]⟩, ⟨_, rfl, fun ev wx => by simp [execOp, go_sem]⟩, ⟨_, rfl, fun ev wx => by simp [execOp, go_sem]⟩, trivial⟩
  apply Exists.intro
  refine ⟨?_, ?_⟩
  · intro wb' hwb'
    obtain ⟨d_a_0, d_a_1, d_a_2⟩ := bwc3 (k_a.below hwb')
    obtain ⟨d_b_0, d_b_1, d_b_2⟩ := bwc3 (k_b.below hwb')
    obtain ⟨d_c_0, d_c_1, d_c_2⟩ := bwc3 (k_c.below hwb')
    obtain ⟨d_y_0, d_y_1, d_y_2, d_y_3, d_y_4, d_y_5, d_y_6⟩ := bwc7 (k_y.below hwb')
    obtain ⟨d_r_0, d_r_1⟩ := bwc2 (k_r.below hwb')
    simp only [List.map_cons, List.map_nil, maskL, List.foldr_cons, List.foldr_nil, maskAt, List.take_succ_cons, List.take_zero]
    repeat (go_big_quiet_step (first
      | (go_at_call 37; (first | (with_reducible exact bw_call KU.out _) | (with_reducible exact bw_call KV.out _) | (with_reducible exact bw_call KT.out _)))))
    refine wpQuiet_nil ?_
    exact rfl
  intro W2 st hW hst hne
  obtain ⟨g_u, e_u, hg_u, k_u⟩ := hst 0 _ rfl
  obtain ⟨g_v, e_v, hg_v, k_v⟩ := hst 1 _ rfl
  obtain ⟨g_t, e_t, hg_t, k_t⟩ := hst 2 _ rfl
  have n_u_v : g_u ≠ g_v := fun e => hne 0 1 _ (by simp) (by simp) (by omega) e_u (by rw [e]; exact e_v)
  have n_u_t : g_u ≠ g_t := fun e => hne 0 2 _ (by simp) (by simp) (by omega) e_u (by rw [e]; exact e_t)
  have n_v_t : g_v ≠ g_t := fun e => hne 1 2 _ (by simp) (by simp) (by omega) e_v (by rw [e]; exact e_t)
  have B2 : Below w.heap.size w W2 := B1.trans (hW.mono B1.size)
  have l_u : g_r < g_u := Nat.lt_of_lt_of_le k_r.lt hg_u
  have l_v : g_r < g_v := Nat.lt_of_lt_of_le k_r.lt hg_v
  have l_t : g_r < g_t := Nat.lt_of_lt_of_le k_r.lt hg_t
  have k_a := k_a.below hW
  have k_b := k_b.below hW
  have k_c := k_c.below hW
  have k_y := k_y.below hW
  have k_r := k_r.below hW
  simp only [List.drop_succ_cons, List.drop_zero, putAll, Nat.zero_add, Nat.reduceAdd, e_u, e_v, e_t, putO, Act.put, List.setIfInBounds_toArray, List.set_cons_zero, List.set_cons_succ]
  clear hW hst hne B1 hg_u e_u hg_v e_v hg_t e_t
  clear c_a_0 c_a_1 c_a_2 c_b_0 c_b_1 c_b_2 c_c_0 c_c_1 c_c_2 c_y_0 c_y_1 c_y_2 c_y_3 c_y_4 c_y_5 c_y_6 c_r_0 c_r_1 f_r_0 f_r_1
  obtain ⟨c_a_0, c_a_1, c_a_2⟩ := bwc3 (k_a)
  obtain ⟨c_b_0, c_b_1, c_b_2⟩ := bwc3 (k_b)
  obtain ⟨c_c_0, c_c_1, c_c_2⟩ := bwc3 (k_c)
  obtain ⟨c_y_0, c_y_1, c_y_2, c_y_3, c_y_4, c_y_5, c_y_6⟩ := bwc7 (k_y)
  obtain ⟨c_r_0, c_r_1⟩ := bwc2 (k_r)
  obtain ⟨c_u_0, c_u_1, c_u_2⟩ := bwc3 (k_u)
  obtain ⟨f_u_0, f_u_1, f_u_2⟩ := bwf3 (k_u)
  obtain ⟨c_v_0, c_v_1, c_v_2⟩ := bwc3 (k_v)
  obtain ⟨f_v_0, f_v_1, f_v_2⟩ := bwf3 (k_v)
  obtain ⟨c_t_0, c_t_1, c_t_2⟩ := bwc3 (k_t)
  obtain ⟨f_t_0, f_t_1, f_t_2⟩ := bwf3 (k_t)
  obtain ⟨p2, hp2⟩ : ∃ p : BW W2, p.w = W2 := ⟨BW.start W2, rfl⟩
  rw [← hp2]
  clear hp2
  go_upto_region 4 with (fail)
  obtain ⟨W3, hW3⟩ : ∃ W, W = ((p2.w.setCell ⟨g_u, 0, none⟩ (.int .i64 u1)).setCell ⟨g_u, 1, none⟩ (.int .i64 u2)).setCell ⟨g_u, 2, none⟩ (.int .i64 u3) := ⟨_, rfl⟩
  have B3 : Below w.heap.size w W3 := by rw [hW3]; exact blp3 (bw_below B2 p2) (by omega)
  have k_a := bkoe3 hW3 (k_a.below p2.h) (by omega)
  have k_b := bkoe3 hW3 (k_b.below p2.h) (by omega)
  have k_c := bkoe3 hW3 (k_c.below p2.h) (by omega)
  have k_y := bkoe3 hW3 (k_y.below p2.h) (by omega)
  have k_r := bkoe3 hW3 (k_r.below p2.h) (by omega)
  have k_u := bkpe3 hW3 (k_u.below p2.h)
  have k_v := bkoe3 hW3 (k_v.below p2.h) (by omega)
  have k_t := bkoe3 hW3 (k_t.below p2.h) (by omega)
  rw [← hW3]
  clear hW3
  clear B2
  clear c_a_0 c_a_1 c_a_2 c_b_0 c_b_1 c_b_2 c_c_0 c_c_1 c_c_2 c_y_0 c_y_1 c_y_2 c_y_3 c_y_4 c_y_5 c_y_6 c_r_0 c_r_1 c_u_0 c_u_1 c_u_2 f_u_0 f_u_1 f_u_2 c_v_0 c_v_1 c_v_2 f_v_0 f_v_1 f_v_2 c_t_0 c_t_1 c_t_2 f_t_0 f_t_1 f_t_2
  obtain ⟨c_a_0, c_a_1, c_a_2⟩ := bwc3 (k_a)
  obtain ⟨c_b_0, c_b_1, c_b_2⟩ := bwc3 (k_b)
  obtain ⟨c_c_0, c_c_1, c_c_2⟩ := bwc3 (k_c)
  obtain ⟨c_y_0, c_y_1, c_y_2, c_y_3, c_y_4, c_y_5, c_y_6⟩ := bwc7 (k_y)
  obtain ⟨c_r_0, c_r_1⟩ := bwc2 (k_r)
  obtain ⟨c_u_0, c_u_1, c_u_2⟩ := bwc3 (k_u)
  obtain ⟨f_u_0, f_u_1, f_u_2⟩ := bwf3 (k_u)
  obtain ⟨c_v_0, c_v_1, c_v_2⟩ := bwc3 (k_v)
  obtain ⟨f_v_0, f_v_1, f_v_2⟩ := bwf3 (k_v)
  obtain ⟨c_t_0, c_t_1, c_t_2⟩ := bwc3 (k_t)
  obtain ⟨f_t_0, f_t_1, f_t_2⟩ := bwf3 (k_t)
  obtain ⟨p3, hp3⟩ : ∃ p : BW W3, p.w = W3 := ⟨BW.start W3, rfl⟩
  rw [← hp3]
  clear hp3
  obtain ⟨W4, hW4⟩ : ∃ W, W = ((p3.w.setCell ⟨g_v, 0, none⟩ (.int .i64 v1)).setCell ⟨g_v, 1, none⟩ (.int .i64 v2)).setCell ⟨g_v, 2, none⟩ (.int .i64 v3) := ⟨_, rfl⟩
  have B4 : Below w.heap.size w W4 := by rw [hW4]; exact blp3 (bw_below B3 p3) (by omega)
  have k_a := bkoe3 hW4 (k_a.below p3.h) (by omega)
  have k_b := bkoe3 hW4 (k_b.below p3.h) (by omega)
  have k_c := bkoe3 hW4 (k_c.below p3.h) (by omega)
  have k_y := bkoe3 hW4 (k_y.below p3.h) (by omega)
  have k_r := bkoe3 hW4 (k_r.below p3.h) (by omega)
  have k_u := bkoe3 hW4 (k_u.below p3.h) (by omega)
  have k_v := bkpe3 hW4 (k_v.below p3.h)
  have k_t := bkoe3 hW4 (k_t.below p3.h) (by omega)
  rw [← hW4]
  clear hW4
  clear B3
  clear c_a_0 c_a_1 c_a_2 c_b_0 c_b_1 c_b_2 c_c_0 c_c_1 c_c_2 c_y_0 c_y_1 c_y_2 c_y_3 c_y_4 c_y_5 c_y_6 c_r_0 c_r_1 c_u_0 c_u_1 c_u_2 f_u_0 f_u_1 f_u_2 c_v_0 c_v_1 c_v_2 f_v_0 f_v_1 f_v_2 c_t_0 c_t_1 c_t_2 f_t_0 f_t_1 f_t_2
  obtain ⟨c_a_0, c_a_1, c_a_2⟩ := bwc3 (k_a)
  obtain ⟨c_b_0, c_b_1, c_b_2⟩ := bwc3 (k_b)
  obtain ⟨c_c_0, c_c_1, c_c_2⟩ := bwc3 (k_c)
  obtain ⟨c_y_0, c_y_1, c_y_2, c_y_3, c_y_4, c_y_5, c_y_6⟩ := bwc7 (k_y)
  obtain ⟨c_r_0, c_r_1⟩ := bwc2 (k_r)
  obtain ⟨c_u_0, c_u_1, c_u_2⟩ := bwc3 (k_u)
  obtain ⟨f_u_0, f_u_1, f_u_2⟩ := bwf3 (k_u)
  obtain ⟨c_v_0, c_v_1, c_v_2⟩ := bwc3 (k_v)
  obtain ⟨f_v_0, f_v_1, f_v_2⟩ := bwf3 (k_v)
  obtain ⟨c_t_0, c_t_1, c_t_2⟩ := bwc3 (k_t)
  obtain ⟨f_t_0, f_t_1, f_t_2⟩ := bwf3 (k_t)
  obtain ⟨p4, hp4⟩ : ∃ p : BW W4, p.w = W4 := ⟨BW.start W4, rfl⟩
  rw [← hp4]
  clear hp4
  obtain ⟨W5, hW5⟩ : ∃ W, W = ((p4.w.setCell ⟨g_t, 0, none⟩ (.int .i64 t1)).setCell ⟨g_t, 1, none⟩ (.int .i64 t2)).setCell ⟨g_t, 2, none⟩ (.int .i64 t3) := ⟨_, rfl⟩
  have B5 : Below w.heap.size w W5 := by rw [hW5]; exact blp3 (bw_below B4 p4) (by omega)
  have k_a := bkoe3 hW5 (k_a.below p4.h) (by omega)
  have k_b := bkoe3 hW5 (k_b.below p4.h) (by omega)
  have k_c := bkoe3 hW5 (k_c.below p4.h) (by omega)
  have k_y := bkoe3 hW5 (k_y.below p4.h) (by omega)
  have k_r := bkoe3 hW5 (k_r.below p4.h) (by omega)
  have k_u := bkoe3 hW5 (k_u.below p4.h) (by omega)
  have k_v := bkoe3 hW5 (k_v.below p4.h) (by omega)
  have k_t := bkpe3 hW5 (k_t.below p4.h)
  rw [← hW5]
  clear hW5
  clear B4
  clear c_a_0 c_a_1 c_a_2 c_b_0 c_b_1 c_b_2 c_c_0 c_c_1 c_c_2 c_y_0 c_y_1 c_y_2 c_y_3 c_y_4 c_y_5 c_y_6 c_r_0 c_r_1 c_u_0 c_u_1 c_u_2 f_u_0 f_u_1 f_u_2 c_v_0 c_v_1 c_v_2 f_v_0 f_v_1 f_v_2 c_t_0 c_t_1 c_t_2 f_t_0 f_t_1 f_t_2
  obtain ⟨c_a_0, c_a_1, c_a_2⟩ := bwc3 (k_a)
  obtain ⟨c_b_0, c_b_1, c_b_2⟩ := bwc3 (k_b)
  obtain ⟨c_c_0, c_c_1, c_c_2⟩ := bwc3 (k_c)
  obtain ⟨c_y_0, c_y_1, c_y_2, c_y_3, c_y_4, c_y_5, c_y_6⟩ := bwc7 (k_y)
  obtain ⟨c_r_0, c_r_1⟩ := bwc2 (k_r)
  obtain ⟨c_u_0, c_u_1, c_u_2⟩ := bwc3 (k_u)
  obtain ⟨c_v_0, c_v_1, c_v_2⟩ := bwc3 (k_v)
  obtain ⟨c_t_0, c_t_1, c_t_2⟩ := bwc3 (k_t)
  obtain ⟨p5, hp5⟩ : ∃ p : BW W5, p.w = W5 := ⟨BW.start W5, rfl⟩
  rw [← hp5]
  clear hp5
  refine wp_region_late 12 14 46 (by kernel_rfl) (by kernel_rfl) rfl rfl rfl (fun _ _ _ _ h => h) ?_
  refine any_region_float (t := 30) (zs := #[.int .i64 0, .int .i64 0]) 14 13 13 72 (by kernel_rfl) (by kernel_rfl) (by kernel_rfl) (by kernel_rfl) rfl ?_ ?_
  · intro ev wx
    simp [execOp, go_sem]
  apply Exists.intro
  refine ⟨?_, ?_⟩
  · intro wb' hwb'
    obtain ⟨d_a_0, d_a_1, d_a_2⟩ := bwc3 (k_a.below hwb')
    obtain ⟨d_b_0, d_b_1, d_b_2⟩ := bwc3 (k_b.below hwb')
    obtain ⟨d_c_0, d_c_1, d_c_2⟩ := bwc3 (k_c.below hwb')
    obtain ⟨d_y_0, d_y_1, d_y_2, d_y_3, d_y_4, d_y_5, d_y_6⟩ := bwc7 (k_y.below hwb')
    obtain ⟨d_r_0, d_r_1⟩ := bwc2 (k_r.below hwb')
    obtain ⟨d_u_0, d_u_1, d_u_2⟩ := bwc3 (k_u.below hwb')
    obtain ⟨d_v_0, d_v_1, d_v_2⟩ := bwc3 (k_v.below hwb')
    obtain ⟨d_t_0, d_t_1, d_t_2⟩ := bwc3 (k_t.below hwb')
    simp only [edgeAt, maskAt, List.take_succ_cons, List.take_zero]
    repeat (go_big_quiet_step (first
      | (go_at_call 39; (first | (with_reducible exact bw_call KN.out _) | (with_reducible exact bw_call KD.out _)))
      | (go_at_call 38; (first | (with_reducible exact bw_call KM.out _)))))
    refine wpQuiet_nil ?_
    exact rfl
  intro W6 g_f hW hg k_f
  have B6 : Below w.heap.size w W6 := B5.trans (hW.mono B5.size)
  have o_f : w.heap.size ≤ g_f := Nat.le_trans B5.size hg
  have l_f : g_t < g_f := Nat.lt_of_lt_of_le k_t.lt hg
  have l_f_u : g_u < g_f := Nat.lt_of_lt_of_le k_u.lt hg
  have l_f_v : g_v < g_f := Nat.lt_of_lt_of_le k_v.lt hg
  have k_a := k_a.below hW
  have k_b := k_b.below hW
  have k_c := k_c.below hW
  have k_y := k_y.below hW
  have k_r := k_r.below hW
  have k_u := k_u.below hW
  have k_v := k_v.below hW
  have k_t := k_t.below hW
  clear hW hg B5
  clear c_a_0 c_a_1 c_a_2 c_b_0 c_b_1 c_b_2 c_c_0 c_c_1 c_c_2 c_y_0 c_y_1 c_y_2 c_y_3 c_y_4 c_y_5 c_y_6 c_r_0 c_r_1 c_u_0 c_u_1 c_u_2 c_v_0 c_v_1 c_v_2 c_t_0 c_t_1 c_t_2
  simp only [edgeAt, List.drop_succ_cons, List.drop_zero, Act.put, List.setIfInBounds_toArray, List.set_cons_zero, List.set_cons_succ]
  obtain ⟨c_a_0, c_a_1, c_a_2⟩ := bwc3 (k_a)
  obtain ⟨c_b_0, c_b_1, c_b_2⟩ := bwc3 (k_b)
  obtain ⟨c_c_0, c_c_1, c_c_2⟩ := bwc3 (k_c)
  obtain ⟨c_y_0, c_y_1, c_y_2, c_y_3, c_y_4, c_y_5, c_y_6⟩ := bwc7 (k_y)
  obtain ⟨c_r_0, c_r_1⟩ := bwc2 (k_r)
  obtain ⟨c_u_0, c_u_1, c_u_2⟩ := bwc3 (k_u)
  obtain ⟨c_v_0, c_v_1, c_v_2⟩ := bwc3 (k_v)
  obtain ⟨c_t_0, c_t_1, c_t_2⟩ := bwc3 (k_t)
  obtain ⟨c_f_0, c_f_1⟩ := bwc2 (k_f)
  obtain ⟨f_f_0, f_f_1⟩ := bwf2 (k_f)
  obtain ⟨p6, hp6⟩ : ∃ p : BW W6, p.w = W6 := ⟨BW.start W6, rfl⟩
  rw [← hp6]
  clear hp6
  go_upto_region 5 with (fail)
  obtain ⟨W7, hW7⟩ : ∃ W, W = (p6.w.setCell ⟨g_f, 0, none⟩ (.int .i64 f1)).setCell ⟨g_f, 1, none⟩ (.int .i64 f2) := ⟨_, rfl⟩
  have B7 : Below w.heap.size w W7 := by rw [hW7]; exact blp2 (bw_below B6 p6) (by omega)
  have k_a := bkoe2 hW7 (k_a.below p6.h) (by omega)
  have k_b := bkoe2 hW7 (k_b.below p6.h) (by omega)
  have k_c := bkoe2 hW7 (k_c.below p6.h) (by omega)
  have k_y := bkoe2 hW7 (k_y.below p6.h) (by omega)
  have k_r := bkoe2 hW7 (k_r.below p6.h) (by omega)
  have k_u := bkoe2 hW7 (k_u.below p6.h) (by omega)
  have k_v := bkoe2 hW7 (k_v.below p6.h) (by omega)
  have k_t := bkoe2 hW7 (k_t.below p6.h) (by omega)
  have k_f := bkpe2 hW7 (k_f.below p6.h)
  rw [← hW7]
  clear hW7
  clear B6
  clear c_a_0 c_a_1 c_a_2 c_b_0 c_b_1 c_b_2 c_c_0 c_c_1 c_c_2 c_y_0 c_y_1 c_y_2 c_y_3 c_y_4 c_y_5 c_y_6 c_r_0 c_r_1 c_u_0 c_u_1 c_u_2 c_v_0 c_v_1 c_v_2 c_t_0 c_t_1 c_t_2 c_f_0 c_f_1 f_f_0 f_f_1
  obtain ⟨c_a_0, c_a_1, c_a_2⟩ := bwc3 (k_a)
  obtain ⟨c_b_0, c_b_1, c_b_2⟩ := bwc3 (k_b)
  obtain ⟨c_c_0, c_c_1, c_c_2⟩ := bwc3 (k_c)
  obtain ⟨c_y_0, c_y_1, c_y_2, c_y_3, c_y_4, c_y_5, c_y_6⟩ := bwc7 (k_y)
  obtain ⟨c_r_0, c_r_1⟩ := bwc2 (k_r)
  obtain ⟨f_r_0, f_r_1⟩ := bwf2 (k_r)
  obtain ⟨c_u_0, c_u_1, c_u_2⟩ := bwc3 (k_u)
  obtain ⟨c_v_0, c_v_1, c_v_2⟩ := bwc3 (k_v)
  obtain ⟨c_t_0, c_t_1, c_t_2⟩ := bwc3 (k_t)
  obtain ⟨c_f_0, c_f_1⟩ := bwc2 (k_f)
  obtain ⟨p7, hp7⟩ : ∃ p : BW W7, p.w = W7 := ⟨BW.start W7, rfl⟩
  rw [← hp7]
  clear hp7
  refine wp_region_bw (by kernel_rfl) (by kernel_rfl) ?_
  repeat (go_big_quiet_step (first
    | fail))
  refine wpQuiet_nil ?_
  intro _ hw'
  obtain ⟨q, rfl⟩ := hw'
  go_wp2
  have kr := bkp2 (k_r.below q.h) (.int .i64 0) (.int .i64 0)
  obtain ⟨rc0, rc1⟩ := rwc2 kr
  exact bodyPost_ret (v := .tuple #[.agg #[.int .i64 0, .int .i64 0], .bool false]) (by simp [results, Try.results30, go_sem, rc0, rc1]) rfl ⟨rfl, blp2 (bw_below B7 q) (by omega)⟩

set_option maxRecDepth 100000 in
set_option maxHeartbeats 4000000 in
theorem tri_Hit_out (a1 a2 a3 b1 b2 b3 c1 c2 c3 o1 o2 o3 d1 d2 d3 fr : Int) (w : World) (hp : (pl3 (a1, a2, a3) (b1, b2, b3) (c1, c2, c3) && plc (o1, o2, o3)) = true) (hk : fmakeOk (vvol (b1 - a1) (b2 - a2) (b3 - a3) (c1 - a1) (c2 - a2) (c3 - a3) (a1 - o1) (a2 - o2) (a3 - o3)) (vvol (b1 - a1) (b2 - a2) (b3 - a3) (c1 - a1) (c2 - a2) (c3 - a3) d1 d2 d3) = true) (hg : decide ((fmake (vvol (b1 - a1) (b2 - a2) (b3 - a3) (c1 - a1) (c2 - a2) (c3 - a3) (a1 - o1) (a2 - o2) (a3 - o3)) (vvol (b1 - a1) (b2 - a2) (b3 - a3) (c1 - a1) (c2 - a2) (c3 - a3) d1 d2 d3)).1 ≤ 0) = false) (hs : srd (vvol d1 d2 d3 (a1 - o1) (a2 - o2) (a3 - o3) (b1 - o1) (b2 - o2) (b3 - o3)) (vvol d1 d2 d3 (b1 - o1) (b2 - o2) (b3 - o3) (c1 - o1) (c2 - o2) (c3 - o3)) (vvol d1 d2 d3 (c1 - o1) (c2 - o2) (c3 - o3) (a1 - o1) (a2 - o2) (a3 - o3)) = false) :
    Calls Try.prog 30 #[.agg #[.int .i64 a1, .int .i64 a2, .int .i64 a3], .agg #[.int .i64 b1, .int .i64 b2, .int .i64 b3], .agg #[.int .i64 c1, .int .i64 c2, .int .i64 c3], .agg #[.int .i64 o1, .int .i64 o2, .int .i64 o3, .int .i64 d1, .int .i64 d2, .int .i64 d3, .int .i64 fr]] w fun en w' => en = .returned (.tuple #[.agg #[.int .i64 0, .int .i64 0], .bool false]) ∧ Below w.heap.size w w' := by
  obtain ⟨h0, h4⟩ := Bool.and_eq_true_iff.1 hp
  obtain ⟨h1, h2, h3⟩ := pl3_iff.1 h0
  have q1 := plc_iff.1 h1
  dsimp only at q1
  have q2 := plc_iff.1 h2
  dsimp only at q2
  have q3 := plc_iff.1 h3
  dsimp only at q3
  have q4 := plc_iff.1 h4
  dsimp only at q4
  have vb := @vvol_61
  have i1 := vb (b1 - a1) (b2 - a2) (b3 - a3) (c1 - a1) (c2 - a2) (c3 - a3) (a1 - o1) (a2 - o2) (a3 - o3)
  have i2 := vb (b1 - a1) (b2 - a2) (b3 - a3) (c1 - a1) (c2 - a2) (c3 - a3) d1 d2 d3
  have KM := Lib.hid (fun w => frac_Make (vvol (b1 - a1) (b2 - a2) (b3 - a3) (c1 - a1) (c2 - a2) (c3 - a3) (a1 - o1) (a2 - o2) (a3 - o3)) (vvol (b1 - a1) (b2 - a2) (b3 - a3) (c1 - a1) (c2 - a2) (c3 - a3) d1 d2 d3) w (by unfold I64; omega) (by unfold I64; omega))
  rw [hk] at KM
  clear vb i1 i2
  have KU := Lib.hid (fun w => vec_Sub b1 b2 b3 a1 a2 a3 w (by unfold I64; omega) (by unfold I64; omega) (by unfold I64; omega) (by unfold I64; omega) (by unfold I64; omega) (by unfold I64; omega))
  rw [vsub_pl (x := b1) (a := a1) (by omega) (by omega), vsub_pl (x := b2) (a := a2) (by omega) (by omega), vsub_pl (x := b3) (a := a3) (by omega) (by omega)] at KU
  obtain ⟨u1, hu1⟩ : ∃ t, t = b1 - a1 := ⟨_, rfl⟩
  obtain ⟨u2, hu2⟩ : ∃ t, t = b2 - a2 := ⟨_, rfl⟩
  obtain ⟨u3, hu3⟩ : ∃ t, t = b3 - a3 := ⟨_, rfl⟩
  rw [← hu1, ← hu2, ← hu3] at KU
  have KV := Lib.hid (fun w => vec_Sub c1 c2 c3 a1 a2 a3 w (by unfold I64; omega) (by unfold I64; omega) (by unfold I64; omega) (by unfold I64; omega) (by unfold I64; omega) (by unfold I64; omega))
  rw [vsub_pl (x := c1) (a := a1) (by omega) (by omega), vsub_pl (x := c2) (a := a2) (by omega) (by omega), vsub_pl (x := c3) (a := a3) (by omega) (by omega)] at KV
  obtain ⟨v1, hv1⟩ : ∃ t, t = c1 - a1 := ⟨_, rfl⟩
  obtain ⟨v2, hv2⟩ : ∃ t, t = c2 - a2 := ⟨_, rfl⟩
  obtain ⟨v3, hv3⟩ : ∃ t, t = c3 - a3 := ⟨_, rfl⟩
  rw [← hv1, ← hv2, ← hv3] at KV
  have KT := Lib.hid (fun w => vec_Sub a1 a2 a3 o1 o2 o3 w (by unfold I64; omega) (by unfold I64; omega) (by unfold I64; omega) (by unfold I64; omega) (by unfold I64; omega) (by unfold I64; omega))
  rw [vsub_pl (x := a1) (a := o1) (by omega) (by omega), vsub_pl (x := a2) (a := o2) (by omega) (by omega), vsub_pl (x := a3) (a := o3) (by omega) (by omega)] at KT
  obtain ⟨t1, ht1⟩ : ∃ t, t = a1 - o1 := ⟨_, rfl⟩
  obtain ⟨t2, ht2⟩ : ∃ t, t = a2 - o2 := ⟨_, rfl⟩
  obtain ⟨t3, ht3⟩ : ∃ t, t = a3 - o3 := ⟨_, rfl⟩
  rw [← ht1, ← ht2, ← ht3] at KT
  rw [← hu1, ← hu2, ← hu3, ← hv1, ← hv2, ← hv3, ← ht1, ← ht2, ← ht3] at KM hk hg
  have KE := Lib.hid (fun w => vec_Sub b1 b2 b3 o1 o2 o3 w (by unfold I64; omega) (by unfold I64; omega) (by unfold I64; omega) (by unfold I64; omega) (by unfold I64; omega) (by unfold I64; omega))
  rw [vsub_pl (x := b1) (a := o1) (by omega) (by omega), vsub_pl (x := b2) (a := o2) (by omega) (by omega), vsub_pl (x := b3) (a := o3) (by omega) (by omega)] at KE
  obtain ⟨e1, he1⟩ : ∃ t, t = b1 - o1 := ⟨_, rfl⟩
  obtain ⟨e2, he2⟩ : ∃ t, t = b2 - o2 := ⟨_, rfl⟩
  obtain ⟨e3, he3⟩ : ∃ t, t = b3 - o3 := ⟨_, rfl⟩
  rw [← he1, ← he2, ← he3] at KE
  have KF := Lib.hid (fun w => vec_Sub c1 c2 c3 o1 o2 o3 w (by unfold I64; omega) (by unfold I64; omega) (by unfold I64; omega) (by unfold I64; omega) (by unfold I64; omega) (by unfold I64; omega))
  rw [vsub_pl (x := c1) (a := o1) (by omega) (by omega), vsub_pl (x := c2) (a := o2) (by omega) (by omega), vsub_pl (x := c3) (a := o3) (by omega) (by omega)] at KF
  obtain ⟨m1, hm1⟩ : ∃ t, t = c1 - o1 := ⟨_, rfl⟩
  obtain ⟨m2, hm2⟩ : ∃ t, t = c2 - o2 := ⟨_, rfl⟩
  obtain ⟨m3, hm3⟩ : ∃ t, t = c3 - o3 := ⟨_, rfl⟩
  rw [← hm1, ← hm2, ← hm3] at KF
  rw [← ht1, ← ht2, ← ht3, ← he1, ← he2, ← he3, ← hm1, ← hm2, ← hm3] at hs
  have KS := Lib.hid (fun (b : Nat) (w : World) kb => tri_surround d1 d2 d3 t1 t2 t3 e1 e2 e3 m1 m2 m3 w b 3 kb)
  rw [hs] at KS
  clear hs
  have KN := Lib.hid (fun w => vec_Volume u1 u2 u3 v1 v2 v3 t1 t2 t3 w)
  have KD := Lib.hid (fun w => vec_Volume u1 u2 u3 v1 v2 v3 d1 d2 d3 w)
  generalize vvol u1 u2 u3 v1 v2 v3 t1 t2 t3 = num at *
  generalize vvol u1 u2 u3 v1 v2 v3 d1 d2 d3 = den at *
  generalize fmake num den = X at *
  obtain ⟨f1, f2⟩ := X
  dsimp only at KM hg
  clear hk h0 h1 h2 h3 h4 q1 q2 q3 q4 hu1 hu2 hu3 hv1 hv2 hv3 ht1 ht2 ht3 he1 he2 he3 hm1 hm2 hm3
  go_enter Try.func30, Try.ntmps30
  go_upto_region 1 with (fail)
  obtain ⟨W1, hW1⟩ : ∃ W, W = ((((w.alloc (.cells #[.int .i64 a1, .int .i64 a2, .int .i64 a3] 24)).alloc (.cells #[.int .i64 b1, .int .i64 b2, .int .i64 b3] 24)).alloc (.cells #[.int .i64 c1, .int .i64 c2, .int .i64 c3] 24)).alloc (.cells #[.int .i64 o1, .int .i64 o2, .int .i64 o3, .int .i64 d1, .int .i64 d2, .int .i64 d3, .int .i64 fr] 28)).alloc (.cells #[.int .i64 0, .int .i64 0] 30) := ⟨_, rfl⟩
  obtain ⟨k_a, k_b, k_c, k_y, k_r, B1⟩ := st5 hW1
  rw [← hW1]
  clear hW1
  have l_b : w.heap.size < w.heap.size + 1 := by omega
  have l_c : w.heap.size + 1 < w.heap.size + 1 + 1 := by omega
  have l_y : w.heap.size + 1 + 1 < w.heap.size + 1 + 1 + 1 := by omega
  have l_r : w.heap.size + 1 + 1 + 1 < w.heap.size + 1 + 1 + 1 + 1 := by omega
  generalize w.heap.size + 1 + 1 + 1 + 1 = g_r at *
  generalize w.heap.size + 1 + 1 + 1 = g_y at *
  generalize w.heap.size + 1 + 1 = g_c at *
  generalize w.heap.size + 1 = g_b at *
  obtain ⟨c_a_0, c_a_1, c_a_2⟩ := bwc3 (k_a)
  obtain ⟨c_b_0, c_b_1, c_b_2⟩ := bwc3 (k_b)
  obtain ⟨c_c_0, c_c_1, c_c_2⟩ := bwc3 (k_c)
  obtain ⟨c_y_0, c_y_1, c_y_2, c_y_3, c_y_4, c_y_5, c_y_6⟩ := bwc7 (k_y)
  obtain ⟨c_r_0, c_r_1⟩ := bwc2 (k_r)
  obtain ⟨f_r_0, f_r_1⟩ := bwf2 (k_r)
  obtain ⟨p1, hp1⟩ : ∃ p : BW W1, p.w = W1 := ⟨BW.start W1, rfl⟩
  rw [← hp1]
  clear hp1
  have KC : ∀ p : BW W1, Calls Try.prog 36 #[.slice (some ⟨p.w.heap.size, 0, none⟩) 4 4] (p.w.alloc (.cells #[.int .i64 a1, .int .i64 a2, .int .i64 a3, .int .i64 b1, .int .i64 b2, .int .i64 b3, .int .i64 c1, .int .i64 c2, .int .i64 c3, .int .i64 o1, .int .i64 o2, .int .i64 o3] 24)) fun e w' => e = .returned (.bool true) ∧ ∃ q : BW W1, w' = q.w := fun p =>
    (tri_places4 4 a1 a2 a3 b1 b2 b3 c1 c2 c3 o1 o2 o3 W1 p.w _ rfl p.h).mono fun e w' h => ⟨by rw [hp] at h; exact h.1, ⟨w', h.2⟩, rfl⟩
  clear hp
  go_upto_region 3 with (go_at_call 36; (with_reducible refine (KC _).mono ?_); rintro e w' ⟨rfl, q, rfl⟩)
  clear KC
  refine wp_region_floatL 13 72 [⟨10, 10, 24, #[.int .i64 0, .int .i64 0, .int .i64 0]⟩, ⟨11, 11, 24, #[.int .i64 0, .int .i64 0, .int .i64 0]⟩, ⟨12, 12, 24, #[.int .i64 0, .int .i64 0, .int .i64 0]⟩] (by kernel_rfl) (by kernel_rfl) (by kernel_rfl) (by kernel_rfl) (by kernel_rfl) (by decide) (by kernel_rfl) ?_ ?_
  · exact ⟨⟨_, rfl, fun ev wx => by simp [execOp, go_sem]⟩, ⟨_, rfl, fun ev wx => by simp [execOp, go_sem]⟩, ⟨_, rfl, fun ev wx => by simp [execOp, go_sem]⟩, trivial⟩
  apply Exists.intro
  refine ⟨?_, ?_⟩
  · intro wb' hwb'
    obtain ⟨d_a_0, d_a_1, d_a_2⟩ := bwc3 (k_a.below hwb')
    obtain ⟨d_b_0, d_b_1, d_b_2⟩ := bwc3 (k_b.below hwb')
    obtain ⟨d_c_0, d_c_1, d_c_2⟩ := bwc3 (k_c.below hwb')
    obtain ⟨d_y_0, d_y_1, d_y_2, d_y_3, d_y_4, d_y_5, d_y_6⟩ := bwc7 (k_y.below hwb')
    obtain ⟨d_r_0, d_r_1⟩ := bwc2 (k_r.below hwb')
    simp only [List.map_cons, List.map_nil, maskL, List.foldr_cons, List.foldr_nil, maskAt, List.take_succ_cons, List.take_zero]
    repeat (go_big_quiet_step (first
      | (go_at_call 37; (first | (with_reducible exact bw_call KU.out _) | (with_reducible exact bw_call KV.out _) | (with_reducible exact bw_call KT.out _)))))
    refine wpQuiet_nil ?_
    exact rfl
  intro W2 st hW hst hne
  obtain ⟨g_u, e_u, hg_u, k_u⟩ := hst 0 _ rfl
  obtain ⟨g_v, e_v, hg_v, k_v⟩ := hst 1 _ rfl
  obtain ⟨g_t, e_t, hg_t, k_t⟩ := hst 2 _ rfl
  have n_u_v : g_u ≠ g_v := fun e => hne 0 1 _ (by simp) (by simp) (by omega) e_u (by rw [e]; exact e_v)
  have n_u_t : g_u ≠ g_t := fun e => hne 0 2 _ (by simp) (by simp) (by omega) e_u (by rw [e]; exact e_t)
  have n_v_t : g_v ≠ g_t := fun e => hne 1 2 _ (by simp) (by simp) (by omega) e_v (by rw [e]; exact e_t)
  have B2 : Below w.heap.size w W2 := B1.trans (hW.mono B1.size)
  have l_u : g_r < g_u := Nat.lt_of_lt_of_le k_r.lt hg_u
  have l_v : g_r < g_v := Nat.lt_of_lt_of_le k_r.lt hg_v
  have l_t : g_r < g_t := Nat.lt_of_lt_of_le k_r.lt hg_t
  have k_a := k_a.below hW
  have k_b := k_b.below hW
  have k_c := k_c.below hW
  have k_y := k_y.below hW
  have k_r := k_r.below hW
  simp only [List.drop_succ_cons, List.drop_zero, putAll, Nat.zero_add, Nat.reduceAdd, e_u, e_v, e_t, putO, Act.put, List.setIfInBounds_toArray, List.set_cons_zero, List.set_cons_succ]
  clear hW hst hne B1 hg_u e_u hg_v e_v hg_t e_t
  clear c_a_0 c_a_1 c_a_2 c_b_0 c_b_1 c_b_2 c_c_0 c_c_1 c_c_2 c_y_0 c_y_1 c_y_2 c_y_3 c_y_4 c_y_5 c_y_6 c_r_0 c_r_1 f_r_0 f_r_1
  obtain ⟨c_a_0, c_a_1, c_a_2⟩ := bwc3 (k_a)
  obtain ⟨c_b_0, c_b_1, c_b_2⟩ := bwc3 (k_b)
  obtain ⟨c_c_0, c_c_1, c_c_2⟩ := bwc3 (k_c)
  obtain ⟨c_y_0, c_y_1, c_y_2, c_y_3, c_y_4, c_y_5, c_y_6⟩ := bwc7 (k_y)
  obtain ⟨c_r_0, c_r_1⟩ := bwc2 (k_r)
  obtain ⟨c_u_0, c_u_1, c_u_2⟩ := bwc3 (k_u)
  obtain ⟨f_u_0, f_u_1, f_u_2⟩ := bwf3 (k_u)
  obtain ⟨c_v_0, c_v_1, c_v_2⟩ := bwc3 (k_v)
  obtain ⟨f_v_0, f_v_1, f_v_2⟩ := bwf3 (k_v)
  obtain ⟨c_t_0, c_t_1, c_t_2⟩ := bwc3 (k_t)
  obtain ⟨f_t_0, f_t_1, f_t_2⟩ := bwf3 (k_t)
  obtain ⟨p2, hp2⟩ : ∃ p : BW W2, p.w = W2 := ⟨BW.start W2, rfl⟩
  rw [← hp2]
  clear hp2
  go_upto_region 4 with (fail)
  obtain ⟨W3, hW3⟩ : ∃ W, W = ((p2.w.setCell ⟨g_u, 0, none⟩ (.int .i64 u1)).setCell ⟨g_u, 1, none⟩ (.int .i64 u2)).setCell ⟨g_u, 2, none⟩ (.int .i64 u3) := ⟨_, rfl⟩
  have B3 : Below w.heap.size w W3 := by rw [hW3]; exact blp3 (bw_below B2 p2) (by omega)
  have k_a := bkoe3 hW3 (k_a.below p2.h) (by omega)
  have k_b := bkoe3 hW3 (k_b.below p2.h) (by omega)
  have k_c := bkoe3 hW3 (k_c.below p2.h) (by omega)
  have k_y := bkoe3 hW3 (k_y.below p2.h) (by omega)
  have k_r := bkoe3 hW3 (k_r.below p2.h) (by omega)
  have k_u := bkpe3 hW3 (k_u.below p2.h)
  have k_v := bkoe3 hW3 (k_v.below p2.h) (by omega)
  have k_t := bkoe3 hW3 (k_t.below p2.h) (by omega)
  rw [← hW3]
  clear hW3
  clear B2
  clear c_a_0 c_a_1 c_a_2 c_b_0 c_b_1 c_b_2 c_c_0 c_c_1 c_c_2 c_y_0 c_y_1 c_y_2 c_y_3 c_y_4 c_y_5 c_y_6 c_r_0 c_r_1 c_u_0 c_u_1 c_u_2 f_u_0 f_u_1 f_u_2 c_v_0 c_v_1 c_v_2 f_v_0 f_v_1 f_v_2 c_t_0 c_t_1 c_t_2 f_t_0 f_t_1 f_t_2
  obtain ⟨c_a_0, c_a_1, c_a_2⟩ := bwc3 (k_a)
  obtain ⟨c_b_0, c_b_1, c_b_2⟩ := bwc3 (k_b)
  obtain ⟨c_c_0, c_c_1, c_c_2⟩ := bwc3 (k_c)
  obtain ⟨c_y_0, c_y_1, c_y_2, c_y_3, c_y_4, c_y_5, c_y_6⟩ := bwc7 (k_y)
  obtain ⟨c_r_0, c_r_1⟩ := bwc2 (k_r)
  obtain ⟨c_u_0, c_u_1, c_u_2⟩ := bwc3 (k_u)
  obtain ⟨f_u_0, f_u_1, f_u_2⟩ := bwf3 (k_u)
  obtain ⟨c_v_0, c_v_1, c_v_2⟩ := bwc3 (k_v)
  obtain ⟨f_v_0, f_v_1, f_v_2⟩ := bwf3 (k_v)
  obtain ⟨c_t_0, c_t_1, c_t_2⟩ := bwc3 (k_t)
  obtain ⟨f_t_0, f_t_1, f_t_2⟩ := bwf3 (k_t)
  obtain ⟨p3, hp3⟩ : ∃ p : BW W3, p.w = W3 := ⟨BW.start W3, rfl⟩
  rw [← hp3]
  clear hp3
  obtain ⟨W4, hW4⟩ : ∃ W, W = ((p3.w.setCell ⟨g_v, 0, none⟩ (.int .i64 v1)).setCell ⟨g_v, 1, none⟩ (.int .i64 v2)).setCell ⟨g_v, 2, none⟩ (.int .i64 v3) := ⟨_, rfl⟩
  have B4 : Below w.heap.size w W4 := by rw [hW4]; exact blp3 (bw_below B3 p3) (by omega)
  have k_a := bkoe3 hW4 (k_a.below p3.h) (by omega)
  have k_b := bkoe3 hW4 (k_b.below p3.h) (by omega)
  have k_c := bkoe3 hW4 (k_c.below p3.h) (by omega)
  have k_y := bkoe3 hW4 (k_y.below p3.h) (by omega)
  have k_r := bkoe3 hW4 (k_r.below p3.h) (by omega)
  have k_u := bkoe3 hW4 (k_u.below p3.h) (by omega)
  have k_v := bkpe3 hW4 (k_v.below p3.h)
  have k_t := bkoe3 hW4 (k_t.below p3.h) (by omega)
  rw [← hW4]
  clear hW4
  clear B3
  clear c_a_0 c_a_1 c_a_2 c_b_0 c_b_1 c_b_2 c_c_0 c_c_1 c_c_2 c_y_0 c_y_1 c_y_2 c_y_3 c_y_4 c_y_5 c_y_6 c_r_0 c_r_1 c_u_0 c_u_1 c_u_2 f_u_0 f_u_1 f_u_2 c_v_0 c_v_1 c_v_2 f_v_0 f_v_1 f_v_2 c_t_0 c_t_1 c_t_2 f_t_0 f_t_1 f_t_2
  obtain ⟨c_a_0, c_a_1, c_a_2⟩ := bwc3 (k_a)
  obtain ⟨c_b_0, c_b_1, c_b_2⟩ := bwc3 (k_b)
  obtain ⟨c_c_0, c_c_1, c_c_2⟩ := bwc3 (k_c)
  obtain ⟨c_y_0, c_y_1, c_y_2, c_y_3, c_y_4, c_y_5, c_y_6⟩ := bwc7 (k_y)
  obtain ⟨c_r_0, c_r_1⟩ := bwc2 (k_r)
  obtain ⟨c_u_0, c_u_1, c_u_2⟩ := bwc3 (k_u)
  obtain ⟨f_u_0, f_u_1, f_u_2⟩ := bwf3 (k_u)
  obtain ⟨c_v_0, c_v_1, c_v_2⟩ := bwc3 (k_v)
  obtain ⟨f_v_0, f_v_1, f_v_2⟩ := bwf3 (k_v)
  obtain ⟨c_t_0, c_t_1, c_t_2⟩ := bwc3 (k_t)
  obtain ⟨f_t_0, f_t_1, f_t_2⟩ := bwf3 (k_t)
  obtain ⟨p4, hp4⟩ : ∃ p : BW W4, p.w = W4 := ⟨BW.start W4, rfl⟩
  rw [← hp4]
  clear hp4
  obtain ⟨W5, hW5⟩ : ∃ W, W = ((p4.w.setCell ⟨g_t, 0, none⟩ (.int .i64 t1)).setCell ⟨g_t, 1, none⟩ (.int .i64 t2)).setCell ⟨g_t, 2, none⟩ (.int .i64 t3) := ⟨_, rfl⟩
  have B5 : Below w.heap.size w W5 := by rw [hW5]; exact blp3 (bw_below B4 p4) (by omega)
  have k_a := bkoe3 hW5 (k_a.below p4.h) (by omega)
  have k_b := bkoe3 hW5 (k_b.below p4.h) (by omega)
  have k_c := bkoe3 hW5 (k_c.below p4.h) (by omega)
  have k_y := bkoe3 hW5 (k_y.below p4.h) (by omega)
  have k_r := bkoe3 hW5 (k_r.below p4.h) (by omega)
  have k_u := bkoe3 hW5 (k_u.below p4.h) (by omega)
  have k_v := bkoe3 hW5 (k_v.below p4.h) (by omega)
  have k_t := bkpe3 hW5 (k_t.below p4.h)
  rw [← hW5]
  clear hW5
  clear B4
  clear c_a_0 c_a_1 c_a_2 c_b_0 c_b_1 c_b_2 c_c_0 c_c_1 c_c_2 c_y_0 c_y_1 c_y_2 c_y_3 c_y_4 c_y_5 c_y_6 c_r_0 c_r_1 c_u_0 c_u_1 c_u_2 f_u_0 f_u_1 f_u_2 c_v_0 c_v_1 c_v_2 f_v_0 f_v_1 f_v_2 c_t_0 c_t_1 c_t_2 f_t_0 f_t_1 f_t_2
  obtain ⟨c_a_0, c_a_1, c_a_2⟩ := bwc3 (k_a)
  obtain ⟨c_b_0, c_b_1, c_b_2⟩ := bwc3 (k_b)
  obtain ⟨c_c_0, c_c_1, c_c_2⟩ := bwc3 (k_c)
  obtain ⟨c_y_0, c_y_1, c_y_2, c_y_3, c_y_4, c_y_5, c_y_6⟩ := bwc7 (k_y)
  obtain ⟨c_r_0, c_r_1⟩ := bwc2 (k_r)
  obtain ⟨c_u_0, c_u_1, c_u_2⟩ := bwc3 (k_u)
  obtain ⟨c_v_0, c_v_1, c_v_2⟩ := bwc3 (k_v)
  obtain ⟨c_t_0, c_t_1, c_t_2⟩ := bwc3 (k_t)
  obtain ⟨p5, hp5⟩ : ∃ p : BW W5, p.w = W5 := ⟨BW.start W5, rfl⟩
  rw [← hp5]
  clear hp5
  refine wp_region_late 12 14 46 (by kernel_rfl) (by kernel_rfl) rfl rfl rfl (fun _ _ _ _ h => h) ?_
  refine any_region_float (t := 30) (zs := #[.int .i64 0, .int .i64 0]) 14 13 13 72 (by kernel_rfl) (by kernel_rfl) (by kernel_rfl) (by kernel_rfl) rfl ?_ ?_
  · intro ev wx
    simp [execOp, go_sem]
  apply Exists.intro
  refine ⟨?_, ?_⟩
  · intro wb' hwb'
    obtain ⟨d_a_0, d_a_1, d_a_2⟩ := bwc3 (k_a.below hwb')
    obtain ⟨d_b_0, d_b_1, d_b_2⟩ := bwc3 (k_b.below hwb')
    obtain ⟨d_c_0, d_c_1, d_c_2⟩ := bwc3 (k_c.below hwb')
    obtain ⟨d_y_0, d_y_1, d_y_2, d_y_3, d_y_4, d_y_5, d_y_6⟩ := bwc7 (k_y.below hwb')
    obtain ⟨d_r_0, d_r_1⟩ := bwc2 (k_r.below hwb')
    obtain ⟨d_u_0, d_u_1, d_u_2⟩ := bwc3 (k_u.below hwb')
    obtain ⟨d_v_0, d_v_1, d_v_2⟩ := bwc3 (k_v.below hwb')
    obtain ⟨d_t_0, d_t_1, d_t_2⟩ := bwc3 (k_t.below hwb')
    simp only [edgeAt, maskAt, List.take_succ_cons, List.take_zero]
    repeat (go_big_quiet_step (first
      | (go_at_call 39; (first | (with_reducible exact bw_call KN.out _) | (with_reducible exact bw_call KD.out _)))
      | (go_at_call 38; (first | (with_reducible exact bw_call KM.out _)))))
    refine wpQuiet_nil ?_
    exact rfl
  intro W6 g_f hW hg k_f
  have B6 : Below w.heap.size w W6 := B5.trans (hW.mono B5.size)
  have o_f : w.heap.size ≤ g_f := Nat.le_trans B5.size hg
  have l_f : g_t < g_f := Nat.lt_of_lt_of_le k_t.lt hg
  have l_f_u : g_u < g_f := Nat.lt_of_lt_of_le k_u.lt hg
  have l_f_v : g_v < g_f := Nat.lt_of_lt_of_le k_v.lt hg
  have k_a := k_a.below hW
  have k_b := k_b.below hW
  have k_c := k_c.below hW
  have k_y := k_y.below hW
  have k_r := k_r.below hW
  have k_u := k_u.below hW
  have k_v := k_v.below hW
  have k_t := k_t.below hW
  clear hW hg B5
  clear c_a_0 c_a_1 c_a_2 c_b_0 c_b_1 c_b_2 c_c_0 c_c_1 c_c_2 c_y_0 c_y_1 c_y_2 c_y_3 c_y_4 c_y_5 c_y_6 c_r_0 c_r_1 c_u_0 c_u_1 c_u_2 c_v_0 c_v_1 c_v_2 c_t_0 c_t_1 c_t_2
  simp only [edgeAt, List.drop_succ_cons, List.drop_zero, Act.put, List.setIfInBounds_toArray, List.set_cons_zero, List.set_cons_succ]
  obtain ⟨c_a_0, c_a_1, c_a_2⟩ := bwc3 (k_a)
  obtain ⟨c_b_0, c_b_1, c_b_2⟩ := bwc3 (k_b)
  obtain ⟨c_c_0, c_c_1, c_c_2⟩ := bwc3 (k_c)
  obtain ⟨c_y_0, c_y_1, c_y_2, c_y_3, c_y_4, c_y_5, c_y_6⟩ := bwc7 (k_y)
  obtain ⟨c_r_0, c_r_1⟩ := bwc2 (k_r)
  obtain ⟨c_u_0, c_u_1, c_u_2⟩ := bwc3 (k_u)
  obtain ⟨c_v_0, c_v_1, c_v_2⟩ := bwc3 (k_v)
  obtain ⟨c_t_0, c_t_1, c_t_2⟩ := bwc3 (k_t)
  obtain ⟨c_f_0, c_f_1⟩ := bwc2 (k_f)
  obtain ⟨f_f_0, f_f_1⟩ := bwf2 (k_f)
  obtain ⟨p6, hp6⟩ : ∃ p : BW W6, p.w = W6 := ⟨BW.start W6, rfl⟩
  rw [← hp6]
  clear hp6
  go_upto_region 5 with (fail)
  obtain ⟨W7, hW7⟩ : ∃ W, W = (p6.w.setCell ⟨g_f, 0, none⟩ (.int .i64 f1)).setCell ⟨g_f, 1, none⟩ (.int .i64 f2) := ⟨_, rfl⟩
  have B7 : Below w.heap.size w W7 := by rw [hW7]; exact blp2 (bw_below B6 p6) (by omega)
  have k_a := bkoe2 hW7 (k_a.below p6.h) (by omega)
  have k_b := bkoe2 hW7 (k_b.below p6.h) (by omega)
  have k_c := bkoe2 hW7 (k_c.below p6.h) (by omega)
  have k_y := bkoe2 hW7 (k_y.below p6.h) (by omega)
  have k_r := bkoe2 hW7 (k_r.below p6.h) (by omega)
  have k_u := bkoe2 hW7 (k_u.below p6.h) (by omega)
  have k_v := bkoe2 hW7 (k_v.below p6.h) (by omega)
  have k_t := bkoe2 hW7 (k_t.below p6.h) (by omega)
  have k_f := bkpe2 hW7 (k_f.below p6.h)
  rw [← hW7]
  clear hW7
  clear B6
  clear c_a_0 c_a_1 c_a_2 c_b_0 c_b_1 c_b_2 c_c_0 c_c_1 c_c_2 c_y_0 c_y_1 c_y_2 c_y_3 c_y_4 c_y_5 c_y_6 c_r_0 c_r_1 c_u_0 c_u_1 c_u_2 c_v_0 c_v_1 c_v_2 c_t_0 c_t_1 c_t_2 c_f_0 c_f_1 f_f_0 f_f_1
  obtain ⟨c_a_0, c_a_1, c_a_2⟩ := bwc3 (k_a)
  obtain ⟨c_b_0, c_b_1, c_b_2⟩ := bwc3 (k_b)
  obtain ⟨c_c_0, c_c_1, c_c_2⟩ := bwc3 (k_c)
  obtain ⟨c_y_0, c_y_1, c_y_2, c_y_3, c_y_4, c_y_5, c_y_6⟩ := bwc7 (k_y)
  obtain ⟨c_r_0, c_r_1⟩ := bwc2 (k_r)
  obtain ⟨f_r_0, f_r_1⟩ := bwf2 (k_r)
  obtain ⟨c_u_0, c_u_1, c_u_2⟩ := bwc3 (k_u)
  obtain ⟨c_v_0, c_v_1, c_v_2⟩ := bwc3 (k_v)
  obtain ⟨c_t_0, c_t_1, c_t_2⟩ := bwc3 (k_t)
  obtain ⟨c_f_0, c_f_1⟩ := bwc2 (k_f)
  obtain ⟨p7, hp7⟩ : ∃ p : BW W7, p.w = W7 := ⟨BW.start W7, rfl⟩
  rw [← hp7]
  clear hp7
  refine wp_region_floatV (t := 24) (zs := #[.int .i64 t1, .int .i64 t2, .int .i64 t3, .int .i64 e1, .int .i64 e2, .int .i64 e3, .int .i64 m1, .int .i64 m2, .int .i64 m3]) 20 19 66 72 [54, 57, 61, 65] (fun g => .slice (some ⟨g, 0, none⟩) 3 3) (by kernel_rfl) (by kernel_rfl) (by kernel_rfl) (by kernel_rfl) rfl rfl ?_
  apply Exists.intro
  refine ⟨?_, ?_, ?_⟩
  · intro wb' hwb'
    obtain ⟨d_a_0, d_a_1, d_a_2⟩ := bwc3 (k_a.below hwb')
    obtain ⟨d_b_0, d_b_1, d_b_2⟩ := bwc3 (k_b.below hwb')
    obtain ⟨d_c_0, d_c_1, d_c_2⟩ := bwc3 (k_c.below hwb')
    obtain ⟨d_y_0, d_y_1, d_y_2, d_y_3, d_y_4, d_y_5, d_y_6⟩ := bwc7 (k_y.below hwb')
    obtain ⟨d_r_0, d_r_1⟩ := bwc2 (k_r.below hwb')
    obtain ⟨d_u_0, d_u_1, d_u_2⟩ := bwc3 (k_u.below hwb')
    obtain ⟨d_v_0, d_v_1, d_v_2⟩ := bwc3 (k_v.below hwb')
    obtain ⟨d_t_0, d_t_1, d_t_2⟩ := bwc3 (k_t.below hwb')
    obtain ⟨d_f_0, d_f_1⟩ := bwc2 (k_f.below hwb')
    simp only [maskAt, List.take_succ_cons, List.take_zero]
    repeat (go_big_quiet_step (first
      | (go_at_call 37; (first | (with_reducible exact bw_call KE.out _) | (with_reducible exact bw_call KF.out _)))))
    refine wpQuiet_nil ?_
    exact rfl
  · intro ax wx hp
    have e54 := hp 54 (by decide)
    have e57 := hp 57 (by decide)
    have e61 := hp 61 (by decide)
    have e65 := hp 65 (by decide)
    clear hp
    simp only [Act.put, List.setIfInBounds_toArray, List.set_cons_zero, List.set_cons_succ, List.getElem?_toArray, List.getElem?_cons_succ, List.getElem?_cons_zero] at e54 e57 e61 e65
    exact ⟨by simp [Region.wanted, yielded, e54, e57, e61, e65], by simp [execOp, go_sem, Act.eval, e54, e57, e61, e65]⟩
  intro W8 g_s hW hg k_s
  have B8 : Below w.heap.size w W8 := B7.trans (hW.mono B7.size)
  have o_s : w.heap.size ≤ g_s := Nat.le_trans B7.size hg
  have l_s : g_f < g_s := Nat.lt_of_lt_of_le k_f.lt hg
  have l_s_u : g_u < g_s := Nat.lt_of_lt_of_le k_u.lt hg
  have l_s_v : g_v < g_s := Nat.lt_of_lt_of_le k_v.lt hg
  have l_s_t : g_t < g_s := Nat.lt_of_lt_of_le k_t.lt hg
  have k_a := k_a.below hW
  have k_b := k_b.below hW
  have k_c := k_c.below hW
  have k_y := k_y.below hW
  have k_r := k_r.below hW
  have k_u := k_u.below hW
  have k_v := k_v.below hW
  have k_t := k_t.below hW
  have k_f := k_f.below hW
  clear hW hg B7
  clear c_a_0 c_a_1 c_a_2 c_b_0 c_b_1 c_b_2 c_c_0 c_c_1 c_c_2 c_y_0 c_y_1 c_y_2 c_y_3 c_y_4 c_y_5 c_y_6 c_r_0 c_r_1 f_r_0 f_r_1 c_u_0 c_u_1 c_u_2 c_v_0 c_v_1 c_v_2 c_t_0 c_t_1 c_t_2 c_f_0 c_f_1
  simp only [List.drop_succ_cons, List.drop_zero, Act.put, List.setIfInBounds_toArray, List.set_cons_zero, List.set_cons_succ]
  obtain ⟨c_a_0, c_a_1, c_a_2⟩ := bwc3 (k_a)
  obtain ⟨c_b_0, c_b_1, c_b_2⟩ := bwc3 (k_b)
  obtain ⟨c_c_0, c_c_1, c_c_2⟩ := bwc3 (k_c)
  obtain ⟨c_y_0, c_y_1, c_y_2, c_y_3, c_y_4, c_y_5, c_y_6⟩ := bwc7 (k_y)
  obtain ⟨c_r_0, c_r_1⟩ := bwc2 (k_r)
  obtain ⟨f_r_0, f_r_1⟩ := bwf2 (k_r)
  obtain ⟨c_u_0, c_u_1, c_u_2⟩ := bwc3 (k_u)
  obtain ⟨c_v_0, c_v_1, c_v_2⟩ := bwc3 (k_v)
  obtain ⟨c_t_0, c_t_1, c_t_2⟩ := bwc3 (k_t)
  obtain ⟨c_f_0, c_f_1⟩ := bwc2 (k_f)
  obtain ⟨c_s_0, c_s_1, c_s_2, c_s_3, c_s_4, c_s_5, c_s_6, c_s_7, c_s_8⟩ := bwc9 (k_s)
  obtain ⟨p8, hp8⟩ : ∃ p : BW W8, p.w = W8 := ⟨BW.start W8, rfl⟩
  rw [← hp8]
  clear hp8
  have KS2 : ∀ p : BW W8, Calls Try.prog 40 #[.agg #[.int .i64 d1, .int .i64 d2, .int .i64 d3], .slice (some ⟨g_s, 0, none⟩) 3 3] p.w fun e w' => e = .returned (.bool false) ∧ ∃ q : BW W8, w' = q.w := fun p =>
    (KS.out g_s p.w (k_s.below p.h)).mono fun e w' h => ⟨h.1, p.next w' h.2, rfl⟩
  go_wp2_with (go_at_call 40; (with_reducible refine (KS2 _).mono ?_); rintro e w' ⟨rfl, q, rfl⟩)
  have kr := bkp2 (k_r.below q.h) (.int .i64 0) (.int .i64 0)
  obtain ⟨rc0, rc1⟩ := rwc2 kr
  exact bodyPost_ret (v := .tuple #[.agg #[.int .i64 0, .int .i64 0], .bool false]) (by simp [results, Try.results30, go_sem, rc0, rc1]) rfl ⟨rfl, blp2 (bw_below B8 q) (by omega)⟩

set_option maxRecDepth 100000 in
set_option maxHeartbeats 4000000 in
theorem tri_Hit_yes (a1 a2 a3 b1 b2 b3 c1 c2 c3 o1 o2 o3 d1 d2 d3 fr : Int) (w : World) (hp : (pl3 (a1, a2, a3) (b1, b2, b3) (c1, c2, c3) && plc (o1, o2, o3)) = true) (hk : fmakeOk (vvol (b1 - a1) (b2 - a2) (b3 - a3) (c1 - a1) (c2 - a2) (c3 - a3) (a1 - o1) (a2 - o2) (a3 - o3)) (vvol (b1 - a1) (b2 - a2) (b3 - a3) (c1 - a1) (c2 - a2) (c3 - a3) d1 d2 d3) = true) (hg : decide ((fmake (vvol (b1 - a1) (b2 - a2) (b3 - a3) (c1 - a1) (c2 - a2) (c3 - a3) (a1 - o1) (a2 - o2) (a3 - o3)) (vvol (b1 - a1) (b2 - a2) (b3 - a3) (c1 - a1) (c2 - a2) (c3 - a3) d1 d2 d3)).1 ≤ 0) = false) (hs : srd (vvol d1 d2 d3 (a1 - o1) (a2 - o2) (a3 - o3) (b1 - o1) (b2 - o2) (b3 - o3)) (vvol d1 d2 d3 (b1 - o1) (b2 - o2) (b3 - o3) (c1 - o1) (c2 - o2) (c3 - o3)) (vvol d1 d2 d3 (c1 - o1) (c2 - o2) (c3 - o3) (a1 - o1) (a2 - o2) (a3 - o3)) = true) :
    Calls Try.prog 30 #[.agg #[.int .i64 a1, .int .i64 a2, .int .i64 a3], .agg #[.int .i64 b1, .int .i64 b2, .int .i64 b3], .agg #[.int .i64 c1, .int .i64 c2, .int .i64 c3], .agg #[.int .i64 o1, .int .i64 o2, .int .i64 o3, .int .i64 d1, .int .i64 d2, .int .i64 d3, .int .i64 fr]] w fun en w' => en = .returned (.tuple #[.agg #[.int .i64 (fmake (vvol (b1 - a1) (b2 - a2) (b3 - a3) (c1 - a1) (c2 - a2) (c3 - a3) (a1 - o1) (a2 - o2) (a3 - o3)) (vvol (b1 - a1) (b2 - a2) (b3 - a3) (c1 - a1) (c2 - a2) (c3 - a3) d1 d2 d3)).1, .int .i64 (fmake (vvol (b1 - a1) (b2 - a2) (b3 - a3) (c1 - a1) (c2 - a2) (c3 - a3) (a1 - o1) (a2 - o2) (a3 - o3)) (vvol (b1 - a1) (b2 - a2) (b3 - a3) (c1 - a1) (c2 - a2) (c3 - a3) d1 d2 d3)).2], .bool true]) ∧ Below w.heap.size w w' := by
  obtain ⟨h0, h4⟩ := Bool.and_eq_true_iff.1 hp
  obtain ⟨h1, h2, h3⟩ := pl3_iff.1 h0
  have q1 := plc_iff.1 h1
  dsimp only at q1
  have q2 := plc_iff.1 h2
  dsimp only at q2
  have q3 := plc_iff.1 h3
  dsimp only at q3
  have q4 := plc_iff.1 h4
  dsimp only at q4
  have vb := @vvol_61
  have i1 := vb (b1 - a1) (b2 - a2) (b3 - a3) (c1 - a1) (c2 - a2) (c3 - a3) (a1 - o1) (a2 - o2) (a3 - o3)
  have i2 := vb (b1 - a1) (b2 - a2) (b3 - a3) (c1 - a1) (c2 - a2) (c3 - a3) d1 d2 d3
  have KM := Lib.hid (fun w => frac_Make (vvol (b1 - a1) (b2 - a2) (b3 - a3) (c1 - a1) (c2 - a2) (c3 - a3) (a1 - o1) (a2 - o2) (a3 - o3)) (vvol (b1 - a1) (b2 - a2) (b3 - a3) (c1 - a1) (c2 - a2) (c3 - a3) d1 d2 d3) w (by unfold I64; omega) (by unfold I64; omega))
  rw [hk] at KM
  clear vb i1 i2
  have KU := Lib.hid (fun w => vec_Sub b1 b2 b3 a1 a2 a3 w (by unfold I64; omega) (by unfold I64; omega) (by unfold I64; omega) (by unfold I64; omega) (by unfold I64; omega) (by unfold I64; omega))
  rw [vsub_pl (x := b1) (a := a1) (by omega) (by omega), vsub_pl (x := b2) (a := a2) (by omega) (by omega), vsub_pl (x := b3) (a := a3) (by omega) (by omega)] at KU
  obtain ⟨u1, hu1⟩ : ∃ t, t = b1 - a1 := ⟨_, rfl⟩
  obtain ⟨u2, hu2⟩ : ∃ t, t = b2 - a2 := ⟨_, rfl⟩
  obtain ⟨u3, hu3⟩ : ∃ t, t = b3 - a3 := ⟨_, rfl⟩
  rw [← hu1, ← hu2, ← hu3] at KU
  have KV := Lib.hid (fun w => vec_Sub c1 c2 c3 a1 a2 a3 w (by unfold I64; omega) (by unfold I64; omega) (by unfold I64; omega) (by unfold I64; omega) (by unfold I64; omega) (by unfold I64; omega))
  rw [vsub_pl (x := c1) (a := a1) (by omega) (by omega), vsub_pl (x := c2) (a := a2) (by omega) (by omega), vsub_pl (x := c3) (a := a3) (by omega) (by omega)] at KV
  obtain ⟨v1, hv1⟩ : ∃ t, t = c1 - a1 := ⟨_, rfl⟩
  obtain ⟨v2, hv2⟩ : ∃ t, t = c2 - a2 := ⟨_, rfl⟩
  obtain ⟨v3, hv3⟩ : ∃ t, t = c3 - a3 := ⟨_, rfl⟩
  rw [← hv1, ← hv2, ← hv3] at KV
  have KT := Lib.hid (fun w => vec_Sub a1 a2 a3 o1 o2 o3 w (by unfold I64; omega) (by unfold I64; omega) (by unfold I64; omega) (by unfold I64; omega) (by unfold I64; omega) (by unfold I64; omega))
  rw [vsub_pl (x := a1) (a := o1) (by omega) (by omega), vsub_pl (x := a2) (a := o2) (by omega) (by omega), vsub_pl (x := a3) (a := o3) (by omega) (by omega)] at KT
  obtain ⟨t1, ht1⟩ : ∃ t, t = a1 - o1 := ⟨_, rfl⟩
  obtain ⟨t2, ht2⟩ : ∃ t, t = a2 - o2 := ⟨_, rfl⟩
  obtain ⟨t3, ht3⟩ : ∃ t, t = a3 - o3 := ⟨_, rfl⟩
  rw [← ht1, ← ht2, ← ht3] at KT
  rw [← hu1, ← hu2, ← hu3, ← hv1, ← hv2, ← hv3, ← ht1, ← ht2, ← ht3] at KM hk hg ⊢
  have KE := Lib.hid (fun w => vec_Sub b1 b2 b3 o1 o2 o3 w (by unfold I64; omega) (by unfold I64; omega) (by unfold I64; omega) (by unfold I64; omega) (by unfold I64; omega) (by unfold I64; omega))
  rw [vsub_pl (x := b1) (a := o1) (by omega) (by omega), vsub_pl (x := b2) (a := o2) (by omega) (by omega), vsub_pl (x := b3) (a := o3) (by omega) (by omega)] at KE
  obtain ⟨e1, he1⟩ : ∃ t, t = b1 - o1 := ⟨_, rfl⟩
  obtain ⟨e2, he2⟩ : ∃ t, t = b2 - o2 := ⟨_, rfl⟩
  obtain ⟨e3, he3⟩ : ∃ t, t = b3 - o3 := ⟨_, rfl⟩
  rw [← he1, ← he2, ← he3] at KE
  have KF := Lib.hid (fun w => vec_Sub c1 c2 c3 o1 o2 o3 w (by unfold I64; omega) (by unfold I64; omega) (by unfold I64; omega) (by unfold I64; omega) (by unfold I64; omega) (by unfold I64; omega))
  rw [vsub_pl (x := c1) (a := o1) (by omega) (by omega), vsub_pl (x := c2) (a := o2) (by omega) (by omega), vsub_pl (x := c3) (a := o3) (by omega) (by omega)] at KF
  obtain ⟨m1, hm1⟩ : ∃ t, t = c1 - o1 := ⟨_, rfl⟩
  obtain ⟨m2, hm2⟩ : ∃ t, t = c2 - o2 := ⟨_, rfl⟩
  obtain ⟨m3, hm3⟩ : ∃ t, t = c3 - o3 := ⟨_, rfl⟩
  rw [← hm1, ← hm2, ← hm3] at KF
  rw [← ht1, ← ht2, ← ht3, ← he1, ← he2, ← he3, ← hm1, ← hm2, ← hm3] at hs
  have KS := Lib.hid (fun (b : Nat) (w : World) kb => tri_surround d1 d2 d3 t1 t2 t3 e1 e2 e3 m1 m2 m3 w b 3 kb)
  rw [hs] at KS
  clear hs
  have KN := Lib.hid (fun w => vec_Volume u1 u2 u3 v1 v2 v3 t1 t2 t3 w)
  have KD := Lib.hid (fun w => vec_Volume u1 u2 u3 v1 v2 v3 d1 d2 d3 w)
  generalize vvol u1 u2 u3 v1 v2 v3 t1 t2 t3 = num at *
  generalize vvol u1 u2 u3 v1 v2 v3 d1 d2 d3 = den at *
  generalize fmake num den = X at *
  obtain ⟨f1, f2⟩ := X
  dsimp only at KM hg ⊢
  clear hk h0 h1 h2 h3 h4 q1 q2 q3 q4 hu1 hu2 hu3 hv1 hv2 hv3 ht1 ht2 ht3 he1 he2 he3 hm1 hm2 hm3
  go_enter Try.func30, Try.ntmps30
  go_upto_region 1 with (fail)
  obtain ⟨W1, hW1⟩ : ∃ W, W = ((((w.alloc (.cells #[.int .i64 a1, .int .i64 a2, .int .i64 a3] 24)).alloc (.cells #[.int .i64 b1, .int .i64 b2, .int .i64 b3] 24)).alloc (.cells #[.int .i64 c1, .int .i64 c2, .int .i64 c3] 24)).alloc (.cells #[.int .i64 o1, .int .i64 o2, .int .i64 o3, .int .i64 d1, .int .i64 d2, .int .i64 d3, .int .i64 fr] 28)).alloc (.cells #[.int .i64 0, .int .i64 0] 30) := ⟨_, rfl⟩
  obtain ⟨k_a, k_b, k_c, k_y, k_r, B1⟩ := st5 hW1
  rw [← hW1]
  clear hW1
  have l_b : w.heap.size < w.heap.size + 1 := by omega
  have l_c : w.heap.size + 1 < w.heap.size + 1 + 1 := by omega
  have l_y : w.heap.size + 1 + 1 < w.heap.size + 1 + 1 + 1 := by omega
  have l_r : w.heap.size + 1 + 1 + 1 < w.heap.size + 1 + 1 + 1 + 1 := by omega
  generalize w.heap.size + 1 + 1 + 1 + 1 = g_r at *
  generalize w.heap.size + 1 + 1 + 1 = g_y at *
  generalize w.heap.size + 1 + 1 = g_c at *
  generalize w.heap.size + 1 = g_b at *
  obtain ⟨c_a_0, c_a_1, c_a_2⟩ := bwc3 (k_a)
  obtain ⟨c_b_0, c_b_1, c_b_2⟩ := bwc3 (k_b)
  obtain ⟨c_c_0, c_c_1, c_c_2⟩ := bwc3 (k_c)
  obtain ⟨c_y_0, c_y_1, c_y_2, c_y_3, c_y_4, c_y_5, c_y_6⟩ := bwc7 (k_y)
  obtain ⟨c_r_0, c_r_1⟩ := bwc2 (k_r)
  obtain ⟨f_r_0, f_r_1⟩ := bwf2 (k_r)
  obtain ⟨p1, hp1⟩ : ∃ p : BW W1, p.w = W1 := ⟨BW.start W1, rfl⟩
  rw [← hp1]
  clear hp1
  have KC : ∀ p : BW W1, Calls Try.prog 36 #[.slice (some ⟨p.w.heap.size, 0, none⟩) 4 4] (p.w.alloc (.cells #[.int .i64 a1, .int .i64 a2, .int .i64 a3, .int .i64 b1, .int .i64 b2, .int .i64 b3, .int .i64 c1, .int .i64 c2, .int .i64 c3, .int .i64 o1, .int .i64 o2, .int .i64 o3] 24)) fun e w' => e = .returned (.bool true) ∧ ∃ q : BW W1, w' = q.w := fun p =>
    (tri_places4 4 a1 a2 a3 b1 b2 b3 c1 c2 c3 o1 o2 o3 W1 p.w _ rfl p.h).mono fun e w' h => ⟨by rw [hp] at h; exact h.1, ⟨w', h.2⟩, rfl⟩
  clear hp
  go_upto_region 3 with (go_at_call 36; (with_reducible refine (KC _).mono ?_); rintro e w' ⟨rfl, q, rfl⟩)
  clear KC
  refine wp_region_floatL 13 72 [⟨10, 10, 24, #[.int .i64 0, .int .i64 0, .int .i64 0]⟩, ⟨11, 11, 24, #[.int .i64 0, .int .i64 0, .int .i64 0]⟩, ⟨12, 12, 24, #[.int .i64 0, .int .i64 0, .int .i64 0]⟩] (by kernel_rfl) (by kernel_rfl) (by kernel_rfl) (by kernel_rfl) (by kernel_rfl) (by decide) (by kernel_rfl) ?_ ?_
  · exact ⟨⟨_, rfl, fun ev wx => by simp [execOp, go_sem]⟩, ⟨_, rfl, fun ev wx => by simp [execOp, go_sem]⟩, ⟨_, rfl, fun ev wx => by simp [execOp, go_sem]⟩, trivial⟩
  apply Exists.intro
  refine ⟨?_, ?_⟩
  · intro wb' hwb'
    obtain ⟨d_a_0, d_a_1, d_a_2⟩ := bwc3 (k_a.below hwb')
    obtain ⟨d_b_0, d_b_1, d_b_2⟩ := bwc3 (k_b.below hwb')
    obtain ⟨d_c_0, d_c_1, d_c_2⟩ := bwc3 (k_c.below hwb')
    obtain ⟨d_y_0, d_y_1, d_y_2, d_y_3, d_y_4, d_y_5, d_y_6⟩ := bwc7 (k_y.below hwb')
    obtain ⟨d_r_0, d_r_1⟩ := bwc2 (k_r.below hwb')
    simp only [List.map_cons, List.map_nil, maskL, List.foldr_cons, List.foldr_nil, maskAt, List.take_succ_cons, List.take_zero]
    repeat (go_big_quiet_step (first
      | (go_at_call 37; (first | (with_reducible exact bw_call KU.out _) | (with_reducible exact bw_call KV.out _) | (with_reducible exact bw_call KT.out _)))))
    refine wpQuiet_nil ?_
    exact rfl
  intro W2 st hW hst hne
  obtain ⟨g_u, e_u, hg_u, k_u⟩ := hst 0 _ rfl
  obtain ⟨g_v, e_v, hg_v, k_v⟩ := hst 1 _ rfl
  obtain ⟨g_t, e_t, hg_t, k_t⟩ := hst 2 _ rfl
  have n_u_v : g_u ≠ g_v := fun e => hne 0 1 _ (by simp) (by simp) (by omega) e_u (by rw [e]; exact e_v)
  have n_u_t : g_u ≠ g_t := fun e => hne 0 2 _ (by simp) (by simp) (by omega) e_u (by rw [e]; exact e_t)
  have n_v_t : g_v ≠ g_t := fun e => hne 1 2 _ (by simp) (by simp) (by omega) e_v (by rw [e]; exact e_t)
  have B2 : Below w.heap.size w W2 := B1.trans (hW.mono B1.size)
  have l_u : g_r < g_u := Nat.lt_of_lt_of_le k_r.lt hg_u
  have l_v : g_r < g_v := Nat.lt_of_lt_of_le k_r.lt hg_v
  have l_t : g_r < g_t := Nat.lt_of_lt_of_le k_r.lt hg_t
  have k_a := k_a.below hW
  have k_b := k_b.below hW
  have k_c := k_c.below hW
  have k_y := k_y.below hW
  have k_r := k_r.below hW
  simp only [List.drop_succ_cons, List.drop_zero, putAll, Nat.zero_add, Nat.reduceAdd, e_u, e_v, e_t, putO, Act.put, List.setIfInBounds_toArray, List.set_cons_zero, List.set_cons_succ]
  clear hW hst hne B1 hg_u e_u hg_v e_v hg_t e_t
  clear c_a_0 c_a_1 c_a_2 c_b_0 c_b_1 c_b_2 c_c_0 c_c_1 c_c_2 c_y_0 c_y_1 c_y_2 c_y_3 c_y_4 c_y_5 c_y_6 c_r_0 c_r_1 f_r_0 f_r_1
  obtain ⟨c_a_0, c_a_1, c_a_2⟩ := bwc3 (k_a)
  obtain ⟨c_b_0, c_b_1, c_b_2⟩ := bwc3 (k_b)
  obtain ⟨c_c_0, c_c_1, c_c_2⟩ := bwc3 (k_c)
  obtain ⟨c_y_0, c_y_1, c_y_2, c_y_3, c_y_4, c_y_5, c_y_6⟩ := bwc7 (k_y)
  obtain ⟨c_r_0, c_r_1⟩ := bwc2 (k_r)
  obtain ⟨c_u_0, c_u_1, c_u_2⟩ := bwc3 (k_u)
  obtain ⟨f_u_0, f_u_1, f_u_2⟩ := bwf3 (k_u)
  obtain ⟨c_v_0, c_v_1, c_v_2⟩ := bwc3 (k_v)
  obtain ⟨f_v_0, f_v_1, f_v_2⟩ := bwf3 (k_v)
  obtain ⟨c_t_0, c_t_1, c_t_2⟩ := bwc3 (k_t)
  obtain ⟨f_t_0, f_t_1, f_t_2⟩ := bwf3 (k_t)
  obtain ⟨p2, hp2⟩ : ∃ p : BW W2, p.w = W2 := ⟨BW.start W2, rfl⟩
  rw [← hp2]
  clear hp2
  go_upto_region 4 with (fail)
  obtain ⟨W3, hW3⟩ : ∃ W, W = ((p2.w.setCell ⟨g_u, 0, none⟩ (.int .i64 u1)).setCell ⟨g_u, 1, none⟩ (.int .i64 u2)).setCell ⟨g_u, 2, none⟩ (.int .i64 u3) := ⟨_, rfl⟩
  have B3 : Below w.heap.size w W3 := by rw [hW3]; exact blp3 (bw_below B2 p2) (by omega)
  have k_a := bkoe3 hW3 (k_a.below p2.h) (by omega)
  have k_b := bkoe3 hW3 (k_b.below p2.h) (by omega)
  have k_c := bkoe3 hW3 (k_c.below p2.h) (by omega)
  have k_y := bkoe3 hW3 (k_y.below p2.h) (by omega)
  have k_r := bkoe3 hW3 (k_r.below p2.h) (by omega)
  have k_u := bkpe3 hW3 (k_u.below p2.h)
  have k_v := bkoe3 hW3 (k_v.below p2.h) (by omega)
  have k_t := bkoe3 hW3 (k_t.below p2.h) (by omega)
  rw [← hW3]
  clear hW3
  clear B2
  clear c_a_0 c_a_1 c_a_2 c_b_0 c_b_1 c_b_2 c_c_0 c_c_1 c_c_2 c_y_0 c_y_1 c_y_2 c_y_3 c_y_4 c_y_5 c_y_6 c_r_0 c_r_1 c_u_0 c_u_1 c_u_2 f_u_0 f_u_1 f_u_2 c_v_0 c_v_1 c_v_2 f_v_0 f_v_1 f_v_2 c_t_0 c_t_1 c_t_2 f_t_0 f_t_1 f_t_2
  obtain ⟨c_a_0, c_a_1, c_a_2⟩ := bwc3 (k_a)
  obtain ⟨c_b_0, c_b_1, c_b_2⟩ := bwc3 (k_b)
  obtain ⟨c_c_0, c_c_1, c_c_2⟩ := bwc3 (k_c)
  obtain ⟨c_y_0, c_y_1, c_y_2, c_y_3, c_y_4, c_y_5, c_y_6⟩ := bwc7 (k_y)
  obtain ⟨c_r_0, c_r_1⟩ := bwc2 (k_r)
  obtain ⟨c_u_0, c_u_1, c_u_2⟩ := bwc3 (k_u)
  obtain ⟨f_u_0, f_u_1, f_u_2⟩ := bwf3 (k_u)
  obtain ⟨c_v_0, c_v_1, c_v_2⟩ := bwc3 (k_v)
  obtain ⟨f_v_0, f_v_1, f_v_2⟩ := bwf3 (k_v)
  obtain ⟨c_t_0, c_t_1, c_t_2⟩ := bwc3 (k_t)
  obtain ⟨f_t_0, f_t_1, f_t_2⟩ := bwf3 (k_t)
  obtain ⟨p3, hp3⟩ : ∃ p : BW W3, p.w = W3 := ⟨BW.start W3, rfl⟩
  rw [← hp3]
  clear hp3
  obtain ⟨W4, hW4⟩ : ∃ W, W = ((p3.w.setCell ⟨g_v, 0, none⟩ (.int .i64 v1)).setCell ⟨g_v, 1, none⟩ (.int .i64 v2)).setCell ⟨g_v, 2, none⟩ (.int .i64 v3) := ⟨_, rfl⟩
  have B4 : Below w.heap.size w W4 := by rw [hW4]; exact blp3 (bw_below B3 p3) (by omega)
  have k_a := bkoe3 hW4 (k_a.below p3.h) (by omega)
  have k_b := bkoe3 hW4 (k_b.below p3.h) (by omega)
  have k_c := bkoe3 hW4 (k_c.below p3.h) (by omega)
  have k_y := bkoe3 hW4 (k_y.below p3.h) (by omega)
  have k_r := bkoe3 hW4 (k_r.below p3.h) (by omega)
  have k_u := bkoe3 hW4 (k_u.below p3.h) (by omega)
  have k_v := bkpe3 hW4 (k_v.below p3.h)
  have k_t := bkoe3 hW4 (k_t.below p3.h) (by omega)
  rw [← hW4]
  clear hW4
  clear B3
  clear c_a_0 c_a_1 c_a_2 c_b_0 c_b_1 c_b_2 c_c_0 c_c_1 c_c_2 c_y_0 c_y_1 c_y_2 c_y_3 c_y_4 c_y_5 c_y_6 c_r_0 c_r_1 c_u_0 c_u_1 c_u_2 f_u_0 f_u_1 f_u_2 c_v_0 c_v_1 c_v_2 f_v_0 f_v_1 f_v_2 c_t_0 c_t_1 c_t_2 f_t_0 f_t_1 f_t_2
  obtain ⟨c_a_0, c_a_1, c_a_2⟩ := bwc3 (k_a)
  obtain ⟨c_b_0, c_b_1, c_b_2⟩ := bwc3 (k_b)
  obtain ⟨c_c_0, c_c_1, c_c_2⟩ := bwc3 (k_c)
  obtain ⟨c_y_0, c_y_1, c_y_2, c_y_3, c_y_4, c_y_5, c_y_6⟩ := bwc7 (k_y)
  obtain ⟨c_r_0, c_r_1⟩ := bwc2 (k_r)
  obtain ⟨c_u_0, c_u_1, c_u_2⟩ := bwc3 (k_u)
  obtain ⟨f_u_0, f_u_1, f_u_2⟩ := bwf3 (k_u)
  obtain ⟨c_v_0, c_v_1, c_v_2⟩ := bwc3 (k_v)
  obtain ⟨f_v_0, f_v_1, f_v_2⟩ := bwf3 (k_v)
  obtain ⟨c_t_0, c_t_1, c_t_2⟩ := bwc3 (k_t)
  obtain ⟨f_t_0, f_t_1, f_t_2⟩ := bwf3 (k_t)
  obtain ⟨p4, hp4⟩ : ∃ p : BW W4, p.w = W4 := ⟨BW.start W4, rfl⟩
  rw [← hp4]
  clear hp4
  obtain ⟨W5, hW5⟩ : ∃ W, W = ((p4.w.setCell ⟨g_t, 0, none⟩ (.int .i64 t1)).setCell ⟨g_t, 1, none⟩ (.int .i64 t2)).setCell ⟨g_t, 2, none⟩ (.int .i64 t3) := ⟨_, rfl⟩
  have B5 : Below w.heap.size w W5 := by rw [hW5]; exact blp3 (bw_below B4 p4) (by omega)
  have k_a := bkoe3 hW5 (k_a.below p4.h) (by omega)
  have k_b := bkoe3 hW5 (k_b.below p4.h) (by omega)
  have k_c := bkoe3 hW5 (k_c.below p4.h) (by omega)
  have k_y := bkoe3 hW5 (k_y.below p4.h) (by omega)
  have k_r := bkoe3 hW5 (k_r.below p4.h) (by omega)
  have k_u := bkoe3 hW5 (k_u.below p4.h) (by omega)
  have k_v := bkoe3 hW5 (k_v.below p4.h) (by omega)
  have k_t := bkpe3 hW5 (k_t.below p4.h)
  rw [← hW5]
  clear hW5
  clear B4
  clear c_a_0 c_a_1 c_a_2 c_b_0 c_b_1 c_b_2 c_c_0 c_c_1 c_c_2 c_y_0 c_y_1 c_y_2 c_y_3 c_y_4 c_y_5 c_y_6 c_r_0 c_r_1 c_u_0 c_u_1 c_u_2 f_u_0 f_u_1 f_u_2 c_v_0 c_v_1 c_v_2 f_v_0 f_v_1 f_v_2 c_t_0 c_t_1 c_t_2 f_t_0 f_t_1 f_t_2
  obtain ⟨c_a_0, c_a_1, c_a_2⟩ := bwc3 (k_a)
  obtain ⟨c_b_0, c_b_1, c_b_2⟩ := bwc3 (k_b)
  obtain ⟨c_c_0, c_c_1, c_c_2⟩ := bwc3 (k_c)
  obtain ⟨c_y_0, c_y_1, c_y_2, c_y_3, c_y_4, c_y_5, c_y_6⟩ := bwc7 (k_y)
  obtain ⟨c_r_0, c_r_1⟩ := bwc2 (k_r)
  obtain ⟨c_u_0, c_u_1, c_u_2⟩ := bwc3 (k_u)
  obtain ⟨c_v_0, c_v_1, c_v_2⟩ := bwc3 (k_v)
  obtain ⟨c_t_0, c_t_1, c_t_2⟩ := bwc3 (k_t)
  obtain ⟨p5, hp5⟩ : ∃ p : BW W5, p.w = W5 := ⟨BW.start W5, rfl⟩
  rw [← hp5]
  clear hp5
  refine wp_region_late 12 14 46 (by kernel_rfl) (by kernel_rfl) rfl rfl rfl (fun _ _ _ _ h => h) ?_
  refine any_region_float (t := 30) (zs := #[.int .i64 0, .int .i64 0]) 14 13 13 72 (by kernel_rfl) (by kernel_rfl) (by kernel_rfl) (by kernel_rfl) rfl ?_ ?_
  · intro ev wx
    simp [execOp, go_sem]
  apply Exists.intro
  refine ⟨?_, ?_⟩
  · intro wb' hwb'
    obtain ⟨d_a_0, d_a_1, d_a_2⟩ := bwc3 (k_a.below hwb')
    obtain ⟨d_b_0, d_b_1, d_b_2⟩ := bwc3 (k_b.below hwb')
    obtain ⟨d_c_0, d_c_1, d_c_2⟩ := bwc3 (k_c.below hwb')
    obtain ⟨d_y_0, d_y_1, d_y_2, d_y_3, d_y_4, d_y_5, d_y_6⟩ := bwc7 (k_y.below hwb')
    obtain ⟨d_r_0, d_r_1⟩ := bwc2 (k_r.below hwb')
    obtain ⟨d_u_0, d_u_1, d_u_2⟩ := bwc3 (k_u.below hwb')
    obtain ⟨d_v_0, d_v_1, d_v_2⟩ := bwc3 (k_v.below hwb')
    obtain ⟨d_t_0, d_t_1, d_t_2⟩ := bwc3 (k_t.below hwb')
    simp only [edgeAt, maskAt, List.take_succ_cons, List.take_zero]
    repeat (go_big_quiet_step (first
      | (go_at_call 39; (first | (with_reducible exact bw_call KN.out _) | (with_reducible exact bw_call KD.out _)))
      | (go_at_call 38; (first | (with_reducible exact bw_call KM.out _)))))
    refine wpQuiet_nil ?_
    exact rfl
  intro W6 g_f hW hg k_f
  have B6 : Below w.heap.size w W6 := B5.trans (hW.mono B5.size)
  have o_f : w.heap.size ≤ g_f := Nat.le_trans B5.size hg
  have l_f : g_t < g_f := Nat.lt_of_lt_of_le k_t.lt hg
  have l_f_u : g_u < g_f := Nat.lt_of_lt_of_le k_u.lt hg
  have l_f_v : g_v < g_f := Nat.lt_of_lt_of_le k_v.lt hg
  have k_a := k_a.below hW
  have k_b := k_b.below hW
  have k_c := k_c.below hW
  have k_y := k_y.below hW
  have k_r := k_r.below hW
  have k_u := k_u.below hW
  have k_v := k_v.below hW
  have k_t := k_t.below hW
  clear hW hg B5
  clear c_a_0 c_a_1 c_a_2 c_b_0 c_b_1 c_b_2 c_c_0 c_c_1 c_c_2 c_y_0 c_y_1 c_y_2 c_y_3 c_y_4 c_y_5 c_y_6 c_r_0 c_r_1 c_u_0 c_u_1 c_u_2 c_v_0 c_v_1 c_v_2 c_t_0 c_t_1 c_t_2
  simp only [edgeAt, List.drop_succ_cons, List.drop_zero, Act.put, List.setIfInBounds_toArray, List.set_cons_zero, List.set_cons_succ]
  obtain ⟨c_a_0, c_a_1, c_a_2⟩ := bwc3 (k_a)
  obtain ⟨c_b_0, c_b_1, c_b_2⟩ := bwc3 (k_b)
  obtain ⟨c_c_0, c_c_1, c_c_2⟩ := bwc3 (k_c)
  obtain ⟨c_y_0, c_y_1, c_y_2, c_y_3, c_y_4, c_y_5, c_y_6⟩ := bwc7 (k_y)
  obtain ⟨c_r_0, c_r_1⟩ := bwc2 (k_r)
  obtain ⟨c_u_0, c_u_1, c_u_2⟩ := bwc3 (k_u)
  obtain ⟨c_v_0, c_v_1, c_v_2⟩ := bwc3 (k_v)
  obtain ⟨c_t_0, c_t_1, c_t_2⟩ := bwc3 (k_t)
  obtain ⟨c_f_0, c_f_1⟩ := bwc2 (k_f)
  obtain ⟨f_f_0, f_f_1⟩ := bwf2 (k_f)
  obtain ⟨p6, hp6⟩ : ∃ p : BW W6, p.w = W6 := ⟨BW.start W6, rfl⟩
  rw [← hp6]
  clear hp6
  go_upto_region 5 with (fail)
  obtain ⟨W7, hW7⟩ : ∃ W, W = (p6.w.setCell ⟨g_f, 0, none⟩ (.int .i64 f1)).setCell ⟨g_f, 1, none⟩ (.int .i64 f2) := ⟨_, rfl⟩
  have B7 : Below w.heap.size w W7 := by rw [hW7]; exact blp2 (bw_below B6 p6) (by omega)
  have k_a := bkoe2 hW7 (k_a.below p6.h) (by omega)
  have k_b := bkoe2 hW7 (k_b.below p6.h) (by omega)
  have k_c := bkoe2 hW7 (k_c.below p6.h) (by omega)
  have k_y := bkoe2 hW7 (k_y.below p6.h) (by omega)
  have k_r := bkoe2 hW7 (k_r.below p6.h) (by omega)
  have k_u := bkoe2 hW7 (k_u.below p6.h) (by omega)
  have k_v := bkoe2 hW7 (k_v.below p6.h) (by omega)
  have k_t := bkoe2 hW7 (k_t.below p6.h) (by omega)
  have k_f := bkpe2 hW7 (k_f.below p6.h)
  rw [← hW7]
  clear hW7
  clear B6
  clear c_a_0 c_a_1 c_a_2 c_b_0 c_b_1 c_b_2 c_c_0 c_c_1 c_c_2 c_y_0 c_y_1 c_y_2 c_y_3 c_y_4 c_y_5 c_y_6 c_r_0 c_r_1 c_u_0 c_u_1 c_u_2 c_v_0 c_v_1 c_v_2 c_t_0 c_t_1 c_t_2 c_f_0 c_f_1 f_f_0 f_f_1
  obtain ⟨c_a_0, c_a_1, c_a_2⟩ := bwc3 (k_a)
  obtain ⟨c_b_0, c_b_1, c_b_2⟩ := bwc3 (k_b)
  obtain ⟨c_c_0, c_c_1, c_c_2⟩ := bwc3 (k_c)
  obtain ⟨c_y_0, c_y_1, c_y_2, c_y_3, c_y_4, c_y_5, c_y_6⟩ := bwc7 (k_y)
  obtain ⟨c_r_0, c_r_1⟩ := bwc2 (k_r)
  obtain ⟨f_r_0, f_r_1⟩ := bwf2 (k_r)
  obtain ⟨c_u_0, c_u_1, c_u_2⟩ := bwc3 (k_u)
  obtain ⟨c_v_0, c_v_1, c_v_2⟩ := bwc3 (k_v)
  obtain ⟨c_t_0, c_t_1, c_t_2⟩ := bwc3 (k_t)
  obtain ⟨c_f_0, c_f_1⟩ := bwc2 (k_f)
  obtain ⟨p7, hp7⟩ : ∃ p : BW W7, p.w = W7 := ⟨BW.start W7, rfl⟩
  rw [← hp7]
  clear hp7
  refine wp_region_floatV (t := 24) (zs := #[.int .i64 t1, .int .i64 t2, .int .i64 t3, .int .i64 e1, .int .i64 e2, .int .i64 e3, .int .i64 m1, .int .i64 m2, .int .i64 m3]) 20 19 66 72 [54, 57, 61, 65] (fun g => .slice (some ⟨g, 0, none⟩) 3 3) (by kernel_rfl) (by kernel_rfl) (by kernel_rfl) (by kernel_rfl) rfl rfl ?_
  apply Exists.intro
  refine ⟨?_, ?_, ?_⟩
  · intro wb' hwb'
    obtain ⟨d_a_0, d_a_1, d_a_2⟩ := bwc3 (k_a.below hwb')
    obtain ⟨d_b_0, d_b_1, d_b_2⟩ := bwc3 (k_b.below hwb')
    obtain ⟨d_c_0, d_c_1, d_c_2⟩ := bwc3 (k_c.below hwb')
    obtain ⟨d_y_0, d_y_1, d_y_2, d_y_3, d_y_4, d_y_5, d_y_6⟩ := bwc7 (k_y.below hwb')
    obtain ⟨d_r_0, d_r_1⟩ := bwc2 (k_r.below hwb')
    obtain ⟨d_u_0, d_u_1, d_u_2⟩ := bwc3 (k_u.below hwb')
    obtain ⟨d_v_0, d_v_1, d_v_2⟩ := bwc3 (k_v.below hwb')
    obtain ⟨d_t_0, d_t_1, d_t_2⟩ := bwc3 (k_t.below hwb')
    obtain ⟨d_f_0, d_f_1⟩ := bwc2 (k_f.below hwb')
    simp only [maskAt, List.take_succ_cons, List.take_zero]
    repeat (go_big_quiet_step (first
      | (go_at_call 37; (first | (with_reducible exact bw_call KE.out _) | (with_reducible exact bw_call KF.out _)))))
    refine wpQuiet_nil ?_
    exact rfl
  · intro ax wx hp
    have e54 := hp 54 (by decide)
    have e57 := hp 57 (by decide)
    have e61 := hp 61 (by decide)
    have e65 := hp 65 (by decide)
    clear hp
    simp only [Act.put, List.setIfInBounds_toArray, List.set_cons_zero, List.set_cons_succ, List.getElem?_toArray, List.getElem?_cons_succ, List.getElem?_cons_zero] at e54 e57 e61 e65
    exact ⟨by simp [Region.wanted, yielded, e54, e57, e61, e65], by simp [execOp, go_sem, Act.eval, e54, e57, e61, e65]⟩
  intro W8 g_s hW hg k_s
  have B8 : Below w.heap.size w W8 := B7.trans (hW.mono B7.size)
  have o_s : w.heap.size ≤ g_s := Nat.le_trans B7.size hg
  have l_s : g_f < g_s := Nat.lt_of_lt_of_le k_f.lt hg
  have l_s_u : g_u < g_s := Nat.lt_of_lt_of_le k_u.lt hg
  have l_s_v : g_v < g_s := Nat.lt_of_lt_of_le k_v.lt hg
  have l_s_t : g_t < g_s := Nat.lt_of_lt_of_le k_t.lt hg
  have k_a := k_a.below hW
  have k_b := k_b.below hW
  have k_c := k_c.below hW
  have k_y := k_y.below hW
  have k_r := k_r.below hW
  have k_u := k_u.below hW
  have k_v := k_v.below hW
  have k_t := k_t.below hW
  have k_f := k_f.below hW
  clear hW hg B7
  clear c_a_0 c_a_1 c_a_2 c_b_0 c_b_1 c_b_2 c_c_0 c_c_1 c_c_2 c_y_0 c_y_1 c_y_2 c_y_3 c_y_4 c_y_5 c_y_6 c_r_0 c_r_1 f_r_0 f_r_1 c_u_0 c_u_1 c_u_2 c_v_0 c_v_1 c_v_2 c_t_0 c_t_1 c_t_2 c_f_0 c_f_1
  simp only [List.drop_succ_cons, List.drop_zero, Act.put, List.setIfInBounds_toArray, List.set_cons_zero, List.set_cons_succ]
  obtain ⟨c_a_0, c_a_1, c_a_2⟩ := bwc3 (k_a)
  obtain ⟨c_b_0, c_b_1, c_b_2⟩ := bwc3 (k_b)
  obtain ⟨c_c_0, c_c_1, c_c_2⟩ := bwc3 (k_c)
  obtain ⟨c_y_0, c_y_1, c_y_2, c_y_3, c_y_4, c_y_5, c_y_6⟩ := bwc7 (k_y)
  obtain ⟨c_r_0, c_r_1⟩ := bwc2 (k_r)
  obtain ⟨f_r_0, f_r_1⟩ := bwf2 (k_r)
  obtain ⟨c_u_0, c_u_1, c_u_2⟩ := bwc3 (k_u)
  obtain ⟨c_v_0, c_v_1, c_v_2⟩ := bwc3 (k_v)
  obtain ⟨c_t_0, c_t_1, c_t_2⟩ := bwc3 (k_t)
  obtain ⟨c_f_0, c_f_1⟩ := bwc2 (k_f)
  obtain ⟨c_s_0, c_s_1, c_s_2, c_s_3, c_s_4, c_s_5, c_s_6, c_s_7, c_s_8⟩ := bwc9 (k_s)
  obtain ⟨p8, hp8⟩ : ∃ p : BW W8, p.w = W8 := ⟨BW.start W8, rfl⟩
  rw [← hp8]
  clear hp8
  have KS2 : ∀ p : BW W8, Calls Try.prog 40 #[.agg #[.int .i64 d1, .int .i64 d2, .int .i64 d3], .slice (some ⟨g_s, 0, none⟩) 3 3] p.w fun e w' => e = .returned (.bool true) ∧ ∃ q : BW W8, w' = q.w := fun p =>
    (KS.out g_s p.w (k_s.below p.h)).mono fun e w' h => ⟨h.1, p.next w' h.2, rfl⟩
  go_wp2_with (go_at_call 40; (with_reducible refine (KS2 _).mono ?_); rintro e w' ⟨rfl, q, rfl⟩)
  have kr := bkp2 (k_r.below q.h) (.int .i64 f1) (.int .i64 f2)
  obtain ⟨rc0, rc1⟩ := rwc2 kr
  exact bodyPost_ret (v := .tuple #[.agg #[.int .i64 f1, .int .i64 f2], .bool true]) (by simp [results, Try.results30, go_sem, rc0, rc1]) rfl ⟨rfl, blp2 (bw_below B8 q) (by omega)⟩

theorem tri_Hit (a1 a2 a3 b1 b2 b3 c1 c2 c3 o1 o2 o3 d1 d2 d3 fr : Int) (w : World) (ha : I3 (a1, a2, a3)) (hb : I3 (b1, b2, b3)) (hc : I3 (c1, c2, c3)) (ho : I3 (o1, o2, o3)) (hd : I3 (d1, d2, d3)) :
    Calls Try.prog 30 #[.agg #[.int .i64 a1, .int .i64 a2, .int .i64 a3], .agg #[.int .i64 b1, .int .i64 b2, .int .i64 b3], .agg #[.int .i64 c1, .int .i64 c2, .int .i64 c3], .agg #[.int .i64 o1, .int .i64 o2, .int .i64 o3, .int .i64 d1, .int .i64 d2, .int .i64 d3, .int .i64 fr]] w fun en w' => en = .returned (.tuple #[.agg #[.int .i64 (tHit (a1, a2, a3) (b1, b2, b3) (c1, c2, c3) (o1, o2, o3) (d1, d2, d3)).1.1, .int .i64 (tHit (a1, a2, a3) (b1, b2, b3) (c1, c2, c3) (o1, o2, o3) (d1, d2, d3)).1.2], .bool (tHit (a1, a2, a3) (b1, b2, b3) (c1, c2, c3) (o1, o2, o3) (d1, d2, d3)).2]) ∧ Below w.heap.size w w' := by
  cases hp : (pl3 (a1, a2, a3) (b1, b2, b3) (c1, c2, c3) && plc (o1, o2, o3)) with
  | false => rw [tHit_no hp]; exact tri_Hit_no a1 a2 a3 b1 b2 b3 c1 c2 c3 o1 o2 o3 d1 d2 d3 fr w hp
  | true =>
    obtain ⟨h0, h4⟩ := Bool.and_eq_true_iff.1 hp
    obtain ⟨h1, h2, h3⟩ := pl3_iff.1 h0
    cases hn : nrT (d1, d2, d3) with
    | false =>
      rw [tHit_far hn]
      refine tri_Hit_nok a1 a2 a3 b1 b2 b3 c1 c2 c3 o1 o2 o3 d1 d2 d3 fr w hp (decide_eq_false ?_)
      rintro ⟨e, _⟩
      apply e
      unfold vvol
      rw [if_neg]
      rintro ⟨_, _, e3⟩
      unfold nrT at hn
      rw [e3] at hn
      cases hn
    | true =>
      rw [tHit_mk h0 h4 hn, ← vvol_X hn (nr_sb h1 h4) (nr_sb h2 h4), ← vvol_X hn (nr_sb h2 h4) (nr_sb h3 h4), ← vvol_X hn (nr_sb h3 h4) (nr_sb h1 h4), ← vvol_X (nr_sb h2 h1) (nr_sb h3 h1) (nr_sb h1 h4), ← vvol_X (nr_sb h2 h1) (nr_sb h3 h1) hn]
      unfold tMk sbT
      dsimp only
      cases hk : fmakeOk (vvol (b1 - a1) (b2 - a2) (b3 - a3) (c1 - a1) (c2 - a2) (c3 - a3) (a1 - o1) (a2 - o2) (a3 - o3)) (vvol (b1 - a1) (b2 - a2) (b3 - a3) (c1 - a1) (c2 - a2) (c3 - a3) d1 d2 d3) with
      | false => rw [if_neg (fun e => by cases e.1)]; exact tri_Hit_nok a1 a2 a3 b1 b2 b3 c1 c2 c3 o1 o2 o3 d1 d2 d3 fr w hp hk
      | true =>
        by_cases hg : (fmake (vvol (b1 - a1) (b2 - a2) (b3 - a3) (c1 - a1) (c2 - a2) (c3 - a3) (a1 - o1) (a2 - o2) (a3 - o3)) (vvol (b1 - a1) (b2 - a2) (b3 - a3) (c1 - a1) (c2 - a2) (c3 - a3) d1 d2 d3)).1 ≤ 0
        · rw [if_neg (fun e => by have := e.2.1; omega)]; exact tri_Hit_neg a1 a2 a3 b1 b2 b3 c1 c2 c3 o1 o2 o3 d1 d2 d3 fr w hp hk (decide_eq_true hg)
        · cases hs : srd (vvol d1 d2 d3 (a1 - o1) (a2 - o2) (a3 - o3) (b1 - o1) (b2 - o2) (b3 - o3)) (vvol d1 d2 d3 (b1 - o1) (b2 - o2) (b3 - o3) (c1 - o1) (c2 - o2) (c3 - o3)) (vvol d1 d2 d3 (c1 - o1) (c2 - o2) (c3 - o3) (a1 - o1) (a2 - o2) (a3 - o3)) with
          | false => rw [if_neg (fun e => by cases e.2.2)]; exact tri_Hit_out a1 a2 a3 b1 b2 b3 c1 c2 c3 o1 o2 o3 d1 d2 d3 fr w hp hk (decide_eq_false hg) hs
          | true => rw [if_pos ⟨rfl, by omega, rfl⟩]; exact tri_Hit_yes a1 a2 a3 b1 b2 b3 c1 c2 c3 o1 o2 o3 d1 d2 d3 fr w hp hk (decide_eq_false hg) hs

end Go.Proofs.Ytokkankfaofooaa
