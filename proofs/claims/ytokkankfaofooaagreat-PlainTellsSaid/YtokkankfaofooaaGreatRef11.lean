/- Contracts of the document's own answers, layer 11. Contracts of the document's own answers, layer 11: Area, Hit, At. Contracts of the document's own answers, layer 11: At. -/
import Derived.Test.YtokkankfaofooaaGreatRef06
import Derived.Test.YtokkankfaofooaaGreatMath11
import Derived.Test.YtokkankfaofooaaGreatMem06
import Derived.Test.YtokkankfaofooaaGreatBw
import Derived.Deep.DeepCutAuto
import Derived.Test.YtokkankfaofooaaGreatRef02
import Derived.Test.YtokkankfaofooaaGreatFloat
import Derived.Test.YtokkankfaofooaaGreatRef01

namespace Go.Proofs.YtokkankfaofooaaGreat
section
open Go.RowKit Go.Proofs.Sky
set_option linter.unusedVariables false

def inM (n : Int) : Bool := decide (-524288 ≤ n ∧ n ≤ 524288)
theorem plc_inM (x y z : Int) : plc (x, y, z) = (inM x && (inM y && inM z)) := by
  unfold plc wi inM
  rw [Bool.eq_iff_iff]
  simp only [Bool.and_eq_true, decide_eq_true_eq]
  omega

set_option maxRecDepth 100000 in
set_option maxHeartbeats 8000000 in
theorem ref11_within (n : Int) (w : World) :
    Calls Tryz.prog 76 #[.int .i64 n, .int .i64 524288] w fun en w' => en = .returned (.bool (inM n)) ∧ Below w.heap.size w w' := by
  have m1 : wrap64 (-524288) = -524288 := IntWalk.wrap64_in _ (by omega)
  unfold inM
  by_cases h1 : -524288 ≤ n
  · by_cases h2 : n ≤ 524288
    · have t1 : decide (-524288 ≤ n) = true := decide_eq_true h1
      have t2 : decide (n ≤ 524288) = true := decide_eq_true h2
      rw [show decide (-524288 ≤ n ∧ n ≤ 524288) = true from decide_eq_true ⟨h1, h2⟩]
      go_enter Tryz.func76, Tryz.ntmps76
      go_wp2
      go_ret
      exact ⟨rfl, Below.refl _ _⟩
    · have t1 : decide (-524288 ≤ n) = true := decide_eq_true h1
      have t2 : decide (n ≤ 524288) = false := decide_eq_false h2
      rw [show decide (-524288 ≤ n ∧ n ≤ 524288) = false from decide_eq_false (fun e => h2 e.2)]
      go_enter Tryz.func76, Tryz.ntmps76
      go_wp2
      go_ret
      exact ⟨rfl, Below.refl _ _⟩
  · have t1 : decide (-524288 ≤ n) = false := decide_eq_false h1
    rw [show decide (-524288 ≤ n ∧ n ≤ 524288) = false from decide_eq_false (fun e => h1 e.1)]
    go_enter Tryz.func76, Tryz.ntmps76
    go_wp2
    go_ret
    exact ⟨rfl, Below.refl _ _⟩

set_option maxRecDepth 100000 in
set_option maxHeartbeats 8000000 in
theorem ref11_Place (x y z : Int) (w : World) :
    Calls Tryz.prog 51 #[.agg #[.int .i64 x, .int .i64 y, .int .i64 z]] w fun en w' => en = .returned (.bool (plc (x, y, z))) ∧ Below w.heap.size w w' := by
  have K1 := Lib.hid (fun w => ref11_within x w)
  have K2 := Lib.hid (fun w => ref11_within y w)
  have K3 := Lib.hid (fun w => ref11_within z w)
  rw [plc_inM]
  generalize inM x = e1 at *
  generalize inM y = e2 at *
  generalize inM z = e3 at *
  go_enter Tryz.func51, Tryz.ntmps51
  go_upto_region 1 with (fail)
  obtain ⟨W1, hW1⟩ : ∃ W, W = w.alloc (.cells #[.int .i64 x, .int .i64 y, .int .i64 z] 25) := ⟨_, rfl⟩
  obtain ⟨k_v, B1⟩ := st1 hW1
  rw [← hW1]
  clear hW1
  obtain ⟨c_v_0, c_v_1, c_v_2⟩ := bwc3 (k_v)
  obtain ⟨p1, hp1⟩ : ∃ p : BW W1, p.w = W1 := ⟨BW.start W1, rfl⟩
  rw [← hp1]
  clear hp1
  rcases e1 with _ | _ <;> rcases e2 with _ | _ <;> rcases e3 with _ | _
  all_goals
    go_wp2_with (first
      | (go_at_call 76; (first | (with_reducible refine (bw_call K1.out _).mono ?_) | (with_reducible refine (bw_call K2.out _).mono ?_) | (with_reducible refine (bw_call K3.out _).mono ?_)); rintro e w' ⟨rfl, q, rfl⟩))
    go_ret
    exact ⟨rfl, bw_below B1 _⟩

set_option maxRecDepth 100000 in
set_option maxHeartbeats 8000000 in
theorem ref11_places (a1 a2 a3 b1 b2 b3 c1 c2 c3 : Int) (w : World) :
    Calls Tryz.prog 50 #[.agg #[.int .i64 a1, .int .i64 a2, .int .i64 a3], .agg #[.int .i64 b1, .int .i64 b2, .int .i64 b3], .agg #[.int .i64 c1, .int .i64 c2, .int .i64 c3]] w fun en w' => en = .returned (.bool (pl3 (a1, a2, a3) (b1, b2, b3) (c1, c2, c3))) ∧ Below w.heap.size w w' := by
  have K1 := Lib.hid (fun w => ref11_Place a1 a2 a3 w)
  have K2 := Lib.hid (fun w => ref11_Place b1 b2 b3 w)
  have K3 := Lib.hid (fun w => ref11_Place c1 c2 c3 w)
  unfold pl3
  generalize plc (a1, a2, a3) = e1 at *
  generalize plc (b1, b2, b3) = e2 at *
  generalize plc (c1, c2, c3) = e3 at *
  go_enter Tryz.func50, Tryz.ntmps50
  go_upto_region 1 with (fail)
  obtain ⟨W1, hW1⟩ : ∃ W, W = ((w.alloc (.cells #[.int .i64 a1, .int .i64 a2, .int .i64 a3] 25)).alloc (.cells #[.int .i64 b1, .int .i64 b2, .int .i64 b3] 25)).alloc (.cells #[.int .i64 c1, .int .i64 c2, .int .i64 c3] 25) := ⟨_, rfl⟩
  obtain ⟨k_a, k_b, k_c, B1⟩ := st3 hW1
  rw [← hW1]
  clear hW1
  have l_b : w.heap.size < w.heap.size + 1 := by omega
  have l_c : w.heap.size + 1 < w.heap.size + 1 + 1 := by omega
  generalize w.heap.size + 1 + 1 = g_c at *
  generalize w.heap.size + 1 = g_b at *
  obtain ⟨c_a_0, c_a_1, c_a_2⟩ := bwc3 (k_a)
  obtain ⟨c_b_0, c_b_1, c_b_2⟩ := bwc3 (k_b)
  obtain ⟨c_c_0, c_c_1, c_c_2⟩ := bwc3 (k_c)
  obtain ⟨p1, hp1⟩ : ∃ p : BW W1, p.w = W1 := ⟨BW.start W1, rfl⟩
  rw [← hp1]
  clear hp1
  rcases e1 with _ | _ <;> rcases e2 with _ | _ <;> rcases e3 with _ | _
  all_goals
    go_wp2_with (first
      | (go_at_call 51; (first | (with_reducible refine (bw_call K1.out _).mono ?_) | (with_reducible refine (bw_call K2.out _).mono ?_) | (with_reducible refine (bw_call K3.out _).mono ?_)); rintro e w' ⟨rfl, q, rfl⟩))
    go_ret
    exact ⟨rfl, bw_below B1 _⟩

set_option maxRecDepth 100000 in
set_option maxHeartbeats 8000000 in
theorem ref11_upon (a1 a2 a3 b1 b2 b3 c1 c2 c3 : Int) (w : World) (h : pl3 (a1, a2, a3) (b1, b2, b3) (c1, c2, c3) = true) :
    Calls Tryz.prog 75 #[.agg #[.int .i64 a1, .int .i64 a2, .int .i64 a3], .agg #[.int .i64 b1, .int .i64 b2, .int .i64 b3], .agg #[.int .i64 c1, .int .i64 c2, .int .i64 c3]] w fun en w' => en = .returned (.agg #[.int .i64 (upsT (a1, a2, a3) (b1, b2, b3) (c1, c2, c3)).1, .int .i64 (upsT (a1, a2, a3) (b1, b2, b3) (c1, c2, c3)).2.1, .int .i64 (upsT (a1, a2, a3) (b1, b2, b3) (c1, c2, c3)).2.2]) ∧ Below w.heap.size w w' := by
  obtain ⟨h1, h2, h3⟩ := pl3_iff.1 h
  have q1 := plc_iff.1 h1
  have q2 := plc_iff.1 h2
  have q3 := plc_iff.1 h3
  dsimp only at q1 q2 q3
  have sx : ∀ x y : Int, -524288 ≤ x ∧ x ≤ 524288 → -524288 ≤ y ∧ y ≤ 524288 → vsub x y = x - y := fun x y hx hy => by
    unfold vsub sat
    rw [if_neg (by omega), if_neg (by omega), if_neg (by omega), if_neg (by omega)]
    omega
  have KB1 := Lib.hid (fun w => ref6_Sub b1 b2 b3 a1 a2 a3 w (by unfold I64; omega) (by unfold I64; omega) (by unfold I64; omega) (by unfold I64; omega) (by unfold I64; omega) (by unfold I64; omega))
  rw [sx b1 a1 (by omega) (by omega), sx b2 a2 (by omega) (by omega), sx b3 a3 (by omega) (by omega)] at KB1
  obtain ⟨e1, he1⟩ : ∃ t, t = b1 - a1 := ⟨_, rfl⟩
  obtain ⟨e2, he2⟩ : ∃ t, t = b2 - a2 := ⟨_, rfl⟩
  obtain ⟨e3, he3⟩ : ∃ t, t = b3 - a3 := ⟨_, rfl⟩
  rw [← he1, ← he2, ← he3] at KB1
  have KB2 := Lib.hid (fun w => ref6_Sub c1 c2 c3 a1 a2 a3 w (by unfold I64; omega) (by unfold I64; omega) (by unfold I64; omega) (by unfold I64; omega) (by unfold I64; omega) (by unfold I64; omega))
  rw [sx c1 a1 (by omega) (by omega), sx c2 a2 (by omega) (by omega), sx c3 a3 (by omega) (by omega)] at KB2
  obtain ⟨f1, hf1⟩ : ∃ t, t = c1 - a1 := ⟨_, rfl⟩
  obtain ⟨f2, hf2⟩ : ∃ t, t = c2 - a2 := ⟨_, rfl⟩
  obtain ⟨f3, hf3⟩ : ∃ t, t = c3 - a3 := ⟨_, rfl⟩
  rw [← hf1, ← hf2, ← hf3] at KB2
  have KX := Lib.hid (fun w => ref6_Cross e1 e2 e3 f1 f2 f3 w)
  have hu : upsT (a1, a2, a3) (b1, b2, b3) (c1, c2, c3) = vcr e1 e2 e3 f1 f2 f3 := by
    unfold upsT crX sbT vcr
    rw [if_pos ⟨by rw [vnear_iff]; omega, by rw [vnear_iff]; omega⟩]
    dsimp only
    rw [he1, he2, he3, hf1, hf2, hf3]
  rw [hu]
  generalize vcr e1 e2 e3 f1 f2 f3 = U at *
  obtain ⟨u1, u2, u3⟩ := U
  dsimp only at KX ⊢
  clear hu sx h h1 h2 h3 q1 q2 q3 he1 he2 he3 hf1 hf2 hf3
  go_enter Tryz.func75, Tryz.ntmps75
  go_upto_region 1 with (fail)
  obtain ⟨W1, hW1⟩ : ∃ W, W = (((w.alloc (.cells #[.int .i64 a1, .int .i64 a2, .int .i64 a3] 25)).alloc (.cells #[.int .i64 b1, .int .i64 b2, .int .i64 b3] 25)).alloc (.cells #[.int .i64 c1, .int .i64 c2, .int .i64 c3] 25)).alloc (.cells #[.int .i64 0, .int .i64 0, .int .i64 0] 25) := ⟨_, rfl⟩
  obtain ⟨k_a, k_b, k_c, k_r, B1⟩ := st4 hW1
  rw [← hW1]
  clear hW1
  have l_b : w.heap.size < w.heap.size + 1 := by omega
  have l_c : w.heap.size + 1 < w.heap.size + 1 + 1 := by omega
  have l_r : w.heap.size + 1 + 1 < w.heap.size + 1 + 1 + 1 := by omega
  generalize w.heap.size + 1 + 1 + 1 = g_r at *
  generalize w.heap.size + 1 + 1 = g_c at *
  generalize w.heap.size + 1 = g_b at *
  obtain ⟨c_a_0, c_a_1, c_a_2⟩ := bwc3 (k_a)
  obtain ⟨c_b_0, c_b_1, c_b_2⟩ := bwc3 (k_b)
  obtain ⟨c_c_0, c_c_1, c_c_2⟩ := bwc3 (k_c)
  obtain ⟨c_r_0, c_r_1, c_r_2⟩ := bwc3 (k_r)
  obtain ⟨f_r_0, f_r_1, f_r_2⟩ := bwf3 (k_r)
  obtain ⟨p1, hp1⟩ : ∃ p : BW W1, p.w = W1 := ⟨BW.start W1, rfl⟩
  rw [← hp1]
  clear hp1
  refine wp_region_bw_tail 7 (by kernel_rfl) (by kernel_rfl) (by kernel_rfl) ?_
  simp only [List.take_succ_cons, List.take_zero, List.drop_succ_cons, List.drop_zero]
  repeat (go_big_quiet_step (first
    | (go_at_call 53; (first | (with_reducible exact bw_call KB1.out _) | (with_reducible exact bw_call KB2.out _)))
    | (go_at_call 98; (first | (with_reducible exact bw_call KX.out _)))))
  refine wpQuiet_nil ?_
  intro _ hw'
  obtain ⟨q, rfl⟩ := hw'
  go_wp2
  have kr := bkp3 (k_r.below q.h) (.int .i64 u1) (.int .i64 u2) (.int .i64 u3)
  obtain ⟨rc0, rc1, rc2⟩ := rwc3 kr
  exact bodyPost_ret (v := .agg #[.int .i64 u1, .int .i64 u2, .int .i64 u3]) (by simp [results, Tryz.results75, go_sem, rc0, rc1, rc2]) rfl ⟨rfl, blp3 (bw_below B1 q) (by omega)⟩

set_option maxRecDepth 100000 in
set_option maxHeartbeats 8000000 in
theorem ref11_Flat (a1 a2 a3 b1 b2 b3 c1 c2 c3 : Int) (w : World) :
    Calls Tryz.prog 48 #[.agg #[.int .i64 a1, .int .i64 a2, .int .i64 a3], .agg #[.int .i64 b1, .int .i64 b2, .int .i64 b3], .agg #[.int .i64 c1, .int .i64 c2, .int .i64 c3]] w fun en w' => en = .returned (.bool (tFlat (a1, a2, a3) (b1, b2, b3) (c1, c2, c3))) ∧ Below w.heap.size w w' := by
  have KP := Lib.hid (fun w => ref11_places a1 a2 a3 b1 b2 b3 c1 c2 c3 w)
  unfold tFlat
  by_cases h : pl3 (a1, a2, a3) (b1, b2, b3) (c1, c2, c3) = true
  rotate_left
  · have hf : pl3 (a1, a2, a3) (b1, b2, b3) (c1, c2, c3) = false := by simpa using h
    rw [hf] at KP ⊢
    clear h hf
    show Calls _ _ _ _ (fun en w' => en = .returned (.bool true) ∧ _)
    go_enter Tryz.func48, Tryz.ntmps48
    go_upto_region 1 with (fail)
    obtain ⟨W1, hW1⟩ : ∃ W, W = ((w.alloc (.cells #[.int .i64 a1, .int .i64 a2, .int .i64 a3] 25)).alloc (.cells #[.int .i64 b1, .int .i64 b2, .int .i64 b3] 25)).alloc (.cells #[.int .i64 c1, .int .i64 c2, .int .i64 c3] 25) := ⟨_, rfl⟩
    obtain ⟨k_a, k_b, k_c, B1⟩ := st3 hW1
    rw [← hW1]
    clear hW1
    have l_b : w.heap.size < w.heap.size + 1 := by omega
    have l_c : w.heap.size + 1 < w.heap.size + 1 + 1 := by omega
    generalize w.heap.size + 1 + 1 = g_c at *
    generalize w.heap.size + 1 = g_b at *
    obtain ⟨c_a_0, c_a_1, c_a_2⟩ := bwc3 (k_a)
    obtain ⟨c_b_0, c_b_1, c_b_2⟩ := bwc3 (k_b)
    obtain ⟨c_c_0, c_c_1, c_c_2⟩ := bwc3 (k_c)
    obtain ⟨p1, hp1⟩ : ∃ p : BW W1, p.w = W1 := ⟨BW.start W1, rfl⟩
    rw [← hp1]
    clear hp1
    go_wp2_with (first
      | (go_at_call 50; (first | (with_reducible refine (bw_call KP.out _).mono ?_)); rintro e w' ⟨rfl, q, rfl⟩))
    go_ret
    exact ⟨rfl, bw_below B1 _⟩
  have KU := Lib.hid (fun w => ref11_upon a1 a2 a3 b1 b2 b3 c1 c2 c3 w h)
  rw [h] at KP ⊢
  generalize upsT (a1, a2, a3) (b1, b2, b3) (c1, c2, c3) = U at *
  obtain ⟨u1, u2, u3⟩ := U
  dsimp only at KU
  clear h
  show Calls _ _ _ _ (fun en w' => en = .returned (.bool (isZ (u1, u2, u3))) ∧ _)
  by_cases n1 : u1 = 0
  · subst n1
    by_cases n2 : u2 = 0
    · subst n2
      by_cases n3 : u3 = 0
      · subst n3
        rw [show isZ (0, 0, 0) = true by decide]
        go_enter Tryz.func48, Tryz.ntmps48
        go_upto_region 1 with (fail)
        obtain ⟨W1, hW1⟩ : ∃ W, W = ((w.alloc (.cells #[.int .i64 a1, .int .i64 a2, .int .i64 a3] 25)).alloc (.cells #[.int .i64 b1, .int .i64 b2, .int .i64 b3] 25)).alloc (.cells #[.int .i64 c1, .int .i64 c2, .int .i64 c3] 25) := ⟨_, rfl⟩
        obtain ⟨k_a, k_b, k_c, B1⟩ := st3 hW1
        rw [← hW1]
        clear hW1
        have l_b : w.heap.size < w.heap.size + 1 := by omega
        have l_c : w.heap.size + 1 < w.heap.size + 1 + 1 := by omega
        generalize w.heap.size + 1 + 1 = g_c at *
        generalize w.heap.size + 1 = g_b at *
        obtain ⟨c_a_0, c_a_1, c_a_2⟩ := bwc3 (k_a)
        obtain ⟨c_b_0, c_b_1, c_b_2⟩ := bwc3 (k_b)
        obtain ⟨c_c_0, c_c_1, c_c_2⟩ := bwc3 (k_c)
        obtain ⟨p1, hp1⟩ : ∃ p : BW W1, p.w = W1 := ⟨BW.start W1, rfl⟩
        rw [← hp1]
        clear hp1
        go_wp2_with (first
          | (go_at_call 50; (first | (with_reducible refine (bw_call KP.out _).mono ?_)); rintro e w' ⟨rfl, q, rfl⟩)
          | (go_at_call 75; (first | (with_reducible refine (bw_call KU.out _).mono ?_)); rintro e w' ⟨rfl, q, rfl⟩))
        go_ret
        exact ⟨rfl, bw_below B1 _⟩
      · rw [show isZ (0, 0, u3) = false by unfold isZ; simp [n3]]
        go_enter Tryz.func48, Tryz.ntmps48
        go_upto_region 1 with (fail)
        obtain ⟨W1, hW1⟩ : ∃ W, W = ((w.alloc (.cells #[.int .i64 a1, .int .i64 a2, .int .i64 a3] 25)).alloc (.cells #[.int .i64 b1, .int .i64 b2, .int .i64 b3] 25)).alloc (.cells #[.int .i64 c1, .int .i64 c2, .int .i64 c3] 25) := ⟨_, rfl⟩
        obtain ⟨k_a, k_b, k_c, B1⟩ := st3 hW1
        rw [← hW1]
        clear hW1
        have l_b : w.heap.size < w.heap.size + 1 := by omega
        have l_c : w.heap.size + 1 < w.heap.size + 1 + 1 := by omega
        generalize w.heap.size + 1 + 1 = g_c at *
        generalize w.heap.size + 1 = g_b at *
        obtain ⟨c_a_0, c_a_1, c_a_2⟩ := bwc3 (k_a)
        obtain ⟨c_b_0, c_b_1, c_b_2⟩ := bwc3 (k_b)
        obtain ⟨c_c_0, c_c_1, c_c_2⟩ := bwc3 (k_c)
        obtain ⟨p1, hp1⟩ : ∃ p : BW W1, p.w = W1 := ⟨BW.start W1, rfl⟩
        rw [← hp1]
        clear hp1
        go_wp2_with (first
          | (go_at_call 50; (first | (with_reducible refine (bw_call KP.out _).mono ?_)); rintro e w' ⟨rfl, q, rfl⟩)
          | (go_at_call 75; (first | (with_reducible refine (bw_call KU.out _).mono ?_)); rintro e w' ⟨rfl, q, rfl⟩))
        go_ret
        exact ⟨rfl, bw_below B1 _⟩
    · rw [show isZ (0, u2, u3) = false by unfold isZ; simp [n2]]
      go_enter Tryz.func48, Tryz.ntmps48
      go_upto_region 1 with (fail)
      obtain ⟨W1, hW1⟩ : ∃ W, W = ((w.alloc (.cells #[.int .i64 a1, .int .i64 a2, .int .i64 a3] 25)).alloc (.cells #[.int .i64 b1, .int .i64 b2, .int .i64 b3] 25)).alloc (.cells #[.int .i64 c1, .int .i64 c2, .int .i64 c3] 25) := ⟨_, rfl⟩
      obtain ⟨k_a, k_b, k_c, B1⟩ := st3 hW1
      rw [← hW1]
      clear hW1
      have l_b : w.heap.size < w.heap.size + 1 := by omega
      have l_c : w.heap.size + 1 < w.heap.size + 1 + 1 := by omega
      generalize w.heap.size + 1 + 1 = g_c at *
      generalize w.heap.size + 1 = g_b at *
      obtain ⟨c_a_0, c_a_1, c_a_2⟩ := bwc3 (k_a)
      obtain ⟨c_b_0, c_b_1, c_b_2⟩ := bwc3 (k_b)
      obtain ⟨c_c_0, c_c_1, c_c_2⟩ := bwc3 (k_c)
      obtain ⟨p1, hp1⟩ : ∃ p : BW W1, p.w = W1 := ⟨BW.start W1, rfl⟩
      rw [← hp1]
      clear hp1
      go_wp2_with (first
        | (go_at_call 50; (first | (with_reducible refine (bw_call KP.out _).mono ?_)); rintro e w' ⟨rfl, q, rfl⟩)
        | (go_at_call 75; (first | (with_reducible refine (bw_call KU.out _).mono ?_)); rintro e w' ⟨rfl, q, rfl⟩))
      go_ret
      exact ⟨rfl, bw_below B1 _⟩
  · rw [show isZ (u1, u2, u3) = false by unfold isZ; simp [n1]]
    go_enter Tryz.func48, Tryz.ntmps48
    go_upto_region 1 with (fail)
    obtain ⟨W1, hW1⟩ : ∃ W, W = ((w.alloc (.cells #[.int .i64 a1, .int .i64 a2, .int .i64 a3] 25)).alloc (.cells #[.int .i64 b1, .int .i64 b2, .int .i64 b3] 25)).alloc (.cells #[.int .i64 c1, .int .i64 c2, .int .i64 c3] 25) := ⟨_, rfl⟩
    obtain ⟨k_a, k_b, k_c, B1⟩ := st3 hW1
    rw [← hW1]
    clear hW1
    have l_b : w.heap.size < w.heap.size + 1 := by omega
    have l_c : w.heap.size + 1 < w.heap.size + 1 + 1 := by omega
    generalize w.heap.size + 1 + 1 = g_c at *
    generalize w.heap.size + 1 = g_b at *
    obtain ⟨c_a_0, c_a_1, c_a_2⟩ := bwc3 (k_a)
    obtain ⟨c_b_0, c_b_1, c_b_2⟩ := bwc3 (k_b)
    obtain ⟨c_c_0, c_c_1, c_c_2⟩ := bwc3 (k_c)
    obtain ⟨p1, hp1⟩ : ∃ p : BW W1, p.w = W1 := ⟨BW.start W1, rfl⟩
    rw [← hp1]
    clear hp1
    go_wp2_with (first
      | (go_at_call 50; (first | (with_reducible refine (bw_call KP.out _).mono ?_)); rintro e w' ⟨rfl, q, rfl⟩)
      | (go_at_call 75; (first | (with_reducible refine (bw_call KU.out _).mono ?_)); rintro e w' ⟨rfl, q, rfl⟩))
    go_ret
    exact ⟨rfl, bw_below B1 _⟩

theorem flat_pl3 {a b c : T3} (h : tFlat a b c = false) : pl3 a b c = true := by
  unfold tFlat at h
  cases hp : pl3 a b c with
  | true => rfl
  | false => rw [hp] at h; simp at h

end
end Go.Proofs.YtokkankfaofooaaGreat

namespace Go.Proofs.YtokkankfaofooaaGreat
section
open Go.RowKit Go.Proofs.Sky
set_option linter.unusedVariables false

theorem ups_in {a b c : T3} (h : pl3 a b c = true) : (-2199023255552 ≤ (upsT a b c).1 ∧ (upsT a b c).1 ≤ 2199023255552) ∧ (-2199023255552 ≤ (upsT a b c).2.1 ∧ (upsT a b c).2.1 ≤ 2199023255552) ∧ (-2199023255552 ≤ (upsT a b c).2.2 ∧ (upsT a b c).2.2 ≤ 2199023255552) := by
  obtain ⟨h1, h2, h3⟩ := pl3_iff.1 h
  rw [plc_iff] at h1 h2 h3
  unfold upsT crX sbT
  dsimp only
  have m : ∀ {p q : Int}, (-1048576 ≤ p ∧ p ≤ 1048576) → (-1048576 ≤ q ∧ q ≤ 1048576) → -1099511627776 ≤ p * q ∧ p * q ≤ 1099511627776 := fun hp hq => near_mul hp hq
  have p1 := m (p := b.2.1 - a.2.1) (q := c.2.2 - a.2.2) (by omega) (by omega)
  have p2 := m (p := b.2.2 - a.2.2) (q := c.2.1 - a.2.1) (by omega) (by omega)
  have p3 := m (p := b.2.2 - a.2.2) (q := c.1 - a.1) (by omega) (by omega)
  have p4 := m (p := b.1 - a.1) (q := c.2.2 - a.2.2) (by omega) (by omega)
  have p5 := m (p := b.1 - a.1) (q := c.2.1 - a.2.1) (by omega) (by omega)
  have p6 := m (p := b.2.1 - a.2.1) (q := c.1 - a.1) (by omega) (by omega)
  omega
theorem sq_41 {u : Int} (h : -2199023255552 ≤ u ∧ u ≤ 2199023255552) : 0 ≤ u * u ∧ u * u ≤ 4835703278458516698824704 :=
  ⟨sq_nonneg u, (mul_in (N := 2199023255552) (M := 2199023255552) h h).2⟩

theorem vlX_41 {u v w : T3} (hu : nrT u = true) (hv : nrT v = true) (hw : nrT w = true) : -6917529027641081856 ≤ vlX u v w ∧ vlX u v w ≤ 6917529027641081856 := by
  unfold nrT at hu hv hw
  rw [vnear_iff] at hu hv hw
  have m : ∀ {p q : Int}, (-1048576 ≤ p ∧ p ≤ 1048576) → (-1048576 ≤ q ∧ q ≤ 1048576) → -1099511627776 ≤ p * q ∧ p * q ≤ 1099511627776 := fun hp hq => near_mul hp hq
  have p1 := m (p := v.2.1) (q := w.2.2) (by omega) (by omega)
  have p2 := m (p := v.2.2) (q := w.2.1) (by omega) (by omega)
  have p3 := m (p := v.2.2) (q := w.1) (by omega) (by omega)
  have p4 := m (p := v.1) (q := w.2.2) (by omega) (by omega)
  have p5 := m (p := v.1) (q := w.2.1) (by omega) (by omega)
  have p6 := m (p := v.2.1) (q := w.1) (by omega) (by omega)
  unfold vlX
  have q1 := near_mul3 (x := u.1) (a := v.2.1 * w.2.2 - v.2.2 * w.2.1) (by omega) (by omega)
  have q2 := near_mul3 (x := u.2.1) (a := v.2.2 * w.1 - v.1 * w.2.2) (by omega) (by omega)
  have q3 := near_mul3 (x := u.2.2) (a := v.1 * w.2.1 - v.2.1 * w.1) (by omega) (by omega)
  omega
theorem vvol_vlX {u v w : T3} (hu : nrT u = true) (hv : nrT v = true) (hw : nrT w = true) : vvol u.1 u.2.1 u.2.2 v.1 v.2.1 v.2.2 w.1 w.2.1 w.2.2 = vlX u v w := by
  unfold vvol
  rw [if_pos ⟨hu, hv, hw⟩]
  rfl
theorem sbT_near {a o : T3} (ha : plc a = true) (ho : plc o = true) : nrT (sbT a o) = true := by
  rw [plc_iff] at ha ho
  unfold nrT sbT
  rw [vnear_iff]
  dsimp only
  omega

set_option maxRecDepth 100000 in
set_option maxHeartbeats 8000000 in
theorem ref11_Hit_no1 (a1 a2 a3 b1 b2 b3 c1 c2 c3 o1 o2 o3 d1 d2 d3 fr : Int) (w : World) (h1 : pl3 (a1, a2, a3) (b1, b2, b3) (c1, c2, c3) = false) :
    Calls Tryz.prog 37 #[.agg #[.int .i64 a1, .int .i64 a2, .int .i64 a3], .agg #[.int .i64 b1, .int .i64 b2, .int .i64 b3], .agg #[.int .i64 c1, .int .i64 c2, .int .i64 c3], .agg #[.int .i64 o1, .int .i64 o2, .int .i64 o3, .int .i64 d1, .int .i64 d2, .int .i64 d3, .int .i64 fr]] w fun en w' => en = .returned (.tuple #[.agg #[.int .i64 (tHit (a1, a2, a3) (b1, b2, b3) (c1, c2, c3) (o1, o2, o3) (d1, d2, d3)).1.1, .int .i64 (tHit (a1, a2, a3) (b1, b2, b3) (c1, c2, c3) (o1, o2, o3) (d1, d2, d3)).1.2], .bool (tHit (a1, a2, a3) (b1, b2, b3) (c1, c2, c3) (o1, o2, o3) (d1, d2, d3)).2]) ∧ Below w.heap.size w w' := by
  rw [show tHit (a1, a2, a3) (b1, b2, b3) (c1, c2, c3) (o1, o2, o3) (d1, d2, d3) = ((0, 0), false) by unfold tHit; rw [if_neg (by rw [h1]; simp)]]
  dsimp only
  have KP := Lib.hid (fun w => ref11_places a1 a2 a3 b1 b2 b3 c1 c2 c3 w)
  rw [h1] at KP
  clear h1
  go_enter Tryz.func37, Tryz.ntmps37
  go_upto_region 1 with (fail)
  obtain ⟨W1, hW1⟩ : ∃ W, W = ((((w.alloc (.cells #[.int .i64 a1, .int .i64 a2, .int .i64 a3] 25)).alloc (.cells #[.int .i64 b1, .int .i64 b2, .int .i64 b3] 25)).alloc (.cells #[.int .i64 c1, .int .i64 c2, .int .i64 c3] 25)).alloc (.cells #[.int .i64 o1, .int .i64 o2, .int .i64 o3, .int .i64 d1, .int .i64 d2, .int .i64 d3, .int .i64 fr] 27)).alloc (.cells #[.int .i64 0, .int .i64 0] 29) := ⟨_, rfl⟩
  obtain ⟨k_a, k_b, k_c, k_y, k_r, B1⟩ := st5 hW1
  rw [← hW1]
  clear hW1
  have l_b : w.heap.size < w.heap.size + 1 := by omega
  have l_c : w.heap.size + 1 < w.heap.size + 1 + 1 := by omega
  have l_y : w.heap.size + 1 + 1 < w.heap.size + 1 + 1 + 1 := by omega
  have l_r : w.heap.size + 1 + 1 + 1 < w.heap.size + 1 + 1 + 1 + 1 := by omega
  generalize w.heap.size + 1 + 1 + 1 + 1 = g_r at *
  generalize w.heap.size + 1 + 1 + 1 = g_y at *
  generalize w.heap.size + 1 + 1 = g_c at *
  generalize w.heap.size + 1 = g_b at *
  obtain ⟨c_a_0, c_a_1, c_a_2⟩ := bwc3 (k_a)
  obtain ⟨c_b_0, c_b_1, c_b_2⟩ := bwc3 (k_b)
  obtain ⟨c_c_0, c_c_1, c_c_2⟩ := bwc3 (k_c)
  obtain ⟨c_y_0, c_y_1, c_y_2, c_y_3, c_y_4, c_y_5, c_y_6⟩ := bwc7 (k_y)
  obtain ⟨c_r_0, c_r_1⟩ := bwc2 (k_r)
  obtain ⟨f_r_0, f_r_1⟩ := bwf2 (k_r)
  obtain ⟨p1, hp1⟩ : ∃ p : BW W1, p.w = W1 := ⟨BW.start W1, rfl⟩
  rw [← hp1]
  clear hp1
  go_wp2_with (first
    | (go_at_call 50; (first | (with_reducible refine (bw_call KP.out _).mono ?_)); rintro e w' ⟨rfl, q, rfl⟩))
  have kr := bkp2 (k_r.below q.h) (.int .i64 0) (.int .i64 0)
  obtain ⟨rc0, rc1⟩ := rwc2 kr
  exact bodyPost_ret (v := .tuple #[.agg #[.int .i64 0, .int .i64 0], .bool false]) (by simp [results, Tryz.results37, go_sem, rc0, rc1]) rfl ⟨rfl, blp2 (bw_below B1 q) (by omega)⟩

set_option maxRecDepth 100000 in
set_option maxHeartbeats 8000000 in
theorem ref11_Hit_no2 (a1 a2 a3 b1 b2 b3 c1 c2 c3 o1 o2 o3 d1 d2 d3 fr : Int) (w : World) (h1 : pl3 (a1, a2, a3) (b1, b2, b3) (c1, c2, c3) = true) (h2 : plc (o1, o2, o3) = false) :
    Calls Tryz.prog 37 #[.agg #[.int .i64 a1, .int .i64 a2, .int .i64 a3], .agg #[.int .i64 b1, .int .i64 b2, .int .i64 b3], .agg #[.int .i64 c1, .int .i64 c2, .int .i64 c3], .agg #[.int .i64 o1, .int .i64 o2, .int .i64 o3, .int .i64 d1, .int .i64 d2, .int .i64 d3, .int .i64 fr]] w fun en w' => en = .returned (.tuple #[.agg #[.int .i64 (tHit (a1, a2, a3) (b1, b2, b3) (c1, c2, c3) (o1, o2, o3) (d1, d2, d3)).1.1, .int .i64 (tHit (a1, a2, a3) (b1, b2, b3) (c1, c2, c3) (o1, o2, o3) (d1, d2, d3)).1.2], .bool (tHit (a1, a2, a3) (b1, b2, b3) (c1, c2, c3) (o1, o2, o3) (d1, d2, d3)).2]) ∧ Below w.heap.size w w' := by
  rw [show tHit (a1, a2, a3) (b1, b2, b3) (c1, c2, c3) (o1, o2, o3) (d1, d2, d3) = ((0, 0), false) by unfold tHit; rw [if_neg (by rw [h2]; simp)]]
  dsimp only
  have KP := Lib.hid (fun w => ref11_places a1 a2 a3 b1 b2 b3 c1 c2 c3 w)
  rw [h1] at KP
  have KO := Lib.hid (fun w => ref11_Place o1 o2 o3 w)
  rw [h2] at KO
  clear h1 h2
  go_enter Tryz.func37, Tryz.ntmps37
  go_upto_region 1 with (fail)
  obtain ⟨W1, hW1⟩ : ∃ W, W = ((((w.alloc (.cells #[.int .i64 a1, .int .i64 a2, .int .i64 a3] 25)).alloc (.cells #[.int .i64 b1, .int .i64 b2, .int .i64 b3] 25)).alloc (.cells #[.int .i64 c1, .int .i64 c2, .int .i64 c3] 25)).alloc (.cells #[.int .i64 o1, .int .i64 o2, .int .i64 o3, .int .i64 d1, .int .i64 d2, .int .i64 d3, .int .i64 fr] 27)).alloc (.cells #[.int .i64 0, .int .i64 0] 29) := ⟨_, rfl⟩
  obtain ⟨k_a, k_b, k_c, k_y, k_r, B1⟩ := st5 hW1
  rw [← hW1]
  clear hW1
  have l_b : w.heap.size < w.heap.size + 1 := by omega
  have l_c : w.heap.size + 1 < w.heap.size + 1 + 1 := by omega
  have l_y : w.heap.size + 1 + 1 < w.heap.size + 1 + 1 + 1 := by omega
  have l_r : w.heap.size + 1 + 1 + 1 < w.heap.size + 1 + 1 + 1 + 1 := by omega
  generalize w.heap.size + 1 + 1 + 1 + 1 = g_r at *
  generalize w.heap.size + 1 + 1 + 1 = g_y at *
  generalize w.heap.size + 1 + 1 = g_c at *
  generalize w.heap.size + 1 = g_b at *
  obtain ⟨c_a_0, c_a_1, c_a_2⟩ := bwc3 (k_a)
  obtain ⟨c_b_0, c_b_1, c_b_2⟩ := bwc3 (k_b)
  obtain ⟨c_c_0, c_c_1, c_c_2⟩ := bwc3 (k_c)
  obtain ⟨c_y_0, c_y_1, c_y_2, c_y_3, c_y_4, c_y_5, c_y_6⟩ := bwc7 (k_y)
  obtain ⟨c_r_0, c_r_1⟩ := bwc2 (k_r)
  obtain ⟨f_r_0, f_r_1⟩ := bwf2 (k_r)
  obtain ⟨p1, hp1⟩ : ∃ p : BW W1, p.w = W1 := ⟨BW.start W1, rfl⟩
  rw [← hp1]
  clear hp1
  go_wp2_with (first
    | (go_at_call 50; (first | (with_reducible refine (bw_call KP.out _).mono ?_)); rintro e w' ⟨rfl, q, rfl⟩)
    | (go_at_call 51; (first | (with_reducible refine (bw_call KO.out _).mono ?_)); rintro e w' ⟨rfl, q, rfl⟩))
  have kr := bkp2 (k_r.below q.h) (.int .i64 0) (.int .i64 0)
  obtain ⟨rc0, rc1⟩ := rwc2 kr
  exact bodyPost_ret (v := .tuple #[.agg #[.int .i64 0, .int .i64 0], .bool false]) (by simp [results, Tryz.results37, go_sem, rc0, rc1]) rfl ⟨rfl, blp2 (bw_below B1 q) (by omega)⟩

set_option maxRecDepth 100000 in
set_option maxHeartbeats 8000000 in
theorem ref11_Hit_no3 (a1 a2 a3 b1 b2 b3 c1 c2 c3 o1 o2 o3 d1 d2 d3 fr : Int) (w : World) (h1 : pl3 (a1, a2, a3) (b1, b2, b3) (c1, c2, c3) = true) (h2 : plc (o1, o2, o3) = true) (h3 : nrT (d1, d2, d3) = false) :
    Calls Tryz.prog 37 #[.agg #[.int .i64 a1, .int .i64 a2, .int .i64 a3], .agg #[.int .i64 b1, .int .i64 b2, .int .i64 b3], .agg #[.int .i64 c1, .int .i64 c2, .int .i64 c3], .agg #[.int .i64 o1, .int .i64 o2, .int .i64 o3, .int .i64 d1, .int .i64 d2, .int .i64 d3, .int .i64 fr]] w fun en w' => en = .returned (.tuple #[.agg #[.int .i64 (tHit (a1, a2, a3) (b1, b2, b3) (c1, c2, c3) (o1, o2, o3) (d1, d2, d3)).1.1, .int .i64 (tHit (a1, a2, a3) (b1, b2, b3) (c1, c2, c3) (o1, o2, o3) (d1, d2, d3)).1.2], .bool (tHit (a1, a2, a3) (b1, b2, b3) (c1, c2, c3) (o1, o2, o3) (d1, d2, d3)).2]) ∧ Below w.heap.size w w' := by
  rw [show tHit (a1, a2, a3) (b1, b2, b3) (c1, c2, c3) (o1, o2, o3) (d1, d2, d3) = ((0, 0), false) by unfold tHit; rw [if_neg (by rw [h3]; simp)]]
  dsimp only
  have KP := Lib.hid (fun w => ref11_places a1 a2 a3 b1 b2 b3 c1 c2 c3 w)
  rw [h1] at KP
  have KO := Lib.hid (fun w => ref11_Place o1 o2 o3 w)
  rw [h2] at KO
  have KD := Lib.hid (fun w => ref6_Near d1 d2 d3 w)
  rw [show vnear d1 d2 d3 = _ from h3] at KD
  clear h1 h2 h3
  go_enter Tryz.func37, Tryz.ntmps37
  go_upto_region 1 with (fail)
  obtain ⟨W1, hW1⟩ : ∃ W, W = ((((w.alloc (.cells #[.int .i64 a1, .int .i64 a2, .int .i64 a3] 25)).alloc (.cells #[.int .i64 b1, .int .i64 b2, .int .i64 b3] 25)).alloc (.cells #[.int .i64 c1, .int .i64 c2, .int .i64 c3] 25)).alloc (.cells #[.int .i64 o1, .int .i64 o2, .int .i64 o3, .int .i64 d1, .int .i64 d2, .int .i64 d3, .int .i64 fr] 27)).alloc (.cells #[.int .i64 0, .int .i64 0] 29) := ⟨_, rfl⟩
  obtain ⟨k_a, k_b, k_c, k_y, k_r, B1⟩ := st5 hW1
  rw [← hW1]
  clear hW1
  have l_b : w.heap.size < w.heap.size + 1 := by omega
  have l_c : w.heap.size + 1 < w.heap.size + 1 + 1 := by omega
  have l_y : w.heap.size + 1 + 1 < w.heap.size + 1 + 1 + 1 := by omega
  have l_r : w.heap.size + 1 + 1 + 1 < w.heap.size + 1 + 1 + 1 + 1 := by omega
  generalize w.heap.size + 1 + 1 + 1 + 1 = g_r at *
  generalize w.heap.size + 1 + 1 + 1 = g_y at *
  generalize w.heap.size + 1 + 1 = g_c at *
  generalize w.heap.size + 1 = g_b at *
  obtain ⟨c_a_0, c_a_1, c_a_2⟩ := bwc3 (k_a)
  obtain ⟨c_b_0, c_b_1, c_b_2⟩ := bwc3 (k_b)
  obtain ⟨c_c_0, c_c_1, c_c_2⟩ := bwc3 (k_c)
  obtain ⟨c_y_0, c_y_1, c_y_2, c_y_3, c_y_4, c_y_5, c_y_6⟩ := bwc7 (k_y)
  obtain ⟨c_r_0, c_r_1⟩ := bwc2 (k_r)
  obtain ⟨f_r_0, f_r_1⟩ := bwf2 (k_r)
  obtain ⟨p1, hp1⟩ : ∃ p : BW W1, p.w = W1 := ⟨BW.start W1, rfl⟩
  rw [← hp1]
  clear hp1
  go_wp2_with (first
    | (go_at_call 50; (first | (with_reducible refine (bw_call KP.out _).mono ?_)); rintro e w' ⟨rfl, q, rfl⟩)
    | (go_at_call 51; (first | (with_reducible refine (bw_call KO.out _).mono ?_)); rintro e w' ⟨rfl, q, rfl⟩)
    | (go_at_call 52; (first | (with_reducible refine (bw_call KD.out _).mono ?_)); rintro e w' ⟨rfl, q, rfl⟩))
  have kr := bkp2 (k_r.below q.h) (.int .i64 0) (.int .i64 0)
  obtain ⟨rc0, rc1⟩ := rwc2 kr
  exact bodyPost_ret (v := .tuple #[.agg #[.int .i64 0, .int .i64 0], .bool false]) (by simp [results, Tryz.results37, go_sem, rc0, rc1]) rfl ⟨rfl, blp2 (bw_below B1 q) (by omega)⟩

theorem hit_ways {P : Prop} (x y z n : Int) (h1 : (x ≤ 0) ∧ (y ≤ 0) ∧ (z ≤ 0) ∧ (x + y + z = 0) → P) (h2 : (x ≤ 0) ∧ (y ≤ 0) ∧ (z ≤ 0) ∧ (¬ x + y + z = 0) ∧ (0 ≤ n) → P) (h3 : (x ≤ 0) ∧ (y ≤ 0) ∧ (z ≤ 0) ∧ (¬ x + y + z = 0) ∧ (n < 0) → P) (h4 : (0 < x) ∧ (y < 0) → P) (h5 : (0 < x) ∧ (0 ≤ y) ∧ (z < 0) → P) (h6 : (0 < x) ∧ (0 ≤ y) ∧ (0 ≤ z) ∧ (n ≤ 0) → P) (h7 : (0 < x) ∧ (0 ≤ y) ∧ (0 ≤ z) ∧ (0 < n) → P) (h8 : (x ≤ 0) ∧ (0 < y) ∧ (x < 0) → P) (h9 : (x ≤ 0) ∧ (0 < y) ∧ (0 ≤ x) ∧ (z < 0) → P) (h10 : (x ≤ 0) ∧ (0 < y) ∧ (0 ≤ x) ∧ (0 ≤ z) ∧ (n ≤ 0) → P) (h11 : (x ≤ 0) ∧ (0 < y) ∧ (0 ≤ x) ∧ (0 ≤ z) ∧ (0 < n) → P) (h12 : (x ≤ 0) ∧ (y ≤ 0) ∧ (0 < z) ∧ (x < 0) → P) (h13 : (x ≤ 0) ∧ (y ≤ 0) ∧ (0 < z) ∧ (0 ≤ x) ∧ (y < 0) → P) (h14 : (x ≤ 0) ∧ (y ≤ 0) ∧ (0 < z) ∧ (0 ≤ x) ∧ (0 ≤ y) ∧ (n ≤ 0) → P) (h15 : (x ≤ 0) ∧ (y ≤ 0) ∧ (0 < z) ∧ (0 ≤ x) ∧ (0 ≤ y) ∧ (0 < n) → P) : P := by
  by_cases hx : x ≤ 0
  · by_cases hy : y ≤ 0
    · by_cases hz : z ≤ 0
      · by_cases hs : x + y + z = 0
        · exact h1 ⟨by omega, by omega, by omega, by omega⟩
        · by_cases hn : 0 ≤ n
          · exact h2 ⟨by omega, by omega, by omega, by omega, by omega⟩
          · exact h3 ⟨by omega, by omega, by omega, by omega, by omega⟩
      · by_cases kx : x < 0
        · exact h12 ⟨by omega, by omega, by omega, by omega⟩
        by_cases ky : y < 0
        · exact h13 ⟨by omega, by omega, by omega, by omega, by omega⟩
        by_cases kn : n ≤ 0
        · exact h14 ⟨by omega, by omega, by omega, by omega, by omega, by omega⟩
        exact h15 ⟨by omega, by omega, by omega, by omega, by omega, by omega⟩
    · by_cases kx : x < 0
      · exact h8 ⟨by omega, by omega, by omega⟩
      by_cases kz : z < 0
      · exact h9 ⟨by omega, by omega, by omega, by omega⟩
      by_cases kn : n ≤ 0
      · exact h10 ⟨by omega, by omega, by omega, by omega, by omega⟩
      exact h11 ⟨by omega, by omega, by omega, by omega, by omega⟩
  · by_cases ky : y < 0
    · exact h4 ⟨by omega, by omega⟩
    by_cases kz : z < 0
    · exact h5 ⟨by omega, by omega, by omega⟩
    by_cases kn : n ≤ 0
    · exact h6 ⟨by omega, by omega, by omega, by omega⟩
    exact h7 ⟨by omega, by omega, by omega, by omega⟩

set_option maxRecDepth 100000 in
set_option maxHeartbeats 8000000 in
theorem ref11_Hit_yes (a1 a2 a3 b1 b2 b3 c1 c2 c3 o1 o2 o3 d1 d2 d3 fr : Int) (w : World) (h1 : pl3 (a1, a2, a3) (b1, b2, b3) (c1, c2, c3) = true) (h2 : plc (o1, o2, o3) = true) (h3 : nrT (d1, d2, d3) = true) :
    Calls Tryz.prog 37 #[.agg #[.int .i64 a1, .int .i64 a2, .int .i64 a3], .agg #[.int .i64 b1, .int .i64 b2, .int .i64 b3], .agg #[.int .i64 c1, .int .i64 c2, .int .i64 c3], .agg #[.int .i64 o1, .int .i64 o2, .int .i64 o3, .int .i64 d1, .int .i64 d2, .int .i64 d3, .int .i64 fr]] w fun en w' => en = .returned (.tuple #[.agg #[.int .i64 (tHit (a1, a2, a3) (b1, b2, b3) (c1, c2, c3) (o1, o2, o3) (d1, d2, d3)).1.1, .int .i64 (tHit (a1, a2, a3) (b1, b2, b3) (c1, c2, c3) (o1, o2, o3) (d1, d2, d3)).1.2], .bool (tHit (a1, a2, a3) (b1, b2, b3) (c1, c2, c3) (o1, o2, o3) (d1, d2, d3)).2]) ∧ Below w.heap.size w w' := by
  obtain ⟨ha, hb, hc⟩ := pl3_iff.1 h1
  have KP := Lib.hid (fun w => ref11_places a1 a2 a3 b1 b2 b3 c1 c2 c3 w)
  have KO := Lib.hid (fun w => ref11_Place o1 o2 o3 w)
  have KD := Lib.hid (fun w => ref6_Near d1 d2 d3 w)
  rw [h1] at KP
  rw [h2] at KO
  rw [show vnear d1 d2 d3 = _ from h3] at KD
  have j1 := plc_iff.1 ha
  have j2 := plc_iff.1 hb
  have j3 := plc_iff.1 hc
  have j4 := plc_iff.1 h2
  dsimp only at j1 j2 j3 j4
  have na := sbT_near ha h2
  have nb := sbT_near hb h2
  have nc := sbT_near hc h2
  have e : tHit (a1, a2, a3) (b1, b2, b3) (c1, c2, c3) (o1, o2, o3) (d1, d2, d3) = tG (vlX (d1, d2, d3) (sbT (b1, b2, b3) (o1, o2, o3)) (sbT (c1, c2, c3) (o1, o2, o3))) (vlX (d1, d2, d3) (sbT (c1, c2, c3) (o1, o2, o3)) (sbT (a1, a2, a3) (o1, o2, o3))) (vlX (d1, d2, d3) (sbT (a1, a2, a3) (o1, o2, o3)) (sbT (b1, b2, b3) (o1, o2, o3))) (vlX (sbT (a1, a2, a3) (o1, o2, o3)) (sbT (b1, b2, b3) (o1, o2, o3)) (sbT (c1, c2, c3) (o1, o2, o3))) := by unfold tHit; rw [if_pos ⟨h1, h2, h3⟩]
  have es := vols_sum (a1, a2, a3) (b1, b2, b3) (c1, c2, c3) (o1, o2, o3) (d1, d2, d3)
  have bs : -6917529027641081856 ≤ vlX (d1, d2, d3) (sbT (b1, b2, b3) (a1, a2, a3)) (sbT (c1, c2, c3) (a1, a2, a3)) ∧ vlX (d1, d2, d3) (sbT (b1, b2, b3) (a1, a2, a3)) (sbT (c1, c2, c3) (a1, a2, a3)) ≤ 6917529027641081856 := vlX_41 h3 (sbT_near hb ha) (sbT_near hc ha)
  rw [← es] at bs
  have i1 := vlX_41 h3 nb nc
  have i2 := vlX_41 h3 nc na
  have i3 := vlX_41 h3 na nb
  have i4 := vlX_41 na nb nc
  rw [e]
  have sx : ∀ x y : Int, -524288 ≤ x ∧ x ≤ 524288 → -524288 ≤ y ∧ y ≤ 524288 → vsub x y = x - y := fun x y hx hy => by
    unfold vsub sat
    rw [if_neg (by omega), if_neg (by omega), if_neg (by omega), if_neg (by omega)]
    omega
  have VX := @vvol_vlX
  clear e es
  have KB1 := Lib.hid (fun w => ref6_Sub a1 a2 a3 o1 o2 o3 w (by unfold I64; omega) (by unfold I64; omega) (by unfold I64; omega) (by unfold I64; omega) (by unfold I64; omega) (by unfold I64; omega))
  rw [sx a1 o1 (by omega) (by omega), sx a2 o2 (by omega) (by omega), sx a3 o3 (by omega) (by omega)] at KB1
  obtain ⟨u1, hu1⟩ : ∃ t, t = a1 - o1 := ⟨_, rfl⟩
  obtain ⟨u2, hu2⟩ : ∃ t, t = a2 - o2 := ⟨_, rfl⟩
  obtain ⟨u3, hu3⟩ : ∃ t, t = a3 - o3 := ⟨_, rfl⟩
  rw [← hu1, ← hu2, ← hu3] at KB1
  have z1 : sbT (a1, a2, a3) (o1, o2, o3) = (u1, u2, u3) := by unfold sbT; rw [hu1, hu2, hu3]
  have KB2 := Lib.hid (fun w => ref6_Sub b1 b2 b3 o1 o2 o3 w (by unfold I64; omega) (by unfold I64; omega) (by unfold I64; omega) (by unfold I64; omega) (by unfold I64; omega) (by unfold I64; omega))
  rw [sx b1 o1 (by omega) (by omega), sx b2 o2 (by omega) (by omega), sx b3 o3 (by omega) (by omega)] at KB2
  obtain ⟨v1, hv1⟩ : ∃ t, t = b1 - o1 := ⟨_, rfl⟩
  obtain ⟨v2, hv2⟩ : ∃ t, t = b2 - o2 := ⟨_, rfl⟩
  obtain ⟨v3, hv3⟩ : ∃ t, t = b3 - o3 := ⟨_, rfl⟩
  rw [← hv1, ← hv2, ← hv3] at KB2
  have z2 : sbT (b1, b2, b3) (o1, o2, o3) = (v1, v2, v3) := by unfold sbT; rw [hv1, hv2, hv3]
  have KB3 := Lib.hid (fun w => ref6_Sub c1 c2 c3 o1 o2 o3 w (by unfold I64; omega) (by unfold I64; omega) (by unfold I64; omega) (by unfold I64; omega) (by unfold I64; omega) (by unfold I64; omega))
  rw [sx c1 o1 (by omega) (by omega), sx c2 o2 (by omega) (by omega), sx c3 o3 (by omega) (by omega)] at KB3
  obtain ⟨m1, hm1⟩ : ∃ t, t = c1 - o1 := ⟨_, rfl⟩
  obtain ⟨m2, hm2⟩ : ∃ t, t = c2 - o2 := ⟨_, rfl⟩
  obtain ⟨m3, hm3⟩ : ∃ t, t = c3 - o3 := ⟨_, rfl⟩
  rw [← hm1, ← hm2, ← hm3] at KB3
  have z3 : sbT (c1, c2, c3) (o1, o2, o3) = (m1, m2, m3) := by unfold sbT; rw [hm1, hm2, hm3]
  rw [z1] at na
  rw [z2] at nb
  rw [z3] at nc
  rw [z1, z2, z3] at i4 ⊢
  rw [z2, z3] at i1
  rw [z3, z1] at i2
  rw [z1, z2] at i3
  rw [z1, z2, z3] at bs
  have KX := Lib.hid (fun w => ref6_Volume d1 d2 d3 v1 v2 v3 m1 m2 m3 w)
  rw [show vvol d1 d2 d3 v1 v2 v3 m1 m2 m3 = vlX (d1, d2, d3) (v1, v2, v3) (m1, m2, m3) from vvol_vlX h3 nb nc] at KX
  have KY := Lib.hid (fun w => ref6_Volume d1 d2 d3 m1 m2 m3 u1 u2 u3 w)
  rw [show vvol d1 d2 d3 m1 m2 m3 u1 u2 u3 = vlX (d1, d2, d3) (m1, m2, m3) (u1, u2, u3) from vvol_vlX h3 nc na] at KY
  have KZ := Lib.hid (fun w => ref6_Volume d1 d2 d3 u1 u2 u3 v1 v2 v3 w)
  rw [show vvol d1 d2 d3 u1 u2 u3 v1 v2 v3 = vlX (d1, d2, d3) (u1, u2, u3) (v1, v2, v3) from vvol_vlX h3 na nb] at KZ
  have KN := Lib.hid (fun w => ref6_Volume u1 u2 u3 v1 v2 v3 m1 m2 m3 w)
  rw [show vvol u1 u2 u3 v1 v2 v3 m1 m2 m3 = vlX (u1, u2, u3) (v1, v2, v3) (m1, m2, m3) from vvol_vlX na nb nc] at KN
  generalize vlX (d1, d2, d3) (v1, v2, v3) (m1, m2, m3) = x at *
  generalize vlX (d1, d2, d3) (m1, m2, m3) (u1, u2, u3) = y at *
  generalize vlX (d1, d2, d3) (u1, u2, u3) (v1, v2, v3) = z at *
  generalize vlX (u1, u2, u3) (v1, v2, v3) (m1, m2, m3) = n at *
  obtain ⟨GG, hGG⟩ : ∃ t, t = tG x y z n := ⟨_, rfl⟩
  rw [← hGG]
  have HG := Lib.hid hGG
  clear hGG
  have HB := Lib.hid (And.intro i1 (And.intro i2 (And.intro i3 (And.intro i4 bs))))
  clear VX sx na nb nc z1 z2 z3 j1 j2 j3 j4 ha hb hc h1 h2 h3 i1 i2 i3 i4 bs hu1 hu2 hu3 hv1 hv2 hv3 hm1 hm2 hm3
  go_enter Tryz.func37, Tryz.ntmps37
  go_upto_region 1 with (fail)
  obtain ⟨W1, hW1⟩ : ∃ W, W = ((((w.alloc (.cells #[.int .i64 a1, .int .i64 a2, .int .i64 a3] 25)).alloc (.cells #[.int .i64 b1, .int .i64 b2, .int .i64 b3] 25)).alloc (.cells #[.int .i64 c1, .int .i64 c2, .int .i64 c3] 25)).alloc (.cells #[.int .i64 o1, .int .i64 o2, .int .i64 o3, .int .i64 d1, .int .i64 d2, .int .i64 d3, .int .i64 fr] 27)).alloc (.cells #[.int .i64 0, .int .i64 0] 29) := ⟨_, rfl⟩
  obtain ⟨k_a, k_b, k_c, k_y, k_r, B1⟩ := st5 hW1
  rw [← hW1]
  clear hW1
  have l_b : w.heap.size < w.heap.size + 1 := by omega
  have l_c : w.heap.size + 1 < w.heap.size + 1 + 1 := by omega
  have l_y : w.heap.size + 1 + 1 < w.heap.size + 1 + 1 + 1 := by omega
  have l_r : w.heap.size + 1 + 1 + 1 < w.heap.size + 1 + 1 + 1 + 1 := by omega
  generalize w.heap.size + 1 + 1 + 1 + 1 = g_r at *
  generalize w.heap.size + 1 + 1 + 1 = g_y at *
  generalize w.heap.size + 1 + 1 = g_c at *
  generalize w.heap.size + 1 = g_b at *
  obtain ⟨c_a_0, c_a_1, c_a_2⟩ := bwc3 (k_a)
  obtain ⟨c_b_0, c_b_1, c_b_2⟩ := bwc3 (k_b)
  obtain ⟨c_c_0, c_c_1, c_c_2⟩ := bwc3 (k_c)
  obtain ⟨c_y_0, c_y_1, c_y_2, c_y_3, c_y_4, c_y_5, c_y_6⟩ := bwc7 (k_y)
  obtain ⟨c_r_0, c_r_1⟩ := bwc2 (k_r)
  obtain ⟨f_r_0, f_r_1⟩ := bwf2 (k_r)
  obtain ⟨p1, hp1⟩ : ∃ p : BW W1, p.w = W1 := ⟨BW.start W1, rfl⟩
  rw [← hp1]
  clear hp1
  go_upto_region 3 with (first
    | (go_at_call 50; (first | (with_reducible refine (bw_call KP.out _).mono ?_)); rintro e w' ⟨rfl, q, rfl⟩)
    | (go_at_call 51; (first | (with_reducible refine (bw_call KO.out _).mono ?_)); rintro e w' ⟨rfl, q, rfl⟩)
    | (go_at_call 52; (first | (with_reducible refine (bw_call KD.out _).mono ?_)); rintro e w' ⟨rfl, q, rfl⟩))
  refine wp_region_floatL 15 114 [⟨12, 10, 25, #[.int .i64 0, .int .i64 0, .int .i64 0]⟩, ⟨13, 11, 25, #[.int .i64 0, .int .i64 0, .int .i64 0]⟩, ⟨14, 12, 25, #[.int .i64 0, .int .i64 0, .int .i64 0]⟩] (by kernel_rfl) (by kernel_rfl) (by kernel_rfl) (by kernel_rfl) (by kernel_rfl) (by decide) (by kernel_rfl) ?_ ?_
  · exact ⟨⟨_, rfl, fun ev wx => by simp [execOp, go_sem]⟩, ⟨_, rfl, fun ev wx => by simp [execOp, go_sem]⟩, ⟨_, rfl, fun ev wx => by simp [execOp, go_sem]⟩, trivial⟩
  apply Exists.intro
  refine ⟨?_, ?_⟩
  · intro wb' hwb'
    obtain ⟨d_a_0, d_a_1, d_a_2⟩ := bwc3 (k_a.below hwb')
    obtain ⟨d_b_0, d_b_1, d_b_2⟩ := bwc3 (k_b.below hwb')
    obtain ⟨d_c_0, d_c_1, d_c_2⟩ := bwc3 (k_c.below hwb')
    obtain ⟨d_y_0, d_y_1, d_y_2, d_y_3, d_y_4, d_y_5, d_y_6⟩ := bwc7 (k_y.below hwb')
    obtain ⟨d_r_0, d_r_1⟩ := bwc2 (k_r.below hwb')
    simp only [List.map_cons, List.map_nil, maskL, List.foldr_cons, List.foldr_nil, maskAt, List.take_succ_cons, List.take_zero]
    repeat (go_big_quiet_step (first
      | (go_at_call 53; (first | (with_reducible exact bw_call KB1.out _) | (with_reducible exact bw_call KB2.out _) | (with_reducible exact bw_call KB3.out _)))))
    refine wpQuiet_nil ?_
    exact rfl
  intro W2 st hW hst hne
  obtain ⟨g_p, e_p, hg_p, k_p⟩ := hst 0 _ rfl
  obtain ⟨g_q, e_q, hg_q, k_q⟩ := hst 1 _ rfl
  obtain ⟨g_s, e_s, hg_s, k_s⟩ := hst 2 _ rfl
  have n_p_q : g_p ≠ g_q := fun e => hne 0 1 _ (by simp) (by simp) (by omega) e_p (by rw [e]; exact e_q)
  have n_p_s : g_p ≠ g_s := fun e => hne 0 2 _ (by simp) (by simp) (by omega) e_p (by rw [e]; exact e_s)
  have n_q_s : g_q ≠ g_s := fun e => hne 1 2 _ (by simp) (by simp) (by omega) e_q (by rw [e]; exact e_s)
  have B2 : Below w.heap.size w W2 := B1.trans (hW.mono B1.size)
  have l_p : g_r < g_p := Nat.lt_of_lt_of_le k_r.lt hg_p
  have l_p_a : w.heap.size < g_p := Nat.lt_of_lt_of_le k_a.lt hg_p
  have l_p_b : g_b < g_p := Nat.lt_of_lt_of_le k_b.lt hg_p
  have l_p_c : g_c < g_p := Nat.lt_of_lt_of_le k_c.lt hg_p
  have l_p_y : g_y < g_p := Nat.lt_of_lt_of_le k_y.lt hg_p
  have l_q : g_r < g_q := Nat.lt_of_lt_of_le k_r.lt hg_q
  have l_q_a : w.heap.size < g_q := Nat.lt_of_lt_of_le k_a.lt hg_q
  have l_q_b : g_b < g_q := Nat.lt_of_lt_of_le k_b.lt hg_q
  have l_q_c : g_c < g_q := Nat.lt_of_lt_of_le k_c.lt hg_q
  have l_q_y : g_y < g_q := Nat.lt_of_lt_of_le k_y.lt hg_q
  have l_s : g_r < g_s := Nat.lt_of_lt_of_le k_r.lt hg_s
  have l_s_a : w.heap.size < g_s := Nat.lt_of_lt_of_le k_a.lt hg_s
  have l_s_b : g_b < g_s := Nat.lt_of_lt_of_le k_b.lt hg_s
  have l_s_c : g_c < g_s := Nat.lt_of_lt_of_le k_c.lt hg_s
  have l_s_y : g_y < g_s := Nat.lt_of_lt_of_le k_y.lt hg_s
  have k_a := k_a.below hW
  have k_b := k_b.below hW
  have k_c := k_c.below hW
  have k_y := k_y.below hW
  have k_r := k_r.below hW
  simp only [List.drop_succ_cons, List.drop_zero, putAll, Nat.zero_add, Nat.reduceAdd, e_p, e_q, e_s, putO, Act.put, List.setIfInBounds_toArray, List.set_cons_zero, List.set_cons_succ]
  clear hW hst hne B1 hg_p e_p hg_q e_q hg_s e_s
  clear c_a_0 c_a_1 c_a_2 c_b_0 c_b_1 c_b_2 c_c_0 c_c_1 c_c_2 c_y_0 c_y_1 c_y_2 c_y_3 c_y_4 c_y_5 c_y_6 c_r_0 c_r_1 f_r_0 f_r_1
  obtain ⟨c_a_0, c_a_1, c_a_2⟩ := bwc3 (k_a)
  obtain ⟨c_b_0, c_b_1, c_b_2⟩ := bwc3 (k_b)
  obtain ⟨c_c_0, c_c_1, c_c_2⟩ := bwc3 (k_c)
  obtain ⟨c_y_0, c_y_1, c_y_2, c_y_3, c_y_4, c_y_5, c_y_6⟩ := bwc7 (k_y)
  obtain ⟨c_r_0, c_r_1⟩ := bwc2 (k_r)
  obtain ⟨c_p_0, c_p_1, c_p_2⟩ := bwc3 (k_p)
  obtain ⟨f_p_0, f_p_1, f_p_2⟩ := bwf3 (k_p)
  obtain ⟨c_q_0, c_q_1, c_q_2⟩ := bwc3 (k_q)
  obtain ⟨f_q_0, f_q_1, f_q_2⟩ := bwf3 (k_q)
  obtain ⟨c_s_0, c_s_1, c_s_2⟩ := bwc3 (k_s)
  obtain ⟨f_s_0, f_s_1, f_s_2⟩ := bwf3 (k_s)
  obtain ⟨p2, hp2⟩ : ∃ p : BW W2, p.w = W2 := ⟨BW.start W2, rfl⟩
  rw [← hp2]
  clear hp2
  go_upto_region 4 with (fail)
  obtain ⟨W3, hW3⟩ : ∃ W, W = ((p2.w.setCell ⟨g_p, 0, none⟩ (.int .i64 u1)).setCell ⟨g_p, 1, none⟩ (.int .i64 u2)).setCell ⟨g_p, 2, none⟩ (.int .i64 u3) := ⟨_, rfl⟩
  have B3 : Below w.heap.size w W3 := by rw [hW3]; exact blp3 (bw_below B2 p2) (by omega)
  have k_a := bkoe3 hW3 (k_a.below p2.h) (by omega)
  have k_b := bkoe3 hW3 (k_b.below p2.h) (by omega)
  have k_c := bkoe3 hW3 (k_c.below p2.h) (by omega)
  have k_y := bkoe3 hW3 (k_y.below p2.h) (by omega)
  have k_r := bkoe3 hW3 (k_r.below p2.h) (by omega)
  have k_p := bkpe3 hW3 (k_p.below p2.h)
  have k_q := bkoe3 hW3 (k_q.below p2.h) (by omega)
  have k_s := bkoe3 hW3 (k_s.below p2.h) (by omega)
  rw [← hW3]
  clear hW3
  clear B2
  clear c_a_0 c_a_1 c_a_2 c_b_0 c_b_1 c_b_2 c_c_0 c_c_1 c_c_2 c_y_0 c_y_1 c_y_2 c_y_3 c_y_4 c_y_5 c_y_6 c_r_0 c_r_1 c_p_0 c_p_1 c_p_2 f_p_0 f_p_1 f_p_2 c_q_0 c_q_1 c_q_2 f_q_0 f_q_1 f_q_2 c_s_0 c_s_1 c_s_2 f_s_0 f_s_1 f_s_2
  obtain ⟨c_a_0, c_a_1, c_a_2⟩ := bwc3 (k_a)
  obtain ⟨c_b_0, c_b_1, c_b_2⟩ := bwc3 (k_b)
  obtain ⟨c_c_0, c_c_1, c_c_2⟩ := bwc3 (k_c)
  obtain ⟨c_y_0, c_y_1, c_y_2, c_y_3, c_y_4, c_y_5, c_y_6⟩ := bwc7 (k_y)
  obtain ⟨c_r_0, c_r_1⟩ := bwc2 (k_r)
  obtain ⟨c_p_0, c_p_1, c_p_2⟩ := bwc3 (k_p)
  obtain ⟨f_p_0, f_p_1, f_p_2⟩ := bwf3 (k_p)
  obtain ⟨c_q_0, c_q_1, c_q_2⟩ := bwc3 (k_q)
  obtain ⟨f_q_0, f_q_1, f_q_2⟩ := bwf3 (k_q)
  obtain ⟨c_s_0, c_s_1, c_s_2⟩ := bwc3 (k_s)
  obtain ⟨f_s_0, f_s_1, f_s_2⟩ := bwf3 (k_s)
  obtain ⟨p3, hp3⟩ : ∃ p : BW W3, p.w = W3 := ⟨BW.start W3, rfl⟩
  rw [← hp3]
  clear hp3
  obtain ⟨W4, hW4⟩ : ∃ W, W = ((p3.w.setCell ⟨g_q, 0, none⟩ (.int .i64 v1)).setCell ⟨g_q, 1, none⟩ (.int .i64 v2)).setCell ⟨g_q, 2, none⟩ (.int .i64 v3) := ⟨_, rfl⟩
  have B4 : Below w.heap.size w W4 := by rw [hW4]; exact blp3 (bw_below B3 p3) (by omega)
  have k_a := bkoe3 hW4 (k_a.below p3.h) (by omega)
  have k_b := bkoe3 hW4 (k_b.below p3.h) (by omega)
  have k_c := bkoe3 hW4 (k_c.below p3.h) (by omega)
  have k_y := bkoe3 hW4 (k_y.below p3.h) (by omega)
  have k_r := bkoe3 hW4 (k_r.below p3.h) (by omega)
  have k_p := bkoe3 hW4 (k_p.below p3.h) (by omega)
  have k_q := bkpe3 hW4 (k_q.below p3.h)
  have k_s := bkoe3 hW4 (k_s.below p3.h) (by omega)
  rw [← hW4]
  clear hW4
  clear B3
  clear c_a_0 c_a_1 c_a_2 c_b_0 c_b_1 c_b_2 c_c_0 c_c_1 c_c_2 c_y_0 c_y_1 c_y_2 c_y_3 c_y_4 c_y_5 c_y_6 c_r_0 c_r_1 c_p_0 c_p_1 c_p_2 f_p_0 f_p_1 f_p_2 c_q_0 c_q_1 c_q_2 f_q_0 f_q_1 f_q_2 c_s_0 c_s_1 c_s_2 f_s_0 f_s_1 f_s_2
  obtain ⟨c_a_0, c_a_1, c_a_2⟩ := bwc3 (k_a)
  obtain ⟨c_b_0, c_b_1, c_b_2⟩ := bwc3 (k_b)
  obtain ⟨c_c_0, c_c_1, c_c_2⟩ := bwc3 (k_c)
  obtain ⟨c_y_0, c_y_1, c_y_2, c_y_3, c_y_4, c_y_5, c_y_6⟩ := bwc7 (k_y)
  obtain ⟨c_r_0, c_r_1⟩ := bwc2 (k_r)
  obtain ⟨c_p_0, c_p_1, c_p_2⟩ := bwc3 (k_p)
  obtain ⟨f_p_0, f_p_1, f_p_2⟩ := bwf3 (k_p)
  obtain ⟨c_q_0, c_q_1, c_q_2⟩ := bwc3 (k_q)
  obtain ⟨f_q_0, f_q_1, f_q_2⟩ := bwf3 (k_q)
  obtain ⟨c_s_0, c_s_1, c_s_2⟩ := bwc3 (k_s)
  obtain ⟨f_s_0, f_s_1, f_s_2⟩ := bwf3 (k_s)
  obtain ⟨p4, hp4⟩ : ∃ p : BW W4, p.w = W4 := ⟨BW.start W4, rfl⟩
  rw [← hp4]
  clear hp4
  obtain ⟨W5, hW5⟩ : ∃ W, W = ((p4.w.setCell ⟨g_s, 0, none⟩ (.int .i64 m1)).setCell ⟨g_s, 1, none⟩ (.int .i64 m2)).setCell ⟨g_s, 2, none⟩ (.int .i64 m3) := ⟨_, rfl⟩
  have B5 : Below w.heap.size w W5 := by rw [hW5]; exact blp3 (bw_below B4 p4) (by omega)
  have k_a := bkoe3 hW5 (k_a.below p4.h) (by omega)
  have k_b := bkoe3 hW5 (k_b.below p4.h) (by omega)
  have k_c := bkoe3 hW5 (k_c.below p4.h) (by omega)
  have k_y := bkoe3 hW5 (k_y.below p4.h) (by omega)
  have k_r := bkoe3 hW5 (k_r.below p4.h) (by omega)
  have k_p := bkoe3 hW5 (k_p.below p4.h) (by omega)
  have k_q := bkoe3 hW5 (k_q.below p4.h) (by omega)
  have k_s := bkpe3 hW5 (k_s.below p4.h)
  rw [← hW5]
  clear hW5
  clear B4
  clear c_a_0 c_a_1 c_a_2 c_b_0 c_b_1 c_b_2 c_c_0 c_c_1 c_c_2 c_y_0 c_y_1 c_y_2 c_y_3 c_y_4 c_y_5 c_y_6 c_r_0 c_r_1 c_p_0 c_p_1 c_p_2 f_p_0 f_p_1 f_p_2 c_q_0 c_q_1 c_q_2 f_q_0 f_q_1 f_q_2 c_s_0 c_s_1 c_s_2 f_s_0 f_s_1 f_s_2
  obtain ⟨c_a_0, c_a_1, c_a_2⟩ := bwc3 (k_a)
  obtain ⟨c_b_0, c_b_1, c_b_2⟩ := bwc3 (k_b)
  obtain ⟨c_c_0, c_c_1, c_c_2⟩ := bwc3 (k_c)
  obtain ⟨c_y_0, c_y_1, c_y_2, c_y_3, c_y_4, c_y_5, c_y_6⟩ := bwc7 (k_y)
  obtain ⟨c_r_0, c_r_1⟩ := bwc2 (k_r)
  obtain ⟨f_r_0, f_r_1⟩ := bwf2 (k_r)
  obtain ⟨c_p_0, c_p_1, c_p_2⟩ := bwc3 (k_p)
  obtain ⟨c_q_0, c_q_1, c_q_2⟩ := bwc3 (k_q)
  obtain ⟨c_s_0, c_s_1, c_s_2⟩ := bwc3 (k_s)
  obtain ⟨p5, hp5⟩ : ∃ p : BW W5, p.w = W5 := ⟨BW.start W5, rfl⟩
  rw [← hp5]
  clear hp5
  refine wp_region_bw (by kernel_rfl) (by kernel_rfl) ?_
  repeat (go_big_quiet_step (first
    | (go_at_call 54; (first | (with_reducible exact bw_call KX.out _) | (with_reducible exact bw_call KY.out _) | (with_reducible exact bw_call KZ.out _)))))
  refine wpQuiet_nil ?_
  intro _ hw'
  obtain ⟨q, rfl⟩ := hw'
  go_upto_region 6 with (first
    | (go_at_call 54; (first | (with_reducible refine (bw_call KN.out _).mono ?_)); rintro e w' ⟨rfl, q, rfl⟩))
  clear KX KY KZ KN KP KO KD KB1 KB2 KB3
  generalize (Value.agg #[.int .i64 a1, .int .i64 a2, .int .i64 a3]) = vga
  generalize (Value.agg #[.int .i64 b1, .int .i64 b2, .int .i64 b3]) = vgb
  generalize (Value.agg #[.int .i64 c1, .int .i64 c2, .int .i64 c3]) = vgc
  generalize (Value.agg #[.int .i64 o1, .int .i64 o2, .int .i64 o3, .int .i64 d1, .int .i64 d2, .int .i64 d3, .int .i64 fr]) = vgy
  generalize (Value.agg #[.int .i64 o1, .int .i64 o2, .int .i64 o3]) = vgo
  generalize (Value.agg #[.int .i64 d1, .int .i64 d2, .int .i64 d3]) = vgd
  generalize (Value.agg #[.int .i64 u1, .int .i64 u2, .int .i64 u3]) = vgu
  generalize (Value.agg #[.int .i64 v1, .int .i64 v2, .int .i64 v3]) = vgv
  generalize (Value.agg #[.int .i64 m1, .int .i64 m2, .int .i64 m3]) = vgm
  have lr : w.heap.size ≤ g_r := by omega
  clear c_a_0 c_a_1 c_a_2 c_b_0 c_b_1 c_b_2 c_c_0 c_c_1 c_c_2 c_y_0 c_y_1 c_y_2 c_y_3 c_y_4 c_y_5 c_y_6 c_p_0 c_p_1 c_p_2 c_q_0 c_q_1 c_q_2 c_s_0 c_s_1 c_s_2 k_a k_b k_c k_y k_p k_q k_s l_b l_c l_y l_r
  refine hit_ways x y z n (fun hc => ?_) (fun hc => ?_) (fun hc => ?_) (fun hc => ?_) (fun hc => ?_) (fun hc => ?_) (fun hc => ?_) (fun hc => ?_) (fun hc => ?_) (fun hc => ?_) (fun hc => ?_) (fun hc => ?_) (fun hc => ?_) (fun hc => ?_) (fun hc => ?_)
  · have hb := HB.out
    clear HB
    obtain ⟨xm, hxm⟩ : ∃ t, -x = t := ⟨_, rfl⟩
    obtain ⟨ym, hym⟩ : ∃ t, -y = t := ⟨_, rfl⟩
    obtain ⟨zm, hzm⟩ : ∃ t, -z = t := ⟨_, rfl⟩
    obtain ⟨nm, hnm⟩ : ∃ t, -n = t := ⟨_, rfl⟩
    have wxm : wrap64 (-x) = xm := by rw [hxm]; exact IntWalk.wrap64_in _ (by omega)
    have vxm : IntKind.i64.wrap (-x) = xm := by rw [hxm, i64w]; omega
    have wym : wrap64 (-y) = ym := by rw [hym]; exact IntWalk.wrap64_in _ (by omega)
    have vym : IntKind.i64.wrap (-y) = ym := by rw [hym, i64w]; omega
    have wzm : wrap64 (-z) = zm := by rw [hzm]; exact IntWalk.wrap64_in _ (by omega)
    have vzm : IntKind.i64.wrap (-z) = zm := by rw [hzm, i64w]; omega
    have wnm : wrap64 (-n) = nm := by rw [hnm]; exact IntWalk.wrap64_in _ (by omega)
    have vnm : IntKind.i64.wrap (-n) = nm := by rw [hnm, i64w]; omega
    have fx : decide (x ≤ 0) = true := decide_eq_true (by omega)
    have kx : decide (xm < 0) = false := decide_eq_false (by omega)
    have fy : decide (y ≤ 0) = true := decide_eq_true (by omega)
    have ky : decide (ym < 0) = false := decide_eq_false (by omega)
    have fz : decide (z ≤ 0) = true := decide_eq_true (by omega)
    have kz : decide (zm < 0) = false := decide_eq_false (by omega)
    obtain ⟨ss, hss⟩ : ∃ t, xm + ym = t := ⟨_, rfl⟩
    obtain ⟨tt, htt⟩ : ∃ t, ss + zm = t := ⟨_, rfl⟩
    have wss : wrap64 (xm + ym) = ss := by rw [hss]; exact IntWalk.wrap64_in _ (by omega)
    have vss : IntKind.i64.wrap (xm + ym) = ss := by rw [hss, i64w]; omega
    have wtt : wrap64 (ss + zm) = tt := by rw [htt]; exact IntWalk.wrap64_in _ (by omega)
    have vtt : IntKind.i64.wrap (ss + zm) = tt := by rw [htt, i64w]; omega
    obtain rfl : tt = 0 := by omega
    have hv : tG x y z n = ((0, 0), false) := by
      unfold tG
      rw [if_pos (by omega)]
      unfold tFin
      rw [if_pos (by omega)]
    have HV := Lib.hid hv
    clear hv hc hb hxm hym hzm hnm hss htt
    repeat (first | go_values | go_skip | go_guarded | go_step | go_upon)
    have kr := bkp2 (k_r.below q.h) (.int .i64 0) (.int .i64 0)
    obtain ⟨rc0, rc1⟩ := rwc2 kr
    exact bodyPost_ret (v := .tuple #[.agg #[.int .i64 0, .int .i64 0], .bool false]) (by simp [results, Tryz.results37, go_sem, rc0, rc1]) rfl ⟨by rw [HG.out, HV.out], blp2 (bw_below B5 q) (by omega)⟩
  · have hb := HB.out
    clear HB
    obtain ⟨xm, hxm⟩ : ∃ t, -x = t := ⟨_, rfl⟩
    obtain ⟨ym, hym⟩ : ∃ t, -y = t := ⟨_, rfl⟩
    obtain ⟨zm, hzm⟩ : ∃ t, -z = t := ⟨_, rfl⟩
    obtain ⟨nm, hnm⟩ : ∃ t, -n = t := ⟨_, rfl⟩
    have wxm : wrap64 (-x) = xm := by rw [hxm]; exact IntWalk.wrap64_in _ (by omega)
    have vxm : IntKind.i64.wrap (-x) = xm := by rw [hxm, i64w]; omega
    have wym : wrap64 (-y) = ym := by rw [hym]; exact IntWalk.wrap64_in _ (by omega)
    have vym : IntKind.i64.wrap (-y) = ym := by rw [hym, i64w]; omega
    have wzm : wrap64 (-z) = zm := by rw [hzm]; exact IntWalk.wrap64_in _ (by omega)
    have vzm : IntKind.i64.wrap (-z) = zm := by rw [hzm, i64w]; omega
    have wnm : wrap64 (-n) = nm := by rw [hnm]; exact IntWalk.wrap64_in _ (by omega)
    have vnm : IntKind.i64.wrap (-n) = nm := by rw [hnm, i64w]; omega
    have fx : decide (x ≤ 0) = true := decide_eq_true (by omega)
    have kx : decide (xm < 0) = false := decide_eq_false (by omega)
    have fy : decide (y ≤ 0) = true := decide_eq_true (by omega)
    have ky : decide (ym < 0) = false := decide_eq_false (by omega)
    have fz : decide (z ≤ 0) = true := decide_eq_true (by omega)
    have kz : decide (zm < 0) = false := decide_eq_false (by omega)
    obtain ⟨ss, hss⟩ : ∃ t, xm + ym = t := ⟨_, rfl⟩
    obtain ⟨tt, htt⟩ : ∃ t, ss + zm = t := ⟨_, rfl⟩
    have wss : wrap64 (xm + ym) = ss := by rw [hss]; exact IntWalk.wrap64_in _ (by omega)
    have vss : IntKind.i64.wrap (xm + ym) = ss := by rw [hss, i64w]; omega
    have wtt : wrap64 (ss + zm) = tt := by rw [htt]; exact IntWalk.wrap64_in _ (by omega)
    have vtt : IntKind.i64.wrap (ss + zm) = tt := by rw [htt, i64w]; omega
    have ht0 : ¬ tt = 0 := by omega
    have kn : decide (nm ≤ 0) = true := decide_eq_true (by omega)
    have hv : tG x y z n = ((0, 0), false) := by
      unfold tG
      rw [if_pos (by omega)]
      unfold tFin
      rw [if_pos (by omega)]
    have HV := Lib.hid hv
    clear hv hc hb hxm hym hzm hnm hss htt
    repeat (first | go_values | go_skip | go_guarded | go_step | go_upon)
    have kr := bkp2 (k_r.below q.h) (.int .i64 0) (.int .i64 0)
    obtain ⟨rc0, rc1⟩ := rwc2 kr
    exact bodyPost_ret (v := .tuple #[.agg #[.int .i64 0, .int .i64 0], .bool false]) (by simp [results, Tryz.results37, go_sem, rc0, rc1]) rfl ⟨by rw [HG.out, HV.out], blp2 (bw_below B5 q) (by omega)⟩
  · have hb := HB.out
    clear HB
    obtain ⟨xm, hxm⟩ : ∃ t, -x = t := ⟨_, rfl⟩
    obtain ⟨ym, hym⟩ : ∃ t, -y = t := ⟨_, rfl⟩
    obtain ⟨zm, hzm⟩ : ∃ t, -z = t := ⟨_, rfl⟩
    obtain ⟨nm, hnm⟩ : ∃ t, -n = t := ⟨_, rfl⟩
    have wxm : wrap64 (-x) = xm := by rw [hxm]; exact IntWalk.wrap64_in _ (by omega)
    have vxm : IntKind.i64.wrap (-x) = xm := by rw [hxm, i64w]; omega
    have wym : wrap64 (-y) = ym := by rw [hym]; exact IntWalk.wrap64_in _ (by omega)
    have vym : IntKind.i64.wrap (-y) = ym := by rw [hym, i64w]; omega
    have wzm : wrap64 (-z) = zm := by rw [hzm]; exact IntWalk.wrap64_in _ (by omega)
    have vzm : IntKind.i64.wrap (-z) = zm := by rw [hzm, i64w]; omega
    have wnm : wrap64 (-n) = nm := by rw [hnm]; exact IntWalk.wrap64_in _ (by omega)
    have vnm : IntKind.i64.wrap (-n) = nm := by rw [hnm, i64w]; omega
    have fx : decide (x ≤ 0) = true := decide_eq_true (by omega)
    have kx : decide (xm < 0) = false := decide_eq_false (by omega)
    have fy : decide (y ≤ 0) = true := decide_eq_true (by omega)
    have ky : decide (ym < 0) = false := decide_eq_false (by omega)
    have fz : decide (z ≤ 0) = true := decide_eq_true (by omega)
    have kz : decide (zm < 0) = false := decide_eq_false (by omega)
    obtain ⟨ss, hss⟩ : ∃ t, xm + ym = t := ⟨_, rfl⟩
    obtain ⟨tt, htt⟩ : ∃ t, ss + zm = t := ⟨_, rfl⟩
    have wss : wrap64 (xm + ym) = ss := by rw [hss]; exact IntWalk.wrap64_in _ (by omega)
    have vss : IntKind.i64.wrap (xm + ym) = ss := by rw [hss, i64w]; omega
    have wtt : wrap64 (ss + zm) = tt := by rw [htt]; exact IntWalk.wrap64_in _ (by omega)
    have vtt : IntKind.i64.wrap (ss + zm) = tt := by rw [htt, i64w]; omega
    have ht0 : ¬ tt = 0 := by omega
    have kn : decide (nm ≤ 0) = false := decide_eq_false (by omega)
    have hv : tG x y z n = ((nm, tt), true) := by
      unfold tG
      rw [if_pos (by omega)]
      unfold tFin
      rw [if_neg (by omega), hxm, hym, hzm, hnm, hss, htt]
    have HV := Lib.hid hv
    clear hv hc hb hxm hym hzm hnm hss htt
    repeat (first | go_values | go_skip | go_guarded | go_step | go_upon)
    have kr := bkp2 (k_r.below q.h) (.int .i64 nm) (.int .i64 tt)
    obtain ⟨rc0, rc1⟩ := rwc2 kr
    exact bodyPost_ret (v := .tuple #[.agg #[.int .i64 nm, .int .i64 tt], .bool true]) (by simp [results, Tryz.results37, go_sem, rc0, rc1]) rfl ⟨by rw [HG.out, HV.out], blp2 (bw_below B5 q) (by omega)⟩
  · have hb := HB.out
    clear HB
    have fx : decide (x ≤ 0) = false := decide_eq_false (by omega)
    have kx : decide (x < 0) = false := decide_eq_false (by omega)
    have ky : decide (y < 0) = true := decide_eq_true (by omega)
    have hv : tG x y z n = ((0, 0), false) := by
      unfold tG
      rw [if_neg (by omega)]
      unfold tFin
      rw [if_pos (by omega)]
    have HV := Lib.hid hv
    clear hv hc hb 
    repeat (first | go_values | go_skip | go_guarded | go_step | go_upon)
    have kr := bkp2 (k_r.below q.h) (.int .i64 0) (.int .i64 0)
    obtain ⟨rc0, rc1⟩ := rwc2 kr
    exact bodyPost_ret (v := .tuple #[.agg #[.int .i64 0, .int .i64 0], .bool false]) (by simp [results, Tryz.results37, go_sem, rc0, rc1]) rfl ⟨by rw [HG.out, HV.out], blp2 (bw_below B5 q) (by omega)⟩
  · have hb := HB.out
    clear HB
    have fx : decide (x ≤ 0) = false := decide_eq_false (by omega)
    have kx : decide (x < 0) = false := decide_eq_false (by omega)
    have ky : decide (y < 0) = false := decide_eq_false (by omega)
    have kz : decide (z < 0) = true := decide_eq_true (by omega)
    have hv : tG x y z n = ((0, 0), false) := by
      unfold tG
      rw [if_neg (by omega)]
      unfold tFin
      rw [if_pos (by omega)]
    have HV := Lib.hid hv
    clear hv hc hb 
    repeat (first | go_values | go_skip | go_guarded | go_step | go_upon)
    have kr := bkp2 (k_r.below q.h) (.int .i64 0) (.int .i64 0)
    obtain ⟨rc0, rc1⟩ := rwc2 kr
    exact bodyPost_ret (v := .tuple #[.agg #[.int .i64 0, .int .i64 0], .bool false]) (by simp [results, Tryz.results37, go_sem, rc0, rc1]) rfl ⟨by rw [HG.out, HV.out], blp2 (bw_below B5 q) (by omega)⟩
  · have hb := HB.out
    clear HB
    have fx : decide (x ≤ 0) = false := decide_eq_false (by omega)
    have kx : decide (x < 0) = false := decide_eq_false (by omega)
    have ky : decide (y < 0) = false := decide_eq_false (by omega)
    have kz : decide (z < 0) = false := decide_eq_false (by omega)
    obtain ⟨ss, hss⟩ : ∃ t, x + y = t := ⟨_, rfl⟩
    obtain ⟨tt, htt⟩ : ∃ t, ss + z = t := ⟨_, rfl⟩
    have wss : wrap64 (x + y) = ss := by rw [hss]; exact IntWalk.wrap64_in _ (by omega)
    have vss : IntKind.i64.wrap (x + y) = ss := by rw [hss, i64w]; omega
    have wtt : wrap64 (ss + z) = tt := by rw [htt]; exact IntWalk.wrap64_in _ (by omega)
    have vtt : IntKind.i64.wrap (ss + z) = tt := by rw [htt, i64w]; omega
    have ht0 : ¬ tt = 0 := by omega
    have kn : decide (n ≤ 0) = true := decide_eq_true (by omega)
    have hv : tG x y z n = ((0, 0), false) := by
      unfold tG
      rw [if_neg (by omega)]
      unfold tFin
      rw [if_pos (by omega)]
    have HV := Lib.hid hv
    clear hv hc hb hss htt
    repeat (first | go_values | go_skip | go_guarded | go_step | go_upon)
    have kr := bkp2 (k_r.below q.h) (.int .i64 0) (.int .i64 0)
    obtain ⟨rc0, rc1⟩ := rwc2 kr
    exact bodyPost_ret (v := .tuple #[.agg #[.int .i64 0, .int .i64 0], .bool false]) (by simp [results, Tryz.results37, go_sem, rc0, rc1]) rfl ⟨by rw [HG.out, HV.out], blp2 (bw_below B5 q) (by omega)⟩
  · have hb := HB.out
    clear HB
    have fx : decide (x ≤ 0) = false := decide_eq_false (by omega)
    have kx : decide (x < 0) = false := decide_eq_false (by omega)
    have ky : decide (y < 0) = false := decide_eq_false (by omega)
    have kz : decide (z < 0) = false := decide_eq_false (by omega)
    obtain ⟨ss, hss⟩ : ∃ t, x + y = t := ⟨_, rfl⟩
    obtain ⟨tt, htt⟩ : ∃ t, ss + z = t := ⟨_, rfl⟩
    have wss : wrap64 (x + y) = ss := by rw [hss]; exact IntWalk.wrap64_in _ (by omega)
    have vss : IntKind.i64.wrap (x + y) = ss := by rw [hss, i64w]; omega
    have wtt : wrap64 (ss + z) = tt := by rw [htt]; exact IntWalk.wrap64_in _ (by omega)
    have vtt : IntKind.i64.wrap (ss + z) = tt := by rw [htt, i64w]; omega
    have ht0 : ¬ tt = 0 := by omega
    have kn : decide (n ≤ 0) = false := decide_eq_false (by omega)
    have hv : tG x y z n = ((n, tt), true) := by
      unfold tG
      rw [if_neg (by omega)]
      unfold tFin
      rw [if_neg (by omega), ← htt, ← hss]
    have HV := Lib.hid hv
    clear hv hc hb hss htt
    repeat (first | go_values | go_skip | go_guarded | go_step | go_upon)
    have kr := bkp2 (k_r.below q.h) (.int .i64 n) (.int .i64 tt)
    obtain ⟨rc0, rc1⟩ := rwc2 kr
    exact bodyPost_ret (v := .tuple #[.agg #[.int .i64 n, .int .i64 tt], .bool true]) (by simp [results, Tryz.results37, go_sem, rc0, rc1]) rfl ⟨by rw [HG.out, HV.out], blp2 (bw_below B5 q) (by omega)⟩
  · have hb := HB.out
    clear HB
    have fx : decide (x ≤ 0) = true := decide_eq_true (by omega)
    have fy : decide (y ≤ 0) = false := decide_eq_false (by omega)
    have kx : decide (x < 0) = true := decide_eq_true (by omega)
    have hv : tG x y z n = ((0, 0), false) := by
      unfold tG
      rw [if_neg (by omega)]
      unfold tFin
      rw [if_pos (by omega)]
    have HV := Lib.hid hv
    clear hv hc hb 
    repeat (first | go_values | go_skip | go_guarded | go_step | go_upon)
    have kr := bkp2 (k_r.below q.h) (.int .i64 0) (.int .i64 0)
    obtain ⟨rc0, rc1⟩ := rwc2 kr
    exact bodyPost_ret (v := .tuple #[.agg #[.int .i64 0, .int .i64 0], .bool false]) (by simp [results, Tryz.results37, go_sem, rc0, rc1]) rfl ⟨by rw [HG.out, HV.out], blp2 (bw_below B5 q) (by omega)⟩
  · have hb := HB.out
    clear HB
    have fx : decide (x ≤ 0) = true := decide_eq_true (by omega)
    have fy : decide (y ≤ 0) = false := decide_eq_false (by omega)
    have kx : decide (x < 0) = false := decide_eq_false (by omega)
    have ky : decide (y < 0) = false := decide_eq_false (by omega)
    have kz : decide (z < 0) = true := decide_eq_true (by omega)
    have hv : tG x y z n = ((0, 0), false) := by
      unfold tG
      rw [if_neg (by omega)]
      unfold tFin
      rw [if_pos (by omega)]
    have HV := Lib.hid hv
    clear hv hc hb 
    repeat (first | go_values | go_skip | go_guarded | go_step | go_upon)
    have kr := bkp2 (k_r.below q.h) (.int .i64 0) (.int .i64 0)
    obtain ⟨rc0, rc1⟩ := rwc2 kr
    exact bodyPost_ret (v := .tuple #[.agg #[.int .i64 0, .int .i64 0], .bool false]) (by simp [results, Tryz.results37, go_sem, rc0, rc1]) rfl ⟨by rw [HG.out, HV.out], blp2 (bw_below B5 q) (by omega)⟩
  · have hb := HB.out
    clear HB
    have fx : decide (x ≤ 0) = true := decide_eq_true (by omega)
    have fy : decide (y ≤ 0) = false := decide_eq_false (by omega)
    have kx : decide (x < 0) = false := decide_eq_false (by omega)
    have ky : decide (y < 0) = false := decide_eq_false (by omega)
    have kz : decide (z < 0) = false := decide_eq_false (by omega)
    obtain ⟨ss, hss⟩ : ∃ t, x + y = t := ⟨_, rfl⟩
    obtain ⟨tt, htt⟩ : ∃ t, ss + z = t := ⟨_, rfl⟩
    have wss : wrap64 (x + y) = ss := by rw [hss]; exact IntWalk.wrap64_in _ (by omega)
    have vss : IntKind.i64.wrap (x + y) = ss := by rw [hss, i64w]; omega
    have wtt : wrap64 (ss + z) = tt := by rw [htt]; exact IntWalk.wrap64_in _ (by omega)
    have vtt : IntKind.i64.wrap (ss + z) = tt := by rw [htt, i64w]; omega
    have ht0 : ¬ tt = 0 := by omega
    have kn : decide (n ≤ 0) = true := decide_eq_true (by omega)
    have hv : tG x y z n = ((0, 0), false) := by
      unfold tG
      rw [if_neg (by omega)]
      unfold tFin
      rw [if_pos (by omega)]
    have HV := Lib.hid hv
    clear hv hc hb hss htt
    repeat (first | go_values | go_skip | go_guarded | go_step | go_upon)
    have kr := bkp2 (k_r.below q.h) (.int .i64 0) (.int .i64 0)
    obtain ⟨rc0, rc1⟩ := rwc2 kr
    exact bodyPost_ret (v := .tuple #[.agg #[.int .i64 0, .int .i64 0], .bool false]) (by simp [results, Tryz.results37, go_sem, rc0, rc1]) rfl ⟨by rw [HG.out, HV.out], blp2 (bw_below B5 q) (by omega)⟩
  · have hb := HB.out
    clear HB
    have fx : decide (x ≤ 0) = true := decide_eq_true (by omega)
    have fy : decide (y ≤ 0) = false := decide_eq_false (by omega)
    have kx : decide (x < 0) = false := decide_eq_false (by omega)
    have ky : decide (y < 0) = false := decide_eq_false (by omega)
    have kz : decide (z < 0) = false := decide_eq_false (by omega)
    obtain ⟨ss, hss⟩ : ∃ t, x + y = t := ⟨_, rfl⟩
    obtain ⟨tt, htt⟩ : ∃ t, ss + z = t := ⟨_, rfl⟩
    have wss : wrap64 (x + y) = ss := by rw [hss]; exact IntWalk.wrap64_in _ (by omega)
    have vss : IntKind.i64.wrap (x + y) = ss := by rw [hss, i64w]; omega
    have wtt : wrap64 (ss + z) = tt := by rw [htt]; exact IntWalk.wrap64_in _ (by omega)
    have vtt : IntKind.i64.wrap (ss + z) = tt := by rw [htt, i64w]; omega
    have ht0 : ¬ tt = 0 := by omega
    have kn : decide (n ≤ 0) = false := decide_eq_false (by omega)
    have hv : tG x y z n = ((n, tt), true) := by
      unfold tG
      rw [if_neg (by omega)]
      unfold tFin
      rw [if_neg (by omega), ← htt, ← hss]
    have HV := Lib.hid hv
    clear hv hc hb hss htt
    repeat (first | go_values | go_skip | go_guarded | go_step | go_upon)
    have kr := bkp2 (k_r.below q.h) (.int .i64 n) (.int .i64 tt)
    obtain ⟨rc0, rc1⟩ := rwc2 kr
    exact bodyPost_ret (v := .tuple #[.agg #[.int .i64 n, .int .i64 tt], .bool true]) (by simp [results, Tryz.results37, go_sem, rc0, rc1]) rfl ⟨by rw [HG.out, HV.out], blp2 (bw_below B5 q) (by omega)⟩
  · have hb := HB.out
    clear HB
    have fx : decide (x ≤ 0) = true := decide_eq_true (by omega)
    have fy : decide (y ≤ 0) = true := decide_eq_true (by omega)
    have fz : decide (z ≤ 0) = false := decide_eq_false (by omega)
    have kx : decide (x < 0) = true := decide_eq_true (by omega)
    have hv : tG x y z n = ((0, 0), false) := by
      unfold tG
      rw [if_neg (by omega)]
      unfold tFin
      rw [if_pos (by omega)]
    have HV := Lib.hid hv
    clear hv hc hb 
    repeat (first | go_values | go_skip | go_guarded | go_step | go_upon)
    have kr := bkp2 (k_r.below q.h) (.int .i64 0) (.int .i64 0)
    obtain ⟨rc0, rc1⟩ := rwc2 kr
    exact bodyPost_ret (v := .tuple #[.agg #[.int .i64 0, .int .i64 0], .bool false]) (by simp [results, Tryz.results37, go_sem, rc0, rc1]) rfl ⟨by rw [HG.out, HV.out], blp2 (bw_below B5 q) (by omega)⟩
  · have hb := HB.out
    clear HB
    have fx : decide (x ≤ 0) = true := decide_eq_true (by omega)
    have fy : decide (y ≤ 0) = true := decide_eq_true (by omega)
    have fz : decide (z ≤ 0) = false := decide_eq_false (by omega)
    have kx : decide (x < 0) = false := decide_eq_false (by omega)
    have ky : decide (y < 0) = true := decide_eq_true (by omega)
    have hv : tG x y z n = ((0, 0), false) := by
      unfold tG
      rw [if_neg (by omega)]
      unfold tFin
      rw [if_pos (by omega)]
    have HV := Lib.hid hv
    clear hv hc hb 
    repeat (first | go_values | go_skip | go_guarded | go_step | go_upon)
    have kr := bkp2 (k_r.below q.h) (.int .i64 0) (.int .i64 0)
    obtain ⟨rc0, rc1⟩ := rwc2 kr
    exact bodyPost_ret (v := .tuple #[.agg #[.int .i64 0, .int .i64 0], .bool false]) (by simp [results, Tryz.results37, go_sem, rc0, rc1]) rfl ⟨by rw [HG.out, HV.out], blp2 (bw_below B5 q) (by omega)⟩
  · have hb := HB.out
    clear HB
    have fx : decide (x ≤ 0) = true := decide_eq_true (by omega)
    have fy : decide (y ≤ 0) = true := decide_eq_true (by omega)
    have fz : decide (z ≤ 0) = false := decide_eq_false (by omega)
    have kx : decide (x < 0) = false := decide_eq_false (by omega)
    have ky : decide (y < 0) = false := decide_eq_false (by omega)
    have kz : decide (z < 0) = false := decide_eq_false (by omega)
    obtain ⟨ss, hss⟩ : ∃ t, x + y = t := ⟨_, rfl⟩
    obtain ⟨tt, htt⟩ : ∃ t, ss + z = t := ⟨_, rfl⟩
    have wss : wrap64 (x + y) = ss := by rw [hss]; exact IntWalk.wrap64_in _ (by omega)
    have vss : IntKind.i64.wrap (x + y) = ss := by rw [hss, i64w]; omega
    have wtt : wrap64 (ss + z) = tt := by rw [htt]; exact IntWalk.wrap64_in _ (by omega)
    have vtt : IntKind.i64.wrap (ss + z) = tt := by rw [htt, i64w]; omega
    have ht0 : ¬ tt = 0 := by omega
    have kn : decide (n ≤ 0) = true := decide_eq_true (by omega)
    have hv : tG x y z n = ((0, 0), false) := by
      unfold tG
      rw [if_neg (by omega)]
      unfold tFin
      rw [if_pos (by omega)]
    have HV := Lib.hid hv
    clear hv hc hb hss htt
    repeat (first | go_values | go_skip | go_guarded | go_step | go_upon)
    have kr := bkp2 (k_r.below q.h) (.int .i64 0) (.int .i64 0)
    obtain ⟨rc0, rc1⟩ := rwc2 kr
    exact bodyPost_ret (v := .tuple #[.agg #[.int .i64 0, .int .i64 0], .bool false]) (by simp [results, Tryz.results37, go_sem, rc0, rc1]) rfl ⟨by rw [HG.out, HV.out], blp2 (bw_below B5 q) (by omega)⟩
  · have hb := HB.out
    clear HB
    have fx : decide (x ≤ 0) = true := decide_eq_true (by omega)
    have fy : decide (y ≤ 0) = true := decide_eq_true (by omega)
    have fz : decide (z ≤ 0) = false := decide_eq_false (by omega)
    have kx : decide (x < 0) = false := decide_eq_false (by omega)
    have ky : decide (y < 0) = false := decide_eq_false (by omega)
    have kz : decide (z < 0) = false := decide_eq_false (by omega)
    obtain ⟨ss, hss⟩ : ∃ t, x + y = t := ⟨_, rfl⟩
    obtain ⟨tt, htt⟩ : ∃ t, ss + z = t := ⟨_, rfl⟩
    have wss : wrap64 (x + y) = ss := by rw [hss]; exact IntWalk.wrap64_in _ (by omega)
    have vss : IntKind.i64.wrap (x + y) = ss := by rw [hss, i64w]; omega
    have wtt : wrap64 (ss + z) = tt := by rw [htt]; exact IntWalk.wrap64_in _ (by omega)
    have vtt : IntKind.i64.wrap (ss + z) = tt := by rw [htt, i64w]; omega
    have ht0 : ¬ tt = 0 := by omega
    have kn : decide (n ≤ 0) = false := decide_eq_false (by omega)
    have hv : tG x y z n = ((n, tt), true) := by
      unfold tG
      rw [if_neg (by omega)]
      unfold tFin
      rw [if_neg (by omega), ← htt, ← hss]
    have HV := Lib.hid hv
    clear hv hc hb hss htt
    repeat (first | go_values | go_skip | go_guarded | go_step | go_upon)
    have kr := bkp2 (k_r.below q.h) (.int .i64 n) (.int .i64 tt)
    obtain ⟨rc0, rc1⟩ := rwc2 kr
    exact bodyPost_ret (v := .tuple #[.agg #[.int .i64 n, .int .i64 tt], .bool true]) (by simp [results, Tryz.results37, go_sem, rc0, rc1]) rfl ⟨by rw [HG.out, HV.out], blp2 (bw_below B5 q) (by omega)⟩

set_option maxRecDepth 100000 in
set_option maxHeartbeats 8000000 in
theorem ref11_Hit (a1 a2 a3 b1 b2 b3 c1 c2 c3 o1 o2 o3 d1 d2 d3 fr : Int) (w : World) :
    Calls Tryz.prog 37 #[.agg #[.int .i64 a1, .int .i64 a2, .int .i64 a3], .agg #[.int .i64 b1, .int .i64 b2, .int .i64 b3], .agg #[.int .i64 c1, .int .i64 c2, .int .i64 c3], .agg #[.int .i64 o1, .int .i64 o2, .int .i64 o3, .int .i64 d1, .int .i64 d2, .int .i64 d3, .int .i64 fr]] w fun en w' => en = .returned (.tuple #[.agg #[.int .i64 (tHit (a1, a2, a3) (b1, b2, b3) (c1, c2, c3) (o1, o2, o3) (d1, d2, d3)).1.1, .int .i64 (tHit (a1, a2, a3) (b1, b2, b3) (c1, c2, c3) (o1, o2, o3) (d1, d2, d3)).1.2], .bool (tHit (a1, a2, a3) (b1, b2, b3) (c1, c2, c3) (o1, o2, o3) (d1, d2, d3)).2]) ∧ Below w.heap.size w w' := by
  cases h1 : pl3 (a1, a2, a3) (b1, b2, b3) (c1, c2, c3) with
  | false => exact ref11_Hit_no1 a1 a2 a3 b1 b2 b3 c1 c2 c3 o1 o2 o3 d1 d2 d3 fr w h1
  | true =>
    cases h2 : plc (o1, o2, o3) with
    | false => exact ref11_Hit_no2 a1 a2 a3 b1 b2 b3 c1 c2 c3 o1 o2 o3 d1 d2 d3 fr w h1 h2
    | true =>
      cases h3 : nrT (d1, d2, d3) with
      | false => exact ref11_Hit_no3 a1 a2 a3 b1 b2 b3 c1 c2 c3 o1 o2 o3 d1 d2 d3 fr w h1 h2 h3
      | true => exact ref11_Hit_yes a1 a2 a3 b1 b2 b3 c1 c2 c3 o1 o2 o3 d1 d2 d3 fr w h1 h2 h3

end
end Go.Proofs.YtokkankfaofooaaGreat

namespace Go.Proofs.YtokkankfaofooaaGreat
section
open Go.RowKit Go.Proofs.Sky
set_option linter.unusedVariables false

end
end Go.Proofs.YtokkankfaofooaaGreat
