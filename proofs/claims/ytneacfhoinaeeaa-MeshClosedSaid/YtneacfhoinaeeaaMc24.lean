/- Contracts of the document's own answers, layer 11. Contracts of the document's own answers, layer 11: Area, Hit, At. Contracts of the document's own answers, layer 11: At. -/
import Derived.Test.YtneacfhoinaeeaaMc21
import Derived.Test.YtneacfhoinaeeaaMc17
import Derived.Test.YtneacfhoinaeeaaMc12
import Derived.Test.YtneacfhoinaeeaaMc1
import Derived.Deep.DeepCutAuto
import Derived.Test.YtneacfhoinaeeaaMc8
import Derived.Test.YtneacfhoinaeeaaMc14


namespace Go.Proofs.Ytneacfhoinaeeaa
section

section

open Go.RowKit Go.Proofs.Sky

set_option linter.unusedVariables false

def inM (n : Int) : Bool := decide (-524288 ≤ n ∧ n ≤ 524288)

theorem plc_inM (x y z : Int) : plc (x, y, z) = (inM x && (inM y && inM z)) := by
  unfold plc wi inM
  rw [Bool.eq_iff_iff]
  simp only [Bool.and_eq_true, decide_eq_true_eq]
  omega

set_option maxRecDepth 100000 in
set_option maxHeartbeats 8000000 in
theorem ref11_within (n : Int) (w : World) :
    Calls Try.prog 55 #[.int .i64 n, .int .i64 524288] w fun en w' => en = .returned (.bool (inM n)) ∧ Below w.heap.size w w' := by
  have m1 : wrap64 (-524288) = -524288 := IntWalk.wrap64_in _ (by omega)
  unfold inM
  by_cases h1 : -524288 ≤ n
  · by_cases h2 : n ≤ 524288
    · have t1 : decide (-524288 ≤ n) = true := decide_eq_true h1
      have t2 : decide (n ≤ 524288) = true := decide_eq_true h2
      rw [show decide (-524288 ≤ n ∧ n ≤ 524288) = true from decide_eq_true ⟨h1, h2⟩]
      go_enter Try.func55, Try.ntmps55
      go_wp2
      go_ret
      exact ⟨rfl, Below.refl _ _⟩
    · have t1 : decide (-524288 ≤ n) = true := decide_eq_true h1
      have t2 : decide (n ≤ 524288) = false := decide_eq_false h2
      rw [show decide (-524288 ≤ n ∧ n ≤ 524288) = false from decide_eq_false (fun e => h2 e.2)]
      go_enter Try.func55, Try.ntmps55
      go_wp2
      go_ret
      exact ⟨rfl, Below.refl _ _⟩
  · have t1 : decide (-524288 ≤ n) = false := decide_eq_false h1
    rw [show decide (-524288 ≤ n ∧ n ≤ 524288) = false from decide_eq_false (fun e => h1 e.1)]
    go_enter Try.func55, Try.ntmps55
    go_wp2
    go_ret
    exact ⟨rfl, Below.refl _ _⟩

set_option maxRecDepth 100000 in
set_option maxHeartbeats 8000000 in
theorem ref11_Place (x y z : Int) (w : World) :
    Calls Try.prog 41 #[.agg #[.int .i64 x, .int .i64 y, .int .i64 z]] w fun en w' => en = .returned (.bool (plc (x, y, z))) ∧ Below w.heap.size w w' := by
  have K1 := Lib.hid (fun w => ref11_within x w)
  have K2 := Lib.hid (fun w => ref11_within y w)
  have K3 := Lib.hid (fun w => ref11_within z w)
  rw [plc_inM]
  generalize inM x = e1 at *
  generalize inM y = e2 at *
  generalize inM z = e3 at *
  go_enter Try.func41, Try.ntmps41
  go_upto_region 1 with (fail)
  obtain ⟨W1, hW1⟩ : ∃ W, W = w.alloc (.cells #[.int .i64 x, .int .i64 y, .int .i64 z] 23) := ⟨_, rfl⟩
  obtain ⟨k_v, B1⟩ := st1 hW1
  rw [← hW1]
  clear hW1
  obtain ⟨c_v_0, c_v_1, c_v_2⟩ := bwc3 (k_v)
  obtain ⟨p1, hp1⟩ : ∃ p : BW W1, p.w = W1 := ⟨BW.start W1, rfl⟩
  rw [← hp1]
  clear hp1
  rcases e1 with _ | _ <;> rcases e2 with _ | _ <;> rcases e3 with _ | _
  all_goals
    go_wp2_with (first
      | (go_at_call 55; (first | (with_reducible refine (bw_call K1.out _).mono ?_) | (with_reducible refine (bw_call K2.out _).mono ?_) | (with_reducible refine (bw_call K3.out _).mono ?_)); rintro e w' ⟨rfl, q, rfl⟩))
    go_ret
    exact ⟨rfl, bw_below B1 _⟩

set_option maxRecDepth 100000 in
set_option maxHeartbeats 8000000 in
theorem ref11_places (a1 a2 a3 b1 b2 b3 c1 c2 c3 : Int) (w : World) :
    Calls Try.prog 57 #[.agg #[.int .i64 a1, .int .i64 a2, .int .i64 a3], .agg #[.int .i64 b1, .int .i64 b2, .int .i64 b3], .agg #[.int .i64 c1, .int .i64 c2, .int .i64 c3]] w fun en w' => en = .returned (.bool (pl3 (a1, a2, a3) (b1, b2, b3) (c1, c2, c3))) ∧ Below w.heap.size w w' := by
  have K1 := Lib.hid (fun w => ref11_Place a1 a2 a3 w)
  have K2 := Lib.hid (fun w => ref11_Place b1 b2 b3 w)
  have K3 := Lib.hid (fun w => ref11_Place c1 c2 c3 w)
  unfold pl3
  generalize plc (a1, a2, a3) = e1 at *
  generalize plc (b1, b2, b3) = e2 at *
  generalize plc (c1, c2, c3) = e3 at *
  go_enter Try.func57, Try.ntmps57
  go_upto_region 1 with (fail)
  obtain ⟨W1, hW1⟩ : ∃ W, W = ((w.alloc (.cells #[.int .i64 a1, .int .i64 a2, .int .i64 a3] 23)).alloc (.cells #[.int .i64 b1, .int .i64 b2, .int .i64 b3] 23)).alloc (.cells #[.int .i64 c1, .int .i64 c2, .int .i64 c3] 23) := ⟨_, rfl⟩
  obtain ⟨k_a, k_b, k_c, B1⟩ := st3 hW1
  rw [← hW1]
  clear hW1
  have l_b : w.heap.size < w.heap.size + 1 := by omega
  have l_c : w.heap.size + 1 < w.heap.size + 1 + 1 := by omega
  generalize w.heap.size + 1 + 1 = g_c at *
  generalize w.heap.size + 1 = g_b at *
  obtain ⟨c_a_0, c_a_1, c_a_2⟩ := bwc3 (k_a)
  obtain ⟨c_b_0, c_b_1, c_b_2⟩ := bwc3 (k_b)
  obtain ⟨c_c_0, c_c_1, c_c_2⟩ := bwc3 (k_c)
  obtain ⟨p1, hp1⟩ : ∃ p : BW W1, p.w = W1 := ⟨BW.start W1, rfl⟩
  rw [← hp1]
  clear hp1
  rcases e1 with _ | _ <;> rcases e2 with _ | _ <;> rcases e3 with _ | _
  all_goals
    go_wp2_with (first
      | (go_at_call 41; (first | (with_reducible refine (bw_call K1.out _).mono ?_) | (with_reducible refine (bw_call K2.out _).mono ?_) | (with_reducible refine (bw_call K3.out _).mono ?_)); rintro e w' ⟨rfl, q, rfl⟩))
    go_ret
    exact ⟨rfl, bw_below B1 _⟩

set_option maxRecDepth 100000 in
set_option maxHeartbeats 8000000 in
theorem ref11_upon (a1 a2 a3 b1 b2 b3 c1 c2 c3 : Int) (w : World) (h : pl3 (a1, a2, a3) (b1, b2, b3) (c1, c2, c3) = true) :
    Calls Try.prog 58 #[.agg #[.int .i64 a1, .int .i64 a2, .int .i64 a3], .agg #[.int .i64 b1, .int .i64 b2, .int .i64 b3], .agg #[.int .i64 c1, .int .i64 c2, .int .i64 c3]] w fun en w' => en = .returned (.agg #[.int .i64 (upsT (a1, a2, a3) (b1, b2, b3) (c1, c2, c3)).1, .int .i64 (upsT (a1, a2, a3) (b1, b2, b3) (c1, c2, c3)).2.1, .int .i64 (upsT (a1, a2, a3) (b1, b2, b3) (c1, c2, c3)).2.2]) ∧ Below w.heap.size w w' := by
  obtain ⟨h1, h2, h3⟩ := pl3_iff.1 h
  have q1 := plc_iff.1 h1
  have q2 := plc_iff.1 h2
  have q3 := plc_iff.1 h3
  dsimp only at q1 q2 q3
  have sx : ∀ x y : Int, -524288 ≤ x ∧ x ≤ 524288 → -524288 ≤ y ∧ y ≤ 524288 → vsub x y = x - y := fun x y hx hy => by
    unfold vsub sat
    rw [if_neg (by omega), if_neg (by omega), if_neg (by omega), if_neg (by omega)]
    omega
  have KB1 := Lib.hid (fun w => ref6_Sub b1 b2 b3 a1 a2 a3 w (by unfold I64; omega) (by unfold I64; omega) (by unfold I64; omega) (by unfold I64; omega) (by unfold I64; omega) (by unfold I64; omega))
  rw [sx b1 a1 (by omega) (by omega), sx b2 a2 (by omega) (by omega), sx b3 a3 (by omega) (by omega)] at KB1
  obtain ⟨e1, he1⟩ : ∃ t, t = b1 - a1 := ⟨_, rfl⟩
  obtain ⟨e2, he2⟩ : ∃ t, t = b2 - a2 := ⟨_, rfl⟩
  obtain ⟨e3, he3⟩ : ∃ t, t = b3 - a3 := ⟨_, rfl⟩
  rw [← he1, ← he2, ← he3] at KB1
  have KB2 := Lib.hid (fun w => ref6_Sub c1 c2 c3 a1 a2 a3 w (by unfold I64; omega) (by unfold I64; omega) (by unfold I64; omega) (by unfold I64; omega) (by unfold I64; omega) (by unfold I64; omega))
  rw [sx c1 a1 (by omega) (by omega), sx c2 a2 (by omega) (by omega), sx c3 a3 (by omega) (by omega)] at KB2
  obtain ⟨f1, hf1⟩ : ∃ t, t = c1 - a1 := ⟨_, rfl⟩
  obtain ⟨f2, hf2⟩ : ∃ t, t = c2 - a2 := ⟨_, rfl⟩
  obtain ⟨f3, hf3⟩ : ∃ t, t = c3 - a3 := ⟨_, rfl⟩
  rw [← hf1, ← hf2, ← hf3] at KB2
  have KX := Lib.hid (fun w => ref6_Cross e1 e2 e3 f1 f2 f3 w)
  have hu : upsT (a1, a2, a3) (b1, b2, b3) (c1, c2, c3) = vcr e1 e2 e3 f1 f2 f3 := by
    unfold upsT crX sbT vcr
    rw [if_pos ⟨by rw [vnear_iff]; omega, by rw [vnear_iff]; omega⟩]
    dsimp only
    rw [he1, he2, he3, hf1, hf2, hf3]
  rw [hu]
  generalize vcr e1 e2 e3 f1 f2 f3 = U at *
  obtain ⟨u1, u2, u3⟩ := U
  dsimp only at KX ⊢
  clear hu sx h h1 h2 h3 q1 q2 q3 he1 he2 he3 hf1 hf2 hf3
  go_enter Try.func58, Try.ntmps58
  go_upto_region 1 with (fail)
  obtain ⟨W1, hW1⟩ : ∃ W, W = (((w.alloc (.cells #[.int .i64 a1, .int .i64 a2, .int .i64 a3] 23)).alloc (.cells #[.int .i64 b1, .int .i64 b2, .int .i64 b3] 23)).alloc (.cells #[.int .i64 c1, .int .i64 c2, .int .i64 c3] 23)).alloc (.cells #[.int .i64 0, .int .i64 0, .int .i64 0] 23) := ⟨_, rfl⟩
  obtain ⟨k_a, k_b, k_c, k_r, B1⟩ := st4 hW1
  rw [← hW1]
  clear hW1
  have l_b : w.heap.size < w.heap.size + 1 := by omega
  have l_c : w.heap.size + 1 < w.heap.size + 1 + 1 := by omega
  have l_r : w.heap.size + 1 + 1 < w.heap.size + 1 + 1 + 1 := by omega
  generalize w.heap.size + 1 + 1 + 1 = g_r at *
  generalize w.heap.size + 1 + 1 = g_c at *
  generalize w.heap.size + 1 = g_b at *
  obtain ⟨c_a_0, c_a_1, c_a_2⟩ := bwc3 (k_a)
  obtain ⟨c_b_0, c_b_1, c_b_2⟩ := bwc3 (k_b)
  obtain ⟨c_c_0, c_c_1, c_c_2⟩ := bwc3 (k_c)
  obtain ⟨c_r_0, c_r_1, c_r_2⟩ := bwc3 (k_r)
  obtain ⟨f_r_0, f_r_1, f_r_2⟩ := bwf3 (k_r)
  obtain ⟨p1, hp1⟩ : ∃ p : BW W1, p.w = W1 := ⟨BW.start W1, rfl⟩
  rw [← hp1]
  clear hp1
  refine wp_region_bw_tail 7 (by kernel_rfl) (by kernel_rfl) (by kernel_rfl) ?_
  simp only [List.take_succ_cons, List.take_zero, List.drop_succ_cons, List.drop_zero]
  repeat (go_big_quiet_step (first
    | (go_at_call 71; (first | (with_reducible exact bw_call KB1.out _) | (with_reducible exact bw_call KB2.out _)))
    | (go_at_call 70; (first | (with_reducible exact bw_call KX.out _)))))
  refine wpQuiet_nil ?_
  intro _ hw'
  obtain ⟨q, rfl⟩ := hw'
  go_wp2
  have kr := bkp3 (k_r.below q.h) (.int .i64 u1) (.int .i64 u2) (.int .i64 u3)
  obtain ⟨rc0, rc1, rc2⟩ := rwc3 kr
  exact bodyPost_ret (v := .agg #[.int .i64 u1, .int .i64 u2, .int .i64 u3]) (by simp [results, Try.results58, go_sem, rc0, rc1, rc2]) rfl ⟨rfl, blp3 (bw_below B1 q) (by omega)⟩

set_option maxRecDepth 100000 in
set_option maxHeartbeats 8000000 in
theorem ref11_Flat (a1 a2 a3 b1 b2 b3 c1 c2 c3 : Int) (w : World) :
    Calls Try.prog 43 #[.agg #[.int .i64 a1, .int .i64 a2, .int .i64 a3], .agg #[.int .i64 b1, .int .i64 b2, .int .i64 b3], .agg #[.int .i64 c1, .int .i64 c2, .int .i64 c3]] w fun en w' => en = .returned (.bool (tFlat (a1, a2, a3) (b1, b2, b3) (c1, c2, c3))) ∧ Below w.heap.size w w' := by
  have KP := Lib.hid (fun w => ref11_places a1 a2 a3 b1 b2 b3 c1 c2 c3 w)
  unfold tFlat
  by_cases h : pl3 (a1, a2, a3) (b1, b2, b3) (c1, c2, c3) = true
  rotate_left
  · have hf : pl3 (a1, a2, a3) (b1, b2, b3) (c1, c2, c3) = false := by simpa using h
    rw [hf] at KP ⊢
    clear h hf
    show Calls _ _ _ _ (fun en w' => en = .returned (.bool true) ∧ _)
    go_enter Try.func43, Try.ntmps43
    go_upto_region 1 with (fail)
    obtain ⟨W1, hW1⟩ : ∃ W, W = ((w.alloc (.cells #[.int .i64 a1, .int .i64 a2, .int .i64 a3] 23)).alloc (.cells #[.int .i64 b1, .int .i64 b2, .int .i64 b3] 23)).alloc (.cells #[.int .i64 c1, .int .i64 c2, .int .i64 c3] 23) := ⟨_, rfl⟩
    obtain ⟨k_a, k_b, k_c, B1⟩ := st3 hW1
    rw [← hW1]
    clear hW1
    have l_b : w.heap.size < w.heap.size + 1 := by omega
    have l_c : w.heap.size + 1 < w.heap.size + 1 + 1 := by omega
    generalize w.heap.size + 1 + 1 = g_c at *
    generalize w.heap.size + 1 = g_b at *
    obtain ⟨c_a_0, c_a_1, c_a_2⟩ := bwc3 (k_a)
    obtain ⟨c_b_0, c_b_1, c_b_2⟩ := bwc3 (k_b)
    obtain ⟨c_c_0, c_c_1, c_c_2⟩ := bwc3 (k_c)
    obtain ⟨p1, hp1⟩ : ∃ p : BW W1, p.w = W1 := ⟨BW.start W1, rfl⟩
    rw [← hp1]
    clear hp1
    go_wp2_with (first
      | (go_at_call 57; (first | (with_reducible refine (bw_call KP.out _).mono ?_)); rintro e w' ⟨rfl, q, rfl⟩))
    go_ret
    exact ⟨rfl, bw_below B1 _⟩
  have KU := Lib.hid (fun w => ref11_upon a1 a2 a3 b1 b2 b3 c1 c2 c3 w h)
  rw [h] at KP ⊢
  generalize upsT (a1, a2, a3) (b1, b2, b3) (c1, c2, c3) = U at *
  obtain ⟨u1, u2, u3⟩ := U
  dsimp only at KU
  clear h
  show Calls _ _ _ _ (fun en w' => en = .returned (.bool (isZ (u1, u2, u3))) ∧ _)
  by_cases n1 : u1 = 0
  · subst n1
    by_cases n2 : u2 = 0
    · subst n2
      by_cases n3 : u3 = 0
      · subst n3
        rw [show isZ (0, 0, 0) = true by decide]
        go_enter Try.func43, Try.ntmps43
        go_upto_region 1 with (fail)
        obtain ⟨W1, hW1⟩ : ∃ W, W = ((w.alloc (.cells #[.int .i64 a1, .int .i64 a2, .int .i64 a3] 23)).alloc (.cells #[.int .i64 b1, .int .i64 b2, .int .i64 b3] 23)).alloc (.cells #[.int .i64 c1, .int .i64 c2, .int .i64 c3] 23) := ⟨_, rfl⟩
        obtain ⟨k_a, k_b, k_c, B1⟩ := st3 hW1
        rw [← hW1]
        clear hW1
        have l_b : w.heap.size < w.heap.size + 1 := by omega
        have l_c : w.heap.size + 1 < w.heap.size + 1 + 1 := by omega
        generalize w.heap.size + 1 + 1 = g_c at *
        generalize w.heap.size + 1 = g_b at *
        obtain ⟨c_a_0, c_a_1, c_a_2⟩ := bwc3 (k_a)
        obtain ⟨c_b_0, c_b_1, c_b_2⟩ := bwc3 (k_b)
        obtain ⟨c_c_0, c_c_1, c_c_2⟩ := bwc3 (k_c)
        obtain ⟨p1, hp1⟩ : ∃ p : BW W1, p.w = W1 := ⟨BW.start W1, rfl⟩
        rw [← hp1]
        clear hp1
        go_wp2_with (first
          | (go_at_call 57; (first | (with_reducible refine (bw_call KP.out _).mono ?_)); rintro e w' ⟨rfl, q, rfl⟩)
          | (go_at_call 58; (first | (with_reducible refine (bw_call KU.out _).mono ?_)); rintro e w' ⟨rfl, q, rfl⟩))
        go_ret
        exact ⟨rfl, bw_below B1 _⟩
      · rw [show isZ (0, 0, u3) = false by unfold isZ; simp [n3]]
        go_enter Try.func43, Try.ntmps43
        go_upto_region 1 with (fail)
        obtain ⟨W1, hW1⟩ : ∃ W, W = ((w.alloc (.cells #[.int .i64 a1, .int .i64 a2, .int .i64 a3] 23)).alloc (.cells #[.int .i64 b1, .int .i64 b2, .int .i64 b3] 23)).alloc (.cells #[.int .i64 c1, .int .i64 c2, .int .i64 c3] 23) := ⟨_, rfl⟩
        obtain ⟨k_a, k_b, k_c, B1⟩ := st3 hW1
        rw [← hW1]
        clear hW1
        have l_b : w.heap.size < w.heap.size + 1 := by omega
        have l_c : w.heap.size + 1 < w.heap.size + 1 + 1 := by omega
        generalize w.heap.size + 1 + 1 = g_c at *
        generalize w.heap.size + 1 = g_b at *
        obtain ⟨c_a_0, c_a_1, c_a_2⟩ := bwc3 (k_a)
        obtain ⟨c_b_0, c_b_1, c_b_2⟩ := bwc3 (k_b)
        obtain ⟨c_c_0, c_c_1, c_c_2⟩ := bwc3 (k_c)
        obtain ⟨p1, hp1⟩ : ∃ p : BW W1, p.w = W1 := ⟨BW.start W1, rfl⟩
        rw [← hp1]
        clear hp1
        go_wp2_with (first
          | (go_at_call 57; (first | (with_reducible refine (bw_call KP.out _).mono ?_)); rintro e w' ⟨rfl, q, rfl⟩)
          | (go_at_call 58; (first | (with_reducible refine (bw_call KU.out _).mono ?_)); rintro e w' ⟨rfl, q, rfl⟩))
        go_ret
        exact ⟨rfl, bw_below B1 _⟩
    · rw [show isZ (0, u2, u3) = false by unfold isZ; simp [n2]]
      go_enter Try.func43, Try.ntmps43
      go_upto_region 1 with (fail)
      obtain ⟨W1, hW1⟩ : ∃ W, W = ((w.alloc (.cells #[.int .i64 a1, .int .i64 a2, .int .i64 a3] 23)).alloc (.cells #[.int .i64 b1, .int .i64 b2, .int .i64 b3] 23)).alloc (.cells #[.int .i64 c1, .int .i64 c2, .int .i64 c3] 23) := ⟨_, rfl⟩
      obtain ⟨k_a, k_b, k_c, B1⟩ := st3 hW1
      rw [← hW1]
      clear hW1
      have l_b : w.heap.size < w.heap.size + 1 := by omega
      have l_c : w.heap.size + 1 < w.heap.size + 1 + 1 := by omega
      generalize w.heap.size + 1 + 1 = g_c at *
      generalize w.heap.size + 1 = g_b at *
      obtain ⟨c_a_0, c_a_1, c_a_2⟩ := bwc3 (k_a)
      obtain ⟨c_b_0, c_b_1, c_b_2⟩ := bwc3 (k_b)
      obtain ⟨c_c_0, c_c_1, c_c_2⟩ := bwc3 (k_c)
      obtain ⟨p1, hp1⟩ : ∃ p : BW W1, p.w = W1 := ⟨BW.start W1, rfl⟩
      rw [← hp1]
      clear hp1
      go_wp2_with (first
        | (go_at_call 57; (first | (with_reducible refine (bw_call KP.out _).mono ?_)); rintro e w' ⟨rfl, q, rfl⟩)
        | (go_at_call 58; (first | (with_reducible refine (bw_call KU.out _).mono ?_)); rintro e w' ⟨rfl, q, rfl⟩))
      go_ret
      exact ⟨rfl, bw_below B1 _⟩
  · rw [show isZ (u1, u2, u3) = false by unfold isZ; simp [n1]]
    go_enter Try.func43, Try.ntmps43
    go_upto_region 1 with (fail)
    obtain ⟨W1, hW1⟩ : ∃ W, W = ((w.alloc (.cells #[.int .i64 a1, .int .i64 a2, .int .i64 a3] 23)).alloc (.cells #[.int .i64 b1, .int .i64 b2, .int .i64 b3] 23)).alloc (.cells #[.int .i64 c1, .int .i64 c2, .int .i64 c3] 23) := ⟨_, rfl⟩
    obtain ⟨k_a, k_b, k_c, B1⟩ := st3 hW1
    rw [← hW1]
    clear hW1
    have l_b : w.heap.size < w.heap.size + 1 := by omega
    have l_c : w.heap.size + 1 < w.heap.size + 1 + 1 := by omega
    generalize w.heap.size + 1 + 1 = g_c at *
    generalize w.heap.size + 1 = g_b at *
    obtain ⟨c_a_0, c_a_1, c_a_2⟩ := bwc3 (k_a)
    obtain ⟨c_b_0, c_b_1, c_b_2⟩ := bwc3 (k_b)
    obtain ⟨c_c_0, c_c_1, c_c_2⟩ := bwc3 (k_c)
    obtain ⟨p1, hp1⟩ : ∃ p : BW W1, p.w = W1 := ⟨BW.start W1, rfl⟩
    rw [← hp1]
    clear hp1
    go_wp2_with (first
      | (go_at_call 57; (first | (with_reducible refine (bw_call KP.out _).mono ?_)); rintro e w' ⟨rfl, q, rfl⟩)
      | (go_at_call 58; (first | (with_reducible refine (bw_call KU.out _).mono ?_)); rintro e w' ⟨rfl, q, rfl⟩))
    go_ret
    exact ⟨rfl, bw_below B1 _⟩

end

end
end Go.Proofs.Ytneacfhoinaeeaa

namespace Go.Proofs.Ytneacfhoinaeeaa
section

section

open Go.RowKit Go.Proofs.Sky

set_option linter.unusedVariables false

end

end
end Go.Proofs.Ytneacfhoinaeeaa

namespace Go.Proofs.Ytneacfhoinaeeaa
section

section

open Go.RowKit Go.Proofs.Sky

set_option linter.unusedVariables false

end

end
end Go.Proofs.Ytneacfhoinaeeaa
