/- Contracts of the document's own answers, layer 9. -/
import Derived.Test.YtppfemaolaigoaaRefd03
import Derived.Test.YtppfemaolaigoaaMath09
import Derived.Test.YtppfemaolaigoaaMem06
import Derived.Test.YtppfemaolaigoaaMem08
import Derived.Test.YtppfemaolaigoaaTail
import Derived.WalkLawsBesides
import Derived.Deep.DeepCutAuto
namespace Go.Proofs.Ytppfemaolaigoaa
open Go.RowKit Go.Proofs.Sky
set_option linter.unusedVariables false

set_option maxRecDepth 100000 in
set_option maxHeartbeats 8000000 in
theorem ref9_within (n x y z : Int) (w : World) :
    Calls Try.prog 26 #[.agg #[.int .i64 x, .int .i64 y, .int .i64 z], .int .i64 n] w fun e w' => e = .returned (.bool (rin n (x, y, z))) ∧ Below w.heap.size w w' := by
  have e2 : rin n (x, y, z) = decide (0 ≤ x ∧ x ≤ n ∧ 0 ≤ y ∧ y ≤ n ∧ 0 ≤ z ∧ z ≤ n) := rfl
  rw [e2]
  clear e2
  by_cases h1 : 0 ≤ x
  rotate_left
  · have t0 : decide (0 ≤ x ∧ x ≤ n ∧ 0 ≤ y ∧ y ≤ n ∧ 0 ≤ z ∧ z ≤ n) = false := decide_eq_false (by omega)
    rw [t0]
    have t1 : decide (0 ≤ x) = false := decide_eq_false h1
    clear t0 h1
    go_enter Try.func26, Try.ntmps26
    go_wp2
    go_ret
    exact ⟨rfl, by go_grown⟩
  by_cases h2 : x ≤ n
  rotate_left
  · have t0 : decide (0 ≤ x ∧ x ≤ n ∧ 0 ≤ y ∧ y ≤ n ∧ 0 ≤ z ∧ z ≤ n) = false := decide_eq_false (by omega)
    rw [t0]
    have t1 : decide (0 ≤ x) = true := decide_eq_true h1
    have t2 : decide (x ≤ n) = false := decide_eq_false h2
    clear t0 h1 h2
    go_enter Try.func26, Try.ntmps26
    go_wp2
    go_ret
    exact ⟨rfl, by go_grown⟩
  by_cases h3 : 0 ≤ y
  rotate_left
  · have t0 : decide (0 ≤ x ∧ x ≤ n ∧ 0 ≤ y ∧ y ≤ n ∧ 0 ≤ z ∧ z ≤ n) = false := decide_eq_false (by omega)
    rw [t0]
    have t1 : decide (0 ≤ x) = true := decide_eq_true h1
    have t2 : decide (x ≤ n) = true := decide_eq_true h2
    have t3 : decide (0 ≤ y) = false := decide_eq_false h3
    clear t0 h1 h2 h3
    go_enter Try.func26, Try.ntmps26
    go_wp2
    go_ret
    exact ⟨rfl, by go_grown⟩
  by_cases h4 : y ≤ n
  rotate_left
  · have t0 : decide (0 ≤ x ∧ x ≤ n ∧ 0 ≤ y ∧ y ≤ n ∧ 0 ≤ z ∧ z ≤ n) = false := decide_eq_false (by omega)
    rw [t0]
    have t1 : decide (0 ≤ x) = true := decide_eq_true h1
    have t2 : decide (x ≤ n) = true := decide_eq_true h2
    have t3 : decide (0 ≤ y) = true := decide_eq_true h3
    have t4 : decide (y ≤ n) = false := decide_eq_false h4
    clear t0 h1 h2 h3 h4
    go_enter Try.func26, Try.ntmps26
    go_wp2
    go_ret
    exact ⟨rfl, by go_grown⟩
  by_cases h5 : 0 ≤ z
  rotate_left
  · have t0 : decide (0 ≤ x ∧ x ≤ n ∧ 0 ≤ y ∧ y ≤ n ∧ 0 ≤ z ∧ z ≤ n) = false := decide_eq_false (by omega)
    rw [t0]
    have t1 : decide (0 ≤ x) = true := decide_eq_true h1
    have t2 : decide (x ≤ n) = true := decide_eq_true h2
    have t3 : decide (0 ≤ y) = true := decide_eq_true h3
    have t4 : decide (y ≤ n) = true := decide_eq_true h4
    have t5 : decide (0 ≤ z) = false := decide_eq_false h5
    clear t0 h1 h2 h3 h4 h5
    go_enter Try.func26, Try.ntmps26
    go_wp2
    go_ret
    exact ⟨rfl, by go_grown⟩
  by_cases h6 : z ≤ n
  rotate_left
  · have t0 : decide (0 ≤ x ∧ x ≤ n ∧ 0 ≤ y ∧ y ≤ n ∧ 0 ≤ z ∧ z ≤ n) = false := decide_eq_false (by omega)
    rw [t0]
    have t1 : decide (0 ≤ x) = true := decide_eq_true h1
    have t2 : decide (x ≤ n) = true := decide_eq_true h2
    have t3 : decide (0 ≤ y) = true := decide_eq_true h3
    have t4 : decide (y ≤ n) = true := decide_eq_true h4
    have t5 : decide (0 ≤ z) = true := decide_eq_true h5
    have t6 : decide (z ≤ n) = false := decide_eq_false h6
    clear t0 h1 h2 h3 h4 h5 h6
    go_enter Try.func26, Try.ntmps26
    go_wp2
    go_ret
    exact ⟨rfl, by go_grown⟩
  have t0 : decide (0 ≤ x ∧ x ≤ n ∧ 0 ≤ y ∧ y ≤ n ∧ 0 ≤ z ∧ z ≤ n) = true := decide_eq_true (by omega)
  rw [t0]
  have t1 : decide (0 ≤ x) = true := decide_eq_true h1
  have t2 : decide (x ≤ n) = true := decide_eq_true h2
  have t3 : decide (0 ≤ y) = true := decide_eq_true h3
  have t4 : decide (y ≤ n) = true := decide_eq_true h4
  have t5 : decide (0 ≤ z) = true := decide_eq_true h5
  have t6 : decide (z ≤ n) = true := decide_eq_true h6
  clear t0 h1 h2 h3 h4 h5 h6
  go_enter Try.func26, Try.ntmps26
  go_wp2
  go_ret
  exact ⟨rfl, by go_grown⟩

set_option maxRecDepth 100000 in
set_option maxHeartbeats 8000000 in
theorem ref9_Color (x y z : Int) (w : World) :
    Calls Try.prog 7 #[.agg #[.int .i64 x, .int .i64 y, .int .i64 z]] w fun e w' => e = .returned (.bool (rcol (x, y, z))) ∧ Below w.heap.size w w' := by
  have K := Lib.hid (fun w => ref9_within 65536 x y z w)
  unfold rcol
  go_enter Try.func7, Try.ntmps7
  go_upto_region 1 with (fail)
  obtain ⟨W1, hW1⟩ : ∃ W, W = w.alloc (.cells #[.int .i64 x, .int .i64 y, .int .i64 z] 23) := ⟨_, rfl⟩
  obtain ⟨k_v, B1⟩ := st1 hW1
  rw [← hW1]
  clear hW1
  obtain ⟨c_v_0, c_v_1, c_v_2⟩ := bwc3 (k_v)
  obtain ⟨p1, hp1⟩ : ∃ p : BW W1, p.w = W1 := ⟨BW.start W1, rfl⟩
  rw [← hp1]
  clear hp1
  go_wp2_with (first
    | (go_at_call 26; (first | (with_reducible refine (bw_call K.out _).mono ?_)); rintro e w' ⟨rfl, q, rfl⟩))
  go_ret
  exact ⟨rfl, bw_below B1 _⟩

set_option maxRecDepth 100000 in
set_option maxHeartbeats 8000000 in
theorem ref9_Weight (x y z : Int) (w : World) :
    Calls Try.prog 9 #[.agg #[.int .i64 x, .int .i64 y, .int .i64 z]] w fun e w' => e = .returned (.bool (rwei (x, y, z))) ∧ Below w.heap.size w w' := by
  have K := Lib.hid (fun w => ref9_within 1099511627776 x y z w)
  unfold rwei
  go_enter Try.func9, Try.ntmps9
  go_upto_region 1 with (fail)
  obtain ⟨W1, hW1⟩ : ∃ W, W = w.alloc (.cells #[.int .i64 x, .int .i64 y, .int .i64 z] 23) := ⟨_, rfl⟩
  obtain ⟨k_v, B1⟩ := st1 hW1
  rw [← hW1]
  clear hW1
  obtain ⟨c_v_0, c_v_1, c_v_2⟩ := bwc3 (k_v)
  obtain ⟨p1, hp1⟩ : ∃ p : BW W1, p.w = W1 := ⟨BW.start W1, rfl⟩
  rw [← hp1]
  clear hp1
  go_wp2_with (first
    | (go_at_call 26; (first | (with_reducible refine (bw_call K.out _).mono ?_)); rintro e w' ⟨rfl, q, rfl⟩))
  go_ret
  exact ⟨rfl, bw_below B1 _⟩

set_option maxRecDepth 100000 in
set_option maxHeartbeats 8000000 in
theorem ref9_Add (a b c x y z : Int) (w : World) (ha : I64 a) (hb : I64 b) (hc : I64 c) (hx : I64 x) (hy : I64 y) (hz : I64 z) :
    Calls Try.prog 13 #[.agg #[.int .i64 a, .int .i64 b, .int .i64 c], .agg #[.int .i64 x, .int .i64 y, .int .i64 z]] w fun e w' => e = .returned (.agg #[.int .i64 (hadd (a, b, c) (x, y, z)).1, .int .i64 (hadd (a, b, c) (x, y, z)).2.1, .int .i64 (hadd (a, b, c) (x, y, z)).2.2]) ∧ Below w.heap.size w w' := by
  have P1 := Lib.hid (fun w => below_of_same (fun w => ref_Plus a x w ha hx) w)
  have P2 := Lib.hid (fun w => below_of_same (fun w => ref_Plus b y w hb hy) w)
  have P3 := Lib.hid (fun w => below_of_same (fun w => ref_Plus c z w hc hz) w)
  unfold hadd
  dsimp only
  generalize sat (a + x) = r1 at *
  generalize sat (b + y) = r2 at *
  generalize sat (c + z) = r3 at *
  clear ha hb hc hx hy hz
  go_enter Try.func13, Try.ntmps13
  go_upto_region 1 with (fail)
  obtain ⟨W1, hW1⟩ : ∃ W, W = ((w.alloc (.cells #[.int .i64 a, .int .i64 b, .int .i64 c] 23)).alloc (.cells #[.int .i64 x, .int .i64 y, .int .i64 z] 23)).alloc (.cells #[.int .i64 0, .int .i64 0, .int .i64 0] 23) := ⟨_, rfl⟩
  obtain ⟨k_a, k_x, k_r, B1⟩ := st3 hW1
  rw [← hW1]
  clear hW1
  have l_x : w.heap.size < w.heap.size + 1 := by omega
  have l_r : w.heap.size + 1 < w.heap.size + 1 + 1 := by omega
  generalize w.heap.size + 1 + 1 = g_r at *
  generalize w.heap.size + 1 = g_x at *
  obtain ⟨c_a_0, c_a_1, c_a_2⟩ := bwc3 (k_a)
  obtain ⟨c_x_0, c_x_1, c_x_2⟩ := bwc3 (k_x)
  obtain ⟨c_r_0, c_r_1, c_r_2⟩ := bwc3 (k_r)
  obtain ⟨f_r_0, f_r_1, f_r_2⟩ := bwf3 (k_r)
  obtain ⟨p1, hp1⟩ : ∃ p : BW W1, p.w = W1 := ⟨BW.start W1, rfl⟩
  rw [← hp1]
  clear hp1
  refine wp_region_bw_tail 16 (by kernel_rfl) (by kernel_rfl) (by kernel_rfl) ?_
  simp only [List.take_succ_cons, List.take_zero, List.drop_succ_cons, List.drop_zero]
  repeat (go_big_quiet_step (first
    | (go_at_call 30; (first | (with_reducible exact bw_call P1.out _) | (with_reducible exact bw_call P2.out _) | (with_reducible exact bw_call P3.out _)))))
  refine wpQuiet_nil ?_
  intro _ hw'
  obtain ⟨q, rfl⟩ := hw'
  go_wp2
  have kr := bkp3 (k_r.below q.h) (.int .i64 r1) (.int .i64 r2) (.int .i64 r3)
  obtain ⟨rc0, rc1, rc2⟩ := rwc3 kr
  exact bodyPost_ret (v := .agg #[.int .i64 r1, .int .i64 r2, .int .i64 r3]) (by simp [results, Try.results13, go_sem, rc0, rc1, rc2]) rfl ⟨rfl, blp3 (bw_below B1 q) (by omega)⟩

set_option maxRecDepth 100000 in
set_option maxHeartbeats 8000000 in
theorem ref9_Mix_now (a b c x y z : Int) (w : World) (h : rwei (a, b, c) = false) :
    Calls Try.prog 11 #[.agg #[.int .i64 a, .int .i64 b, .int .i64 c], .agg #[.int .i64 x, .int .i64 y, .int .i64 z]] w fun e w' => e = .returned (.agg #[.int .i64 0, .int .i64 0, .int .i64 0]) ∧ Below w.heap.size w w' := by
  have KW := Lib.hid (fun w => ref9_Weight a b c w)
  rw [h] at KW
  clear h
  go_enter Try.func11, Try.ntmps11
  go_upto_region 1 with (fail)
  obtain ⟨W1, hW1⟩ : ∃ W, W = ((w.alloc (.cells #[.int .i64 a, .int .i64 b, .int .i64 c] 23)).alloc (.cells #[.int .i64 x, .int .i64 y, .int .i64 z] 23)).alloc (.cells #[.int .i64 0, .int .i64 0, .int .i64 0] 23) := ⟨_, rfl⟩
  obtain ⟨k_a, k_x, k_r, B1⟩ := st3 hW1
  rw [← hW1]
  clear hW1
  have l_x : w.heap.size < w.heap.size + 1 := by omega
  have l_r : w.heap.size + 1 < w.heap.size + 1 + 1 := by omega
  generalize w.heap.size + 1 + 1 = g_r at *
  generalize w.heap.size + 1 = g_x at *
  obtain ⟨c_a_0, c_a_1, c_a_2⟩ := bwc3 (k_a)
  obtain ⟨c_x_0, c_x_1, c_x_2⟩ := bwc3 (k_x)
  obtain ⟨c_r_0, c_r_1, c_r_2⟩ := bwc3 (k_r)
  obtain ⟨f_r_0, f_r_1, f_r_2⟩ := bwf3 (k_r)
  obtain ⟨p1, hp1⟩ : ∃ p : BW W1, p.w = W1 := ⟨BW.start W1, rfl⟩
  rw [← hp1]
  clear hp1
  go_wp2_with (first
    | (go_at_call 9; (first | (with_reducible refine (bw_call KW.out _).mono ?_)); rintro e w' ⟨rfl, q, rfl⟩))
  have kr := bkp3 (k_r.below q.h) (.int .i64 0) (.int .i64 0) (.int .i64 0)
  obtain ⟨rc0, rc1, rc2⟩ := rwc3 kr
  exact bodyPost_ret (v := .agg #[.int .i64 0, .int .i64 0, .int .i64 0]) (by simp [results, Try.results11, go_sem, rc0, rc1, rc2]) rfl ⟨rfl, blp3 (bw_below B1 q) (by omega)⟩

set_option maxRecDepth 100000 in
set_option maxHeartbeats 8000000 in
theorem ref9_Mix_noc (a b c x y z : Int) (w : World) (h : rwei (a, b, c) = true) (h2 : rcol (x, y, z) = false) :
    Calls Try.prog 11 #[.agg #[.int .i64 a, .int .i64 b, .int .i64 c], .agg #[.int .i64 x, .int .i64 y, .int .i64 z]] w fun e w' => e = .returned (.agg #[.int .i64 0, .int .i64 0, .int .i64 0]) ∧ Below w.heap.size w w' := by
  have KW := Lib.hid (fun w => ref9_Weight a b c w)
  rw [h] at KW
  have KC := Lib.hid (fun w => ref9_Color x y z w)
  rw [h2] at KC
  clear h h2
  go_enter Try.func11, Try.ntmps11
  go_upto_region 1 with (fail)
  obtain ⟨W1, hW1⟩ : ∃ W, W = ((w.alloc (.cells #[.int .i64 a, .int .i64 b, .int .i64 c] 23)).alloc (.cells #[.int .i64 x, .int .i64 y, .int .i64 z] 23)).alloc (.cells #[.int .i64 0, .int .i64 0, .int .i64 0] 23) := ⟨_, rfl⟩
  obtain ⟨k_a, k_x, k_r, B1⟩ := st3 hW1
  rw [← hW1]
  clear hW1
  have l_x : w.heap.size < w.heap.size + 1 := by omega
  have l_r : w.heap.size + 1 < w.heap.size + 1 + 1 := by omega
  generalize w.heap.size + 1 + 1 = g_r at *
  generalize w.heap.size + 1 = g_x at *
  obtain ⟨c_a_0, c_a_1, c_a_2⟩ := bwc3 (k_a)
  obtain ⟨c_x_0, c_x_1, c_x_2⟩ := bwc3 (k_x)
  obtain ⟨c_r_0, c_r_1, c_r_2⟩ := bwc3 (k_r)
  obtain ⟨f_r_0, f_r_1, f_r_2⟩ := bwf3 (k_r)
  obtain ⟨p1, hp1⟩ : ∃ p : BW W1, p.w = W1 := ⟨BW.start W1, rfl⟩
  rw [← hp1]
  clear hp1
  go_wp2_with (first
    | (go_at_call 9; (first | (with_reducible refine (bw_call KW.out _).mono ?_)); rintro e w' ⟨rfl, q, rfl⟩)
    | (go_at_call 7; (first | (with_reducible refine (bw_call KC.out _).mono ?_)); rintro e w' ⟨rfl, q, rfl⟩))
  have kr := bkp3 (k_r.below q.h) (.int .i64 0) (.int .i64 0) (.int .i64 0)
  obtain ⟨rc0, rc1, rc2⟩ := rwc3 kr
  exact bodyPost_ret (v := .agg #[.int .i64 0, .int .i64 0, .int .i64 0]) (by simp [results, Try.results11, go_sem, rc0, rc1, rc2]) rfl ⟨rfl, blp3 (bw_below B1 q) (by omega)⟩

set_option maxRecDepth 100000 in
set_option maxHeartbeats 8000000 in
theorem ref9_Mix_yes (a b c x y z : Int) (w : World) (h : rwei (a, b, c) = true) (h2 : rcol (x, y, z) = true) :
    Calls Try.prog 11 #[.agg #[.int .i64 a, .int .i64 b, .int .i64 c], .agg #[.int .i64 x, .int .i64 y, .int .i64 z]] w fun e w' => e = .returned (.agg #[.int .i64 (a * x / 65536), .int .i64 (b * y / 65536), .int .i64 (c * z / 65536)]) ∧ Below w.heap.size w w' := by
  have KW := Lib.hid (fun w => ref9_Weight a b c w)
  rw [h] at KW
  have KC := Lib.hid (fun w => ref9_Color x y z w)
  rw [h2] at KC
  unfold rwei at h
  unfold rcol at h2
  rw [rin_iff] at h h2
  dsimp only at h h2
  have m1 := @mul_small a x (by omega) (by omega) (by omega) (by omega)
  obtain ⟨u1, hu1⟩ : ∃ u, u = a * x := ⟨_, rfl⟩
  have w1 : wrap64 (a * x) = u1 := by rw [hu1]; exact IntWalk.wrap64_in _ (by omega)
  have v1 : IntKind.i64.wrap (a * x) = u1 := by rw [hu1, i64w]; omega
  rw [← hu1] at m1
  have D1 : Hid (∀ w, Calls Try.prog 28 #[.int .i64 u1, .int .i64 65536] w fun e w' => e = .returned (.int .i64 (a * x / 65536)) ∧ Below w.heap.size w w') := Lib.hid (below_of_same (fun w => by
    have := ref_Div u1 65536 w (by unfold I64; omega) (by unfold I64; omega)
    rw [show dv u1 65536 = a * x / 65536 by unfold dv; rw [if_neg (by omega), hu1]] at this
    exact this))
  generalize a * x / 65536 = r1 at *
  have m2 := @mul_small b y (by omega) (by omega) (by omega) (by omega)
  obtain ⟨u2, hu2⟩ : ∃ u, u = b * y := ⟨_, rfl⟩
  have w2 : wrap64 (b * y) = u2 := by rw [hu2]; exact IntWalk.wrap64_in _ (by omega)
  have v2 : IntKind.i64.wrap (b * y) = u2 := by rw [hu2, i64w]; omega
  rw [← hu2] at m2
  have D2 : Hid (∀ w, Calls Try.prog 28 #[.int .i64 u2, .int .i64 65536] w fun e w' => e = .returned (.int .i64 (b * y / 65536)) ∧ Below w.heap.size w w') := Lib.hid (below_of_same (fun w => by
    have := ref_Div u2 65536 w (by unfold I64; omega) (by unfold I64; omega)
    rw [show dv u2 65536 = b * y / 65536 by unfold dv; rw [if_neg (by omega), hu2]] at this
    exact this))
  generalize b * y / 65536 = r2 at *
  have m3 := @mul_small c z (by omega) (by omega) (by omega) (by omega)
  obtain ⟨u3, hu3⟩ : ∃ u, u = c * z := ⟨_, rfl⟩
  have w3 : wrap64 (c * z) = u3 := by rw [hu3]; exact IntWalk.wrap64_in _ (by omega)
  have v3 : IntKind.i64.wrap (c * z) = u3 := by rw [hu3, i64w]; omega
  rw [← hu3] at m3
  have D3 : Hid (∀ w, Calls Try.prog 28 #[.int .i64 u3, .int .i64 65536] w fun e w' => e = .returned (.int .i64 (c * z / 65536)) ∧ Below w.heap.size w w') := Lib.hid (below_of_same (fun w => by
    have := ref_Div u3 65536 w (by unfold I64; omega) (by unfold I64; omega)
    rw [show dv u3 65536 = c * z / 65536 by unfold dv; rw [if_neg (by omega), hu3]] at this
    exact this))
  generalize c * z / 65536 = r3 at *
  clear h h2 hu1 hu2 hu3
  go_enter Try.func11, Try.ntmps11
  go_upto_region 1 with (fail)
  obtain ⟨W1, hW1⟩ : ∃ W, W = ((w.alloc (.cells #[.int .i64 a, .int .i64 b, .int .i64 c] 23)).alloc (.cells #[.int .i64 x, .int .i64 y, .int .i64 z] 23)).alloc (.cells #[.int .i64 0, .int .i64 0, .int .i64 0] 23) := ⟨_, rfl⟩
  obtain ⟨k_a, k_x, k_r, B1⟩ := st3 hW1
  rw [← hW1]
  clear hW1
  have l_x : w.heap.size < w.heap.size + 1 := by omega
  have l_r : w.heap.size + 1 < w.heap.size + 1 + 1 := by omega
  generalize w.heap.size + 1 + 1 = g_r at *
  generalize w.heap.size + 1 = g_x at *
  obtain ⟨c_a_0, c_a_1, c_a_2⟩ := bwc3 (k_a)
  obtain ⟨c_x_0, c_x_1, c_x_2⟩ := bwc3 (k_x)
  obtain ⟨c_r_0, c_r_1, c_r_2⟩ := bwc3 (k_r)
  obtain ⟨f_r_0, f_r_1, f_r_2⟩ := bwf3 (k_r)
  obtain ⟨p1, hp1⟩ : ∃ p : BW W1, p.w = W1 := ⟨BW.start W1, rfl⟩
  rw [← hp1]
  clear hp1
  go_upto_region 3 with (first
    | (go_at_call 9; (first | (with_reducible refine (bw_call KW.out _).mono ?_)); rintro e w' ⟨rfl, q, rfl⟩)
    | (go_at_call 7; (first | (with_reducible refine (bw_call KC.out _).mono ?_)); rintro e w' ⟨rfl, q, rfl⟩))
  refine wp_region_bw_tail 19 (by kernel_rfl) (by kernel_rfl) (by kernel_rfl) ?_
  simp only [List.take_succ_cons, List.take_zero, List.drop_succ_cons, List.drop_zero]
  repeat (go_big_quiet_step (first
    | (go_at_call 28; (first | (with_reducible exact bw_call D1.out _) | (with_reducible exact bw_call D2.out _) | (with_reducible exact bw_call D3.out _)))))
  refine wpQuiet_nil ?_
  intro _ hw'
  obtain ⟨q, rfl⟩ := hw'
  go_wp2
  have kr := bkp3 (k_r.below q.h) (.int .i64 r1) (.int .i64 r2) (.int .i64 r3)
  obtain ⟨rc0, rc1, rc2⟩ := rwc3 kr
  exact bodyPost_ret (v := .agg #[.int .i64 r1, .int .i64 r2, .int .i64 r3]) (by simp [results, Try.results11, go_sem, rc0, rc1, rc2]) rfl ⟨rfl, blp3 (bw_below B1 q) (by omega)⟩

theorem ref9_Mix (a b c x y z : Int) (w : World) :
    Calls Try.prog 11 #[.agg #[.int .i64 a, .int .i64 b, .int .i64 c], .agg #[.int .i64 x, .int .i64 y, .int .i64 z]] w fun e w' => e = .returned (.agg #[.int .i64 (hmix (a, b, c) (x, y, z)).1, .int .i64 (hmix (a, b, c) (x, y, z)).2.1, .int .i64 (hmix (a, b, c) (x, y, z)).2.2]) ∧ Below w.heap.size w w' := by
  unfold hmix
  cases h : rwei (a, b, c) with
  | false => rw [if_neg (by simp)]; exact ref9_Mix_now a b c x y z w h
  | true =>
    cases h2 : rcol (x, y, z) with
    | false => rw [if_neg (by simp)]; exact ref9_Mix_noc a b c x y z w h h2
    | true => rw [if_pos (by simp)]; exact ref9_Mix_yes a b c x y z w h h2

set_option maxRecDepth 100000 in
set_option maxHeartbeats 8000000 in
theorem ref9_Part_now (a b c n d : Int) (w : World) (h : rwei (a, b, c) = false) :
    Calls Try.prog 15 #[.agg #[.int .i64 a, .int .i64 b, .int .i64 c], .agg #[.int .i64 n, .int .i64 d]] w fun e w' => e = .returned (.agg #[.int .i64 0, .int .i64 0, .int .i64 0]) ∧ Below w.heap.size w w' := by
  have KW := Lib.hid (fun w => ref9_Weight a b c w)
  rw [h] at KW
  clear h
  go_enter Try.func15, Try.ntmps15
  go_upto_region 1 with (fail)
  obtain ⟨W1, hW1⟩ : ∃ W, W = ((w.alloc (.cells #[.int .i64 a, .int .i64 b, .int .i64 c] 23)).alloc (.cells #[.int .i64 n, .int .i64 d] 25)).alloc (.cells #[.int .i64 0, .int .i64 0, .int .i64 0] 23) := ⟨_, rfl⟩
  obtain ⟨k_a, k_f, k_r, B1⟩ := st3 hW1
  rw [← hW1]
  clear hW1
  have l_f : w.heap.size < w.heap.size + 1 := by omega
  have l_r : w.heap.size + 1 < w.heap.size + 1 + 1 := by omega
  generalize w.heap.size + 1 + 1 = g_r at *
  generalize w.heap.size + 1 = g_f at *
  obtain ⟨c_a_0, c_a_1, c_a_2⟩ := bwc3 (k_a)
  obtain ⟨c_f_0, c_f_1⟩ := bwc2 (k_f)
  obtain ⟨c_r_0, c_r_1, c_r_2⟩ := bwc3 (k_r)
  obtain ⟨f_r_0, f_r_1, f_r_2⟩ := bwf3 (k_r)
  obtain ⟨p1, hp1⟩ : ∃ p : BW W1, p.w = W1 := ⟨BW.start W1, rfl⟩
  rw [← hp1]
  clear hp1
  go_wp2_with (first
    | (go_at_call 9; (first | (with_reducible refine (bw_call KW.out _).mono ?_)); rintro e w' ⟨rfl, q, rfl⟩))
  have kr := bkp3 (k_r.below q.h) (.int .i64 0) (.int .i64 0) (.int .i64 0)
  obtain ⟨rc0, rc1, rc2⟩ := rwc3 kr
  exact bodyPost_ret (v := .agg #[.int .i64 0, .int .i64 0, .int .i64 0]) (by simp [results, Try.results15, go_sem, rc0, rc1, rc2]) rfl ⟨rfl, blp3 (bw_below B1 q) (by omega)⟩

set_option maxRecDepth 100000 in
set_option maxHeartbeats 8000000 in
theorem ref9_Part_nod (a b c n d : Int) (w : World) (h : rwei (a, b, c) = true) (h2 : ¬ 1 ≤ d) :
    Calls Try.prog 15 #[.agg #[.int .i64 a, .int .i64 b, .int .i64 c], .agg #[.int .i64 n, .int .i64 d]] w fun e w' => e = .returned (.agg #[.int .i64 0, .int .i64 0, .int .i64 0]) ∧ Below w.heap.size w w' := by
  have KW := Lib.hid (fun w => ref9_Weight a b c w)
  rw [h] at KW
  have KC := Lib.hid (fun w => ref3_Right n d w)
  rw [decide_eq_false h2] at KC
  clear h h2
  go_enter Try.func15, Try.ntmps15
  go_upto_region 1 with (fail)
  obtain ⟨W1, hW1⟩ : ∃ W, W = ((w.alloc (.cells #[.int .i64 a, .int .i64 b, .int .i64 c] 23)).alloc (.cells #[.int .i64 n, .int .i64 d] 25)).alloc (.cells #[.int .i64 0, .int .i64 0, .int .i64 0] 23) := ⟨_, rfl⟩
  obtain ⟨k_a, k_f, k_r, B1⟩ := st3 hW1
  rw [← hW1]
  clear hW1
  have l_f : w.heap.size < w.heap.size + 1 := by omega
  have l_r : w.heap.size + 1 < w.heap.size + 1 + 1 := by omega
  generalize w.heap.size + 1 + 1 = g_r at *
  generalize w.heap.size + 1 = g_f at *
  obtain ⟨c_a_0, c_a_1, c_a_2⟩ := bwc3 (k_a)
  obtain ⟨c_f_0, c_f_1⟩ := bwc2 (k_f)
  obtain ⟨c_r_0, c_r_1, c_r_2⟩ := bwc3 (k_r)
  obtain ⟨f_r_0, f_r_1, f_r_2⟩ := bwf3 (k_r)
  obtain ⟨p1, hp1⟩ : ∃ p : BW W1, p.w = W1 := ⟨BW.start W1, rfl⟩
  rw [← hp1]
  clear hp1
  go_wp2_with (first
    | (go_at_call 9; (first | (with_reducible refine (bw_call KW.out _).mono ?_)); rintro e w' ⟨rfl, q, rfl⟩)
    | (go_at_call 34; (first | (with_reducible refine (bw_call KC.out _).mono ?_)); rintro e w' ⟨rfl, q, rfl⟩))
  have kr := bkp3 (k_r.below q.h) (.int .i64 0) (.int .i64 0) (.int .i64 0)
  obtain ⟨rc0, rc1, rc2⟩ := rwc3 kr
  exact bodyPost_ret (v := .agg #[.int .i64 0, .int .i64 0, .int .i64 0]) (by simp [results, Try.results15, go_sem, rc0, rc1, rc2]) rfl ⟨rfl, blp3 (bw_below B1 q) (by omega)⟩

set_option maxRecDepth 100000 in
set_option maxHeartbeats 8000000 in
theorem ref9_Part_non (a b c n d : Int) (w : World) (h : rwei (a, b, c) = true) (h2 : 1 ≤ d) (h3 : ¬ 0 ≤ n) :
    Calls Try.prog 15 #[.agg #[.int .i64 a, .int .i64 b, .int .i64 c], .agg #[.int .i64 n, .int .i64 d]] w fun e w' => e = .returned (.agg #[.int .i64 0, .int .i64 0, .int .i64 0]) ∧ Below w.heap.size w w' := by
  have KW := Lib.hid (fun w => ref9_Weight a b c w)
  rw [h] at KW
  have KC := Lib.hid (fun w => ref3_Right n d w)
  rw [decide_eq_true h2] at KC
  have t : decide (n < 0) = true := decide_eq_true (by omega)
  clear h h2 h3
  go_enter Try.func15, Try.ntmps15
  go_upto_region 1 with (fail)
  obtain ⟨W1, hW1⟩ : ∃ W, W = ((w.alloc (.cells #[.int .i64 a, .int .i64 b, .int .i64 c] 23)).alloc (.cells #[.int .i64 n, .int .i64 d] 25)).alloc (.cells #[.int .i64 0, .int .i64 0, .int .i64 0] 23) := ⟨_, rfl⟩
  obtain ⟨k_a, k_f, k_r, B1⟩ := st3 hW1
  rw [← hW1]
  clear hW1
  have l_f : w.heap.size < w.heap.size + 1 := by omega
  have l_r : w.heap.size + 1 < w.heap.size + 1 + 1 := by omega
  generalize w.heap.size + 1 + 1 = g_r at *
  generalize w.heap.size + 1 = g_f at *
  obtain ⟨c_a_0, c_a_1, c_a_2⟩ := bwc3 (k_a)
  obtain ⟨c_f_0, c_f_1⟩ := bwc2 (k_f)
  obtain ⟨c_r_0, c_r_1, c_r_2⟩ := bwc3 (k_r)
  obtain ⟨f_r_0, f_r_1, f_r_2⟩ := bwf3 (k_r)
  obtain ⟨p1, hp1⟩ : ∃ p : BW W1, p.w = W1 := ⟨BW.start W1, rfl⟩
  rw [← hp1]
  clear hp1
  go_wp2_with (first
    | (go_at_call 9; (first | (with_reducible refine (bw_call KW.out _).mono ?_)); rintro e w' ⟨rfl, q, rfl⟩)
    | (go_at_call 34; (first | (with_reducible refine (bw_call KC.out _).mono ?_)); rintro e w' ⟨rfl, q, rfl⟩))
  have kr := bkp3 (k_r.below q.h) (.int .i64 0) (.int .i64 0) (.int .i64 0)
  obtain ⟨rc0, rc1, rc2⟩ := rwc3 kr
  exact bodyPost_ret (v := .agg #[.int .i64 0, .int .i64 0, .int .i64 0]) (by simp [results, Try.results15, go_sem, rc0, rc1, rc2]) rfl ⟨rfl, blp3 (bw_below B1 q) (by omega)⟩

set_option maxRecDepth 100000 in
set_option maxHeartbeats 8000000 in
theorem ref9_Part_yes (a b c n d : Int) (w : World) (h : rwei (a, b, c) = true) (h2 : 1 ≤ d) (h3 : 0 ≤ n) (hn : I64 n) (hd : I64 d) :
    Calls Try.prog 15 #[.agg #[.int .i64 a, .int .i64 b, .int .i64 c], .agg #[.int .i64 n, .int .i64 d]] w fun e w' => e = .returned (.agg #[.int .i64 (m40 (fat a n d)), .int .i64 (m40 (fat b n d)), .int .i64 (m40 (fat c n d))]) ∧ Below w.heap.size w w' := by
  have KW := Lib.hid (fun w => ref9_Weight a b c w)
  rw [h] at KW
  have KC := Lib.hid (fun w => ref3_Right n d w)
  rw [decide_eq_true h2] at KC
  unfold rwei at h
  rw [rin_iff] at h
  dsimp only at h
  have t : decide (n < 0) = false := decide_eq_false (by omega)
  have D1 := Lib.hid (fun w => ref3_At a n d w (by unfold I64; omega) hn hd)
  have M1 : min 1099511627776 (fat a n d) = m40 (fat a n d) := by unfold m40; rw [Int.min_def]; split <;> split <;> omega
  generalize m40 (fat a n d) = r1 at *
  generalize fat a n d = u1 at *
  have D2 := Lib.hid (fun w => ref3_At b n d w (by unfold I64; omega) hn hd)
  have M2 : min 1099511627776 (fat b n d) = m40 (fat b n d) := by unfold m40; rw [Int.min_def]; split <;> split <;> omega
  generalize m40 (fat b n d) = r2 at *
  generalize fat b n d = u2 at *
  have D3 := Lib.hid (fun w => ref3_At c n d w (by unfold I64; omega) hn hd)
  have M3 : min 1099511627776 (fat c n d) = m40 (fat c n d) := by unfold m40; rw [Int.min_def]; split <;> split <;> omega
  generalize m40 (fat c n d) = r3 at *
  generalize fat c n d = u3 at *
  clear h h2 h3 hn hd
  go_enter Try.func15, Try.ntmps15
  go_upto_region 1 with (fail)
  obtain ⟨W1, hW1⟩ : ∃ W, W = ((w.alloc (.cells #[.int .i64 a, .int .i64 b, .int .i64 c] 23)).alloc (.cells #[.int .i64 n, .int .i64 d] 25)).alloc (.cells #[.int .i64 0, .int .i64 0, .int .i64 0] 23) := ⟨_, rfl⟩
  obtain ⟨k_a, k_f, k_r, B1⟩ := st3 hW1
  rw [← hW1]
  clear hW1
  have l_f : w.heap.size < w.heap.size + 1 := by omega
  have l_r : w.heap.size + 1 < w.heap.size + 1 + 1 := by omega
  generalize w.heap.size + 1 + 1 = g_r at *
  generalize w.heap.size + 1 = g_f at *
  obtain ⟨c_a_0, c_a_1, c_a_2⟩ := bwc3 (k_a)
  obtain ⟨c_f_0, c_f_1⟩ := bwc2 (k_f)
  obtain ⟨c_r_0, c_r_1, c_r_2⟩ := bwc3 (k_r)
  obtain ⟨f_r_0, f_r_1, f_r_2⟩ := bwf3 (k_r)
  obtain ⟨p1, hp1⟩ : ∃ p : BW W1, p.w = W1 := ⟨BW.start W1, rfl⟩
  rw [← hp1]
  clear hp1
  go_upto_region 3 with (first
    | (go_at_call 9; (first | (with_reducible refine (bw_call KW.out _).mono ?_)); rintro e w' ⟨rfl, q, rfl⟩)
    | (go_at_call 34; (first | (with_reducible refine (bw_call KC.out _).mono ?_)); rintro e w' ⟨rfl, q, rfl⟩))
  refine wp_region_bw_tail 16 (by kernel_rfl) (by kernel_rfl) (by kernel_rfl) ?_
  simp only [List.take_succ_cons, List.take_zero, List.drop_succ_cons, List.drop_zero]
  repeat (go_big_quiet_step (first
    | (go_at_call 35; (first | (with_reducible exact bw_call D1.out _) | (with_reducible exact bw_call D2.out _) | (with_reducible exact bw_call D3.out _)))))
  refine wpQuiet_nil ?_
  intro _ hw'
  obtain ⟨q, rfl⟩ := hw'
  go_wp2
  have kr := bkp3 (k_r.below q.h) (.int .i64 r1) (.int .i64 r2) (.int .i64 r3)
  obtain ⟨rc0, rc1, rc2⟩ := rwc3 kr
  exact bodyPost_ret (v := .agg #[.int .i64 r1, .int .i64 r2, .int .i64 r3]) (by simp [results, Try.results15, go_sem, rc0, rc1, rc2]) rfl ⟨rfl, blp3 (bw_below B1 q) (by omega)⟩

theorem ref9_Part (a b c n d : Int) (w : World) (hn : I64 n) (hd : I64 d) :
    Calls Try.prog 15 #[.agg #[.int .i64 a, .int .i64 b, .int .i64 c], .agg #[.int .i64 n, .int .i64 d]] w fun e w' => e = .returned (.agg #[.int .i64 (hpart (a, b, c) n d).1, .int .i64 (hpart (a, b, c) n d).2.1, .int .i64 (hpart (a, b, c) n d).2.2]) ∧ Below w.heap.size w w' := by
  unfold hpart
  cases h : rwei (a, b, c) with
  | false => rw [if_neg (by simp)]; exact ref9_Part_now a b c n d w h
  | true =>
    by_cases h2 : 1 ≤ d
    · by_cases h3 : 0 ≤ n
      · rw [if_pos ⟨rfl, h2, h3⟩]; exact ref9_Part_yes a b c n d w h h2 h3 hn hd
      · rw [if_neg (fun e => h3 e.2.2)]; exact ref9_Part_non a b c n d w h h2 h3
    · rw [if_neg (fun e => h2 e.2.1)]; exact ref9_Part_nod a b c n d w h h2

set_option maxRecDepth 100000 in
set_option maxHeartbeats 8000000 in
theorem ref9_Most (a b c : Int) (w : World) :
    Calls Try.prog 17 #[.agg #[.int .i64 a, .int .i64 b, .int .i64 c]] w fun e w' => e = .returned (.int .i64 (hmost (a, b, c))) ∧ Below w.heap.size w w' := by
  have e : hmost (a, b, c) = mx3 a b c := rfl
  rw [e]
  clear e
  unfold mx3
  go_enter Try.func17, Try.ntmps17
  go_upto_region 1 with (fail)
  obtain ⟨W1, hW1⟩ : ∃ W, W = w.alloc (.cells #[.int .i64 a, .int .i64 b, .int .i64 c] 23) := ⟨_, rfl⟩
  obtain ⟨k_a, B1⟩ := st1 hW1
  rw [← hW1]
  clear hW1
  obtain ⟨c_a_0, c_a_1, c_a_2⟩ := bwc3 (k_a)
  obtain ⟨p1, hp1⟩ : ∃ p : BW W1, p.w = W1 := ⟨BW.start W1, rfl⟩
  rw [← hp1]
  clear hp1
  go_wp2
  all_goals
    go_ret
    exact ⟨rfl, bw_below B1 _⟩

set_option maxRecDepth 100000 in
set_option maxHeartbeats 8000000 in
theorem ref9_Grey_no (a b c : Int) (w : World) (h : rwei (a, b, c) = false) :
    Calls Try.prog 19 #[.agg #[.int .i64 a, .int .i64 b, .int .i64 c]] w fun e w' => e = .returned (.int .i64 0) ∧ Below w.heap.size w w' := by
  have KW := Lib.hid (fun w => ref9_Weight a b c w)
  rw [h] at KW
  clear h
  go_enter Try.func19, Try.ntmps19
  go_upto_region 1 with (fail)
  obtain ⟨W1, hW1⟩ : ∃ W, W = w.alloc (.cells #[.int .i64 a, .int .i64 b, .int .i64 c] 23) := ⟨_, rfl⟩
  obtain ⟨k_a, B1⟩ := st1 hW1
  rw [← hW1]
  clear hW1
  obtain ⟨c_a_0, c_a_1, c_a_2⟩ := bwc3 (k_a)
  obtain ⟨p1, hp1⟩ : ∃ p : BW W1, p.w = W1 := ⟨BW.start W1, rfl⟩
  rw [← hp1]
  clear hp1
  go_wp2_with (first
    | (go_at_call 9; (first | (with_reducible refine (bw_call KW.out _).mono ?_)); rintro e w' ⟨rfl, q, rfl⟩))
  go_ret
  exact ⟨rfl, bw_below B1 _⟩

set_option maxRecDepth 100000 in
set_option maxHeartbeats 8000000 in
theorem ref9_Grey_yes (a b c : Int) (w : World) (h : rwei (a, b, c) = true) :
    Calls Try.prog 19 #[.agg #[.int .i64 a, .int .i64 b, .int .i64 c]] w fun e w' => e = .returned (.int .i64 ((a + 2 * b + c) / 4)) ∧ Below w.heap.size w w' := by
  have KW := Lib.hid (fun w => ref9_Weight a b c w)
  rw [h] at KW
  unfold rwei at h
  rw [rin_iff] at h
  dsimp only at h
  have KD : Hid (∀ w, Calls Try.prog 28 #[.int .i64 (a + 2 * b + c), .int .i64 4] w fun e w' => e = .returned (.int .i64 ((a + 2 * b + c) / 4)) ∧ Below w.heap.size w w') := Lib.hid (below_of_same (fun w => by
    have := ref_Div (a + 2 * b + c) 4 w (by unfold I64; omega) (by unfold I64; omega)
    rw [show dv (a + 2 * b + c) 4 = (a + 2 * b + c) / 4 by unfold dv; rw [if_neg (by omega)]] at this
    exact this))
  generalize (a + 2 * b + c) / 4 = r at *
  obtain ⟨h1, h2, h3, h4, h5, h6⟩ := h
  go_enter Try.func19, Try.ntmps19
  go_upto_region 1 with (fail)
  obtain ⟨W1, hW1⟩ : ∃ W, W = w.alloc (.cells #[.int .i64 a, .int .i64 b, .int .i64 c] 23) := ⟨_, rfl⟩
  obtain ⟨k_a, B1⟩ := st1 hW1
  rw [← hW1]
  clear hW1
  obtain ⟨c_a_0, c_a_1, c_a_2⟩ := bwc3 (k_a)
  obtain ⟨p1, hp1⟩ : ∃ p : BW W1, p.w = W1 := ⟨BW.start W1, rfl⟩
  rw [← hp1]
  clear hp1
  go_wp2_with (first
    | (go_at_call 9; (first | (with_reducible refine (bw_call KW.out _).mono ?_)); rintro e w' ⟨rfl, q, rfl⟩)
    | (go_at_call 28; (first | (with_reducible refine (bw_call KD.out _).mono ?_)); rintro e w' ⟨rfl, q, rfl⟩))
  go_ret
  exact ⟨rfl, bw_below B1 _⟩

theorem ref9_Grey (a b c : Int) (w : World) :
    Calls Try.prog 19 #[.agg #[.int .i64 a, .int .i64 b, .int .i64 c]] w fun e w' => e = .returned (.int .i64 (hgrey (a, b, c))) ∧ Below w.heap.size w w' := by
  unfold hgrey
  cases h : rwei (a, b, c) with
  | false => rw [if_neg (by simp)]; exact ref9_Grey_no a b c w h
  | true => rw [if_pos rfl]; exact ref9_Grey_yes a b c w h

set_option maxRecDepth 100000 in
set_option maxHeartbeats 8000000 in
theorem ref9_Black (a b c : Int) (w : World) :
    Calls Try.prog 21 #[.agg #[.int .i64 a, .int .i64 b, .int .i64 c]] w fun e w' => e = .returned (.bool (hblack (a, b, c))) ∧ Below w.heap.size w w' := by
  by_cases h1 : a = 0
  · subst h1
    by_cases h2 : b = 0
    · subst h2
      by_cases h3 : c = 0
      · subst h3
        rw [show hblack (0, 0, 0) = true by decide]
        go_enter Try.func21, Try.ntmps21
        go_upto_region 1 with (fail)
        obtain ⟨W1, hW1⟩ : ∃ W, W = w.alloc (.cells #[.int .i64 0, .int .i64 0, .int .i64 0] 23) := ⟨_, rfl⟩
        obtain ⟨k_a, B1⟩ := st1 hW1
        rw [← hW1]
        clear hW1
        obtain ⟨c_a_0, c_a_1, c_a_2⟩ := bwc3 (k_a)
        obtain ⟨p1, hp1⟩ : ∃ p : BW W1, p.w = W1 := ⟨BW.start W1, rfl⟩
        rw [← hp1]
        clear hp1
        go_wp2
        go_ret
        exact ⟨rfl, bw_below B1 _⟩
      · rw [show hblack (0, 0, c) = false by unfold hblack; simp [h3]]
        go_enter Try.func21, Try.ntmps21
        go_upto_region 1 with (fail)
        obtain ⟨W1, hW1⟩ : ∃ W, W = w.alloc (.cells #[.int .i64 0, .int .i64 0, .int .i64 c] 23) := ⟨_, rfl⟩
        obtain ⟨k_a, B1⟩ := st1 hW1
        rw [← hW1]
        clear hW1
        obtain ⟨c_a_0, c_a_1, c_a_2⟩ := bwc3 (k_a)
        obtain ⟨p1, hp1⟩ : ∃ p : BW W1, p.w = W1 := ⟨BW.start W1, rfl⟩
        rw [← hp1]
        clear hp1
        go_wp2
        go_ret
        exact ⟨rfl, bw_below B1 _⟩
    · rw [show hblack (0, b, c) = false by unfold hblack; simp [h2]]
      go_enter Try.func21, Try.ntmps21
      go_upto_region 1 with (fail)
      obtain ⟨W1, hW1⟩ : ∃ W, W = w.alloc (.cells #[.int .i64 0, .int .i64 b, .int .i64 c] 23) := ⟨_, rfl⟩
      obtain ⟨k_a, B1⟩ := st1 hW1
      rw [← hW1]
      clear hW1
      obtain ⟨c_a_0, c_a_1, c_a_2⟩ := bwc3 (k_a)
      obtain ⟨p1, hp1⟩ : ∃ p : BW W1, p.w = W1 := ⟨BW.start W1, rfl⟩
      rw [← hp1]
      clear hp1
      go_wp2
      go_ret
      exact ⟨rfl, bw_below B1 _⟩
  · rw [show hblack (a, b, c) = false by unfold hblack; simp [h1]]
    go_enter Try.func21, Try.ntmps21
    go_upto_region 1 with (fail)
    obtain ⟨W1, hW1⟩ : ∃ W, W = w.alloc (.cells #[.int .i64 a, .int .i64 b, .int .i64 c] 23) := ⟨_, rfl⟩
    obtain ⟨k_a, B1⟩ := st1 hW1
    rw [← hW1]
    clear hW1
    obtain ⟨c_a_0, c_a_1, c_a_2⟩ := bwc3 (k_a)
    obtain ⟨p1, hp1⟩ : ∃ p : BW W1, p.w = W1 := ⟨BW.start W1, rfl⟩
    rw [← hp1]
    clear hp1
    go_wp2
    go_ret
    exact ⟨rfl, bw_below B1 _⟩

theorem hfold_in (V : Nat → T3) (k : Nat) : I64 (hfold V k).1 ∧ I64 (hfold V k).2.1 ∧ I64 (hfold V k).2.2 := by
  cases k with
  | zero => unfold hfold I64; simp
  | succ k => exact ⟨sat_I64 _, sat_I64 _, sat_I64 _⟩

set_option maxRecDepth 100000 in
set_option maxHeartbeats 8000000 in
theorem ref9_Fold (b off cap n : Nat) (V : Nat → T3) (w : World) (hrow : VcRow w b off n V) (hV : ∀ k, k < n → I64 (V k).1 ∧ I64 (V k).2.1 ∧ I64 (V k).2.2) (hb : b < w.heap.size) (hn : n ≤ 1048576) :
    Calls Try.prog 23 #[.slice (some ⟨b, off, none⟩) n cap] w fun e w' => e = .returned (.agg #[.int .i64 (hfold V n).1, .int .i64 (hfold V n).2.1, .int .i64 (hfold V n).2.2]) ∧ Below w.heap.size w w' := by
  have HR := Lib.hid hrow
  have HV := Lib.hid hV
  clear hrow hV
  go_enter Try.func23, Try.ntmps23
  go_upto_region 1 with (fail)
  obtain ⟨W1, hW1⟩ : ∃ W, W = w.alloc (.cells #[.int .i64 0, .int .i64 0, .int .i64 0] 23) := ⟨_, rfl⟩
  obtain ⟨k_r, B1⟩ := st1 hW1
  rw [← hW1]
  clear hW1
  obtain ⟨c_r_0, c_r_1, c_r_2⟩ := bwc3 (k_r)
  obtain ⟨p1, hp1⟩ : ∃ p : BW W1, p.w = W1 := ⟨BW.start W1, rfl⟩
  rw [← hp1]
  clear hp1
  go_upto_region 2 with (fail)
  obtain ⟨W2, hW2⟩ : ∃ W, W = p1.w.alloc (.cells #[.int .i64 0, .int .i64 0, .int .i64 0] 23) := ⟨_, rfl⟩
  have B2 : Below w.heap.size w W2 := by rw [hW2]; exact (bw_below B1 p1).alloc (bw_below B1 p1).size _
  have l_s : w.heap.size < p1.w.heap.size := (k_r.below p1.h).lt
  have o_s : w.heap.size ≤ p1.w.heap.size := (bw_below B1 p1).size
  have k_r := bka hW2 (k_r.below p1.h)
  have k_s := bkn hW2
  rw [← hW2]
  clear hW2
  clear B1
  clear c_r_0 c_r_1 c_r_2
  generalize p1.w.heap.size = g_s at *
  go_wp2
  go_loopw [4] (fun i wr => ∃ k : Nat, k ≤ n ∧ i = .int .i64 k ∧ Bk wr g_s 23 #[.int .i64 (hfold V k).1, .int .i64 (hfold V k).2.1, .int .i64 (hfold V k).2.2] ∧ Bk wr w.heap.size 23 #[.int .i64 0, .int .i64 0, .int .i64 0] ∧ Below w.heap.size w wr) (fun i _ => n - (intOf i).toNat)
  case atStart => exact ⟨0, by omega, rfl, k_s, k_r, B2⟩
  case round =>
    clear k_s k_r B2
    obtain ⟨k, hk, rfl, k_s, k_r, B20⟩ := hrel
    obtain ⟨i1, i2, i3⟩ := hfold_in V k
    by_cases hlt : k < n
    · obtain ⟨x0, x1, x2⟩ := HR.out k hlt
      obtain ⟨v1, v2, v3⟩ := HV.out k hlt
      have KA := Lib.hid (fun w => ref9_Add (hfold V k).1 (hfold V k).2.1 (hfold V k).2.2 (V k).1 (V k).2.1 (V k).2.2 w i1 i2 i3 v1 v2 v3)
      rw [show hadd ((hfold V k).1, (hfold V k).2.1, (hfold V k).2.2) ((V k).1, (V k).2.1, (V k).2.2) = hfold V (k + 1) from rfl] at KA
      have l0 : ∀ p : BW wr, p.w.cell? ⟨b, off + k * 3, none⟩ = some (.int .i64 (V k).1) := bw_cell ((B20.cell (p := ⟨b, off + k * 3, none⟩) hb).trans x0)
      have l1 : ∀ p : BW wr, p.w.cell? ⟨b, off + k * 3 + 1, none⟩ = some (.int .i64 (V k).2.1) := bw_cell ((B20.cell (p := ⟨b, off + k * 3 + 1, none⟩) hb).trans x1)
      have l2 : ∀ p : BW wr, p.w.cell? ⟨b, off + k * 3 + 2, none⟩ = some (.int .i64 (V k).2.2) := bw_cell ((B20.cell (p := ⟨b, off + k * 3 + 2, none⟩) hb).trans x2)
      have HN : Hid (∀ F, F = hfold V (k + 1) → hfold V (k + 1) = F) := Lib.hid (fun F h => h.symm)
      obtain ⟨F, hF⟩ : ∃ F, F = hfold V (k + 1) := ⟨_, rfl⟩
      rw [← hF] at KA
      have HF := Lib.hid hF
      clear hF HN x0 x1 x2 v1 v2 v3 i1 i2 i3
      generalize hfold V k = S at *
      generalize V k = vk at *
      obtain ⟨s1, s2, s3⟩ := S
      obtain ⟨x, y, z⟩ := vk
      obtain ⟨f1, f2, f3⟩ := F
      dsimp only at KA l0 l1 l2 k_s
      obtain ⟨c_r_0, c_r_1, c_r_2⟩ := bwc3 (k_r)
      obtain ⟨c_s_0, c_s_1, c_s_2⟩ := bwc3 (k_s)
      obtain ⟨f_s_0, f_s_1, f_s_2⟩ := bwf3 (k_s)
      obtain ⟨p20, hp20⟩ : ∃ p : BW wr, p.w = wr := ⟨BW.start wr, rfl⟩
      rw [← hp20]
      clear hp20
      go_upto_region 5 with (fail)
      refine wp_region_bw_tail 6 (by kernel_rfl) (by kernel_rfl) (by kernel_rfl) ?_
      simp only [List.take_succ_cons, List.take_zero, List.drop_succ_cons, List.drop_zero]
      repeat (go_big_quiet_step (first
        | (go_at_call 13; (first | (with_reducible exact bw_call KA.out _)))))
      refine wpQuiet_nil ?_
      intro _ hw'
      obtain ⟨q, rfl⟩ := hw'
      go_wp2
      obtain ⟨W21, hW21⟩ : ∃ W, W = ((q.w.setCell ⟨g_s, 0, none⟩ (.int .i64 f1)).setCell ⟨g_s, 1, none⟩ (.int .i64 f2)).setCell ⟨g_s, 2, none⟩ (.int .i64 f3) := ⟨_, rfl⟩
      have B21 : Below w.heap.size w W21 := by rw [hW21]; exact blp3 (bw_below B20 q) (by omega)
      have k_r := bkoe3 hW21 (k_r.below q.h) (by omega)
      have k_s := bkpe3 hW21 (k_s.below q.h)
      rw [← hW21]
      clear hW21
      clear B20
      clear c_r_0 c_r_1 c_r_2 c_s_0 c_s_1 c_s_2 f_s_0 f_s_1 f_s_2 l0 l1 l2
      go_wp2
      go_roundw
      case rel => exact ⟨k + 1, by omega, by go_num, by rw [← HF.out]; exact k_s, k_r, B21⟩
      case measure => simp [intOf]; omega
    · obtain rfl : k = n := by omega
      obtain ⟨c_r_0, c_r_1, c_r_2⟩ := bwc3 (k_r)
      obtain ⟨f_r_0, f_r_1, f_r_2⟩ := bwf3 (k_r)
      obtain ⟨c_s_0, c_s_1, c_s_2⟩ := bwc3 (k_s)
      obtain ⟨p20, hp20⟩ : ∃ p : BW wr, p.w = wr := ⟨BW.start wr, rfl⟩
      rw [← hp20]
      clear hp20
      go_wp2
      have kr := bkp3 (k_r.below p20.h) (.int .i64 ((hfold V k).1)) (.int .i64 ((hfold V k).2.1)) (.int .i64 ((hfold V k).2.2))
      obtain ⟨rc0, rc1, rc2⟩ := rwc3 kr
      exact bodyPost_ret (v := .agg #[.int .i64 ((hfold V k).1), .int .i64 ((hfold V k).2.1), .int .i64 ((hfold V k).2.2)]) (by simp [results, Try.results23, go_sem, rc0, rc1, rc2]) rfl ⟨rfl, blp3 (bw_below B20 p20) (by omega)⟩

set_option maxRecDepth 100000 in
set_option maxHeartbeats 8000000 in
theorem ref9_Fold_none (p : Option Addr) (cap : Nat) (w : World) :
    Calls Try.prog 23 #[.slice p 0 cap] w fun e w' => e = .returned (.agg #[.int .i64 0, .int .i64 0, .int .i64 0]) ∧ Below w.heap.size w w' := by
  go_enter Try.func23, Try.ntmps23
  go_upto_region 1 with (fail)
  obtain ⟨W1, hW1⟩ : ∃ W, W = w.alloc (.cells #[.int .i64 0, .int .i64 0, .int .i64 0] 23) := ⟨_, rfl⟩
  obtain ⟨k_r, B1⟩ := st1 hW1
  rw [← hW1]
  clear hW1
  obtain ⟨c_r_0, c_r_1, c_r_2⟩ := bwc3 (k_r)
  obtain ⟨p1, hp1⟩ : ∃ p : BW W1, p.w = W1 := ⟨BW.start W1, rfl⟩
  rw [← hp1]
  clear hp1
  go_upto_region 2 with (fail)
  obtain ⟨W2, hW2⟩ : ∃ W, W = p1.w.alloc (.cells #[.int .i64 0, .int .i64 0, .int .i64 0] 23) := ⟨_, rfl⟩
  have B2 : Below w.heap.size w W2 := by rw [hW2]; exact (bw_below B1 p1).alloc (bw_below B1 p1).size _
  have l_s : w.heap.size < p1.w.heap.size := (k_r.below p1.h).lt
  have o_s : w.heap.size ≤ p1.w.heap.size := (bw_below B1 p1).size
  have k_r := bka hW2 (k_r.below p1.h)
  have k_s := bkn hW2
  rw [← hW2]
  clear hW2
  clear B1
  clear c_r_0 c_r_1 c_r_2
  generalize p1.w.heap.size = g_s at *
  obtain ⟨c_r_0, c_r_1, c_r_2⟩ := bwc3 (k_r)
  obtain ⟨f_r_0, f_r_1, f_r_2⟩ := bwf3 (k_r)
  obtain ⟨c_s_0, c_s_1, c_s_2⟩ := bwc3 (k_s)
  obtain ⟨p2, hp2⟩ : ∃ p : BW W2, p.w = W2 := ⟨BW.start W2, rfl⟩
  rw [← hp2]
  clear hp2
  go_wp2
  go_rounds 1
  have kr := bkp3 (k_r.below p2.h) (.int .i64 0) (.int .i64 0) (.int .i64 0)
  obtain ⟨rc0, rc1, rc2⟩ := rwc3 kr
  exact bodyPost_ret (v := .agg #[.int .i64 0, .int .i64 0, .int .i64 0]) (by simp [results, Try.results23, go_sem, rc0, rc1, rc2]) rfl ⟨rfl, blp3 (bw_below B2 p2) (by omega)⟩

end Go.Proofs.Ytppfemaolaigoaa
