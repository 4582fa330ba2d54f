/- Contracts of package vec (landed at 7315bb3e32). -/
import Derived.Test.YtnidgokmndnenaaVecm06
import Derived.Test.YtnidgokmndnenaaRoot01
namespace Go.Proofs.Ytnidgokmndnenaa
open Go.RowKit Go.Shelf Go.Shelf Go.Proofs.Sky
set_option linter.unusedVariables false

theorem vcr_small (x y z a b c : Int) : (-2199023255552 ≤ (vcr x y z a b c).1 ∧ (vcr x y z a b c).1 ≤ 2199023255552) ∧ (-2199023255552 ≤ (vcr x y z a b c).2.1 ∧ (vcr x y z a b c).2.1 ≤ 2199023255552) ∧ (-2199023255552 ≤ (vcr x y z a b c).2.2 ∧ (vcr x y z a b c).2.2 ≤ 2199023255552) := by
  unfold vcr
  split
  · rename_i h
    obtain ⟨h1, h2⟩ := h
    rw [vnear_iff] at h1 h2
    have p1 := near_mul (x := y) (a := c) (by omega) (by omega)
    have p2 := near_mul (x := z) (a := b) (by omega) (by omega)
    have p3 := near_mul (x := z) (a := a) (by omega) (by omega)
    have p4 := near_mul (x := x) (a := c) (by omega) (by omega)
    have p5 := near_mul (x := x) (a := b) (by omega) (by omega)
    have p6 := near_mul (x := y) (a := a) (by omega) (by omega)
    dsimp only
    omega
  · dsimp only; omega
theorem vvol_of (x y z a b c d e f : Int) : vvol x y z a b c d e f = if vnear x y z = true then x * (vcr a b c d e f).1 + y * (vcr a b c d e f).2.1 + z * (vcr a b c d e f).2.2 else 0 := by
  unfold vvol vcr
  by_cases h : vnear x y z = true
  · by_cases h2 : vnear a b c = true ∧ vnear d e f = true
    · rw [if_pos ⟨h, h2.1, h2.2⟩, if_pos h, if_pos h2]
    · rw [if_neg (fun g => h2 ⟨g.2.1, g.2.2⟩), if_pos h, if_neg h2]
      simp
  · rw [if_neg (fun g => h g.1), if_neg h]

set_option maxRecDepth 100000 in
set_option maxHeartbeats 4000000 in
theorem vec_Add (x y z a b c : Int) (w : World) (hx : I64 x) (hy : I64 y) (hz : I64 z) (ha : I64 a) (hb : I64 b) (hc : I64 c) :
    Calls Try.prog 41 #[.agg #[.int .i64 x, .int .i64 y, .int .i64 z], .agg #[.int .i64 a, .int .i64 b, .int .i64 c]] w fun r w' => r = .returned (.agg #[.int .i64 (sat (x + a)), .int .i64 (sat (y + b)), .int .i64 (sat (z + c))]) ∧ Below w.heap.size w w' := by
  have K := Lib.hid (fun w => vec_pair 77 #[] x y z a b c (sat (x + a)) (sat (y + b)) (sat (z + c)) w (enters_of Try.func77 (by kernel_rfl) rfl)
    (fun w' _ => by simpa using below_of_same (fun w => num_Plus x a w hx ha) w')
    (fun w' _ => by simpa using below_of_same (fun w => num_Plus y b w hy hb) w')
    (fun w' _ => by simpa using below_of_same (fun w => num_Plus z c w hz hc) w'))
  clear hx hy hz ha hb hc
  generalize sat (x + a) = r1 at *
  generalize sat (y + b) = r2 at *
  generalize sat (z + c) = r3 at *
  go_enter Try.func41, Try.ntmps41
  go_upto_region 1 with (fail)
  obtain ⟨W1, hW1⟩ : ∃ W, W = ((w.alloc (.cells #[.int .i64 x, .int .i64 y, .int .i64 z] 23)).alloc (.cells #[.int .i64 a, .int .i64 b, .int .i64 c] 23)).alloc (.cells #[.int .i64 0, .int .i64 0, .int .i64 0] 23) := ⟨_, rfl⟩
  obtain ⟨k_v, k_u, k_r, B1⟩ := st3 hW1
  rw [← hW1]
  clear hW1
  have l_u : w.heap.size < w.heap.size + 1 := by omega
  have l_r : w.heap.size + 1 < w.heap.size + 1 + 1 := by omega
  generalize w.heap.size + 1 + 1 = g_r at *
  generalize w.heap.size + 1 = g_u at *
  obtain ⟨c_v_0, c_v_1, c_v_2⟩ := bwc3 (k_v)
  obtain ⟨c_u_0, c_u_1, c_u_2⟩ := bwc3 (k_u)
  obtain ⟨c_r_0, c_r_1, c_r_2⟩ := bwc3 (k_r)
  obtain ⟨f_r_0, f_r_1, f_r_2⟩ := bwf3 (k_r)
  obtain ⟨p1, hp1⟩ : ∃ p : BW W1, p.w = W1 := ⟨BW.start W1, rfl⟩
  rw [← hp1]
  clear hp1
  go_wp2_with (first
    | (go_at_call 76; (first | (with_reducible refine (bw_call K.out _).mono ?_)); rintro e w' ⟨rfl, q, rfl⟩))
  have kr := bkp3 (k_r.below q.h) (.int .i64 r1) (.int .i64 r2) (.int .i64 r3)
  obtain ⟨rc0, rc1, rc2⟩ := rwc3 kr
  exact bodyPost_ret (v := .agg #[.int .i64 r1, .int .i64 r2, .int .i64 r3]) (by simp [results, Try.results41, go_sem, rc0, rc1, rc2]) rfl ⟨rfl, blp3 (bw_below B1 q) (by omega)⟩

set_option maxRecDepth 100000 in
set_option maxHeartbeats 4000000 in
theorem vec_Sub (x y z a b c : Int) (w : World) (hx : I64 x) (hy : I64 y) (hz : I64 z) (ha : I64 a) (hb : I64 b) (hc : I64 c) :
    Calls Try.prog 29 #[.agg #[.int .i64 x, .int .i64 y, .int .i64 z], .agg #[.int .i64 a, .int .i64 b, .int .i64 c]] w fun r w' => r = .returned (.agg #[.int .i64 (vsub x a), .int .i64 (vsub y b), .int .i64 (vsub z c)]) ∧ Below w.heap.size w w' := by
  have K := Lib.hid (fun w => vec_each 58 #[] a b c (sat (a * -1)) (sat (b * -1)) (sat (c * -1)) w (enters_of Try.func58 (by kernel_rfl) rfl)
    (fun w' _ => by simpa using vec_turned a w' ha)
    (fun w' _ => by simpa using vec_turned b w' hb)
    (fun w' _ => by simpa using vec_turned c w' hc))
  have A := Lib.hid (fun w => vec_Add x y z (sat (a * -1)) (sat (b * -1)) (sat (c * -1)) w hx hy hz (sat_I64 _) (sat_I64 _) (sat_I64 _))
  unfold vsub
  clear hx hy hz ha hb hc
  generalize sat (a * -1) = a' at *
  generalize sat (b * -1) = b' at *
  generalize sat (c * -1) = c' at *
  generalize sat (x + a') = r1 at *
  generalize sat (y + b') = r2 at *
  generalize sat (z + c') = r3 at *
  go_enter Try.func29, Try.ntmps29
  go_upto_region 1 with (fail)
  obtain ⟨W1, hW1⟩ : ∃ W, W = ((w.alloc (.cells #[.int .i64 x, .int .i64 y, .int .i64 z] 23)).alloc (.cells #[.int .i64 a, .int .i64 b, .int .i64 c] 23)).alloc (.cells #[.int .i64 0, .int .i64 0, .int .i64 0] 23) := ⟨_, rfl⟩
  obtain ⟨k_v, k_u, k_r, B1⟩ := st3 hW1
  rw [← hW1]
  clear hW1
  have l_u : w.heap.size < w.heap.size + 1 := by omega
  have l_r : w.heap.size + 1 < w.heap.size + 1 + 1 := by omega
  generalize w.heap.size + 1 + 1 = g_r at *
  generalize w.heap.size + 1 = g_u at *
  obtain ⟨c_v_0, c_v_1, c_v_2⟩ := bwc3 (k_v)
  obtain ⟨c_u_0, c_u_1, c_u_2⟩ := bwc3 (k_u)
  obtain ⟨c_r_0, c_r_1, c_r_2⟩ := bwc3 (k_r)
  obtain ⟨f_r_0, f_r_1, f_r_2⟩ := bwf3 (k_r)
  obtain ⟨p1, hp1⟩ : ∃ p : BW W1, p.w = W1 := ⟨BW.start W1, rfl⟩
  rw [← hp1]
  clear hp1
  refine wp_region_bw_tail 4 (by kernel_rfl) (by kernel_rfl) (by kernel_rfl) ?_
  simp only [List.take_succ_cons, List.take_zero, List.drop_succ_cons, List.drop_zero]
  repeat (go_big_quiet_step (first
    | (go_at_call 51; (first | (with_reducible exact bw_call K.out _)))
    | (go_at_call 41; (first | (with_reducible exact bw_call A.out _)))))
  refine wpQuiet_nil ?_
  intro _ hw'
  obtain ⟨q, rfl⟩ := hw'
  go_wp2
  have kr := bkp3 (k_r.below q.h) (.int .i64 r1) (.int .i64 r2) (.int .i64 r3)
  obtain ⟨rc0, rc1, rc2⟩ := rwc3 kr
  exact bodyPost_ret (v := .agg #[.int .i64 r1, .int .i64 r2, .int .i64 r3]) (by simp [results, Try.results29, go_sem, rc0, rc1, rc2]) rfl ⟨rfl, blp3 (bw_below B1 q) (by omega)⟩

set_option maxRecDepth 100000 in
set_option maxHeartbeats 4000000 in
theorem vec_Dot_no (x y z a b c : Int) (w : World) (h : ¬ (vnear x y z = true ∧ vnear a b c = true)) :
    Calls Try.prog 85 #[.agg #[.int .i64 x, .int .i64 y, .int .i64 z], .agg #[.int .i64 a, .int .i64 b, .int .i64 c]] w fun r w' => r = .returned (.int .i64 0) ∧ Below w.heap.size w w' := by
  have K1 := Lib.hid (fun w => vec_Near x y z w)
  have K2 := Lib.hid (fun w => vec_Near a b c w)
  generalize vnear x y z = n1 at *
  generalize vnear a b c = n2 at *
  cases n1 <;> cases n2
  case true.true => exact absurd ⟨rfl, rfl⟩ h
  all_goals
    clear h
    go_enter Try.func85, Try.ntmps85
    go_upto_region 1 with (fail)
    obtain ⟨W1, hW1⟩ : ∃ W, W = (w.alloc (.cells #[.int .i64 x, .int .i64 y, .int .i64 z] 23)).alloc (.cells #[.int .i64 a, .int .i64 b, .int .i64 c] 23) := ⟨_, rfl⟩
    obtain ⟨k_v, k_u, B1⟩ := st2 hW1
    rw [← hW1]
    clear hW1
    have l_u : w.heap.size < w.heap.size + 1 := by omega
    generalize w.heap.size + 1 = g_u at *
    obtain ⟨c_v_0, c_v_1, c_v_2⟩ := bwc3 (k_v)
    obtain ⟨c_u_0, c_u_1, c_u_2⟩ := bwc3 (k_u)
    obtain ⟨p1, hp1⟩ : ∃ p : BW W1, p.w = W1 := ⟨BW.start W1, rfl⟩
    rw [← hp1]
    clear hp1
    go_wp2_with (first
      | (go_at_call 60; (first | (with_reducible refine (bw_call K1.out _).mono ?_) | (with_reducible refine (bw_call K2.out _).mono ?_)); rintro e w' ⟨rfl, q, rfl⟩))
    go_ret
    exact ⟨rfl, bw_below B1 q⟩

set_option maxRecDepth 100000 in
set_option maxHeartbeats 4000000 in
theorem vec_Dot (x y z a b c : Int) (w : World) :
    Calls Try.prog 85 #[.agg #[.int .i64 x, .int .i64 y, .int .i64 z], .agg #[.int .i64 a, .int .i64 b, .int .i64 c]] w fun r w' => r = .returned (.int .i64 (vdot x y z a b c)) ∧ Below w.heap.size w w' := by
  by_cases h : vnear x y z = true ∧ vnear a b c = true
  · have K1 := Lib.hid (fun w => vec_Near x y z w)
    have K2 := Lib.hid (fun w => vec_Near a b c w)
    unfold vdot
    rw [if_pos h]
    rw [h.1] at K1
    rw [h.2] at K2
    obtain ⟨h1, h2⟩ := h
    rw [vnear_iff] at h1 h2
    have p1 := near_mul (x := x) (a := a) (by omega) (by omega)
    have p2 := near_mul (x := y) (a := b) (by omega) (by omega)
    have p3 := near_mul (x := z) (a := c) (by omega) (by omega)
    have K := Lib.hid (fun w => vec_product x y z a b c _ _ _ w rfl rfl rfl (by omega) (by omega) (by omega))
    generalize x * a + y * b + z * c = r at *
    clear h1 h2 p1 p2 p3
    go_enter Try.func85, Try.ntmps85
    go_upto_region 1 with (fail)
    obtain ⟨W1, hW1⟩ : ∃ W, W = (w.alloc (.cells #[.int .i64 x, .int .i64 y, .int .i64 z] 23)).alloc (.cells #[.int .i64 a, .int .i64 b, .int .i64 c] 23) := ⟨_, rfl⟩
    obtain ⟨k_v, k_u, B1⟩ := st2 hW1
    rw [← hW1]
    clear hW1
    have l_u : w.heap.size < w.heap.size + 1 := by omega
    generalize w.heap.size + 1 = g_u at *
    obtain ⟨c_v_0, c_v_1, c_v_2⟩ := bwc3 (k_v)
    obtain ⟨c_u_0, c_u_1, c_u_2⟩ := bwc3 (k_u)
    obtain ⟨p1, hp1⟩ : ∃ p : BW W1, p.w = W1 := ⟨BW.start W1, rfl⟩
    rw [← hp1]
    clear hp1
    go_wp2_with (first
      | (go_at_call 60; (first | (with_reducible refine (bw_call K1.out _).mono ?_) | (with_reducible refine (bw_call K2.out _).mono ?_)); rintro e w' ⟨rfl, q, rfl⟩)
      | (go_at_call 61; (first | (with_reducible refine (bw_call K.out _).mono ?_)); rintro e w' ⟨rfl, q, rfl⟩))
    go_ret
    exact ⟨rfl, bw_below B1 q⟩
  · have e : vdot x y z a b c = 0 := by unfold vdot; rw [if_neg h]
    rw [e]
    exact vec_Dot_no x y z a b c w h

set_option maxRecDepth 100000 in
set_option maxHeartbeats 4000000 in
theorem vec_Cross_no (x y z a b c : Int) (w : World) (h : ¬ (vnear x y z = true ∧ vnear a b c = true)) :
    Calls Try.prog 53 #[.agg #[.int .i64 x, .int .i64 y, .int .i64 z], .agg #[.int .i64 a, .int .i64 b, .int .i64 c]] w fun r w' => r = .returned (.agg #[.int .i64 0, .int .i64 0, .int .i64 0]) ∧ Below w.heap.size w w' := by
  have K1 := Lib.hid (fun w => vec_Near x y z w)
  have K2 := Lib.hid (fun w => vec_Near a b c w)
  generalize vnear x y z = n1 at *
  generalize vnear a b c = n2 at *
  cases n1 <;> cases n2
  case true.true => exact absurd ⟨rfl, rfl⟩ h
  all_goals
    clear h
    go_enter Try.func53, Try.ntmps53
    go_upto_region 1 with (fail)
    obtain ⟨W1, hW1⟩ : ∃ W, W = ((w.alloc (.cells #[.int .i64 x, .int .i64 y, .int .i64 z] 23)).alloc (.cells #[.int .i64 a, .int .i64 b, .int .i64 c] 23)).alloc (.cells #[.int .i64 0, .int .i64 0, .int .i64 0] 23) := ⟨_, rfl⟩
    obtain ⟨k_v, k_u, k_r, B1⟩ := st3 hW1
    rw [← hW1]
    clear hW1
    have l_u : w.heap.size < w.heap.size + 1 := by omega
    have l_r : w.heap.size + 1 < w.heap.size + 1 + 1 := by omega
    generalize w.heap.size + 1 + 1 = g_r at *
    generalize w.heap.size + 1 = g_u at *
    obtain ⟨c_v_0, c_v_1, c_v_2⟩ := bwc3 (k_v)
    obtain ⟨c_u_0, c_u_1, c_u_2⟩ := bwc3 (k_u)
    obtain ⟨c_r_0, c_r_1, c_r_2⟩ := bwc3 (k_r)
    obtain ⟨f_r_0, f_r_1, f_r_2⟩ := bwf3 (k_r)
    obtain ⟨p1, hp1⟩ : ∃ p : BW W1, p.w = W1 := ⟨BW.start W1, rfl⟩
    rw [← hp1]
    clear hp1
    go_wp2_with (first
      | (go_at_call 60; (first | (with_reducible refine (bw_call K1.out _).mono ?_) | (with_reducible refine (bw_call K2.out _).mono ?_)); rintro e w' ⟨rfl, q, rfl⟩))
    have kr := bkp3 (k_r.below q.h) (.int .i64 0) (.int .i64 0) (.int .i64 0)
    obtain ⟨rc0, rc1, rc2⟩ := rwc3 kr
    exact bodyPost_ret (v := .agg #[.int .i64 0, .int .i64 0, .int .i64 0]) (by simp [results, Try.results53, go_sem, rc0, rc1, rc2]) rfl ⟨rfl, blp3 (bw_below B1 q) (by omega)⟩

set_option maxRecDepth 100000 in
set_option maxHeartbeats 4000000 in
theorem vec_Cross (x y z a b c : Int) (w : World) :
    Calls Try.prog 53 #[.agg #[.int .i64 x, .int .i64 y, .int .i64 z], .agg #[.int .i64 a, .int .i64 b, .int .i64 c]] w fun r w' => r = .returned (.agg #[.int .i64 (vcr x y z a b c).1, .int .i64 (vcr x y z a b c).2.1, .int .i64 (vcr x y z a b c).2.2]) ∧ Below w.heap.size w w' := by
  by_cases h : vnear x y z = true ∧ vnear a b c = true
  · have K1 := Lib.hid (fun w => vec_Near x y z w)
    have K2 := Lib.hid (fun w => vec_Near a b c w)
    unfold vcr
    rw [if_pos h]
    dsimp only
    rw [h.1] at K1
    rw [h.2] at K2
    obtain ⟨h1, h2⟩ := h
    rw [vnear_iff] at h1 h2
    obtain ⟨p1, q1, r1, hr1, _, _, ⟨e11, e12, e13, w11, w12, w13, v11, v12, v13⟩⟩ := DifIn.make (x := y) (a := c) (y := z) (b := b) (by omega) (by omega) (by omega) (by omega)
    obtain ⟨p2, q2, r2, hr2, _, _, ⟨e21, e22, e23, w21, w22, w23, v21, v22, v23⟩⟩ := DifIn.make (x := z) (a := a) (y := x) (b := c) (by omega) (by omega) (by omega) (by omega)
    obtain ⟨p3, q3, r3, hr3, _, _, ⟨e31, e32, e33, w31, w32, w33, v31, v32, v33⟩⟩ := DifIn.make (x := x) (a := b) (y := y) (b := a) (by omega) (by omega) (by omega) (by omega)
    rw [← hr1, ← hr2, ← hr3]
    clear hr1 hr2 hr3 h1 h2
    go_enter Try.func53, Try.ntmps53
    go_upto_region 1 with (fail)
    obtain ⟨W1, hW1⟩ : ∃ W, W = ((w.alloc (.cells #[.int .i64 x, .int .i64 y, .int .i64 z] 23)).alloc (.cells #[.int .i64 a, .int .i64 b, .int .i64 c] 23)).alloc (.cells #[.int .i64 0, .int .i64 0, .int .i64 0] 23) := ⟨_, rfl⟩
    obtain ⟨k_v, k_u, k_r, B1⟩ := st3 hW1
    rw [← hW1]
    clear hW1
    have l_u : w.heap.size < w.heap.size + 1 := by omega
    have l_r : w.heap.size + 1 < w.heap.size + 1 + 1 := by omega
    generalize w.heap.size + 1 + 1 = g_r at *
    generalize w.heap.size + 1 = g_u at *
    obtain ⟨c_v_0, c_v_1, c_v_2⟩ := bwc3 (k_v)
    obtain ⟨c_u_0, c_u_1, c_u_2⟩ := bwc3 (k_u)
    obtain ⟨c_r_0, c_r_1, c_r_2⟩ := bwc3 (k_r)
    obtain ⟨f_r_0, f_r_1, f_r_2⟩ := bwf3 (k_r)
    obtain ⟨p1, hp1⟩ : ∃ p : BW W1, p.w = W1 := ⟨BW.start W1, rfl⟩
    rw [← hp1]
    clear hp1
    go_wp2_with (first
      | (go_at_call 60; (first | (with_reducible refine (bw_call K1.out _).mono ?_) | (with_reducible refine (bw_call K2.out _).mono ?_)); rintro e w' ⟨rfl, q, rfl⟩))
    have kr := bkp3 (k_r.below q.h) (.int .i64 r1) (.int .i64 r2) (.int .i64 r3)
    obtain ⟨rc0, rc1, rc2⟩ := rwc3 kr
    exact bodyPost_ret (v := .agg #[.int .i64 r1, .int .i64 r2, .int .i64 r3]) (by simp [results, Try.results53, go_sem, rc0, rc1, rc2]) rfl ⟨rfl, blp3 (bw_below B1 q) (by omega)⟩
  · have e : vcr x y z a b c = (0, 0, 0) := by unfold vcr; rw [if_neg h]
    rw [e]
    exact vec_Cross_no x y z a b c w h

set_option maxRecDepth 100000 in
set_option maxHeartbeats 4000000 in
theorem vec_Volume (x y z a b c d e f : Int) (w : World) :
    Calls Try.prog 31 #[.agg #[.int .i64 x, .int .i64 y, .int .i64 z], .agg #[.int .i64 a, .int .i64 b, .int .i64 c], .agg #[.int .i64 d, .int .i64 e, .int .i64 f]] w fun r w' => r = .returned (.int .i64 (vvol x y z a b c d e f)) ∧ Below w.heap.size w w' := by
  by_cases h : vnear x y z = true
  · have K1 := Lib.hid (fun w => vec_Near x y z w)
    rw [h] at K1
    rw [vvol_of, if_pos h]
    have C := Lib.hid (fun w => vec_Cross a b c d e f w)
    have s := vcr_small a b c d e f
    generalize vcr a b c d e f = u at *
    obtain ⟨u1, u2, u3⟩ := u
    dsimp only at *
    rw [vnear_iff] at h
    have p1 := near_mul3 (x := x) (a := u1) (by omega) (by omega)
    have p2 := near_mul3 (x := y) (a := u2) (by omega) (by omega)
    have p3 := near_mul3 (x := z) (a := u3) (by omega) (by omega)
    have K := Lib.hid (fun w => vec_product x y z u1 u2 u3 _ _ _ w rfl rfl rfl (by omega) (by omega) (by omega))
    generalize x * u1 + y * u2 + z * u3 = r at *
    clear h s p1 p2 p3
    go_enter Try.func31, Try.ntmps31
    go_upto_region 1 with (fail)
    obtain ⟨W1, hW1⟩ : ∃ W, W = ((w.alloc (.cells #[.int .i64 x, .int .i64 y, .int .i64 z] 23)).alloc (.cells #[.int .i64 a, .int .i64 b, .int .i64 c] 23)).alloc (.cells #[.int .i64 d, .int .i64 e, .int .i64 f] 23) := ⟨_, rfl⟩
    obtain ⟨k_v, k_u, k_t, B1⟩ := st3 hW1
    rw [← hW1]
    clear hW1
    have l_u : w.heap.size < w.heap.size + 1 := by omega
    have l_t : w.heap.size + 1 < w.heap.size + 1 + 1 := by omega
    generalize w.heap.size + 1 + 1 = g_t at *
    generalize w.heap.size + 1 = g_u at *
    obtain ⟨c_v_0, c_v_1, c_v_2⟩ := bwc3 (k_v)
    obtain ⟨c_u_0, c_u_1, c_u_2⟩ := bwc3 (k_u)
    obtain ⟨c_t_0, c_t_1, c_t_2⟩ := bwc3 (k_t)
    obtain ⟨p1, hp1⟩ : ∃ p : BW W1, p.w = W1 := ⟨BW.start W1, rfl⟩
    rw [← hp1]
    clear hp1
    go_upto_region 3 with (first
      | (go_at_call 60; (first | (with_reducible refine (bw_call K1.out _).mono ?_)); rintro e w' ⟨rfl, q, rfl⟩))
    refine wp_region_bw (by kernel_rfl) (by kernel_rfl) ?_
    repeat (go_big_quiet_step (first
      | (go_at_call 53; (first | (with_reducible exact bw_call C.out _)))
      | (go_at_call 61; (first | (with_reducible exact bw_call K.out _)))))
    refine wpQuiet_nil ?_
    intro _ hw'
    obtain ⟨q, rfl⟩ := hw'
    go_wp2
    go_ret
    exact ⟨rfl, bw_below B1 q⟩
  · have K1 := Lib.hid (fun w => vec_Near x y z w)
    rw [vvol_of, if_neg h]
    rw [Bool.not_eq_true] at h
    rw [h] at K1
    clear h
    go_enter Try.func31, Try.ntmps31
    go_upto_region 1 with (fail)
    obtain ⟨W1, hW1⟩ : ∃ W, W = ((w.alloc (.cells #[.int .i64 x, .int .i64 y, .int .i64 z] 23)).alloc (.cells #[.int .i64 a, .int .i64 b, .int .i64 c] 23)).alloc (.cells #[.int .i64 d, .int .i64 e, .int .i64 f] 23) := ⟨_, rfl⟩
    obtain ⟨k_v, k_u, k_t, B1⟩ := st3 hW1
    rw [← hW1]
    clear hW1
    have l_u : w.heap.size < w.heap.size + 1 := by omega
    have l_t : w.heap.size + 1 < w.heap.size + 1 + 1 := by omega
    generalize w.heap.size + 1 + 1 = g_t at *
    generalize w.heap.size + 1 = g_u at *
    obtain ⟨c_v_0, c_v_1, c_v_2⟩ := bwc3 (k_v)
    obtain ⟨c_u_0, c_u_1, c_u_2⟩ := bwc3 (k_u)
    obtain ⟨c_t_0, c_t_1, c_t_2⟩ := bwc3 (k_t)
    obtain ⟨p1, hp1⟩ : ∃ p : BW W1, p.w = W1 := ⟨BW.start W1, rfl⟩
    rw [← hp1]
    clear hp1
    go_wp2_with (first
      | (go_at_call 60; (first | (with_reducible refine (bw_call K1.out _).mono ?_)); rintro e w' ⟨rfl, q, rfl⟩))
    go_ret
    exact ⟨rfl, bw_below B1 q⟩

theorem vec_Len (x y z : Int) (w : World) :
    Calls Try.prog 50 #[.agg #[.int .i64 x, .int .i64 y, .int .i64 z]] w fun r w' => r = .returned (.int .i64 (vlen x y z)) ∧ Below w.heap.size w w' := by
  have D := Lib.hid (fun w => vec_Dot x y z x y z w)
  have hd := vdot_small x y z
  unfold vlen
  obtain ⟨n, hn⟩ := Int.eq_ofNat_of_zero_le hd.1
  rw [hn] at D hd ⊢
  have e1 : IntKind.u64.wrap (n : Int) = (n : Int) := by rw [u64w]; omega
  have R := Lib.hid (fun w => num_Root n w (by omega))
  rw [Int.toNat_natCast]
  generalize isq n = r at *
  clear hd hn
  go_enter Try.func50, Try.ntmps50
  go_upto_region 1 with (fail)
  obtain ⟨W1, hW1⟩ : ∃ W, W = w.alloc (.cells #[.int .i64 x, .int .i64 y, .int .i64 z] 23) := ⟨_, rfl⟩
  obtain ⟨k_v, B1⟩ := st1 hW1
  rw [← hW1]
  clear hW1
  obtain ⟨c_v_0, c_v_1, c_v_2⟩ := bwc3 (k_v)
  obtain ⟨p1, hp1⟩ : ∃ p : BW W1, p.w = W1 := ⟨BW.start W1, rfl⟩
  rw [← hp1]
  clear hp1
  go_wp2_with (first
    | (go_at_call 85; (with_reducible refine (bw_call D.out _).mono ?_); rintro e w' ⟨rfl, q, rfl⟩)
    | (go_at_call 67; (with_reducible refine (R.out _).mono ?_); rintro e w2 ⟨rfl, rfl⟩))
  go_ret
  exact ⟨rfl, bw_below B1 q⟩

set_option maxRecDepth 100000 in
set_option maxHeartbeats 4000000 in
theorem vec_Scale (x y z n d : Int) (w : World) (hx : I64 x) (hy : I64 y) (hz : I64 z) (hn : I64 n) (hd : I64 d) :
    Calls Try.prog 43 #[.agg #[.int .i64 x, .int .i64 y, .int .i64 z], .agg #[.int .i64 n, .int .i64 d]] w fun r w' => r = .returned (.agg #[.int .i64 (fat x n d), .int .i64 (fat y n d), .int .i64 (fat z n d)]) ∧ Below w.heap.size w w' := by
  obtain ⟨r1, hr1⟩ : ∃ t, t = fat x n d := ⟨_, rfl⟩
  obtain ⟨r2, hr2⟩ : ∃ t, t = fat y n d := ⟨_, rfl⟩
  obtain ⟨r3, hr3⟩ : ∃ t, t = fat z n d := ⟨_, rfl⟩
  rw [← hr1, ← hr2, ← hr3]
  go_enter Try.func43, Try.ntmps43
  go_upto_region 1 with (fail)
  obtain ⟨W1, hW1⟩ : ∃ W, W = ((w.alloc (.cells #[.int .i64 x, .int .i64 y, .int .i64 z] 23)).alloc (.cells #[.int .i64 n, .int .i64 d] 29)).alloc (.cells #[.int .i64 0, .int .i64 0, .int .i64 0] 23) := ⟨_, rfl⟩
  obtain ⟨k_v, k_f, k_r, B1⟩ := st3 hW1
  rw [← hW1]
  clear hW1
  have l_f : w.heap.size < w.heap.size + 1 := by omega
  have l_r : w.heap.size + 1 < w.heap.size + 1 + 1 := by omega
  generalize w.heap.size + 1 + 1 = g_r at *
  generalize w.heap.size + 1 = g_f at *
  obtain ⟨c_v_0, c_v_1, c_v_2⟩ := bwc3 (k_v)
  obtain ⟨c_f_0, c_f_1⟩ := bwc2 (k_f)
  obtain ⟨c_r_0, c_r_1, c_r_2⟩ := bwc3 (k_r)
  obtain ⟨f_r_0, f_r_1, f_r_2⟩ := bwf3 (k_r)
  obtain ⟨p1, hp1⟩ : ∃ p : BW W1, p.w = W1 := ⟨BW.start W1, rfl⟩
  rw [← hp1]
  clear hp1
  have hmf : ∀ (fn : Fn) (first cap : Array Value) (w : World), (Instr.makeFunc fn first cap).run Try.prog w = .ok (.func fn first cap) w := fun _ _ _ _ => rfl
  have KX : ∀ p : BW W1, Calls Try.prog 51 #[.agg #[.int .i64 x, .int .i64 y, .int .i64 z], .func (.func 78) #[] #[.pointer (some ⟨g_f, 0, none⟩)]] p.w fun e w' => e = .returned (.agg #[.int .i64 r1, .int .i64 r2, .int .i64 r3]) ∧ ∃ q : BW W1, w' = q.w :=
    fun p => (vec_each 78 #[.pointer (some ⟨g_f, 0, none⟩)] x y z r1 r2 r3 p.w (enters_of Try.func78 (by kernel_rfl) rfl)
      (fun w' hb => by rw [hr1]; simpa using vec_taken x n d g_f w' (c_f_0 (p.next w' hb)) (c_f_1 (p.next w' hb)) hx hn hd)
      (fun w' hb => by rw [hr2]; simpa using vec_taken y n d g_f w' (c_f_0 (p.next w' hb)) (c_f_1 (p.next w' hb)) hy hn hd)
      (fun w' hb => by rw [hr3]; simpa using vec_taken z n d g_f w' (c_f_0 (p.next w' hb)) (c_f_1 (p.next w' hb)) hz hn hd)).mono fun e w' ⟨he, hb⟩ => ⟨he, p.next w' hb, rfl⟩
  clear hx hy hz hn hd hr1 hr2 hr3
  go_wp2_with (go_at_call 51; (with_reducible refine (KX _).mono ?_); rintro e w' ⟨rfl, q, rfl⟩)
  have kr := bkp3 (k_r.below q.h) (.int .i64 r1) (.int .i64 r2) (.int .i64 r3)
  obtain ⟨rc0, rc1, rc2⟩ := rwc3 kr
  exact bodyPost_ret (v := .agg #[.int .i64 r1, .int .i64 r2, .int .i64 r3]) (by simp [results, Try.results43, go_sem, rc0, rc1, rc2]) rfl ⟨rfl, blp3 (bw_below B1 q) (by omega)⟩

set_option maxRecDepth 100000 in
set_option maxHeartbeats 4000000 in
theorem vec_Unit_yes_x (x y z : Int) (w : World) (h : vuOk x y z = true) (hd : ¬ x = 0) :
    Calls Try.prog 24 #[.agg #[.int .i64 x, .int .i64 y, .int .i64 z]] w fun r w' => r = .returned (.tuple #[.agg #[.int .i64 (vun (evn x y z)).1, .int .i64 (vun (evn x y z)).2.1, .int .i64 (vun (evn x y z)).2.2], .bool true]) ∧ Below w.heap.size w w' := by
  have h' := vuOk_iff.1 h
  have K1 := Lib.hid (fun w => vec_within 4611686018427387904 x y z w (by omega))
  rw [h'.1] at K1
  have E := Lib.hid (fun w => vec_normalize x y z w h')
  obtain ⟨s1, s2⟩ := evn_spec h'
  obtain ⟨L, hL, l1, l2, _, _⟩ := even_len s1 s2
  have N := Lib.hid (fun w => vec_Len (evn x y z).1 (evn x y z).2.1 (evn x y z).2.2 w)
  rw [hL] at N
  unfold vun
  rw [hL]
  rw [wi_iff] at s2
  generalize evn x y z = e at *
  obtain ⟨a, b, c⟩ := e
  dsimp only at *
  obtain ⟨r1, hr1⟩ : ∃ t, t = (a * 16384).tdiv (L : Int) := ⟨_, rfl⟩
  obtain ⟨r2, hr2⟩ : ∃ t, t = (b * 16384).tdiv (L : Int) := ⟨_, rfl⟩
  obtain ⟨r3, hr3⟩ : ∃ t, t = (c * 16384).tdiv (L : Int) := ⟨_, rfl⟩
  rw [← hr1, ← hr2, ← hr3]
  have hl : 1 ≤ (L : Int) ∧ (L : Int) ≤ 9223372036854775807 := by omega
  have q1 : -1048576 ≤ a ∧ a ≤ 1048576 := by omega
  have q2 : -1048576 ≤ b ∧ b ≤ 1048576 := by omega
  have q3 : -1048576 ≤ c ∧ c ≤ 1048576 := by omega
  generalize (L : Int) = l at *
  have HR := Lib.hid (And.intro hr1 (And.intro hr2 hr3))
  have HQ := Lib.hid (And.intro q1 (And.intro q2 (And.intro q3 hl)))
  clear h h' s1 s2 hL l1 l2 hr1 hr2 hr3 q1 q2 q3 hl
  go_enter Try.func24, Try.ntmps24
  go_upto_region 1 with (fail)
  obtain ⟨W1, hW1⟩ : ∃ W, W = (w.alloc (.cells #[.int .i64 x, .int .i64 y, .int .i64 z] 23)).alloc (.cells #[.int .i64 0, .int .i64 0, .int .i64 0] 23) := ⟨_, rfl⟩
  obtain ⟨k_v, k_r, B1⟩ := st2 hW1
  rw [← hW1]
  clear hW1
  have l_r : w.heap.size < w.heap.size + 1 := by omega
  generalize w.heap.size + 1 = g_r at *
  obtain ⟨c_v_0, c_v_1, c_v_2⟩ := bwc3 (k_v)
  obtain ⟨f_v_0, f_v_1, f_v_2⟩ := bwf3 (k_v)
  obtain ⟨c_r_0, c_r_1, c_r_2⟩ := bwc3 (k_r)
  obtain ⟨f_r_0, f_r_1, f_r_2⟩ := bwf3 (k_r)
  obtain ⟨p1, hp1⟩ : ∃ p : BW W1, p.w = W1 := ⟨BW.start W1, rfl⟩
  rw [← hp1]
  clear hp1
  go_upto_region 3 with (first
    | (go_at_call 48; (first | (with_reducible refine (bw_call K1.out _).mono ?_)); rintro e w' ⟨rfl, q, rfl⟩))
  go_upto_region 4 with (first
    | (go_at_call 49; (first | (with_reducible refine (bw_call E.out _).mono ?_)); rintro e w' ⟨rfl, q, rfl⟩))
  obtain ⟨W2, hW2⟩ : ∃ W, W = ((q.w.setCell ⟨w.heap.size, 0, none⟩ (.int .i64 a)).setCell ⟨w.heap.size, 1, none⟩ (.int .i64 b)).setCell ⟨w.heap.size, 2, none⟩ (.int .i64 c) := ⟨_, rfl⟩
  have B2 : Below w.heap.size w W2 := by rw [hW2]; exact blp3 (bw_below B1 q) (by omega)
  have k_v := bkpe3 hW2 (k_v.below q.h)
  have k_r := bkoe3 hW2 (k_r.below q.h) (by omega)
  rw [← hW2]
  clear hW2
  clear B1
  clear c_v_0 c_v_1 c_v_2 f_v_0 f_v_1 f_v_2 c_r_0 c_r_1 c_r_2 f_r_0 f_r_1 f_r_2
  obtain ⟨c_v_0, c_v_1, c_v_2⟩ := bwc3 (k_v)
  obtain ⟨c_r_0, c_r_1, c_r_2⟩ := bwc3 (k_r)
  obtain ⟨f_r_0, f_r_1, f_r_2⟩ := bwf3 (k_r)
  obtain ⟨p2, hp2⟩ : ∃ p : BW W2, p.w = W2 := ⟨BW.start W2, rfl⟩
  rw [← hp2]
  clear hp2
  go_upto_region 5 with (first
    | (go_at_call 50; (first | (with_reducible refine (bw_call N.out _).mono ?_)); rintro e w' ⟨rfl, q, rfl⟩))
  obtain ⟨W3, hW3⟩ : ∃ W, W = q.w.alloc (.cells #[.int .i64 l] 3) := ⟨_, rfl⟩
  have B3 : Below w.heap.size w W3 := by rw [hW3]; exact (bw_below B2 q).alloc (bw_below B2 q).size _
  have l_n : g_r < q.w.heap.size := (k_r.below q.h).lt
  have o_n : w.heap.size ≤ q.w.heap.size := (bw_below B2 q).size
  have k_v := bka hW3 (k_v.below q.h)
  have k_r := bka hW3 (k_r.below q.h)
  have k_n := bkn hW3
  rw [← hW3]
  clear hW3
  clear B2
  clear c_v_0 c_v_1 c_v_2 c_r_0 c_r_1 c_r_2 f_r_0 f_r_1 f_r_2
  generalize q.w.heap.size = g_n at *
  obtain ⟨c_v_0, c_v_1, c_v_2⟩ := bwc3 (k_v)
  obtain ⟨c_r_0, c_r_1, c_r_2⟩ := bwc3 (k_r)
  obtain ⟨f_r_0, f_r_1, f_r_2⟩ := bwf3 (k_r)
  have c_n_0 := bwc1 (k_n)
  obtain ⟨p3, hp3⟩ : ∃ p : BW W3, p.w = W3 := ⟨BW.start W3, rfl⟩
  rw [← hp3]
  clear hp3
  have hmf : ∀ (fn : Fn) (first cap : Array Value) (w : World), (Instr.makeFunc fn first cap).run Try.prog w = .ok (.func fn first cap) w := fun _ _ _ _ => rfl
  have KX : ∀ p : BW W3, Calls Try.prog 51 #[.agg #[.int .i64 a, .int .i64 b, .int .i64 c], .func (.func 52) #[] #[.pointer (some ⟨g_n, 0, none⟩)]] p.w fun e w' => e = .returned (.agg #[.int .i64 r1, .int .i64 r2, .int .i64 r3]) ∧ ∃ q : BW W3, w' = q.w :=
    fun p => (vec_each 52 #[.pointer (some ⟨g_n, 0, none⟩)] a b c r1 r2 r3 p.w (enters_of Try.func52 (by kernel_rfl) rfl)
      (fun w' hb => by simpa using vec_parted a l r1 g_n w' (c_n_0 (p.next w' hb)) HQ.out.1 HQ.out.2.2.2 HR.out.1.symm)
      (fun w' hb => by simpa using vec_parted b l r2 g_n w' (c_n_0 (p.next w' hb)) HQ.out.2.1 HQ.out.2.2.2 HR.out.2.1.symm)
      (fun w' hb => by simpa using vec_parted c l r3 g_n w' (c_n_0 (p.next w' hb)) HQ.out.2.2.1 HQ.out.2.2.2 HR.out.2.2.symm)).mono fun e w' ⟨he, hb⟩ => ⟨he, p.next w' hb, rfl⟩
  go_wp2_with (go_at_call 51; (with_reducible refine (KX _).mono ?_); rintro e w' ⟨rfl, q, rfl⟩)
  have kr := bkp3 (k_r.below q.h) (.int .i64 r1) (.int .i64 r2) (.int .i64 r3)
  obtain ⟨rc0, rc1, rc2⟩ := rwc3 kr
  exact bodyPost_ret (v := .tuple #[.agg #[.int .i64 r1, .int .i64 r2, .int .i64 r3], .bool true]) (by simp [results, Try.results24, go_sem, rc0, rc1, rc2]) rfl ⟨rfl, blp3 (bw_below B3 q) (by omega)⟩

set_option maxRecDepth 100000 in
set_option maxHeartbeats 4000000 in
theorem vec_Unit_yes_y (y z : Int) (w : World) (h : vuOk 0 y z = true) (hd : ¬ y = 0) :
    Calls Try.prog 24 #[.agg #[.int .i64 0, .int .i64 y, .int .i64 z]] w fun r w' => r = .returned (.tuple #[.agg #[.int .i64 (vun (evn 0 y z)).1, .int .i64 (vun (evn 0 y z)).2.1, .int .i64 (vun (evn 0 y z)).2.2], .bool true]) ∧ Below w.heap.size w w' := by
  have h' := vuOk_iff.1 h
  have K1 := Lib.hid (fun w => vec_within 4611686018427387904 0 y z w (by omega))
  rw [h'.1] at K1
  have E := Lib.hid (fun w => vec_normalize 0 y z w h')
  obtain ⟨s1, s2⟩ := evn_spec h'
  obtain ⟨L, hL, l1, l2, _, _⟩ := even_len s1 s2
  have N := Lib.hid (fun w => vec_Len (evn 0 y z).1 (evn 0 y z).2.1 (evn 0 y z).2.2 w)
  rw [hL] at N
  unfold vun
  rw [hL]
  rw [wi_iff] at s2
  generalize evn 0 y z = e at *
  obtain ⟨a, b, c⟩ := e
  dsimp only at *
  obtain ⟨r1, hr1⟩ : ∃ t, t = (a * 16384).tdiv (L : Int) := ⟨_, rfl⟩
  obtain ⟨r2, hr2⟩ : ∃ t, t = (b * 16384).tdiv (L : Int) := ⟨_, rfl⟩
  obtain ⟨r3, hr3⟩ : ∃ t, t = (c * 16384).tdiv (L : Int) := ⟨_, rfl⟩
  rw [← hr1, ← hr2, ← hr3]
  have hl : 1 ≤ (L : Int) ∧ (L : Int) ≤ 9223372036854775807 := by omega
  have q1 : -1048576 ≤ a ∧ a ≤ 1048576 := by omega
  have q2 : -1048576 ≤ b ∧ b ≤ 1048576 := by omega
  have q3 : -1048576 ≤ c ∧ c ≤ 1048576 := by omega
  generalize (L : Int) = l at *
  have HR := Lib.hid (And.intro hr1 (And.intro hr2 hr3))
  have HQ := Lib.hid (And.intro q1 (And.intro q2 (And.intro q3 hl)))
  clear h h' s1 s2 hL l1 l2 hr1 hr2 hr3 q1 q2 q3 hl
  go_enter Try.func24, Try.ntmps24
  go_upto_region 1 with (fail)
  obtain ⟨W1, hW1⟩ : ∃ W, W = (w.alloc (.cells #[.int .i64 0, .int .i64 y, .int .i64 z] 23)).alloc (.cells #[.int .i64 0, .int .i64 0, .int .i64 0] 23) := ⟨_, rfl⟩
  obtain ⟨k_v, k_r, B1⟩ := st2 hW1
  rw [← hW1]
  clear hW1
  have l_r : w.heap.size < w.heap.size + 1 := by omega
  generalize w.heap.size + 1 = g_r at *
  obtain ⟨c_v_0, c_v_1, c_v_2⟩ := bwc3 (k_v)
  obtain ⟨f_v_0, f_v_1, f_v_2⟩ := bwf3 (k_v)
  obtain ⟨c_r_0, c_r_1, c_r_2⟩ := bwc3 (k_r)
  obtain ⟨f_r_0, f_r_1, f_r_2⟩ := bwf3 (k_r)
  obtain ⟨p1, hp1⟩ : ∃ p : BW W1, p.w = W1 := ⟨BW.start W1, rfl⟩
  rw [← hp1]
  clear hp1
  go_upto_region 3 with (first
    | (go_at_call 48; (first | (with_reducible refine (bw_call K1.out _).mono ?_)); rintro e w' ⟨rfl, q, rfl⟩))
  go_upto_region 4 with (first
    | (go_at_call 49; (first | (with_reducible refine (bw_call E.out _).mono ?_)); rintro e w' ⟨rfl, q, rfl⟩))
  obtain ⟨W2, hW2⟩ : ∃ W, W = ((q.w.setCell ⟨w.heap.size, 0, none⟩ (.int .i64 a)).setCell ⟨w.heap.size, 1, none⟩ (.int .i64 b)).setCell ⟨w.heap.size, 2, none⟩ (.int .i64 c) := ⟨_, rfl⟩
  have B2 : Below w.heap.size w W2 := by rw [hW2]; exact blp3 (bw_below B1 q) (by omega)
  have k_v := bkpe3 hW2 (k_v.below q.h)
  have k_r := bkoe3 hW2 (k_r.below q.h) (by omega)
  rw [← hW2]
  clear hW2
  clear B1
  clear c_v_0 c_v_1 c_v_2 f_v_0 f_v_1 f_v_2 c_r_0 c_r_1 c_r_2 f_r_0 f_r_1 f_r_2
  obtain ⟨c_v_0, c_v_1, c_v_2⟩ := bwc3 (k_v)
  obtain ⟨c_r_0, c_r_1, c_r_2⟩ := bwc3 (k_r)
  obtain ⟨f_r_0, f_r_1, f_r_2⟩ := bwf3 (k_r)
  obtain ⟨p2, hp2⟩ : ∃ p : BW W2, p.w = W2 := ⟨BW.start W2, rfl⟩
  rw [← hp2]
  clear hp2
  go_upto_region 5 with (first
    | (go_at_call 50; (first | (with_reducible refine (bw_call N.out _).mono ?_)); rintro e w' ⟨rfl, q, rfl⟩))
  obtain ⟨W3, hW3⟩ : ∃ W, W = q.w.alloc (.cells #[.int .i64 l] 3) := ⟨_, rfl⟩
  have B3 : Below w.heap.size w W3 := by rw [hW3]; exact (bw_below B2 q).alloc (bw_below B2 q).size _
  have l_n : g_r < q.w.heap.size := (k_r.below q.h).lt
  have o_n : w.heap.size ≤ q.w.heap.size := (bw_below B2 q).size
  have k_v := bka hW3 (k_v.below q.h)
  have k_r := bka hW3 (k_r.below q.h)
  have k_n := bkn hW3
  rw [← hW3]
  clear hW3
  clear B2
  clear c_v_0 c_v_1 c_v_2 c_r_0 c_r_1 c_r_2 f_r_0 f_r_1 f_r_2
  generalize q.w.heap.size = g_n at *
  obtain ⟨c_v_0, c_v_1, c_v_2⟩ := bwc3 (k_v)
  obtain ⟨c_r_0, c_r_1, c_r_2⟩ := bwc3 (k_r)
  obtain ⟨f_r_0, f_r_1, f_r_2⟩ := bwf3 (k_r)
  have c_n_0 := bwc1 (k_n)
  obtain ⟨p3, hp3⟩ : ∃ p : BW W3, p.w = W3 := ⟨BW.start W3, rfl⟩
  rw [← hp3]
  clear hp3
  have hmf : ∀ (fn : Fn) (first cap : Array Value) (w : World), (Instr.makeFunc fn first cap).run Try.prog w = .ok (.func fn first cap) w := fun _ _ _ _ => rfl
  have KX : ∀ p : BW W3, Calls Try.prog 51 #[.agg #[.int .i64 a, .int .i64 b, .int .i64 c], .func (.func 52) #[] #[.pointer (some ⟨g_n, 0, none⟩)]] p.w fun e w' => e = .returned (.agg #[.int .i64 r1, .int .i64 r2, .int .i64 r3]) ∧ ∃ q : BW W3, w' = q.w :=
    fun p => (vec_each 52 #[.pointer (some ⟨g_n, 0, none⟩)] a b c r1 r2 r3 p.w (enters_of Try.func52 (by kernel_rfl) rfl)
      (fun w' hb => by simpa using vec_parted a l r1 g_n w' (c_n_0 (p.next w' hb)) HQ.out.1 HQ.out.2.2.2 HR.out.1.symm)
      (fun w' hb => by simpa using vec_parted b l r2 g_n w' (c_n_0 (p.next w' hb)) HQ.out.2.1 HQ.out.2.2.2 HR.out.2.1.symm)
      (fun w' hb => by simpa using vec_parted c l r3 g_n w' (c_n_0 (p.next w' hb)) HQ.out.2.2.1 HQ.out.2.2.2 HR.out.2.2.symm)).mono fun e w' ⟨he, hb⟩ => ⟨he, p.next w' hb, rfl⟩
  go_wp2_with (go_at_call 51; (with_reducible refine (KX _).mono ?_); rintro e w' ⟨rfl, q, rfl⟩)
  have kr := bkp3 (k_r.below q.h) (.int .i64 r1) (.int .i64 r2) (.int .i64 r3)
  obtain ⟨rc0, rc1, rc2⟩ := rwc3 kr
  exact bodyPost_ret (v := .tuple #[.agg #[.int .i64 r1, .int .i64 r2, .int .i64 r3], .bool true]) (by simp [results, Try.results24, go_sem, rc0, rc1, rc2]) rfl ⟨rfl, blp3 (bw_below B3 q) (by omega)⟩

set_option maxRecDepth 100000 in
set_option maxHeartbeats 4000000 in
theorem vec_Unit_yes_z (z : Int) (w : World) (h : vuOk 0 0 z = true) (hd : ¬ z = 0) :
    Calls Try.prog 24 #[.agg #[.int .i64 0, .int .i64 0, .int .i64 z]] w fun r w' => r = .returned (.tuple #[.agg #[.int .i64 (vun (evn 0 0 z)).1, .int .i64 (vun (evn 0 0 z)).2.1, .int .i64 (vun (evn 0 0 z)).2.2], .bool true]) ∧ Below w.heap.size w w' := by
  have h' := vuOk_iff.1 h
  have K1 := Lib.hid (fun w => vec_within 4611686018427387904 0 0 z w (by omega))
  rw [h'.1] at K1
  have E := Lib.hid (fun w => vec_normalize 0 0 z w h')
  obtain ⟨s1, s2⟩ := evn_spec h'
  obtain ⟨L, hL, l1, l2, _, _⟩ := even_len s1 s2
  have N := Lib.hid (fun w => vec_Len (evn 0 0 z).1 (evn 0 0 z).2.1 (evn 0 0 z).2.2 w)
  rw [hL] at N
  unfold vun
  rw [hL]
  rw [wi_iff] at s2
  generalize evn 0 0 z = e at *
  obtain ⟨a, b, c⟩ := e
  dsimp only at *
  obtain ⟨r1, hr1⟩ : ∃ t, t = (a * 16384).tdiv (L : Int) := ⟨_, rfl⟩
  obtain ⟨r2, hr2⟩ : ∃ t, t = (b * 16384).tdiv (L : Int) := ⟨_, rfl⟩
  obtain ⟨r3, hr3⟩ : ∃ t, t = (c * 16384).tdiv (L : Int) := ⟨_, rfl⟩
  rw [← hr1, ← hr2, ← hr3]
  have hl : 1 ≤ (L : Int) ∧ (L : Int) ≤ 9223372036854775807 := by omega
  have q1 : -1048576 ≤ a ∧ a ≤ 1048576 := by omega
  have q2 : -1048576 ≤ b ∧ b ≤ 1048576 := by omega
  have q3 : -1048576 ≤ c ∧ c ≤ 1048576 := by omega
  generalize (L : Int) = l at *
  have HR := Lib.hid (And.intro hr1 (And.intro hr2 hr3))
  have HQ := Lib.hid (And.intro q1 (And.intro q2 (And.intro q3 hl)))
  clear h h' s1 s2 hL l1 l2 hr1 hr2 hr3 q1 q2 q3 hl
  go_enter Try.func24, Try.ntmps24
  go_upto_region 1 with (fail)
  obtain ⟨W1, hW1⟩ : ∃ W, W = (w.alloc (.cells #[.int .i64 0, .int .i64 0, .int .i64 z] 23)).alloc (.cells #[.int .i64 0, .int .i64 0, .int .i64 0] 23) := ⟨_, rfl⟩
  obtain ⟨k_v, k_r, B1⟩ := st2 hW1
  rw [← hW1]
  clear hW1
  have l_r : w.heap.size < w.heap.size + 1 := by omega
  generalize w.heap.size + 1 = g_r at *
  obtain ⟨c_v_0, c_v_1, c_v_2⟩ := bwc3 (k_v)
  obtain ⟨f_v_0, f_v_1, f_v_2⟩ := bwf3 (k_v)
  obtain ⟨c_r_0, c_r_1, c_r_2⟩ := bwc3 (k_r)
  obtain ⟨f_r_0, f_r_1, f_r_2⟩ := bwf3 (k_r)
  obtain ⟨p1, hp1⟩ : ∃ p : BW W1, p.w = W1 := ⟨BW.start W1, rfl⟩
  rw [← hp1]
  clear hp1
  go_upto_region 3 with (first
    | (go_at_call 48; (first | (with_reducible refine (bw_call K1.out _).mono ?_)); rintro e w' ⟨rfl, q, rfl⟩))
  go_upto_region 4 with (first
    | (go_at_call 49; (first | (with_reducible refine (bw_call E.out _).mono ?_)); rintro e w' ⟨rfl, q, rfl⟩))
  obtain ⟨W2, hW2⟩ : ∃ W, W = ((q.w.setCell ⟨w.heap.size, 0, none⟩ (.int .i64 a)).setCell ⟨w.heap.size, 1, none⟩ (.int .i64 b)).setCell ⟨w.heap.size, 2, none⟩ (.int .i64 c) := ⟨_, rfl⟩
  have B2 : Below w.heap.size w W2 := by rw [hW2]; exact blp3 (bw_below B1 q) (by omega)
  have k_v := bkpe3 hW2 (k_v.below q.h)
  have k_r := bkoe3 hW2 (k_r.below q.h) (by omega)
  rw [← hW2]
  clear hW2
  clear B1
  clear c_v_0 c_v_1 c_v_2 f_v_0 f_v_1 f_v_2 c_r_0 c_r_1 c_r_2 f_r_0 f_r_1 f_r_2
  obtain ⟨c_v_0, c_v_1, c_v_2⟩ := bwc3 (k_v)
  obtain ⟨c_r_0, c_r_1, c_r_2⟩ := bwc3 (k_r)
  obtain ⟨f_r_0, f_r_1, f_r_2⟩ := bwf3 (k_r)
  obtain ⟨p2, hp2⟩ : ∃ p : BW W2, p.w = W2 := ⟨BW.start W2, rfl⟩
  rw [← hp2]
  clear hp2
  go_upto_region 5 with (first
    | (go_at_call 50; (first | (with_reducible refine (bw_call N.out _).mono ?_)); rintro e w' ⟨rfl, q, rfl⟩))
  obtain ⟨W3, hW3⟩ : ∃ W, W = q.w.alloc (.cells #[.int .i64 l] 3) := ⟨_, rfl⟩
  have B3 : Below w.heap.size w W3 := by rw [hW3]; exact (bw_below B2 q).alloc (bw_below B2 q).size _
  have l_n : g_r < q.w.heap.size := (k_r.below q.h).lt
  have o_n : w.heap.size ≤ q.w.heap.size := (bw_below B2 q).size
  have k_v := bka hW3 (k_v.below q.h)
  have k_r := bka hW3 (k_r.below q.h)
  have k_n := bkn hW3
  rw [← hW3]
  clear hW3
  clear B2
  clear c_v_0 c_v_1 c_v_2 c_r_0 c_r_1 c_r_2 f_r_0 f_r_1 f_r_2
  generalize q.w.heap.size = g_n at *
  obtain ⟨c_v_0, c_v_1, c_v_2⟩ := bwc3 (k_v)
  obtain ⟨c_r_0, c_r_1, c_r_2⟩ := bwc3 (k_r)
  obtain ⟨f_r_0, f_r_1, f_r_2⟩ := bwf3 (k_r)
  have c_n_0 := bwc1 (k_n)
  obtain ⟨p3, hp3⟩ : ∃ p : BW W3, p.w = W3 := ⟨BW.start W3, rfl⟩
  rw [← hp3]
  clear hp3
  have hmf : ∀ (fn : Fn) (first cap : Array Value) (w : World), (Instr.makeFunc fn first cap).run Try.prog w = .ok (.func fn first cap) w := fun _ _ _ _ => rfl
  have KX : ∀ p : BW W3, Calls Try.prog 51 #[.agg #[.int .i64 a, .int .i64 b, .int .i64 c], .func (.func 52) #[] #[.pointer (some ⟨g_n, 0, none⟩)]] p.w fun e w' => e = .returned (.agg #[.int .i64 r1, .int .i64 r2, .int .i64 r3]) ∧ ∃ q : BW W3, w' = q.w :=
    fun p => (vec_each 52 #[.pointer (some ⟨g_n, 0, none⟩)] a b c r1 r2 r3 p.w (enters_of Try.func52 (by kernel_rfl) rfl)
      (fun w' hb => by simpa using vec_parted a l r1 g_n w' (c_n_0 (p.next w' hb)) HQ.out.1 HQ.out.2.2.2 HR.out.1.symm)
      (fun w' hb => by simpa using vec_parted b l r2 g_n w' (c_n_0 (p.next w' hb)) HQ.out.2.1 HQ.out.2.2.2 HR.out.2.1.symm)
      (fun w' hb => by simpa using vec_parted c l r3 g_n w' (c_n_0 (p.next w' hb)) HQ.out.2.2.1 HQ.out.2.2.2 HR.out.2.2.symm)).mono fun e w' ⟨he, hb⟩ => ⟨he, p.next w' hb, rfl⟩
  go_wp2_with (go_at_call 51; (with_reducible refine (KX _).mono ?_); rintro e w' ⟨rfl, q, rfl⟩)
  have kr := bkp3 (k_r.below q.h) (.int .i64 r1) (.int .i64 r2) (.int .i64 r3)
  obtain ⟨rc0, rc1, rc2⟩ := rwc3 kr
  exact bodyPost_ret (v := .tuple #[.agg #[.int .i64 r1, .int .i64 r2, .int .i64 r3], .bool true]) (by simp [results, Try.results24, go_sem, rc0, rc1, rc2]) rfl ⟨rfl, blp3 (bw_below B3 q) (by omega)⟩

set_option maxRecDepth 100000 in
set_option maxHeartbeats 4000000 in
theorem vec_Unit_no_x (x y z : Int) (w : World) (h : vuOk x y z = false) (hd : ¬ x = 0) :
    Calls Try.prog 24 #[.agg #[.int .i64 x, .int .i64 y, .int .i64 z]] w fun r w' => r = .returned (.tuple #[.agg #[.int .i64 0, .int .i64 0, .int .i64 0], .bool false]) ∧ Below w.heap.size w w' := by
  have hw : wi 4611686018427387904 x y z = false := by
    have h0 : wi 0 x y z = false := by rw [wi_no]; omega
    unfold vuOk at h
    rw [h0] at h
    simpa using h
  have K1 := Lib.hid (fun w => vec_within 4611686018427387904 x y z w (by omega))
  rw [hw] at K1
  clear h hw
  go_enter Try.func24, Try.ntmps24
  go_upto_region 1 with (fail)
  obtain ⟨W1, hW1⟩ : ∃ W, W = (w.alloc (.cells #[.int .i64 x, .int .i64 y, .int .i64 z] 23)).alloc (.cells #[.int .i64 0, .int .i64 0, .int .i64 0] 23) := ⟨_, rfl⟩
  obtain ⟨k_v, k_r, B1⟩ := st2 hW1
  rw [← hW1]
  clear hW1
  have l_r : w.heap.size < w.heap.size + 1 := by omega
  generalize w.heap.size + 1 = g_r at *
  obtain ⟨c_v_0, c_v_1, c_v_2⟩ := bwc3 (k_v)
  obtain ⟨c_r_0, c_r_1, c_r_2⟩ := bwc3 (k_r)
  obtain ⟨f_r_0, f_r_1, f_r_2⟩ := bwf3 (k_r)
  obtain ⟨p1, hp1⟩ : ∃ p : BW W1, p.w = W1 := ⟨BW.start W1, rfl⟩
  rw [← hp1]
  clear hp1
  go_wp2_with (first
    | (go_at_call 48; (first | (with_reducible refine (bw_call K1.out _).mono ?_)); rintro e w' ⟨rfl, q, rfl⟩))
  have kr := bkp3 (k_r.below q.h) (.int .i64 0) (.int .i64 0) (.int .i64 0)
  obtain ⟨rc0, rc1, rc2⟩ := rwc3 kr
  exact bodyPost_ret (v := .tuple #[.agg #[.int .i64 0, .int .i64 0, .int .i64 0], .bool false]) (by simp [results, Try.results24, go_sem, rc0, rc1, rc2]) rfl ⟨rfl, blp3 (bw_below B1 q) (by omega)⟩

set_option maxRecDepth 100000 in
set_option maxHeartbeats 4000000 in
theorem vec_Unit_no_y (y z : Int) (w : World) (h : vuOk 0 y z = false) (hd : ¬ y = 0) :
    Calls Try.prog 24 #[.agg #[.int .i64 0, .int .i64 y, .int .i64 z]] w fun r w' => r = .returned (.tuple #[.agg #[.int .i64 0, .int .i64 0, .int .i64 0], .bool false]) ∧ Below w.heap.size w w' := by
  have hw : wi 4611686018427387904 0 y z = false := by
    have h0 : wi 0 0 y z = false := by rw [wi_no]; omega
    unfold vuOk at h
    rw [h0] at h
    simpa using h
  have K1 := Lib.hid (fun w => vec_within 4611686018427387904 0 y z w (by omega))
  rw [hw] at K1
  clear h hw
  go_enter Try.func24, Try.ntmps24
  go_upto_region 1 with (fail)
  obtain ⟨W1, hW1⟩ : ∃ W, W = (w.alloc (.cells #[.int .i64 0, .int .i64 y, .int .i64 z] 23)).alloc (.cells #[.int .i64 0, .int .i64 0, .int .i64 0] 23) := ⟨_, rfl⟩
  obtain ⟨k_v, k_r, B1⟩ := st2 hW1
  rw [← hW1]
  clear hW1
  have l_r : w.heap.size < w.heap.size + 1 := by omega
  generalize w.heap.size + 1 = g_r at *
  obtain ⟨c_v_0, c_v_1, c_v_2⟩ := bwc3 (k_v)
  obtain ⟨c_r_0, c_r_1, c_r_2⟩ := bwc3 (k_r)
  obtain ⟨f_r_0, f_r_1, f_r_2⟩ := bwf3 (k_r)
  obtain ⟨p1, hp1⟩ : ∃ p : BW W1, p.w = W1 := ⟨BW.start W1, rfl⟩
  rw [← hp1]
  clear hp1
  go_wp2_with (first
    | (go_at_call 48; (first | (with_reducible refine (bw_call K1.out _).mono ?_)); rintro e w' ⟨rfl, q, rfl⟩))
  have kr := bkp3 (k_r.below q.h) (.int .i64 0) (.int .i64 0) (.int .i64 0)
  obtain ⟨rc0, rc1, rc2⟩ := rwc3 kr
  exact bodyPost_ret (v := .tuple #[.agg #[.int .i64 0, .int .i64 0, .int .i64 0], .bool false]) (by simp [results, Try.results24, go_sem, rc0, rc1, rc2]) rfl ⟨rfl, blp3 (bw_below B1 q) (by omega)⟩

set_option maxRecDepth 100000 in
set_option maxHeartbeats 4000000 in
theorem vec_Unit_no_z (z : Int) (w : World) (h : vuOk 0 0 z = false) (hd : ¬ z = 0) :
    Calls Try.prog 24 #[.agg #[.int .i64 0, .int .i64 0, .int .i64 z]] w fun r w' => r = .returned (.tuple #[.agg #[.int .i64 0, .int .i64 0, .int .i64 0], .bool false]) ∧ Below w.heap.size w w' := by
  have hw : wi 4611686018427387904 0 0 z = false := by
    have h0 : wi 0 0 0 z = false := by rw [wi_no]; omega
    unfold vuOk at h
    rw [h0] at h
    simpa using h
  have K1 := Lib.hid (fun w => vec_within 4611686018427387904 0 0 z w (by omega))
  rw [hw] at K1
  clear h hw
  go_enter Try.func24, Try.ntmps24
  go_upto_region 1 with (fail)
  obtain ⟨W1, hW1⟩ : ∃ W, W = (w.alloc (.cells #[.int .i64 0, .int .i64 0, .int .i64 z] 23)).alloc (.cells #[.int .i64 0, .int .i64 0, .int .i64 0] 23) := ⟨_, rfl⟩
  obtain ⟨k_v, k_r, B1⟩ := st2 hW1
  rw [← hW1]
  clear hW1
  have l_r : w.heap.size < w.heap.size + 1 := by omega
  generalize w.heap.size + 1 = g_r at *
  obtain ⟨c_v_0, c_v_1, c_v_2⟩ := bwc3 (k_v)
  obtain ⟨c_r_0, c_r_1, c_r_2⟩ := bwc3 (k_r)
  obtain ⟨f_r_0, f_r_1, f_r_2⟩ := bwf3 (k_r)
  obtain ⟨p1, hp1⟩ : ∃ p : BW W1, p.w = W1 := ⟨BW.start W1, rfl⟩
  rw [← hp1]
  clear hp1
  go_wp2_with (first
    | (go_at_call 48; (first | (with_reducible refine (bw_call K1.out _).mono ?_)); rintro e w' ⟨rfl, q, rfl⟩))
  have kr := bkp3 (k_r.below q.h) (.int .i64 0) (.int .i64 0) (.int .i64 0)
  obtain ⟨rc0, rc1, rc2⟩ := rwc3 kr
  exact bodyPost_ret (v := .tuple #[.agg #[.int .i64 0, .int .i64 0, .int .i64 0], .bool false]) (by simp [results, Try.results24, go_sem, rc0, rc1, rc2]) rfl ⟨rfl, blp3 (bw_below B1 q) (by omega)⟩

set_option maxRecDepth 100000 in
set_option maxHeartbeats 4000000 in
theorem vec_Unit_no_0 (w : World) (h : vuOk 0 0 0 = false) :
    Calls Try.prog 24 #[.agg #[.int .i64 0, .int .i64 0, .int .i64 0]] w fun r w' => r = .returned (.tuple #[.agg #[.int .i64 0, .int .i64 0, .int .i64 0], .bool false]) ∧ Below w.heap.size w w' := by
  clear h
  go_enter Try.func24, Try.ntmps24
  go_upto_region 1 with (fail)
  obtain ⟨W1, hW1⟩ : ∃ W, W = (w.alloc (.cells #[.int .i64 0, .int .i64 0, .int .i64 0] 23)).alloc (.cells #[.int .i64 0, .int .i64 0, .int .i64 0] 23) := ⟨_, rfl⟩
  obtain ⟨k_v, k_r, B1⟩ := st2 hW1
  rw [← hW1]
  clear hW1
  have l_r : w.heap.size < w.heap.size + 1 := by omega
  generalize w.heap.size + 1 = g_r at *
  obtain ⟨c_v_0, c_v_1, c_v_2⟩ := bwc3 (k_v)
  obtain ⟨c_r_0, c_r_1, c_r_2⟩ := bwc3 (k_r)
  obtain ⟨f_r_0, f_r_1, f_r_2⟩ := bwf3 (k_r)
  obtain ⟨p1, hp1⟩ : ∃ p : BW W1, p.w = W1 := ⟨BW.start W1, rfl⟩
  rw [← hp1]
  clear hp1
  go_wp2
  have kr := bkp3 (k_r.below p1.h) (.int .i64 0) (.int .i64 0) (.int .i64 0)
  obtain ⟨rc0, rc1, rc2⟩ := rwc3 kr
  exact bodyPost_ret (v := .tuple #[.agg #[.int .i64 0, .int .i64 0, .int .i64 0], .bool false]) (by simp [results, Try.results24, go_sem, rc0, rc1, rc2]) rfl ⟨rfl, blp3 (bw_below B1 p1) (by omega)⟩

theorem vec_Unit (x y z : Int) (w : World) (_ : I64 x) (_ : I64 y) (_ : I64 z) :
    Calls Try.prog 24 #[.agg #[.int .i64 x, .int .i64 y, .int .i64 z]] w fun r w' => r = .returned (.tuple #[.agg #[.int .i64 (vunit x y z).1, .int .i64 (vunit x y z).2.1, .int .i64 (vunit x y z).2.2], .bool (vuOk x y z)]) ∧ Below w.heap.size w w' := by
  unfold vunit
  by_cases h : vuOk x y z = true
  · rw [if_pos h, h]
    by_cases hx : x = 0
    · subst hx
      by_cases hy : y = 0
      · subst hy
        refine vec_Unit_yes_z z w h ?_
        rintro rfl
        revert h
        decide
      · exact vec_Unit_yes_y y z w h hy
    · exact vec_Unit_yes_x x y z w h hx
  · rw [if_neg h]
    rw [Bool.not_eq_true] at h
    rw [h]
    by_cases hx : x = 0
    · subst hx
      by_cases hy : y = 0
      · subst hy
        by_cases hz : z = 0
        · subst hz; exact vec_Unit_no_0 w h
        · exact vec_Unit_no_z z w h hz
      · exact vec_Unit_no_y y z w h hy
    · exact vec_Unit_no_x x y z w h hx

end Go.Proofs.Ytnidgokmndnenaa
