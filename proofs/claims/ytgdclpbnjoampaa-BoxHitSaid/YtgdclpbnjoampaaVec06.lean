/- Contracts of package vec (landed at 7315bb3e32). -/
import Derived.Test.YtgdclpbnjoampaaVecm06
import Derived.Test.YtgdclpbnjoampaaRoot01
namespace Go.Proofs.Ytgdclpbnjoampaa
open Go.RowKit Go.Shelf Go.Shelf Go.Proofs.Sky
set_option linter.unusedVariables false

theorem vcr_small (x y z a b c : Int) : (-2199023255552 ≤ (vcr x y z a b c).1 ∧ (vcr x y z a b c).1 ≤ 2199023255552) ∧ (-2199023255552 ≤ (vcr x y z a b c).2.1 ∧ (vcr x y z a b c).2.1 ≤ 2199023255552) ∧ (-2199023255552 ≤ (vcr x y z a b c).2.2 ∧ (vcr x y z a b c).2.2 ≤ 2199023255552) := by
  unfold vcr
  split
  · rename_i h
    obtain ⟨h1, h2⟩ := h
    rw [vnear_iff] at h1 h2
    have p1 := near_mul (x := y) (a := c) (by omega) (by omega)
    have p2 := near_mul (x := z) (a := b) (by omega) (by omega)
    have p3 := near_mul (x := z) (a := a) (by omega) (by omega)
    have p4 := near_mul (x := x) (a := c) (by omega) (by omega)
    have p5 := near_mul (x := x) (a := b) (by omega) (by omega)
    have p6 := near_mul (x := y) (a := a) (by omega) (by omega)
    dsimp only
    omega
  · dsimp only; omega
theorem vvol_of (x y z a b c d e f : Int) : vvol x y z a b c d e f = if vnear x y z = true then x * (vcr a b c d e f).1 + y * (vcr a b c d e f).2.1 + z * (vcr a b c d e f).2.2 else 0 := by
  unfold vvol vcr
  by_cases h : vnear x y z = true
  · by_cases h2 : vnear a b c = true ∧ vnear d e f = true
    · rw [if_pos ⟨h, h2.1, h2.2⟩, if_pos h, if_pos h2]
    · rw [if_neg (fun g => h2 ⟨g.2.1, g.2.2⟩), if_pos h, if_neg h2]
      simp
  · rw [if_neg (fun g => h g.1), if_neg h]

set_option maxRecDepth 100000 in
set_option maxHeartbeats 4000000 in
theorem vec_Add (x y z a b c : Int) (w : World) (hx : I64 x) (hy : I64 y) (hz : I64 z) (ha : I64 a) (hb : I64 b) (hc : I64 c) :
    Calls Try.prog 28 #[.agg #[.int .i64 x, .int .i64 y, .int .i64 z], .agg #[.int .i64 a, .int .i64 b, .int .i64 c]] w fun r w' => r = .returned (.agg #[.int .i64 (sat (x + a)), .int .i64 (sat (y + b)), .int .i64 (sat (z + c))]) ∧ Below w.heap.size w w' := by
  have K := Lib.hid (fun w => vec_pair 40 #[] x y z a b c (sat (x + a)) (sat (y + b)) (sat (z + c)) w (enters_of Try.func40 (by kernel_rfl) rfl)
    (fun w' _ => by simpa using below_of_same (fun w => num_Plus x a w hx ha) w')
    (fun w' _ => by simpa using below_of_same (fun w => num_Plus y b w hy hb) w')
    (fun w' _ => by simpa using below_of_same (fun w => num_Plus z c w hz hc) w'))
  clear hx hy hz ha hb hc
  generalize sat (x + a) = r1 at *
  generalize sat (y + b) = r2 at *
  generalize sat (z + c) = r3 at *
  go_enter Try.func28, Try.ntmps28
  go_upto_region 1 with (fail)
  obtain ⟨W1, hW1⟩ : ∃ W, W = ((w.alloc (.cells #[.int .i64 x, .int .i64 y, .int .i64 z] 23)).alloc (.cells #[.int .i64 a, .int .i64 b, .int .i64 c] 23)).alloc (.cells #[.int .i64 0, .int .i64 0, .int .i64 0] 23) := ⟨_, rfl⟩
  obtain ⟨k_v, k_u, k_r, B1⟩ := st3 hW1
  rw [← hW1]
  clear hW1
  have l_u : w.heap.size < w.heap.size + 1 := by omega
  have l_r : w.heap.size + 1 < w.heap.size + 1 + 1 := by omega
  generalize w.heap.size + 1 + 1 = g_r at *
  generalize w.heap.size + 1 = g_u at *
  obtain ⟨c_v_0, c_v_1, c_v_2⟩ := bwc3 (k_v)
  obtain ⟨c_u_0, c_u_1, c_u_2⟩ := bwc3 (k_u)
  obtain ⟨c_r_0, c_r_1, c_r_2⟩ := bwc3 (k_r)
  obtain ⟨f_r_0, f_r_1, f_r_2⟩ := bwf3 (k_r)
  obtain ⟨p1, hp1⟩ : ∃ p : BW W1, p.w = W1 := ⟨BW.start W1, rfl⟩
  rw [← hp1]
  clear hp1
  go_wp2_with (first
    | (go_at_call 39; (first | (with_reducible refine (bw_call K.out _).mono ?_)); rintro e w' ⟨rfl, q, rfl⟩))
  have kr := bkp3 (k_r.below q.h) (.int .i64 r1) (.int .i64 r2) (.int .i64 r3)
  obtain ⟨rc0, rc1, rc2⟩ := rwc3 kr
  exact bodyPost_ret (v := .agg #[.int .i64 r1, .int .i64 r2, .int .i64 r3]) (by simp [results, Try.results28, go_sem, rc0, rc1, rc2]) rfl ⟨rfl, blp3 (bw_below B1 q) (by omega)⟩

set_option maxRecDepth 100000 in
set_option maxHeartbeats 4000000 in
theorem vec_Sub (x y z a b c : Int) (w : World) (hx : I64 x) (hy : I64 y) (hz : I64 z) (ha : I64 a) (hb : I64 b) (hc : I64 c) :
    Calls Try.prog 27 #[.agg #[.int .i64 x, .int .i64 y, .int .i64 z], .agg #[.int .i64 a, .int .i64 b, .int .i64 c]] w fun r w' => r = .returned (.agg #[.int .i64 (vsub x a), .int .i64 (vsub y b), .int .i64 (vsub z c)]) ∧ Below w.heap.size w w' := by
  have K := Lib.hid (fun w => vec_each 37 #[] a b c (sat (a * -1)) (sat (b * -1)) (sat (c * -1)) w (enters_of Try.func37 (by kernel_rfl) rfl)
    (fun w' _ => by simpa using vec_turned a w' ha)
    (fun w' _ => by simpa using vec_turned b w' hb)
    (fun w' _ => by simpa using vec_turned c w' hc))
  have A := Lib.hid (fun w => vec_Add x y z (sat (a * -1)) (sat (b * -1)) (sat (c * -1)) w hx hy hz (sat_I64 _) (sat_I64 _) (sat_I64 _))
  unfold vsub
  clear hx hy hz ha hb hc
  generalize sat (a * -1) = a' at *
  generalize sat (b * -1) = b' at *
  generalize sat (c * -1) = c' at *
  generalize sat (x + a') = r1 at *
  generalize sat (y + b') = r2 at *
  generalize sat (z + c') = r3 at *
  go_enter Try.func27, Try.ntmps27
  go_upto_region 1 with (fail)
  obtain ⟨W1, hW1⟩ : ∃ W, W = ((w.alloc (.cells #[.int .i64 x, .int .i64 y, .int .i64 z] 23)).alloc (.cells #[.int .i64 a, .int .i64 b, .int .i64 c] 23)).alloc (.cells #[.int .i64 0, .int .i64 0, .int .i64 0] 23) := ⟨_, rfl⟩
  obtain ⟨k_v, k_u, k_r, B1⟩ := st3 hW1
  rw [← hW1]
  clear hW1
  have l_u : w.heap.size < w.heap.size + 1 := by omega
  have l_r : w.heap.size + 1 < w.heap.size + 1 + 1 := by omega
  generalize w.heap.size + 1 + 1 = g_r at *
  generalize w.heap.size + 1 = g_u at *
  obtain ⟨c_v_0, c_v_1, c_v_2⟩ := bwc3 (k_v)
  obtain ⟨c_u_0, c_u_1, c_u_2⟩ := bwc3 (k_u)
  obtain ⟨c_r_0, c_r_1, c_r_2⟩ := bwc3 (k_r)
  obtain ⟨f_r_0, f_r_1, f_r_2⟩ := bwf3 (k_r)
  obtain ⟨p1, hp1⟩ : ∃ p : BW W1, p.w = W1 := ⟨BW.start W1, rfl⟩
  rw [← hp1]
  clear hp1
  refine wp_region_bw_tail 4 (by kernel_rfl) (by kernel_rfl) (by kernel_rfl) ?_
  simp only [List.take_succ_cons, List.take_zero, List.drop_succ_cons, List.drop_zero]
  repeat (go_big_quiet_step (first
    | (go_at_call 36; (first | (with_reducible exact bw_call K.out _)))
    | (go_at_call 28; (first | (with_reducible exact bw_call A.out _)))))
  refine wpQuiet_nil ?_
  intro _ hw'
  obtain ⟨q, rfl⟩ := hw'
  go_wp2
  have kr := bkp3 (k_r.below q.h) (.int .i64 r1) (.int .i64 r2) (.int .i64 r3)
  obtain ⟨rc0, rc1, rc2⟩ := rwc3 kr
  exact bodyPost_ret (v := .agg #[.int .i64 r1, .int .i64 r2, .int .i64 r3]) (by simp [results, Try.results27, go_sem, rc0, rc1, rc2]) rfl ⟨rfl, blp3 (bw_below B1 q) (by omega)⟩

end Go.Proofs.Ytgdclpbnjoampaa
