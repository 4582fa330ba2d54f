/- Contracts of package pose, below: None, Right, isSize, part, parts, columns, the changes, changed. -/
import Derived.Test.YtneacfhoinaeeaaMc4
import Derived.Test.YtneacfhoinaeeaaMc34
import Derived.Test.YtneacfhoinaeeaaMc19
import Derived.Test.YtneacfhoinaeeaaMc12
import Derived.Test.YtneacfhoinaeeaaMc22
import Derived.Test.YtneacfhoinaeeaaMc1
import Derived.Test.YtneacfhoinaeeaaMc8
import Derived.Deep.DeepCutAuto
import Derived.LoopN
import Derived.Shelf.Abstract
import Derived.Laws.EntriesVeiled


namespace Go.Proofs.Ytneacfhoinaeeaa
section

open Go.RowKit Go.Shelf Go.Proofs.Sky

set_option linter.unusedVariables false

set_option maxRecDepth 100000 in
set_option maxHeartbeats 4000000 in
theorem pose_None (w : World) :
    Calls Try.prog 19 #[] w fun e w' => e = .returned (.agg #[.int .i64 16384, .int .i64 0, .int .i64 0, .int .i64 0, .int .i64 16384, .int .i64 0, .int .i64 0, .int .i64 0, .int .i64 16384, .int .i64 0, .int .i64 0, .int .i64 0]) ∧ Below w.heap.size w w' := by
  go_enter Try.func19, Try.ntmps19
  go_upto_region 1 with (fail)
  obtain ⟨W1, hW1⟩ : ∃ W, W = w.alloc (.cells #[.int .i64 0, .int .i64 0, .int .i64 0, .int .i64 0, .int .i64 0, .int .i64 0, .int .i64 0, .int .i64 0, .int .i64 0, .int .i64 0, .int .i64 0, .int .i64 0] 31) := ⟨_, rfl⟩
  obtain ⟨k_r, B1⟩ := st1 hW1
  rw [← hW1]
  clear hW1
  obtain ⟨c_r_0, c_r_1, c_r_2, c_r_3, c_r_4, c_r_5, c_r_6, c_r_7, c_r_8, c_r_9, c_r_10, c_r_11⟩ := bwc12 (k_r)
  obtain ⟨f_r_0, f_r_1, f_r_2, f_r_3, f_r_4, f_r_5, f_r_6, f_r_7, f_r_8, f_r_9, f_r_10, f_r_11⟩ := bwf12 (k_r)
  obtain ⟨p1, hp1⟩ : ∃ p : BW W1, p.w = W1 := ⟨BW.start W1, rfl⟩
  rw [← hp1]
  clear hp1
  go_wp2
  have kr := bkp12 (k_r.below p1.h) (.int .i64 16384) (.int .i64 0) (.int .i64 0) (.int .i64 0) (.int .i64 16384) (.int .i64 0) (.int .i64 0) (.int .i64 0) (.int .i64 16384) (.int .i64 0) (.int .i64 0) (.int .i64 0)
  obtain ⟨rc0, rc1, rc2, rc3, rc4, rc5, rc6, rc7, rc8, rc9, rc10, rc11⟩ := rwc12 kr
  exact bodyPost_ret (v := .agg #[.int .i64 16384, .int .i64 0, .int .i64 0, .int .i64 0, .int .i64 16384, .int .i64 0, .int .i64 0, .int .i64 0, .int .i64 16384, .int .i64 0, .int .i64 0, .int .i64 0]) (by simp [results, Try.results19, go_sem, rc0, rc1, rc2, rc3, rc4, rc5, rc6, rc7, rc8, rc9, rc10, rc11]) rfl ⟨rfl, blp12 (bw_below B1 p1) (by omega)⟩

set_option maxRecDepth 100000 in
set_option maxHeartbeats 4000000 in
theorem pose_Right (a1 a2 a3 a4 a5 a6 a7 a8 a9 a10 a11 a12 : Int) (w : World) :
    Calls Try.prog 35 #[.agg #[.int .i64 a1, .int .i64 a2, .int .i64 a3, .int .i64 a4, .int .i64 a5, .int .i64 a6, .int .i64 a7, .int .i64 a8, .int .i64 a9, .int .i64 a10, .int .i64 a11, .int .i64 a12]] w fun e w' => e = .returned (.bool (qRight ((a1, a2, a3), (a4, a5, a6), (a7, a8, a9), (a10, a11, a12)))) ∧ Below w.heap.size w w' := by
  have N0 := Lib.hid (fun w => vec_Near a1 a2 a3 w)
  have N1 := Lib.hid (fun w => vec_Near a4 a5 a6 w)
  have N2 := Lib.hid (fun w => vec_Near a7 a8 a9 w)
  have N3 := Lib.hid (fun w => vec_Near a10 a11 a12 w)
  unfold qRight nrT
  dsimp only
  generalize vnear a1 a2 a3 = b0 at *
  generalize vnear a4 a5 a6 = b1 at *
  generalize vnear a7 a8 a9 = b2 at *
  generalize vnear a10 a11 a12 = b3 at *
  have hc : (b0 = false) ∨ (b0 = true ∧ b1 = false) ∨ (b0 = true ∧ b1 = true ∧ b2 = false) ∨ (b0 = true ∧ b1 = true ∧ b2 = true) := by cases b0 <;> cases b1 <;> cases b2 <;> simp
  go_enter Try.func35, Try.ntmps35
  go_upto_region 1 with (fail)
  obtain ⟨W1, hW1⟩ : ∃ W, W = w.alloc (.cells #[.int .i64 a1, .int .i64 a2, .int .i64 a3, .int .i64 a4, .int .i64 a5, .int .i64 a6, .int .i64 a7, .int .i64 a8, .int .i64 a9, .int .i64 a10, .int .i64 a11, .int .i64 a12] 31) := ⟨_, rfl⟩
  obtain ⟨k_p, B1⟩ := st1 hW1
  rw [← hW1]
  clear hW1
  obtain ⟨c_p_0, c_p_1, c_p_2, c_p_3, c_p_4, c_p_5, c_p_6, c_p_7, c_p_8, c_p_9, c_p_10, c_p_11⟩ := bwc12 (k_p)
  obtain ⟨p1, hp1⟩ : ∃ p : BW W1, p.w = W1 := ⟨BW.start W1, rfl⟩
  rw [← hp1]
  clear hp1
  rcases hc with rfl | ⟨rfl, rfl⟩ | ⟨rfl, rfl, rfl⟩ | ⟨rfl, rfl, rfl⟩
  all_goals
    go_wp2_with (first
      | (go_at_call 52; (first | (with_reducible refine (bw_call N0.out _).mono ?_) | (with_reducible refine (bw_call N1.out _).mono ?_) | (with_reducible refine (bw_call N2.out _).mono ?_) | (with_reducible refine (bw_call N3.out _).mono ?_)); rintro e w' ⟨rfl, q, rfl⟩))
    go_ret
    exact ⟨rfl, bw_below B1 _⟩

set_option maxRecDepth 100000 in
set_option maxHeartbeats 4000000 in
theorem pose_part (a b c x y z : Int) (w : World) :
    Calls Try.prog 78 #[.agg #[.int .i64 a, .int .i64 b, .int .i64 c], .agg #[.int .i64 x, .int .i64 y, .int .i64 z]] w fun e w' => e = .returned (.int .i64 (pRow (a, b, c) (x, y, z))) ∧ Below w.heap.size w w' := by
  have D := Lib.hid (fun w => vec_Dot a b c x y z w)
  unfold pRow
  dsimp only
  have i : -3298534883328 ≤ vdot a b c x y z ∧ vdot a b c x y z ≤ 3298534883328 := by
    unfold vdot
    split
    · rename_i h
      obtain ⟨h1, h2⟩ := h
      rw [vnear_iff] at h1 h2
      have p := near_mul (x := a) (a := x) (by omega) (by omega)
      have q := near_mul (x := b) (a := y) (by omega) (by omega)
      have s := near_mul (x := c) (a := z) (by omega) (by omega)
      omega
    · omega
  generalize vdot a b c x y z = s at *
  have V := Lib.hid (fun w => below_of_same (fun w => num_Div s 16384 w (by unfold I64; omega) (by unfold I64; omega)) w)
  have ed : dv s 16384 = s / 16384 := by unfold dv; rw [if_neg (by omega)]
  rw [ed] at V
  generalize s / 16384 = r at *
  clear i ed
  go_enter Try.func78, Try.ntmps78
  go_upto_region 1 with (fail)
  obtain ⟨W1, hW1⟩ : ∃ W, W = (w.alloc (.cells #[.int .i64 a, .int .i64 b, .int .i64 c] 23)).alloc (.cells #[.int .i64 x, .int .i64 y, .int .i64 z] 23) := ⟨_, rfl⟩
  obtain ⟨k_a, k_b, B1⟩ := st2 hW1
  rw [← hW1]
  clear hW1
  have l_b : w.heap.size < w.heap.size + 1 := by omega
  generalize w.heap.size + 1 = g_b at *
  obtain ⟨c_a_0, c_a_1, c_a_2⟩ := bwc3 (k_a)
  obtain ⟨c_b_0, c_b_1, c_b_2⟩ := bwc3 (k_b)
  obtain ⟨p1, hp1⟩ : ∃ p : BW W1, p.w = W1 := ⟨BW.start W1, rfl⟩
  rw [← hp1]
  clear hp1
  go_wp2_with (first
    | (go_at_call 86; (first | (with_reducible refine (bw_call D.out _).mono ?_)); rintro e w' ⟨rfl, q, rfl⟩)
    | (go_at_call 59; (first | (with_reducible refine (bw_call V.out _).mono ?_)); rintro e w' ⟨rfl, q, rfl⟩))
  go_ret
  exact ⟨rfl, bw_below B1 _⟩

set_option maxRecDepth 100000 in
set_option maxHeartbeats 4000000 in
theorem pose_parts (a1 a2 a3 a4 a5 a6 a7 a8 a9 a10 a11 a12 x y z : Int) (w : World) :
    Calls Try.prog 65 #[.agg #[.int .i64 a1, .int .i64 a2, .int .i64 a3, .int .i64 a4, .int .i64 a5, .int .i64 a6, .int .i64 a7, .int .i64 a8, .int .i64 a9, .int .i64 a10, .int .i64 a11, .int .i64 a12], .agg #[.int .i64 x, .int .i64 y, .int .i64 z]] w fun e w' => e = .returned (.agg #[.int .i64 (pRow (a1, a2, a3) (x, y, z)), .int .i64 (pRow (a4, a5, a6) (x, y, z)), .int .i64 (pRow (a7, a8, a9) (x, y, z))]) ∧ Below w.heap.size w w' := by
  have R0 := Lib.hid (fun w => pose_part a1 a2 a3 x y z w)
  have R1 := Lib.hid (fun w => pose_part a4 a5 a6 x y z w)
  have R2 := Lib.hid (fun w => pose_part a7 a8 a9 x y z w)
  generalize pRow (a1, a2, a3) (x, y, z) = r0 at *
  generalize pRow (a4, a5, a6) (x, y, z) = r1 at *
  generalize pRow (a7, a8, a9) (x, y, z) = r2 at *
  go_enter Try.func65, Try.ntmps65
  go_upto_region 1 with (fail)
  obtain ⟨W1, hW1⟩ : ∃ W, W = ((w.alloc (.cells #[.int .i64 a1, .int .i64 a2, .int .i64 a3, .int .i64 a4, .int .i64 a5, .int .i64 a6, .int .i64 a7, .int .i64 a8, .int .i64 a9, .int .i64 a10, .int .i64 a11, .int .i64 a12] 31)).alloc (.cells #[.int .i64 x, .int .i64 y, .int .i64 z] 23)).alloc (.cells #[.int .i64 0, .int .i64 0, .int .i64 0] 23) := ⟨_, rfl⟩
  obtain ⟨k_p, k_v, k_r, B1⟩ := st3 hW1
  rw [← hW1]
  clear hW1
  have l_v : w.heap.size < w.heap.size + 1 := by omega
  have l_r : w.heap.size + 1 < w.heap.size + 1 + 1 := by omega
  generalize w.heap.size + 1 + 1 = g_r at *
  generalize w.heap.size + 1 = g_v at *
  obtain ⟨c_p_0, c_p_1, c_p_2, c_p_3, c_p_4, c_p_5, c_p_6, c_p_7, c_p_8, c_p_9, c_p_10, c_p_11⟩ := bwc12 (k_p)
  obtain ⟨c_v_0, c_v_1, c_v_2⟩ := bwc3 (k_v)
  obtain ⟨c_r_0, c_r_1, c_r_2⟩ := bwc3 (k_r)
  obtain ⟨f_r_0, f_r_1, f_r_2⟩ := bwf3 (k_r)
  obtain ⟨p1, hp1⟩ : ∃ p : BW W1, p.w = W1 := ⟨BW.start W1, rfl⟩
  rw [← hp1]
  clear hp1
  refine wp_region_bw_tail 12 (by kernel_rfl) (by kernel_rfl) (by kernel_rfl) ?_
  simp only [List.take_succ_cons, List.take_zero, List.drop_succ_cons, List.drop_zero]
  repeat (go_big_quiet_step (first
    | (go_at_call 78; (first | (with_reducible exact bw_call R0.out _) | (with_reducible exact bw_call R1.out _) | (with_reducible exact bw_call R2.out _)))))
  refine wpQuiet_nil ?_
  intro _ hw'
  obtain ⟨q, rfl⟩ := hw'
  go_wp2
  have kr := bkp3 (k_r.below q.h) (.int .i64 r0) (.int .i64 r1) (.int .i64 r2)
  obtain ⟨rc0, rc1, rc2⟩ := rwc3 kr
  exact bodyPost_ret (v := .agg #[.int .i64 r0, .int .i64 r1, .int .i64 r2]) (by simp [results, Try.results65, go_sem, rc0, rc1, rc2]) rfl ⟨rfl, blp3 (bw_below B1 q) (by omega)⟩

def at3 {α : Type} (a b c : α) : Nat → α | 0 => a | 1 => b | _ => c

def at4 {α : Type} (a b c d : α) : Nat → α | 0 => a | 1 => b | 2 => c | _ => d

end
end Go.Proofs.Ytneacfhoinaeeaa
