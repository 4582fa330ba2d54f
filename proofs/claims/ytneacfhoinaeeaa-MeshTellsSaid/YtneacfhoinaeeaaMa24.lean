/- Contracts of the document's own answers, layer 8. -/
import Derived.Test.YtneacfhoinaeeaaMa22
import Derived.Test.YtneacfhoinaeeaaMa19
import Derived.Test.YtneacfhoinaeeaaMa11
import Derived.Test.YtneacfhoinaeeaaMa7


namespace Go.Proofs.Ytneacfhoinaeeaa
section

open Go.RowKit Go.Proofs.Sky

set_option linter.unusedVariables false

set_option maxRecDepth 100000 in
set_option maxHeartbeats 4000000 in
theorem ref8_row (a b c d e f : Int) (w : World) :
    Calls Try.prog 56 #[.agg #[.int .i64 a, .int .i64 b, .int .i64 c], .agg #[.int .i64 d, .int .i64 e, .int .i64 f]] w fun en w' => en = .returned (.int .i64 (pRow (a, b, c) (d, e, f))) ∧ Below w.heap.size w w' := by
  have D := Lib.hid (fun w => ref6_Dot a b c d e f w)
  unfold pRow
  dsimp only
  have i : -3298534883328 ≤ vdot a b c d e f ∧ vdot a b c d e f ≤ 3298534883328 := by
    unfold vdot
    split
    · rename_i h
      obtain ⟨h1, h2⟩ := h
      rw [vnear_iff] at h1 h2
      have p := near_mul (x := a) (a := d) (by omega) (by omega)
      have q := near_mul (x := b) (a := e) (by omega) (by omega)
      have s := near_mul (x := c) (a := f) (by omega) (by omega)
      omega
    · omega
  generalize vdot a b c d e f = s at *
  have V := Lib.hid (fun w => below_of_same (fun w => ref_Div s 16384 w (by unfold I64; omega) (by unfold I64; omega)) w)
  have ed : dv s 16384 = s / 16384 := by unfold dv; rw [if_neg (by omega)]
  rw [ed] at V
  generalize s / 16384 = r at *
  clear i ed
  go_enter Try.func56, Try.ntmps56
  go_upto_region 1 with (fail)
  obtain ⟨W1, hW1⟩ : ∃ W, W = (w.alloc (.cells #[.int .i64 a, .int .i64 b, .int .i64 c] 23)).alloc (.cells #[.int .i64 d, .int .i64 e, .int .i64 f] 23) := ⟨_, rfl⟩
  obtain ⟨k_a, k_b, B1⟩ := st2 hW1
  rw [← hW1]
  clear hW1
  have l_b : w.heap.size < w.heap.size + 1 := by omega
  generalize w.heap.size + 1 = g_b at *
  obtain ⟨c_a_0, c_a_1, c_a_2⟩ := bwc3 (k_a)
  obtain ⟨c_b_0, c_b_1, c_b_2⟩ := bwc3 (k_b)
  obtain ⟨p1, hp1⟩ : ∃ p : BW W1, p.w = W1 := ⟨BW.start W1, rfl⟩
  rw [← hp1]
  clear hp1
  go_wp2_with (first
    | (go_at_call 69; (first | (with_reducible refine (bw_call D.out _).mono ?_)); rintro e w' ⟨rfl, q, rfl⟩)
    | (go_at_call 28; (first | (with_reducible refine (bw_call V.out _).mono ?_)); rintro e w' ⟨rfl, q, rfl⟩))
  go_ret
  exact ⟨rfl, bw_below B1 _⟩

set_option maxRecDepth 100000 in
set_option maxHeartbeats 4000000 in
theorem ref8_Right (x1 x2 x3 y1 y2 y3 z1 z2 z3 m1 m2 m3 : Int) (w : World) :
    Calls Try.prog 16 #[.agg #[.int .i64 x1, .int .i64 x2, .int .i64 x3, .int .i64 y1, .int .i64 y2, .int .i64 y3, .int .i64 z1, .int .i64 z2, .int .i64 z3, .int .i64 m1, .int .i64 m2, .int .i64 m3]] w fun en w' => en = .returned (.bool (qRight ((x1, x2, x3), (y1, y2, y3), (z1, z2, z3), (m1, m2, m3)))) ∧ Below w.heap.size w w' := by
  have N0 := Lib.hid (fun w => ref6_Near x1 x2 x3 w)
  have N1 := Lib.hid (fun w => ref6_Near y1 y2 y3 w)
  have N2 := Lib.hid (fun w => ref6_Near z1 z2 z3 w)
  have N3 := Lib.hid (fun w => ref6_Near m1 m2 m3 w)
  unfold qRight nrT
  dsimp only
  generalize vnear x1 x2 x3 = b0 at *
  generalize vnear y1 y2 y3 = b1 at *
  generalize vnear z1 z2 z3 = b2 at *
  generalize vnear m1 m2 m3 = b3 at *
  have hc : (b0 = false) ∨ (b0 = true ∧ b1 = false) ∨ (b0 = true ∧ b1 = true ∧ b2 = false) ∨ (b0 = true ∧ b1 = true ∧ b2 = true) := by cases b0 <;> cases b1 <;> cases b2 <;> simp
  go_enter Try.func16, Try.ntmps16
  go_upto_region 1 with (fail)
  obtain ⟨W1, hW1⟩ : ∃ W, W = w.alloc (.cells #[.int .i64 x1, .int .i64 x2, .int .i64 x3, .int .i64 y1, .int .i64 y2, .int .i64 y3, .int .i64 z1, .int .i64 z2, .int .i64 z3, .int .i64 m1, .int .i64 m2, .int .i64 m3] 25) := ⟨_, rfl⟩
  obtain ⟨k_p, B1⟩ := st1 hW1
  rw [← hW1]
  clear hW1
  obtain ⟨c_p_0, c_p_1, c_p_2, c_p_3, c_p_4, c_p_5, c_p_6, c_p_7, c_p_8, c_p_9, c_p_10, c_p_11⟩ := bwc12 (k_p)
  obtain ⟨p1, hp1⟩ : ∃ p : BW W1, p.w = W1 := ⟨BW.start W1, rfl⟩
  rw [← hp1]
  clear hp1
  rcases hc with rfl | ⟨rfl, rfl⟩ | ⟨rfl, rfl, rfl⟩ | ⟨rfl, rfl, rfl⟩
  all_goals
    go_wp2_with (first
      | (go_at_call 33; (first | (with_reducible refine (bw_call N0.out _).mono ?_) | (with_reducible refine (bw_call N1.out _).mono ?_) | (with_reducible refine (bw_call N2.out _).mono ?_) | (with_reducible refine (bw_call N3.out _).mono ?_)); rintro e w' ⟨rfl, q, rfl⟩))
    go_ret
    exact ⟨rfl, bw_below B1 _⟩

set_option maxRecDepth 100000 in
set_option maxHeartbeats 4000000 in
theorem ref8_Put (x1 x2 x3 y1 y2 y3 z1 z2 z3 m1 m2 m3 a b c : Int) (w : World) :
    Calls Try.prog 42 #[.agg #[.int .i64 x1, .int .i64 x2, .int .i64 x3, .int .i64 y1, .int .i64 y2, .int .i64 y3, .int .i64 z1, .int .i64 z2, .int .i64 z3, .int .i64 m1, .int .i64 m2, .int .i64 m3], .agg #[.int .i64 a, .int .i64 b, .int .i64 c]] w fun en w' => en = .returned (.agg #[.int .i64 (pPut ((x1, x2, x3), (y1, y2, y3), (z1, z2, z3), (m1, m2, m3)) (a, b, c)).1, .int .i64 (pPut ((x1, x2, x3), (y1, y2, y3), (z1, z2, z3), (m1, m2, m3)) (a, b, c)).2.1, .int .i64 (pPut ((x1, x2, x3), (y1, y2, y3), (z1, z2, z3), (m1, m2, m3)) (a, b, c)).2.2]) ∧ Below w.heap.size w w' := by
  have N1 := Lib.hid (fun w => ref8_Right x1 x2 x3 y1 y2 y3 z1 z2 z3 m1 m2 m3 w)
  have N2 := Lib.hid (fun w => ref6_Near a b c w)
  unfold pPut
  have en : nrT (a, b, c) = vnear a b c := rfl
  rw [en]
  clear en
  have R0 := Lib.hid (fun w => ref8_row x1 x2 x3 a b c w)
  have R1 := Lib.hid (fun w => ref8_row y1 y2 y3 a b c w)
  have R2 := Lib.hid (fun w => ref8_row z1 z2 z3 a b c w)
  by_cases h : qRight ((x1, x2, x3), (y1, y2, y3), (z1, z2, z3), (m1, m2, m3)) = true ∧ vnear a b c = true
  rotate_left
  · rw [if_neg h]
    have hc : (qRight ((x1, x2, x3), (y1, y2, y3), (z1, z2, z3), (m1, m2, m3)) = false) ∨ (qRight ((x1, x2, x3), (y1, y2, y3), (z1, z2, z3), (m1, m2, m3)) = true ∧ vnear a b c = false) := by
      cases h1 : qRight ((x1, x2, x3), (y1, y2, y3), (z1, z2, z3), (m1, m2, m3)) <;> cases h2 : vnear a b c <;> simp [h1, h2] at h ⊢
    clear h R0 R1 R2
    generalize qRight ((x1, x2, x3), (y1, y2, y3), (z1, z2, z3), (m1, m2, m3)) = n1 at *
    generalize vnear a b c = n2 at *
    go_enter Try.func42, Try.ntmps42
    go_upto_region 1 with (fail)
    obtain ⟨W1, hW1⟩ : ∃ W, W = ((w.alloc (.cells #[.int .i64 x1, .int .i64 x2, .int .i64 x3, .int .i64 y1, .int .i64 y2, .int .i64 y3, .int .i64 z1, .int .i64 z2, .int .i64 z3, .int .i64 m1, .int .i64 m2, .int .i64 m3] 25)).alloc (.cells #[.int .i64 a, .int .i64 b, .int .i64 c] 23)).alloc (.cells #[.int .i64 0, .int .i64 0, .int .i64 0] 23) := ⟨_, rfl⟩
    obtain ⟨k_p, k_v, k_r, B1⟩ := st3 hW1
    rw [← hW1]
    clear hW1
    have l_v : w.heap.size < w.heap.size + 1 := by omega
    have l_r : w.heap.size + 1 < w.heap.size + 1 + 1 := by omega
    generalize w.heap.size + 1 + 1 = g_r at *
    generalize w.heap.size + 1 = g_v at *
    obtain ⟨c_p_0, c_p_1, c_p_2, c_p_3, c_p_4, c_p_5, c_p_6, c_p_7, c_p_8, c_p_9, c_p_10, c_p_11⟩ := bwc12 (k_p)
    obtain ⟨c_v_0, c_v_1, c_v_2⟩ := bwc3 (k_v)
    obtain ⟨c_r_0, c_r_1, c_r_2⟩ := bwc3 (k_r)
    obtain ⟨f_r_0, f_r_1, f_r_2⟩ := bwf3 (k_r)
    obtain ⟨p1, hp1⟩ : ∃ p : BW W1, p.w = W1 := ⟨BW.start W1, rfl⟩
    rw [← hp1]
    clear hp1
    rcases hc with rfl | ⟨rfl, rfl⟩
    · clear k_p k_v
      go_wp2_with (first
        | (go_at_call 16; (first | (with_reducible refine (bw_call N1.out _).mono ?_)); rintro e w' ⟨rfl, q, rfl⟩)
        | (go_at_call 33; (first | (with_reducible refine (bw_call N2.out _).mono ?_)); rintro e w' ⟨rfl, q, rfl⟩))
      have kr := bkp3 (k_r.below q.h) (.int .i64 0) (.int .i64 0) (.int .i64 0)
      obtain ⟨rc0, rc1, rc2⟩ := rwc3 kr
      exact bodyPost_ret (v := .agg #[.int .i64 0, .int .i64 0, .int .i64 0]) (by simp [results, Try.results42, go_sem, rc0, rc1, rc2]) rfl ⟨rfl, blp3 (bw_below B1 q) (by omega)⟩
    · clear k_p k_v
      go_wp2_with (first
        | (go_at_call 16; (first | (with_reducible refine (bw_call N1.out _).mono ?_)); rintro e w' ⟨rfl, q, rfl⟩)
        | (go_at_call 33; (first | (with_reducible refine (bw_call N2.out _).mono ?_)); rintro e w' ⟨rfl, q, rfl⟩))
      have kr := bkp3 (k_r.below q.h) (.int .i64 0) (.int .i64 0) (.int .i64 0)
      obtain ⟨rc0, rc1, rc2⟩ := rwc3 kr
      exact bodyPost_ret (v := .agg #[.int .i64 0, .int .i64 0, .int .i64 0]) (by simp [results, Try.results42, go_sem, rc0, rc1, rc2]) rfl ⟨rfl, blp3 (bw_below B1 q) (by omega)⟩
  · rw [if_pos h]
    rw [h.1] at N1
    rw [h.2] at N2
    have hn := h.1
    unfold qRight nrT at hn
    dsimp only at hn ⊢
    simp only [Bool.and_eq_true] at hn
    obtain ⟨_, _, _, hm⟩ := hn
    rw [vnear_iff] at hm
    clear h
    have s0 := pRow_small (x1, x2, x3) (a, b, c)
    generalize pRow (x1, x2, x3) (a, b, c) = t0 at *
    have e0 : IntKind.i64.wrap (t0 + m1) = t0 + m1 := by rw [i64w]; omega
    obtain ⟨r0, hr0⟩ : ∃ r, r = t0 + m1 := ⟨_, rfl⟩
    have f0 : t0 + m1 = r0 := hr0.symm
    rw [← hr0] at e0 ⊢
    clear hr0 s0
    have s1 := pRow_small (y1, y2, y3) (a, b, c)
    generalize pRow (y1, y2, y3) (a, b, c) = t1 at *
    have e1 : IntKind.i64.wrap (t1 + m2) = t1 + m2 := by rw [i64w]; omega
    obtain ⟨r1, hr1⟩ : ∃ r, r = t1 + m2 := ⟨_, rfl⟩
    have f1 : t1 + m2 = r1 := hr1.symm
    rw [← hr1] at e1 ⊢
    clear hr1 s1
    have s2 := pRow_small (z1, z2, z3) (a, b, c)
    generalize pRow (z1, z2, z3) (a, b, c) = t2 at *
    have e2 : IntKind.i64.wrap (t2 + m3) = t2 + m3 := by rw [i64w]; omega
    obtain ⟨r2, hr2⟩ : ∃ r, r = t2 + m3 := ⟨_, rfl⟩
    have f2 : t2 + m3 = r2 := hr2.symm
    rw [← hr2] at e2 ⊢
    clear hr2 s2
    clear hm
    go_enter Try.func42, Try.ntmps42
    go_upto_region 1 with (fail)
    obtain ⟨W1, hW1⟩ : ∃ W, W = ((w.alloc (.cells #[.int .i64 x1, .int .i64 x2, .int .i64 x3, .int .i64 y1, .int .i64 y2, .int .i64 y3, .int .i64 z1, .int .i64 z2, .int .i64 z3, .int .i64 m1, .int .i64 m2, .int .i64 m3] 25)).alloc (.cells #[.int .i64 a, .int .i64 b, .int .i64 c] 23)).alloc (.cells #[.int .i64 0, .int .i64 0, .int .i64 0] 23) := ⟨_, rfl⟩
    obtain ⟨k_p, k_v, k_r, B1⟩ := st3 hW1
    rw [← hW1]
    clear hW1
    have l_v : w.heap.size < w.heap.size + 1 := by omega
    have l_r : w.heap.size + 1 < w.heap.size + 1 + 1 := by omega
    generalize w.heap.size + 1 + 1 = g_r at *
    generalize w.heap.size + 1 = g_v at *
    obtain ⟨c_p_0, c_p_1, c_p_2, c_p_3, c_p_4, c_p_5, c_p_6, c_p_7, c_p_8, c_p_9, c_p_10, c_p_11⟩ := bwc12 (k_p)
    obtain ⟨c_v_0, c_v_1, c_v_2⟩ := bwc3 (k_v)
    obtain ⟨c_r_0, c_r_1, c_r_2⟩ := bwc3 (k_r)
    obtain ⟨f_r_0, f_r_1, f_r_2⟩ := bwf3 (k_r)
    obtain ⟨p1, hp1⟩ : ∃ p : BW W1, p.w = W1 := ⟨BW.start W1, rfl⟩
    rw [← hp1]
    clear hp1
    go_upto_region 3 with (first
      | (go_at_call 16; (first | (with_reducible refine (bw_call N1.out _).mono ?_)); rintro e w' ⟨rfl, q, rfl⟩)
      | (go_at_call 33; (first | (with_reducible refine (bw_call N2.out _).mono ?_)); rintro e w' ⟨rfl, q, rfl⟩))
    refine wp_region_bw_tail 24 (by kernel_rfl) (by kernel_rfl) (by kernel_rfl) ?_
    simp only [List.take_succ_cons, List.take_zero, List.drop_succ_cons, List.drop_zero]
    repeat (go_big_quiet_step (first
      | (go_at_call 56; (first | (with_reducible exact bw_call R0.out _) | (with_reducible exact bw_call R1.out _) | (with_reducible exact bw_call R2.out _)))))
    refine wpQuiet_nil ?_
    intro _ hw'
    obtain ⟨q, rfl⟩ := hw'
    go_wp2
    have kr := bkp3 (k_r.below q.h) (.int .i64 r0) (.int .i64 r1) (.int .i64 r2)
    obtain ⟨rc0, rc1, rc2⟩ := rwc3 kr
    exact bodyPost_ret (v := .agg #[.int .i64 r0, .int .i64 r1, .int .i64 r2]) (by simp [results, Try.results42, go_sem, rc0, rc1, rc2]) rfl ⟨rfl, blp3 (bw_below B1 q) (by omega)⟩

end
end Go.Proofs.Ytneacfhoinaeeaa
