/- Contracts of package hue: the exported functions. -/
import Derived.Test.YtppfemaolaigoaaHuel09
import Derived.Test.YtppfemaolaigoaaFrac01
import Derived.Test.YtppfemaolaigoaaTail
namespace Go.Proofs.Ytppfemaolaigoaa
open Go.RowKit Go.Proofs.Sky
set_option linter.unusedVariables false

set_option maxRecDepth 100000 in
set_option maxHeartbeats 4000000 in
theorem hue_Color (x y z : Int) (w : World) :
    Calls Try.prog 6 #[.agg #[.int .i64 x, .int .i64 y, .int .i64 z]] w fun e w' => e = .returned (.bool (rcol (x, y, z))) ∧ Below w.heap.size w w' := by
  have K := Lib.hid (fun w => hue_within x y z 65536 w)
  unfold rcol
  generalize rin 65536 (x, y, z) = t at *
  go_enter Try.func6, Try.ntmps6
  go_upto_region 1 with (fail)
  obtain ⟨W1, hW1⟩ : ∃ W, W = w.alloc (.cells #[.int .i64 x, .int .i64 y, .int .i64 z] 23) := ⟨_, rfl⟩
  obtain ⟨k_v, B1⟩ := st1 hW1
  rw [← hW1]
  clear hW1
  obtain ⟨c_v_0, c_v_1, c_v_2⟩ := bwc3 (k_v)
  obtain ⟨p1, hp1⟩ : ∃ p : BW W1, p.w = W1 := ⟨BW.start W1, rfl⟩
  rw [← hp1]
  clear hp1
  go_wp2_with (first
    | (go_at_call 25; (first | (with_reducible refine (bw_call K.out _).mono ?_)); rintro e w' ⟨rfl, q, rfl⟩))
  go_ret
  exact ⟨rfl, bw_below B1 _⟩

set_option maxRecDepth 100000 in
set_option maxHeartbeats 4000000 in
theorem hue_Weight (x y z : Int) (w : World) :
    Calls Try.prog 8 #[.agg #[.int .i64 x, .int .i64 y, .int .i64 z]] w fun e w' => e = .returned (.bool (rwei (x, y, z))) ∧ Below w.heap.size w w' := by
  have K := Lib.hid (fun w => hue_within x y z 1099511627776 w)
  unfold rwei
  generalize rin 1099511627776 (x, y, z) = t at *
  go_enter Try.func8, Try.ntmps8
  go_upto_region 1 with (fail)
  obtain ⟨W1, hW1⟩ : ∃ W, W = w.alloc (.cells #[.int .i64 x, .int .i64 y, .int .i64 z] 23) := ⟨_, rfl⟩
  obtain ⟨k_v, B1⟩ := st1 hW1
  rw [← hW1]
  clear hW1
  obtain ⟨c_v_0, c_v_1, c_v_2⟩ := bwc3 (k_v)
  obtain ⟨p1, hp1⟩ : ∃ p : BW W1, p.w = W1 := ⟨BW.start W1, rfl⟩
  rw [← hp1]
  clear hp1
  go_wp2_with (first
    | (go_at_call 25; (first | (with_reducible refine (bw_call K.out _).mono ?_)); rintro e w' ⟨rfl, q, rfl⟩))
  go_ret
  exact ⟨rfl, bw_below B1 _⟩

set_option maxRecDepth 100000 in
set_option maxHeartbeats 4000000 in
theorem hue_Mix_now (a b c x y z : Int) (w : World) (h : rwei (a, b, c) = false) :
    Calls Try.prog 10 #[.agg #[.int .i64 a, .int .i64 b, .int .i64 c], .agg #[.int .i64 x, .int .i64 y, .int .i64 z]] w fun e w' => e = .returned (.agg #[.int .i64 0, .int .i64 0, .int .i64 0]) ∧ Below w.heap.size w w' := by
  have KW := Lib.hid (fun w => hue_Weight a b c w)
  rw [h] at KW
  clear h
  go_enter Try.func10, Try.ntmps10
  go_upto_region 1 with (fail)
  obtain ⟨W1, hW1⟩ : ∃ W, W = ((w.alloc (.cells #[.int .i64 a, .int .i64 b, .int .i64 c] 23)).alloc (.cells #[.int .i64 x, .int .i64 y, .int .i64 z] 23)).alloc (.cells #[.int .i64 0, .int .i64 0, .int .i64 0] 23) := ⟨_, rfl⟩
  obtain ⟨k_a, k_x, k_r, B1⟩ := st3 hW1
  rw [← hW1]
  clear hW1
  have l_x : w.heap.size < w.heap.size + 1 := by omega
  have l_r : w.heap.size + 1 < w.heap.size + 1 + 1 := by omega
  generalize w.heap.size + 1 + 1 = g_r at *
  generalize w.heap.size + 1 = g_x at *
  obtain ⟨c_a_0, c_a_1, c_a_2⟩ := bwc3 (k_a)
  obtain ⟨c_x_0, c_x_1, c_x_2⟩ := bwc3 (k_x)
  obtain ⟨c_r_0, c_r_1, c_r_2⟩ := bwc3 (k_r)
  obtain ⟨f_r_0, f_r_1, f_r_2⟩ := bwf3 (k_r)
  obtain ⟨p1, hp1⟩ : ∃ p : BW W1, p.w = W1 := ⟨BW.start W1, rfl⟩
  rw [← hp1]
  clear hp1
  go_wp2_with (first
    | (go_at_call 8; (first | (with_reducible refine (bw_call KW.out _).mono ?_)); rintro e w' ⟨rfl, q, rfl⟩))
  have kr := bkp3 (k_r.below q.h) (.int .i64 0) (.int .i64 0) (.int .i64 0)
  obtain ⟨rc0, rc1, rc2⟩ := rwc3 kr
  exact bodyPost_ret (v := .agg #[.int .i64 0, .int .i64 0, .int .i64 0]) (by simp [results, Try.results10, go_sem, rc0, rc1, rc2]) rfl ⟨rfl, blp3 (bw_below B1 q) (by omega)⟩

set_option maxRecDepth 100000 in
set_option maxHeartbeats 4000000 in
theorem hue_Mix_noc (a b c x y z : Int) (w : World) (h : rwei (a, b, c) = true) (h2 : rcol (x, y, z) = false) :
    Calls Try.prog 10 #[.agg #[.int .i64 a, .int .i64 b, .int .i64 c], .agg #[.int .i64 x, .int .i64 y, .int .i64 z]] w fun e w' => e = .returned (.agg #[.int .i64 0, .int .i64 0, .int .i64 0]) ∧ Below w.heap.size w w' := by
  have KW := Lib.hid (fun w => hue_Weight a b c w)
  rw [h] at KW
  have KC := Lib.hid (fun w => hue_Color x y z w)
  rw [h2] at KC
  clear h h2
  go_enter Try.func10, Try.ntmps10
  go_upto_region 1 with (fail)
  obtain ⟨W1, hW1⟩ : ∃ W, W = ((w.alloc (.cells #[.int .i64 a, .int .i64 b, .int .i64 c] 23)).alloc (.cells #[.int .i64 x, .int .i64 y, .int .i64 z] 23)).alloc (.cells #[.int .i64 0, .int .i64 0, .int .i64 0] 23) := ⟨_, rfl⟩
  obtain ⟨k_a, k_x, k_r, B1⟩ := st3 hW1
  rw [← hW1]
  clear hW1
  have l_x : w.heap.size < w.heap.size + 1 := by omega
  have l_r : w.heap.size + 1 < w.heap.size + 1 + 1 := by omega
  generalize w.heap.size + 1 + 1 = g_r at *
  generalize w.heap.size + 1 = g_x at *
  obtain ⟨c_a_0, c_a_1, c_a_2⟩ := bwc3 (k_a)
  obtain ⟨c_x_0, c_x_1, c_x_2⟩ := bwc3 (k_x)
  obtain ⟨c_r_0, c_r_1, c_r_2⟩ := bwc3 (k_r)
  obtain ⟨f_r_0, f_r_1, f_r_2⟩ := bwf3 (k_r)
  obtain ⟨p1, hp1⟩ : ∃ p : BW W1, p.w = W1 := ⟨BW.start W1, rfl⟩
  rw [← hp1]
  clear hp1
  go_wp2_with (first
    | (go_at_call 8; (first | (with_reducible refine (bw_call KW.out _).mono ?_)); rintro e w' ⟨rfl, q, rfl⟩)
    | (go_at_call 6; (first | (with_reducible refine (bw_call KC.out _).mono ?_)); rintro e w' ⟨rfl, q, rfl⟩))
  have kr := bkp3 (k_r.below q.h) (.int .i64 0) (.int .i64 0) (.int .i64 0)
  obtain ⟨rc0, rc1, rc2⟩ := rwc3 kr
  exact bodyPost_ret (v := .agg #[.int .i64 0, .int .i64 0, .int .i64 0]) (by simp [results, Try.results10, go_sem, rc0, rc1, rc2]) rfl ⟨rfl, blp3 (bw_below B1 q) (by omega)⟩

set_option maxRecDepth 100000 in
set_option maxHeartbeats 4000000 in
theorem hue_Mix_yes (a b c x y z : Int) (w : World) (h : rwei (a, b, c) = true) (h2 : rcol (x, y, z) = true) :
    Calls Try.prog 10 #[.agg #[.int .i64 a, .int .i64 b, .int .i64 c], .agg #[.int .i64 x, .int .i64 y, .int .i64 z]] w fun e w' => e = .returned (.agg #[.int .i64 (a * x / 65536), .int .i64 (b * y / 65536), .int .i64 (c * z / 65536)]) ∧ Below w.heap.size w w' := by
  have KW := Lib.hid (fun w => hue_Weight a b c w)
  rw [h] at KW
  have KC := Lib.hid (fun w => hue_Color x y z w)
  rw [h2] at KC
  unfold rwei at h
  unfold rcol at h2
  rw [rin_iff] at h h2
  dsimp only at h h2
  have M1 := Lib.hid (fun w => hue_mixed a x w (by omega) (by omega))
  generalize a * x / 65536 = r1 at *
  have M2 := Lib.hid (fun w => hue_mixed b y w (by omega) (by omega))
  generalize b * y / 65536 = r2 at *
  have M3 := Lib.hid (fun w => hue_mixed c z w (by omega) (by omega))
  generalize c * z / 65536 = r3 at *
  clear h h2
  go_enter Try.func10, Try.ntmps10
  go_upto_region 1 with (fail)
  obtain ⟨W1, hW1⟩ : ∃ W, W = ((w.alloc (.cells #[.int .i64 a, .int .i64 b, .int .i64 c] 23)).alloc (.cells #[.int .i64 x, .int .i64 y, .int .i64 z] 23)).alloc (.cells #[.int .i64 0, .int .i64 0, .int .i64 0] 23) := ⟨_, rfl⟩
  obtain ⟨k_a, k_x, k_r, B1⟩ := st3 hW1
  rw [← hW1]
  clear hW1
  have l_x : w.heap.size < w.heap.size + 1 := by omega
  have l_r : w.heap.size + 1 < w.heap.size + 1 + 1 := by omega
  generalize w.heap.size + 1 + 1 = g_r at *
  generalize w.heap.size + 1 = g_x at *
  obtain ⟨c_a_0, c_a_1, c_a_2⟩ := bwc3 (k_a)
  obtain ⟨c_x_0, c_x_1, c_x_2⟩ := bwc3 (k_x)
  obtain ⟨c_r_0, c_r_1, c_r_2⟩ := bwc3 (k_r)
  obtain ⟨f_r_0, f_r_1, f_r_2⟩ := bwf3 (k_r)
  obtain ⟨p1, hp1⟩ : ∃ p : BW W1, p.w = W1 := ⟨BW.start W1, rfl⟩
  rw [← hp1]
  clear hp1
  go_upto_region 3 with (first
    | (go_at_call 8; (first | (with_reducible refine (bw_call KW.out _).mono ?_)); rintro e w' ⟨rfl, q, rfl⟩)
    | (go_at_call 6; (first | (with_reducible refine (bw_call KC.out _).mono ?_)); rintro e w' ⟨rfl, q, rfl⟩))
  refine wp_region_bw_tail 15 (by kernel_rfl) (by kernel_rfl) (by kernel_rfl) ?_
  simp only [List.take_succ_cons, List.take_zero, List.drop_succ_cons, List.drop_zero]
  repeat (go_big_quiet_step (first
    | (go_at_call 27; (first | (with_reducible exact bw_call M1.out _) | (with_reducible exact bw_call M2.out _) | (with_reducible exact bw_call M3.out _)))))
  refine wpQuiet_nil ?_
  intro _ hw'
  obtain ⟨q, rfl⟩ := hw'
  go_wp2
  have kr := bkp3 (k_r.below q.h) (.int .i64 r1) (.int .i64 r2) (.int .i64 r3)
  obtain ⟨rc0, rc1, rc2⟩ := rwc3 kr
  exact bodyPost_ret (v := .agg #[.int .i64 r1, .int .i64 r2, .int .i64 r3]) (by simp [results, Try.results10, go_sem, rc0, rc1, rc2]) rfl ⟨rfl, blp3 (bw_below B1 q) (by omega)⟩

theorem hue_Mix (a b c x y z : Int) (w : World) (_ : I64 a) (_ : I64 b) (_ : I64 c) (_ : I64 x) (_ : I64 y) (_ : I64 z) :
    Calls Try.prog 10 #[.agg #[.int .i64 a, .int .i64 b, .int .i64 c], .agg #[.int .i64 x, .int .i64 y, .int .i64 z]] w fun e w' => e = .returned (.agg #[.int .i64 (hmix (a, b, c) (x, y, z)).1, .int .i64 (hmix (a, b, c) (x, y, z)).2.1, .int .i64 (hmix (a, b, c) (x, y, z)).2.2]) ∧ Below w.heap.size w w' := by
  unfold hmix
  cases h : rwei (a, b, c) with
  | false => rw [if_neg (by simp)]; exact hue_Mix_now a b c x y z w h
  | true =>
    cases h2 : rcol (x, y, z) with
    | false => rw [if_neg (by simp)]; exact hue_Mix_noc a b c x y z w h h2
    | true => rw [if_pos (by simp)]; exact hue_Mix_yes a b c x y z w h h2

set_option maxRecDepth 100000 in
set_option maxHeartbeats 4000000 in
theorem hue_Add (a b c x y z : Int) (w : World) (ha : I64 a) (hb : I64 b) (hc : I64 c) (hx : I64 x) (hy : I64 y) (hz : I64 z) :
    Calls Try.prog 12 #[.agg #[.int .i64 a, .int .i64 b, .int .i64 c], .agg #[.int .i64 x, .int .i64 y, .int .i64 z]] w fun e w' => e = .returned (.agg #[.int .i64 (hadd (a, b, c) (x, y, z)).1, .int .i64 (hadd (a, b, c) (x, y, z)).2.1, .int .i64 (hadd (a, b, c) (x, y, z)).2.2]) ∧ Below w.heap.size w w' := by
  obtain ⟨⟨s1, s2, s3⟩, hS⟩ : ∃ S, S = hadd (a, b, c) (x, y, z) := ⟨_, rfl⟩
  rw [← hS]
  dsimp only
  go_enter Try.func12, Try.ntmps12
  go_upto_region 1 with (fail)
  obtain ⟨W1, hW1⟩ : ∃ W, W = ((w.alloc (.cells #[.int .i64 a, .int .i64 b, .int .i64 c] 23)).alloc (.cells #[.int .i64 x, .int .i64 y, .int .i64 z] 23)).alloc (.cells #[.int .i64 0, .int .i64 0, .int .i64 0] 23) := ⟨_, rfl⟩
  obtain ⟨k_a, k_x, k_r, B1⟩ := st3 hW1
  rw [← hW1]
  clear hW1
  have l_x : w.heap.size < w.heap.size + 1 := by omega
  have l_r : w.heap.size + 1 < w.heap.size + 1 + 1 := by omega
  generalize w.heap.size + 1 + 1 = g_r at *
  generalize w.heap.size + 1 = g_x at *
  obtain ⟨c_a_0, c_a_1, c_a_2⟩ := bwc3 (k_a)
  obtain ⟨c_x_0, c_x_1, c_x_2⟩ := bwc3 (k_x)
  obtain ⟨c_r_0, c_r_1, c_r_2⟩ := bwc3 (k_r)
  obtain ⟨f_r_0, f_r_1, f_r_2⟩ := bwf3 (k_r)
  obtain ⟨p1, hp1⟩ : ∃ p : BW W1, p.w = W1 := ⟨BW.start W1, rfl⟩
  rw [← hp1]
  clear hp1
  have KC : ∀ p : BW W1, Calls Try.prog 29 #[.slice (some ⟨p.w.heap.size, 0, none⟩) 2 2] (p.w.alloc (.cells #[.int .i64 a, .int .i64 b, .int .i64 c, .int .i64 x, .int .i64 y, .int .i64 z] 23)) fun e w' => e = .returned (.agg #[.int .i64 s1, .int .i64 s2, .int .i64 s3]) ∧ ∃ q : BW W1, w' = q.w := fun p =>
    (hue_sum2 2 a b c x y z W1 p.w _ rfl p.h ha hb hc hx hy hz).mono fun e w' h => ⟨by rw [← hS] at h; exact h.1, ⟨w', h.2⟩, rfl⟩
  clear ha hb hc hx hy hz hS
  go_wp2_with (go_at_call 29; (with_reducible refine (KC _).mono ?_); rintro e w' ⟨rfl, q, rfl⟩)
  have kr := bkp3 (k_r.below q.h) (.int .i64 s1) (.int .i64 s2) (.int .i64 s3)
  obtain ⟨rc0, rc1, rc2⟩ := rwc3 kr
  exact bodyPost_ret (v := .agg #[.int .i64 s1, .int .i64 s2, .int .i64 s3]) (by simp [results, Try.results12, go_sem, rc0, rc1, rc2]) rfl ⟨rfl, blp3 (bw_below B1 q) (by omega)⟩

set_option maxRecDepth 100000 in
set_option maxHeartbeats 4000000 in
theorem hue_part (x n d : Int) (g : Nat) (w : World) (c0 : w.cell? ⟨g, 0, none⟩ = some (.int .i64 n)) (c1 : w.cell? ⟨g, 1, none⟩ = some (.int .i64 d)) (hx : I64 x) (hn : I64 n) (hd : I64 d) :
    Calls Try.prog 32 #[.int .i64 x, .pointer (some ⟨g, 0, none⟩)] w fun e w' => e = .returned (.int .i64 (m40 (fat x n d))) ∧ Below w.heap.size w w' := by
  have K := Lib.hid (fun w => frac_At x n d w hx hn hd)
  have M : min (fat x n d) 1099511627776 = m40 (fat x n d) := by unfold m40; exact Int.min_def ..
  clear hx hn hd
  generalize m40 (fat x n d) = m at *
  generalize fat x n d = u at *
  go_enter Try.func32, Try.ntmps32
  go_wp2_with (go_at_call 33; (with_reducible refine (K.out _).mono ?_); rintro e w' ⟨rfl, hb⟩)
  go_ret
  exact ⟨rfl, hb⟩

set_option maxRecDepth 100000 in
set_option maxHeartbeats 4000000 in
theorem hue_Part_now (a b c n d : Int) (w : World) (h : rwei (a, b, c) = false) :
    Calls Try.prog 14 #[.agg #[.int .i64 a, .int .i64 b, .int .i64 c], .agg #[.int .i64 n, .int .i64 d]] w fun e w' => e = .returned (.agg #[.int .i64 0, .int .i64 0, .int .i64 0]) ∧ Below w.heap.size w w' := by
  have KW := Lib.hid (fun w => hue_Weight a b c w)
  rw [h] at KW
  clear h
  go_enter Try.func14, Try.ntmps14
  go_upto_region 1 with (fail)
  obtain ⟨W1, hW1⟩ : ∃ W, W = ((w.alloc (.cells #[.int .i64 a, .int .i64 b, .int .i64 c] 23)).alloc (.cells #[.int .i64 n, .int .i64 d] 25)).alloc (.cells #[.int .i64 0, .int .i64 0, .int .i64 0] 23) := ⟨_, rfl⟩
  obtain ⟨k_a, k_f, k_r, B1⟩ := st3 hW1
  rw [← hW1]
  clear hW1
  have l_f : w.heap.size < w.heap.size + 1 := by omega
  have l_r : w.heap.size + 1 < w.heap.size + 1 + 1 := by omega
  generalize w.heap.size + 1 + 1 = g_r at *
  generalize w.heap.size + 1 = g_f at *
  obtain ⟨c_a_0, c_a_1, c_a_2⟩ := bwc3 (k_a)
  obtain ⟨c_f_0, c_f_1⟩ := bwc2 (k_f)
  obtain ⟨c_r_0, c_r_1, c_r_2⟩ := bwc3 (k_r)
  obtain ⟨f_r_0, f_r_1, f_r_2⟩ := bwf3 (k_r)
  obtain ⟨p1, hp1⟩ : ∃ p : BW W1, p.w = W1 := ⟨BW.start W1, rfl⟩
  rw [← hp1]
  clear hp1
  go_wp2_with (first
    | (go_at_call 8; (first | (with_reducible refine (bw_call KW.out _).mono ?_)); rintro e w' ⟨rfl, q, rfl⟩))
  have kr := bkp3 (k_r.below q.h) (.int .i64 0) (.int .i64 0) (.int .i64 0)
  obtain ⟨rc0, rc1, rc2⟩ := rwc3 kr
  exact bodyPost_ret (v := .agg #[.int .i64 0, .int .i64 0, .int .i64 0]) (by simp [results, Try.results14, go_sem, rc0, rc1, rc2]) rfl ⟨rfl, blp3 (bw_below B1 q) (by omega)⟩

set_option maxRecDepth 100000 in
set_option maxHeartbeats 4000000 in
theorem hue_Part_nod (a b c n d : Int) (w : World) (h : rwei (a, b, c) = true) (h2 : ¬ 1 ≤ d) :
    Calls Try.prog 14 #[.agg #[.int .i64 a, .int .i64 b, .int .i64 c], .agg #[.int .i64 n, .int .i64 d]] w fun e w' => e = .returned (.agg #[.int .i64 0, .int .i64 0, .int .i64 0]) ∧ Below w.heap.size w w' := by
  have KW := Lib.hid (fun w => hue_Weight a b c w)
  rw [h] at KW
  have KC := Lib.hid (fun w => frac_Right n d w)
  rw [decide_eq_false h2] at KC
  clear h h2
  go_enter Try.func14, Try.ntmps14
  go_upto_region 1 with (fail)
  obtain ⟨W1, hW1⟩ : ∃ W, W = ((w.alloc (.cells #[.int .i64 a, .int .i64 b, .int .i64 c] 23)).alloc (.cells #[.int .i64 n, .int .i64 d] 25)).alloc (.cells #[.int .i64 0, .int .i64 0, .int .i64 0] 23) := ⟨_, rfl⟩
  obtain ⟨k_a, k_f, k_r, B1⟩ := st3 hW1
  rw [← hW1]
  clear hW1
  have l_f : w.heap.size < w.heap.size + 1 := by omega
  have l_r : w.heap.size + 1 < w.heap.size + 1 + 1 := by omega
  generalize w.heap.size + 1 + 1 = g_r at *
  generalize w.heap.size + 1 = g_f at *
  obtain ⟨c_a_0, c_a_1, c_a_2⟩ := bwc3 (k_a)
  obtain ⟨c_f_0, c_f_1⟩ := bwc2 (k_f)
  obtain ⟨c_r_0, c_r_1, c_r_2⟩ := bwc3 (k_r)
  obtain ⟨f_r_0, f_r_1, f_r_2⟩ := bwf3 (k_r)
  obtain ⟨p1, hp1⟩ : ∃ p : BW W1, p.w = W1 := ⟨BW.start W1, rfl⟩
  rw [← hp1]
  clear hp1
  go_wp2_with (first
    | (go_at_call 8; (first | (with_reducible refine (bw_call KW.out _).mono ?_)); rintro e w' ⟨rfl, q, rfl⟩)
    | (go_at_call 31; (first | (with_reducible refine (bw_call KC.out _).mono ?_)); rintro e w' ⟨rfl, q, rfl⟩))
  have kr := bkp3 (k_r.below q.h) (.int .i64 0) (.int .i64 0) (.int .i64 0)
  obtain ⟨rc0, rc1, rc2⟩ := rwc3 kr
  exact bodyPost_ret (v := .agg #[.int .i64 0, .int .i64 0, .int .i64 0]) (by simp [results, Try.results14, go_sem, rc0, rc1, rc2]) rfl ⟨rfl, blp3 (bw_below B1 q) (by omega)⟩

set_option maxRecDepth 100000 in
set_option maxHeartbeats 4000000 in
theorem hue_Part_non (a b c n d : Int) (w : World) (h : rwei (a, b, c) = true) (h2 : 1 ≤ d) (h3 : ¬ 0 ≤ n) :
    Calls Try.prog 14 #[.agg #[.int .i64 a, .int .i64 b, .int .i64 c], .agg #[.int .i64 n, .int .i64 d]] w fun e w' => e = .returned (.agg #[.int .i64 0, .int .i64 0, .int .i64 0]) ∧ Below w.heap.size w w' := by
  have KW := Lib.hid (fun w => hue_Weight a b c w)
  rw [h] at KW
  have KC := Lib.hid (fun w => frac_Right n d w)
  rw [decide_eq_true h2] at KC
  have t : decide (n < 0) = true := decide_eq_true (by omega)
  clear h h2 h3
  go_enter Try.func14, Try.ntmps14
  go_upto_region 1 with (fail)
  obtain ⟨W1, hW1⟩ : ∃ W, W = ((w.alloc (.cells #[.int .i64 a, .int .i64 b, .int .i64 c] 23)).alloc (.cells #[.int .i64 n, .int .i64 d] 25)).alloc (.cells #[.int .i64 0, .int .i64 0, .int .i64 0] 23) := ⟨_, rfl⟩
  obtain ⟨k_a, k_f, k_r, B1⟩ := st3 hW1
  rw [← hW1]
  clear hW1
  have l_f : w.heap.size < w.heap.size + 1 := by omega
  have l_r : w.heap.size + 1 < w.heap.size + 1 + 1 := by omega
  generalize w.heap.size + 1 + 1 = g_r at *
  generalize w.heap.size + 1 = g_f at *
  obtain ⟨c_a_0, c_a_1, c_a_2⟩ := bwc3 (k_a)
  obtain ⟨c_f_0, c_f_1⟩ := bwc2 (k_f)
  obtain ⟨c_r_0, c_r_1, c_r_2⟩ := bwc3 (k_r)
  obtain ⟨f_r_0, f_r_1, f_r_2⟩ := bwf3 (k_r)
  obtain ⟨p1, hp1⟩ : ∃ p : BW W1, p.w = W1 := ⟨BW.start W1, rfl⟩
  rw [← hp1]
  clear hp1
  go_wp2_with (first
    | (go_at_call 8; (first | (with_reducible refine (bw_call KW.out _).mono ?_)); rintro e w' ⟨rfl, q, rfl⟩)
    | (go_at_call 31; (first | (with_reducible refine (bw_call KC.out _).mono ?_)); rintro e w' ⟨rfl, q, rfl⟩))
  have kr := bkp3 (k_r.below q.h) (.int .i64 0) (.int .i64 0) (.int .i64 0)
  obtain ⟨rc0, rc1, rc2⟩ := rwc3 kr
  exact bodyPost_ret (v := .agg #[.int .i64 0, .int .i64 0, .int .i64 0]) (by simp [results, Try.results14, go_sem, rc0, rc1, rc2]) rfl ⟨rfl, blp3 (bw_below B1 q) (by omega)⟩

set_option maxRecDepth 100000 in
set_option maxHeartbeats 4000000 in
theorem hue_Part_yes (a b c n d : Int) (w : World) (h : rwei (a, b, c) = true) (h2 : 1 ≤ d) (h3 : 0 ≤ n) (hn : I64 n) (hd : I64 d) :
    Calls Try.prog 14 #[.agg #[.int .i64 a, .int .i64 b, .int .i64 c], .agg #[.int .i64 n, .int .i64 d]] w fun e w' => e = .returned (.agg #[.int .i64 (m40 (fat a n d)), .int .i64 (m40 (fat b n d)), .int .i64 (m40 (fat c n d))]) ∧ Below w.heap.size w w' := by
  have KW := Lib.hid (fun w => hue_Weight a b c w)
  rw [h] at KW
  have KC := Lib.hid (fun w => frac_Right n d w)
  rw [decide_eq_true h2] at KC
  unfold rwei at h
  rw [rin_iff] at h
  dsimp only at h
  have t : decide (n < 0) = false := decide_eq_false (by omega)
  have i1 : I64 a := by unfold I64; omega
  have i2 : I64 b := by unfold I64; omega
  have i3 : I64 c := by unfold I64; omega
  clear h h2 h3
  obtain ⟨r1, hr1⟩ : ∃ t, t = m40 (fat a n d) := ⟨_, rfl⟩
  obtain ⟨r2, hr2⟩ : ∃ t, t = m40 (fat b n d) := ⟨_, rfl⟩
  obtain ⟨r3, hr3⟩ : ∃ t, t = m40 (fat c n d) := ⟨_, rfl⟩
  rw [← hr1, ← hr2, ← hr3]
  go_enter Try.func14, Try.ntmps14
  go_upto_region 1 with (fail)
  obtain ⟨W1, hW1⟩ : ∃ W, W = ((w.alloc (.cells #[.int .i64 a, .int .i64 b, .int .i64 c] 23)).alloc (.cells #[.int .i64 n, .int .i64 d] 25)).alloc (.cells #[.int .i64 0, .int .i64 0, .int .i64 0] 23) := ⟨_, rfl⟩
  obtain ⟨k_a, k_f, k_r, B1⟩ := st3 hW1
  rw [← hW1]
  clear hW1
  have l_f : w.heap.size < w.heap.size + 1 := by omega
  have l_r : w.heap.size + 1 < w.heap.size + 1 + 1 := by omega
  generalize w.heap.size + 1 + 1 = g_r at *
  generalize w.heap.size + 1 = g_f at *
  obtain ⟨c_a_0, c_a_1, c_a_2⟩ := bwc3 (k_a)
  obtain ⟨c_f_0, c_f_1⟩ := bwc2 (k_f)
  obtain ⟨c_r_0, c_r_1, c_r_2⟩ := bwc3 (k_r)
  obtain ⟨f_r_0, f_r_1, f_r_2⟩ := bwf3 (k_r)
  obtain ⟨p1, hp1⟩ : ∃ p : BW W1, p.w = W1 := ⟨BW.start W1, rfl⟩
  rw [← hp1]
  clear hp1
  go_upto_region 3 with (first
    | (go_at_call 8; (first | (with_reducible refine (bw_call KW.out _).mono ?_)); rintro e w' ⟨rfl, q, rfl⟩)
    | (go_at_call 31; (first | (with_reducible refine (bw_call KC.out _).mono ?_)); rintro e w' ⟨rfl, q, rfl⟩))
  have P1 : Hid (∀ p : BW W1, Calls Try.prog 32 #[.int .i64 a, .pointer (some ⟨g_f, 0, none⟩)] p.w fun e w' => e = .returned (.int .i64 r1) ∧ ∃ q : BW W1, w' = q.w) := Lib.hid (fun p => by rw [hr1]; exact (hue_part a n d g_f p.w (c_f_0 p) (c_f_1 p) i1 hn hd).mono fun e w' h => ⟨h.1, p.next w' h.2, rfl⟩)
  have P2 : Hid (∀ p : BW W1, Calls Try.prog 32 #[.int .i64 b, .pointer (some ⟨g_f, 0, none⟩)] p.w fun e w' => e = .returned (.int .i64 r2) ∧ ∃ q : BW W1, w' = q.w) := Lib.hid (fun p => by rw [hr2]; exact (hue_part b n d g_f p.w (c_f_0 p) (c_f_1 p) i2 hn hd).mono fun e w' h => ⟨h.1, p.next w' h.2, rfl⟩)
  have P3 : Hid (∀ p : BW W1, Calls Try.prog 32 #[.int .i64 c, .pointer (some ⟨g_f, 0, none⟩)] p.w fun e w' => e = .returned (.int .i64 r3) ∧ ∃ q : BW W1, w' = q.w) := Lib.hid (fun p => by rw [hr3]; exact (hue_part c n d g_f p.w (c_f_0 p) (c_f_1 p) i3 hn hd).mono fun e w' h => ⟨h.1, p.next w' h.2, rfl⟩)
  clear i1 i2 i3 hn hd hr1 hr2 hr3
  have hmf : ∀ (fn : Fn) (first cap : Array Value) (w : World), (Instr.makeFunc fn first cap).run Try.prog w = .ok (.func fn first cap) w := fun _ _ _ _ => rfl
  go_upto_region 4 with (fail)
  refine wp_region_bw_tail 12 (by kernel_rfl) (by kernel_rfl) (by kernel_rfl) ?_
  simp only [List.take_succ_cons, List.take_zero, List.drop_succ_cons, List.drop_zero]
  repeat (go_big_quiet_step (first
    | (go_at_call 32; (first | (with_reducible exact P1.out _) | (with_reducible exact P2.out _) | (with_reducible exact P3.out _)))))
  refine wpQuiet_nil ?_
  intro _ hw'
  obtain ⟨q, rfl⟩ := hw'
  go_wp2
  have kr := bkp3 (k_r.below q.h) (.int .i64 r1) (.int .i64 r2) (.int .i64 r3)
  obtain ⟨rc0, rc1, rc2⟩ := rwc3 kr
  exact bodyPost_ret (v := .agg #[.int .i64 r1, .int .i64 r2, .int .i64 r3]) (by simp [results, Try.results14, go_sem, rc0, rc1, rc2]) rfl ⟨rfl, blp3 (bw_below B1 q) (by omega)⟩

theorem hue_Part (a b c n d : Int) (w : World) (_ : I64 a) (_ : I64 b) (_ : I64 c) (hn : I64 n) (hd : I64 d) :
    Calls Try.prog 14 #[.agg #[.int .i64 a, .int .i64 b, .int .i64 c], .agg #[.int .i64 n, .int .i64 d]] w fun e w' => e = .returned (.agg #[.int .i64 (hpart (a, b, c) n d).1, .int .i64 (hpart (a, b, c) n d).2.1, .int .i64 (hpart (a, b, c) n d).2.2]) ∧ Below w.heap.size w w' := by
  unfold hpart
  cases h : rwei (a, b, c) with
  | false => rw [if_neg (by simp)]; exact hue_Part_now a b c n d w h
  | true =>
    by_cases h2 : 1 ≤ d
    · by_cases h3 : 0 ≤ n
      · rw [if_pos ⟨rfl, h2, h3⟩]; exact hue_Part_yes a b c n d w h h2 h3 hn hd
      · rw [if_neg (fun e => h3 e.2.2)]; exact hue_Part_non a b c n d w h h2 h3
    · rw [if_neg (fun e => h2 e.2.1)]; exact hue_Part_nod a b c n d w h h2

set_option maxRecDepth 100000 in
set_option maxHeartbeats 4000000 in
theorem hue_Grey_no (a b c : Int) (w : World) (h : rwei (a, b, c) = false) :
    Calls Try.prog 18 #[.agg #[.int .i64 a, .int .i64 b, .int .i64 c]] w fun e w' => e = .returned (.int .i64 0) ∧ Below w.heap.size w w' := by
  have KW := Lib.hid (fun w => hue_Weight a b c w)
  rw [h] at KW
  clear h
  go_enter Try.func18, Try.ntmps18
  go_upto_region 1 with (fail)
  obtain ⟨W1, hW1⟩ : ∃ W, W = w.alloc (.cells #[.int .i64 a, .int .i64 b, .int .i64 c] 23) := ⟨_, rfl⟩
  obtain ⟨k_a, B1⟩ := st1 hW1
  rw [← hW1]
  clear hW1
  obtain ⟨c_a_0, c_a_1, c_a_2⟩ := bwc3 (k_a)
  obtain ⟨p1, hp1⟩ : ∃ p : BW W1, p.w = W1 := ⟨BW.start W1, rfl⟩
  rw [← hp1]
  clear hp1
  go_wp2_with (first
    | (go_at_call 8; (first | (with_reducible refine (bw_call KW.out _).mono ?_)); rintro e w' ⟨rfl, q, rfl⟩))
  go_ret
  exact ⟨rfl, bw_below B1 _⟩

set_option maxRecDepth 100000 in
set_option maxHeartbeats 4000000 in
theorem hue_Grey_yes (a b c : Int) (w : World) (h : rwei (a, b, c) = true) :
    Calls Try.prog 18 #[.agg #[.int .i64 a, .int .i64 b, .int .i64 c]] w fun e w' => e = .returned (.int .i64 ((a + 2 * b + c) / 4)) ∧ Below w.heap.size w w' := by
  have KW := Lib.hid (fun w => hue_Weight a b c w)
  rw [h] at KW
  unfold rwei at h
  rw [rin_iff] at h
  dsimp only at h
  obtain ⟨u, hu⟩ : ∃ u, u = 2 * b := ⟨_, rfl⟩
  obtain ⟨v, hv⟩ : ∃ v, v = a + u := ⟨_, rfl⟩
  obtain ⟨s, hs⟩ : ∃ s, s = v + c := ⟨_, rfl⟩
  have e1 : wrap64 (2 * b) = u := by rw [hu]; exact IntWalk.wrap64_in _ (by omega)
  have e2 : wrap64 (a + u) = v := by rw [hv]; exact IntWalk.wrap64_in _ (by omega)
  have e3 : wrap64 (v + c) = s := by rw [hs]; exact IntWalk.wrap64_in _ (by omega)
  have KD := Lib.hid (below_of_same (fun w => num_Div s 4 w (by unfold I64; omega) (by unfold I64; omega)))
  rw [show dv s 4 = (a + 2 * b + c) / 4 by unfold dv; rw [if_neg (by omega), hs, hv, hu]] at KD
  generalize (a + 2 * b + c) / 4 = r at *
  clear h hu hv hs
  go_enter Try.func18, Try.ntmps18
  go_upto_region 1 with (fail)
  obtain ⟨W1, hW1⟩ : ∃ W, W = w.alloc (.cells #[.int .i64 a, .int .i64 b, .int .i64 c] 23) := ⟨_, rfl⟩
  obtain ⟨k_a, B1⟩ := st1 hW1
  rw [← hW1]
  clear hW1
  obtain ⟨c_a_0, c_a_1, c_a_2⟩ := bwc3 (k_a)
  obtain ⟨p1, hp1⟩ : ∃ p : BW W1, p.w = W1 := ⟨BW.start W1, rfl⟩
  rw [← hp1]
  clear hp1
  go_wp2_with (first
    | (go_at_call 8; (first | (with_reducible refine (bw_call KW.out _).mono ?_)); rintro e w' ⟨rfl, q, rfl⟩)
    | (go_at_call 36; (first | (with_reducible refine (bw_call KD.out _).mono ?_)); rintro e w' ⟨rfl, q, rfl⟩))
  go_ret
  exact ⟨rfl, bw_below B1 _⟩

theorem hue_Grey (a b c : Int) (w : World) (_ : I64 a) (_ : I64 b) (_ : I64 c) :
    Calls Try.prog 18 #[.agg #[.int .i64 a, .int .i64 b, .int .i64 c]] w fun e w' => e = .returned (.int .i64 (hgrey (a, b, c))) ∧ Below w.heap.size w w' := by
  unfold hgrey
  cases h : rwei (a, b, c) with
  | false => rw [if_neg (by simp)]; exact hue_Grey_no a b c w h
  | true => rw [if_pos rfl]; exact hue_Grey_yes a b c w h

set_option maxRecDepth 100000 in
set_option maxHeartbeats 4000000 in
theorem hue_Black (a b c : Int) (w : World) :
    Calls Try.prog 20 #[.agg #[.int .i64 a, .int .i64 b, .int .i64 c]] w fun e w' => e = .returned (.bool (hblack (a, b, c))) ∧ Below w.heap.size w w' := by
  by_cases h1 : a = 0
  · subst h1
    by_cases h2 : b = 0
    · subst h2
      by_cases h3 : c = 0
      · subst h3
        rw [show hblack (0, 0, 0) = true by decide]
        go_enter Try.func20, Try.ntmps20
        go_upto_region 1 with (fail)
        obtain ⟨W1, hW1⟩ : ∃ W, W = w.alloc (.cells #[.int .i64 0, .int .i64 0, .int .i64 0] 23) := ⟨_, rfl⟩
        obtain ⟨k_a, B1⟩ := st1 hW1
        rw [← hW1]
        clear hW1
        obtain ⟨c_a_0, c_a_1, c_a_2⟩ := bwc3 (k_a)
        obtain ⟨p1, hp1⟩ : ∃ p : BW W1, p.w = W1 := ⟨BW.start W1, rfl⟩
        rw [← hp1]
        clear hp1
        go_wp2
        go_ret
        exact ⟨rfl, bw_below B1 _⟩
      · rw [show hblack (0, 0, c) = false by unfold hblack; simp [h3]]
        go_enter Try.func20, Try.ntmps20
        go_upto_region 1 with (fail)
        obtain ⟨W1, hW1⟩ : ∃ W, W = w.alloc (.cells #[.int .i64 0, .int .i64 0, .int .i64 c] 23) := ⟨_, rfl⟩
        obtain ⟨k_a, B1⟩ := st1 hW1
        rw [← hW1]
        clear hW1
        obtain ⟨c_a_0, c_a_1, c_a_2⟩ := bwc3 (k_a)
        obtain ⟨p1, hp1⟩ : ∃ p : BW W1, p.w = W1 := ⟨BW.start W1, rfl⟩
        rw [← hp1]
        clear hp1
        go_wp2
        go_ret
        exact ⟨rfl, bw_below B1 _⟩
    · rw [show hblack (0, b, c) = false by unfold hblack; simp [h2]]
      go_enter Try.func20, Try.ntmps20
      go_upto_region 1 with (fail)
      obtain ⟨W1, hW1⟩ : ∃ W, W = w.alloc (.cells #[.int .i64 0, .int .i64 b, .int .i64 c] 23) := ⟨_, rfl⟩
      obtain ⟨k_a, B1⟩ := st1 hW1
      rw [← hW1]
      clear hW1
      obtain ⟨c_a_0, c_a_1, c_a_2⟩ := bwc3 (k_a)
      obtain ⟨p1, hp1⟩ : ∃ p : BW W1, p.w = W1 := ⟨BW.start W1, rfl⟩
      rw [← hp1]
      clear hp1
      go_wp2
      go_ret
      exact ⟨rfl, bw_below B1 _⟩
  · rw [show hblack (a, b, c) = false by unfold hblack; simp [h1]]
    go_enter Try.func20, Try.ntmps20
    go_upto_region 1 with (fail)
    obtain ⟨W1, hW1⟩ : ∃ W, W = w.alloc (.cells #[.int .i64 a, .int .i64 b, .int .i64 c] 23) := ⟨_, rfl⟩
    obtain ⟨k_a, B1⟩ := st1 hW1
    rw [← hW1]
    clear hW1
    obtain ⟨c_a_0, c_a_1, c_a_2⟩ := bwc3 (k_a)
    obtain ⟨p1, hp1⟩ : ∃ p : BW W1, p.w = W1 := ⟨BW.start W1, rfl⟩
    rw [← hp1]
    clear hp1
    go_wp2
    go_ret
    exact ⟨rfl, bw_below B1 _⟩

set_option maxRecDepth 100000 in
set_option maxHeartbeats 4000000 in
theorem hue_Fold (b off cap n : Nat) (V : Nat → T3) (w : World) (hrow : VcRow w b off n V) (hV : ∀ k, k < n → I64 (V k).1 ∧ I64 (V k).2.1 ∧ I64 (V k).2.2) (hb : b < w.heap.size) (hn : n ≤ 1048576) :
    Calls Try.prog 22 #[.slice (some ⟨b, off, none⟩) n cap] w fun e w' => e = .returned (.agg #[.int .i64 (hfold V n).1, .int .i64 (hfold V n).2.1, .int .i64 (hfold V n).2.2]) ∧ Below w.heap.size w w' := by
  have K := Lib.hid (fun (w' : World) (hB : Below w.heap.size w w') => hue_sum b off cap n V w' (hrow.below hB hb) hV (Nat.lt_of_lt_of_le hb hB.size) hn)
  clear hrow hV hn
  obtain ⟨⟨s1, s2, s3⟩, hS⟩ : ∃ S, S = hfold V n := ⟨_, rfl⟩
  rw [← hS]
  rw [← hS] at K
  dsimp only
  dsimp only at K
  clear hS
  go_enter Try.func22, Try.ntmps22
  go_upto_region 1 with (fail)
  obtain ⟨W1, hW1⟩ : ∃ W, W = w.alloc (.cells #[.int .i64 0, .int .i64 0, .int .i64 0] 23) := ⟨_, rfl⟩
  obtain ⟨k_r, B1⟩ := st1 hW1
  rw [← hW1]
  clear hW1
  obtain ⟨c_r_0, c_r_1, c_r_2⟩ := bwc3 (k_r)
  obtain ⟨f_r_0, f_r_1, f_r_2⟩ := bwf3 (k_r)
  obtain ⟨p1, hp1⟩ : ∃ p : BW W1, p.w = W1 := ⟨BW.start W1, rfl⟩
  rw [← hp1]
  clear hp1
  have KC : Hid (∀ p : BW W1, Calls Try.prog 29 #[.slice (some ⟨b, off, none⟩) n cap] p.w fun e w' => e = .returned (.agg #[.int .i64 s1, .int .i64 s2, .int .i64 s3]) ∧ ∃ q : BW W1, w' = q.w) := Lib.hid fun p => (K.out p.w (bw_below B1 p)).mono fun e w' h => ⟨h.1, p.next w' h.2, rfl⟩
  clear K
  go_wp2_with (go_at_call 29; (with_reducible refine (KC.out _).mono ?_); rintro e w' ⟨rfl, q, rfl⟩)
  have kr := bkp3 (k_r.below q.h) (.int .i64 s1) (.int .i64 s2) (.int .i64 s3)
  obtain ⟨rc0, rc1, rc2⟩ := rwc3 kr
  exact bodyPost_ret (v := .agg #[.int .i64 s1, .int .i64 s2, .int .i64 s3]) (by simp [results, Try.results22, go_sem, rc0, rc1, rc2]) rfl ⟨rfl, blp3 (bw_below B1 q) (by omega)⟩

set_option maxRecDepth 100000 in
set_option maxHeartbeats 4000000 in
theorem hue_Fold_none (p : Option Addr) (cap : Nat) (w : World) :
    Calls Try.prog 22 #[.slice p 0 cap] w fun e w' => e = .returned (.agg #[.int .i64 0, .int .i64 0, .int .i64 0]) ∧ Below w.heap.size w w' := by
  have K := Lib.hid (fun w => hue_sum_none p cap w)
  go_enter Try.func22, Try.ntmps22
  go_upto_region 1 with (fail)
  obtain ⟨W1, hW1⟩ : ∃ W, W = w.alloc (.cells #[.int .i64 0, .int .i64 0, .int .i64 0] 23) := ⟨_, rfl⟩
  obtain ⟨k_r, B1⟩ := st1 hW1
  rw [← hW1]
  clear hW1
  obtain ⟨c_r_0, c_r_1, c_r_2⟩ := bwc3 (k_r)
  obtain ⟨f_r_0, f_r_1, f_r_2⟩ := bwf3 (k_r)
  obtain ⟨p1, hp1⟩ : ∃ p : BW W1, p.w = W1 := ⟨BW.start W1, rfl⟩
  rw [← hp1]
  clear hp1
  go_wp2_with (first
    | (go_at_call 29; (first | (with_reducible refine (bw_call K.out _).mono ?_)); rintro e w' ⟨rfl, q, rfl⟩))
  have kr := bkp3 (k_r.below q.h) (.int .i64 0) (.int .i64 0) (.int .i64 0)
  obtain ⟨rc0, rc1, rc2⟩ := rwc3 kr
  exact bodyPost_ret (v := .agg #[.int .i64 0, .int .i64 0, .int .i64 0]) (by simp [results, Try.results22, go_sem, rc0, rc1, rc2]) rfl ⟨rfl, blp3 (bw_below B1 q) (by omega)⟩

end Go.Proofs.Ytppfemaolaigoaa
