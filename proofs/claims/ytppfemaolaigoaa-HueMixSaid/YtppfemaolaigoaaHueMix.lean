/- The walk of the statement HueMix. -/
import Derived.Test.YtppfemaolaigoaaAwake09
import Derived.Test.YtppfemaolaigoaaRef09
import Derived.Deep.DeepCutAuto
namespace Go.Proofs.Ytppfemaolaigoaa
open Go.RowKit Go.Proofs.Sky
set_option linter.unusedVariables false

set_option maxRecDepth 100000 in
set_option maxHeartbeats 8000000 in
theorem law9_below (a b c x y z : Int) (w : World) (h : hle (a, b, c) (x, y, z)) :
    Calls Try.prog 24 #[.agg #[.int .i64 a, .int .i64 b, .int .i64 c], .agg #[.int .i64 x, .int .i64 y, .int .i64 z]] w fun e w' => e = .returned (.bool true) ∧ Below w.heap.size w w' := by
  obtain ⟨h1, h2, h3⟩ := h
  dsimp only at h1 h2 h3
  have t1 : decide (a ≤ x) = true := decide_eq_true h1
  have t2 : decide (b ≤ y) = true := decide_eq_true h2
  have t3 : decide (c ≤ z) = true := decide_eq_true h3
  clear h1 h2 h3
  go_enter Try.func24, Try.ntmps24
  go_upto_region 1 with (fail)
  obtain ⟨W1, hW1⟩ : ∃ W, W = (w.alloc (.cells #[.int .i64 a, .int .i64 b, .int .i64 c] 23)).alloc (.cells #[.int .i64 x, .int .i64 y, .int .i64 z] 23) := ⟨_, rfl⟩
  obtain ⟨k_a, k_x, B1⟩ := st2 hW1
  rw [← hW1]
  clear hW1
  have l_x : w.heap.size < w.heap.size + 1 := by omega
  generalize w.heap.size + 1 = g_x at *
  obtain ⟨c_a_0, c_a_1, c_a_2⟩ := bwc3 (k_a)
  obtain ⟨c_x_0, c_x_1, c_x_2⟩ := bwc3 (k_x)
  obtain ⟨p1, hp1⟩ : ∃ p : BW W1, p.w = W1 := ⟨BW.start W1, rfl⟩
  rw [← hp1]
  clear hp1
  go_wp2
  go_ret
  exact ⟨rfl, bw_below B1 _⟩

set_option maxRecDepth 100000 in
set_option maxHeartbeats 8000000 in
theorem law_HueMix_now (a b c x y z k l m n d : Int) (w : World) (h : rwei (a, b, c) = false) :
    Calls Try.prog 4 #[.agg #[.int .i64 a, .int .i64 b, .int .i64 c], .agg #[.int .i64 x, .int .i64 y, .int .i64 z], .agg #[.int .i64 k, .int .i64 l, .int .i64 m], .agg #[.int .i64 n, .int .i64 d]] w fun r w' => r = .returned (.bool true) ∧ Below w.heap.size w w' := by
  have HA := Lib.hid (fun w => awake09 w)
  have KW := Lib.hid (fun w => ref9_Weight a b c w)
  rw [h] at KW
  clear h
  go_enter Try.func4, Try.ntmps4
  go_upto_region 1 with (fail)
  obtain ⟨W1, hW1⟩ : ∃ W, W = (((w.alloc (.cells #[.int .i64 a, .int .i64 b, .int .i64 c] 23)).alloc (.cells #[.int .i64 x, .int .i64 y, .int .i64 z] 23)).alloc (.cells #[.int .i64 k, .int .i64 l, .int .i64 m] 23)).alloc (.cells #[.int .i64 n, .int .i64 d] 25) := ⟨_, rfl⟩
  obtain ⟨k_w, k_c, k_d, k_f, B1⟩ := st4 hW1
  rw [← hW1]
  clear hW1
  have l_c : w.heap.size < w.heap.size + 1 := by omega
  have l_d : w.heap.size + 1 < w.heap.size + 1 + 1 := by omega
  have l_f : w.heap.size + 1 + 1 < w.heap.size + 1 + 1 + 1 := by omega
  generalize w.heap.size + 1 + 1 + 1 = g_f at *
  generalize w.heap.size + 1 + 1 = g_d at *
  generalize w.heap.size + 1 = g_c at *
  obtain ⟨c_w_0, c_w_1, c_w_2⟩ := bwc3 (k_w)
  obtain ⟨c_c_0, c_c_1, c_c_2⟩ := bwc3 (k_c)
  obtain ⟨c_d_0, c_d_1, c_d_2⟩ := bwc3 (k_d)
  obtain ⟨c_f_0, c_f_1⟩ := bwc2 (k_f)
  obtain ⟨p1, hp1⟩ : ∃ p : BW W1, p.w = W1 := ⟨BW.start W1, rfl⟩
  rw [← hp1]
  clear hp1
  go_wp2_with (first
    | (go_at_call 9; (first | (with_reducible refine (bw_call KW.out _).mono ?_)); rintro e w' ⟨rfl, q, rfl⟩)
    | (go_at_call 5; (first | (with_reducible refine (bw_call HA.out _).mono ?_)); rintro e w' ⟨rfl, q, rfl⟩))
  go_ret
  exact ⟨rfl, bw_below B1 _⟩

set_option maxRecDepth 100000 in
set_option maxHeartbeats 8000000 in
theorem law_HueMix_noc (a b c x y z k l m n d : Int) (w : World) (h : rwei (a, b, c) = true) (h2 : rcol (x, y, z) = false) :
    Calls Try.prog 4 #[.agg #[.int .i64 a, .int .i64 b, .int .i64 c], .agg #[.int .i64 x, .int .i64 y, .int .i64 z], .agg #[.int .i64 k, .int .i64 l, .int .i64 m], .agg #[.int .i64 n, .int .i64 d]] w fun r w' => r = .returned (.bool true) ∧ Below w.heap.size w w' := by
  have HA := Lib.hid (fun w => awake09 w)
  have KW := Lib.hid (fun w => ref9_Weight a b c w)
  rw [h] at KW
  have KC := Lib.hid (fun w => ref9_Color x y z w)
  rw [h2] at KC
  clear h h2
  go_enter Try.func4, Try.ntmps4
  go_upto_region 1 with (fail)
  obtain ⟨W1, hW1⟩ : ∃ W, W = (((w.alloc (.cells #[.int .i64 a, .int .i64 b, .int .i64 c] 23)).alloc (.cells #[.int .i64 x, .int .i64 y, .int .i64 z] 23)).alloc (.cells #[.int .i64 k, .int .i64 l, .int .i64 m] 23)).alloc (.cells #[.int .i64 n, .int .i64 d] 25) := ⟨_, rfl⟩
  obtain ⟨k_w, k_c, k_d, k_f, B1⟩ := st4 hW1
  rw [← hW1]
  clear hW1
  have l_c : w.heap.size < w.heap.size + 1 := by omega
  have l_d : w.heap.size + 1 < w.heap.size + 1 + 1 := by omega
  have l_f : w.heap.size + 1 + 1 < w.heap.size + 1 + 1 + 1 := by omega
  generalize w.heap.size + 1 + 1 + 1 = g_f at *
  generalize w.heap.size + 1 + 1 = g_d at *
  generalize w.heap.size + 1 = g_c at *
  obtain ⟨c_w_0, c_w_1, c_w_2⟩ := bwc3 (k_w)
  obtain ⟨c_c_0, c_c_1, c_c_2⟩ := bwc3 (k_c)
  obtain ⟨c_d_0, c_d_1, c_d_2⟩ := bwc3 (k_d)
  obtain ⟨c_f_0, c_f_1⟩ := bwc2 (k_f)
  obtain ⟨p1, hp1⟩ : ∃ p : BW W1, p.w = W1 := ⟨BW.start W1, rfl⟩
  rw [← hp1]
  clear hp1
  go_wp2_with (first
    | (go_at_call 9; (first | (with_reducible refine (bw_call KW.out _).mono ?_)); rintro e w' ⟨rfl, q, rfl⟩)
    | (go_at_call 7; (first | (with_reducible refine (bw_call KC.out _).mono ?_)); rintro e w' ⟨rfl, q, rfl⟩)
    | (go_at_call 5; (first | (with_reducible refine (bw_call HA.out _).mono ?_)); rintro e w' ⟨rfl, q, rfl⟩))
  go_ret
  exact ⟨rfl, bw_below B1 _⟩

set_option maxRecDepth 100000 in
set_option maxHeartbeats 8000000 in
theorem law_HueMix_nod (a b c x y z k l m n d : Int) (w : World) (h : rwei (a, b, c) = true) (h2 : rcol (x, y, z) = true) (h3 : rcol (k, l, m) = false) :
    Calls Try.prog 4 #[.agg #[.int .i64 a, .int .i64 b, .int .i64 c], .agg #[.int .i64 x, .int .i64 y, .int .i64 z], .agg #[.int .i64 k, .int .i64 l, .int .i64 m], .agg #[.int .i64 n, .int .i64 d]] w fun r w' => r = .returned (.bool true) ∧ Below w.heap.size w w' := by
  have HA := Lib.hid (fun w => awake09 w)
  have KW := Lib.hid (fun w => ref9_Weight a b c w)
  rw [h] at KW
  have KC := Lib.hid (fun w => ref9_Color x y z w)
  rw [h2] at KC
  have KD := Lib.hid (fun w => ref9_Color k l m w)
  rw [h3] at KD
  clear h h2 h3
  go_enter Try.func4, Try.ntmps4
  go_upto_region 1 with (fail)
  obtain ⟨W1, hW1⟩ : ∃ W, W = (((w.alloc (.cells #[.int .i64 a, .int .i64 b, .int .i64 c] 23)).alloc (.cells #[.int .i64 x, .int .i64 y, .int .i64 z] 23)).alloc (.cells #[.int .i64 k, .int .i64 l, .int .i64 m] 23)).alloc (.cells #[.int .i64 n, .int .i64 d] 25) := ⟨_, rfl⟩
  obtain ⟨k_w, k_c, k_d, k_f, B1⟩ := st4 hW1
  rw [← hW1]
  clear hW1
  have l_c : w.heap.size < w.heap.size + 1 := by omega
  have l_d : w.heap.size + 1 < w.heap.size + 1 + 1 := by omega
  have l_f : w.heap.size + 1 + 1 < w.heap.size + 1 + 1 + 1 := by omega
  generalize w.heap.size + 1 + 1 + 1 = g_f at *
  generalize w.heap.size + 1 + 1 = g_d at *
  generalize w.heap.size + 1 = g_c at *
  obtain ⟨c_w_0, c_w_1, c_w_2⟩ := bwc3 (k_w)
  obtain ⟨c_c_0, c_c_1, c_c_2⟩ := bwc3 (k_c)
  obtain ⟨c_d_0, c_d_1, c_d_2⟩ := bwc3 (k_d)
  obtain ⟨c_f_0, c_f_1⟩ := bwc2 (k_f)
  obtain ⟨p1, hp1⟩ : ∃ p : BW W1, p.w = W1 := ⟨BW.start W1, rfl⟩
  rw [← hp1]
  clear hp1
  go_wp2_with (first
    | (go_at_call 9; (first | (with_reducible refine (bw_call KW.out _).mono ?_)); rintro e w' ⟨rfl, q, rfl⟩)
    | (go_at_call 7; (first | (with_reducible refine (bw_call KC.out _).mono ?_) | (with_reducible refine (bw_call KD.out _).mono ?_)); rintro e w' ⟨rfl, q, rfl⟩)
    | (go_at_call 5; (first | (with_reducible refine (bw_call HA.out _).mono ?_)); rintro e w' ⟨rfl, q, rfl⟩))
  go_ret
  exact ⟨rfl, bw_below B1 _⟩

set_option maxRecDepth 100000 in
set_option maxHeartbeats 8000000 in
theorem law_HueMix_yesD (a b c x y z k l m n d : Int) (w : World) (h : rwei (a, b, c) = true) (h2 : rcol (x, y, z) = true) (h3 : rcol (k, l, m) = true) (hn : I64 n) (hd : I64 d) (f1 : d < 1) :
    Calls Try.prog 4 #[.agg #[.int .i64 a, .int .i64 b, .int .i64 c], .agg #[.int .i64 x, .int .i64 y, .int .i64 z], .agg #[.int .i64 k, .int .i64 l, .int .i64 m], .agg #[.int .i64 n, .int .i64 d]] w fun r w' => r = .returned (.bool true) ∧ Below w.heap.size w w' := by
  have HA := Lib.hid (fun w => awake09 w)
  have KW := Lib.hid (fun w => ref9_Weight a b c w)
  rw [h] at KW
  have KC := Lib.hid (fun w => ref9_Color x y z w)
  rw [h2] at KC
  have KD := Lib.hid (fun w => ref9_Color k l m w)
  rw [h3] at KD
  have in3 : ∀ {v : T3}, rwei v = true → I64 v.1 ∧ I64 v.2.1 ∧ I64 v.2.2 := fun {v} hv => by
    unfold rwei at hv
    rw [rin_iff] at hv
    unfold I64
    omega
  have ic : ∀ {v : T3}, rcol v = true → I64 v.1 ∧ I64 v.2.1 ∧ I64 v.2.2 := fun {v} hv => by
    unfold rcol at hv
    rw [rin_iff] at hv
    unfold I64
    omega
  obtain ⟨i1, i2, i3⟩ := in3 h
  obtain ⟨i4, i5, i6⟩ := ic h2
  obtain ⟨i7, i8, i9⟩ := ic h3
  dsimp only at i1 i2 i3 i4 i5 i6 i7 i8 i9
  obtain ⟨l1, r1⟩ := hmix_le h h2
  obtain ⟨j1, j2, j3⟩ := in3 r1
  have K1 := Lib.hid (fun w => hue_Mix a b c x y z w i1 i2 i3 i4 i5 i6)
  have K2 := Lib.hid (fun w => hue_Mix a b c 65536 65536 65536 w i1 i2 i3 (by unfold I64; omega) (by unfold I64; omega) (by unfold I64; omega))
  rw [hmix_all h] at K2
  have K3 := Lib.hid (fun w => hue_Mix a b c 0 0 0 w i1 i2 i3 (by unfold I64; omega) (by unfold I64; omega) (by unfold I64; omega))
  rw [hmix_none h] at K3
  obtain ⟨l2, _⟩ := hmix_le r1 h3
  have l3 := hmix_mono r1 h h3 l1
  have K5 := Lib.hid (fun w => hue_Mix a b c k l m w i1 i2 i3 i7 i8 i9)
  generalize hmix (a, b, c) (x, y, z) = u at *
  generalize hmix (a, b, c) (k, l, m) = v at *
  obtain ⟨u1, u2, u3⟩ := u
  obtain ⟨v1, v2, v3⟩ := v
  have K4 := Lib.hid (fun w => hue_Mix u1 u2 u3 k l m w j1 j2 j3 i7 i8 i9)
  generalize hmix (u1, u2, u3) (k, l, m) = s at *
  obtain ⟨s1, s2, s3⟩ := s
  have KU := Lib.hid (fun w => hue_Weight u1 u2 u3 w)
  rw [r1] at KU
  have KB := Lib.hid (fun w => hue_Black 0 0 0 w)
  rw [show hblack (0, 0, 0) = true by decide +kernel] at KB
  have b1 := Lib.hid (fun w => law9_below u1 u2 u3 a b c w l1)
  have b2 := Lib.hid (fun w => law9_below s1 s2 s3 v1 v2 v3 w l3)
  have b3 := Lib.hid (fun w => law9_below s1 s2 s3 u1 u2 u3 w l2)
  dsimp only at K1 K2 K3 K4 K5
  have t1 : decide (d < 1) = true := decide_eq_true f1
  clear l1 l2 l3 r1 in3 ic j1 j2 j3 h h2 h3 i1 i2 i3 i4 i5 i6 i7 i8 i9 hn hd f1
  go_enter Try.func4, Try.ntmps4
  go_upto_region 1 with (fail)
  obtain ⟨W1, hW1⟩ : ∃ W, W = (((w.alloc (.cells #[.int .i64 a, .int .i64 b, .int .i64 c] 23)).alloc (.cells #[.int .i64 x, .int .i64 y, .int .i64 z] 23)).alloc (.cells #[.int .i64 k, .int .i64 l, .int .i64 m] 23)).alloc (.cells #[.int .i64 n, .int .i64 d] 25) := ⟨_, rfl⟩
  obtain ⟨k_w, k_c, k_d, k_f, B1⟩ := st4 hW1
  rw [← hW1]
  clear hW1
  have l_c : w.heap.size < w.heap.size + 1 := by omega
  have l_d : w.heap.size + 1 < w.heap.size + 1 + 1 := by omega
  have l_f : w.heap.size + 1 + 1 < w.heap.size + 1 + 1 + 1 := by omega
  generalize w.heap.size + 1 + 1 + 1 = g_f at *
  generalize w.heap.size + 1 + 1 = g_d at *
  generalize w.heap.size + 1 = g_c at *
  obtain ⟨c_w_0, c_w_1, c_w_2⟩ := bwc3 (k_w)
  obtain ⟨c_c_0, c_c_1, c_c_2⟩ := bwc3 (k_c)
  obtain ⟨c_d_0, c_d_1, c_d_2⟩ := bwc3 (k_d)
  obtain ⟨c_f_0, c_f_1⟩ := bwc2 (k_f)
  obtain ⟨p1, hp1⟩ : ∃ p : BW W1, p.w = W1 := ⟨BW.start W1, rfl⟩
  rw [← hp1]
  clear hp1
  go_upto_region 4 with (first
    | (go_at_call 9; (first | (with_reducible refine (bw_call KW.out _).mono ?_)); rintro e w' ⟨rfl, q, rfl⟩)
    | (go_at_call 7; (first | (with_reducible refine (bw_call KC.out _).mono ?_) | (with_reducible refine (bw_call KD.out _).mono ?_)); rintro e w' ⟨rfl, q, rfl⟩)
    | (go_at_call 10; (first | (with_reducible refine (bw_call K1.out _).mono ?_)); rintro e w' ⟨rfl, q, rfl⟩))
  obtain ⟨W2, hW2⟩ : ∃ W, W = q.w.alloc (.cells #[.int .i64 u1, .int .i64 u2, .int .i64 u3] 23) := ⟨_, rfl⟩
  have B2 : Below w.heap.size w W2 := by rw [hW2]; exact (bw_below B1 q).alloc (bw_below B1 q).size _
  have l_u : g_f < q.w.heap.size := (k_f.below q.h).lt
  have o_u : w.heap.size ≤ q.w.heap.size := (bw_below B1 q).size
  have k_w := bka hW2 (k_w.below q.h)
  have k_c := bka hW2 (k_c.below q.h)
  have k_d := bka hW2 (k_d.below q.h)
  have k_f := bka hW2 (k_f.below q.h)
  have k_u := bkn hW2
  rw [← hW2]
  clear hW2
  clear B1
  clear c_w_0 c_w_1 c_w_2 c_c_0 c_c_1 c_c_2 c_d_0 c_d_1 c_d_2 c_f_0 c_f_1
  generalize q.w.heap.size = g_u at *
  obtain ⟨c_w_0, c_w_1, c_w_2⟩ := bwc3 (k_w)
  obtain ⟨c_c_0, c_c_1, c_c_2⟩ := bwc3 (k_c)
  obtain ⟨c_d_0, c_d_1, c_d_2⟩ := bwc3 (k_d)
  obtain ⟨c_f_0, c_f_1⟩ := bwc2 (k_f)
  obtain ⟨c_u_0, c_u_1, c_u_2⟩ := bwc3 (k_u)
  obtain ⟨p2, hp2⟩ : ∃ p : BW W2, p.w = W2 := ⟨BW.start W2, rfl⟩
  rw [← hp2]
  clear hp2
  refine wp_region_bw (by kernel_rfl) (by kernel_rfl) ?_
  repeat (go_big_quiet_step (first
    | (go_at_call 10; (first | (with_reducible exact bw_call K2.out _) | (with_reducible exact bw_call K3.out _) | (with_reducible exact bw_call K4.out _) | (with_reducible exact bw_call K5.out _)))
    | (go_at_call 8; (first | (with_reducible exact bw_call KU.out _)))
    | (go_at_call 20; (first | (with_reducible exact bw_call KB.out _)))
    | (go_at_call 24; (first | (with_reducible exact bw_call b1.out _) | (with_reducible exact bw_call b2.out _) | (with_reducible exact bw_call b3.out _)))))
  refine wpQuiet_nil ?_
  intro _ hw'
  obtain ⟨q, rfl⟩ := hw'
  go_wp2_with (first
    | (go_at_call 5; (first | (with_reducible refine (bw_call HA.out _).mono ?_)); rintro e w' ⟨rfl, q, rfl⟩))
  go_ret
  exact ⟨rfl, bw_below B2 _⟩

set_option maxRecDepth 100000 in
set_option maxHeartbeats 8000000 in
theorem law_HueMix_yesN (a b c x y z k l m n d : Int) (w : World) (h : rwei (a, b, c) = true) (h2 : rcol (x, y, z) = true) (h3 : rcol (k, l, m) = true) (hn : I64 n) (hd : I64 d) (f1 : ¬ d < 1) (f2 : n < 0) :
    Calls Try.prog 4 #[.agg #[.int .i64 a, .int .i64 b, .int .i64 c], .agg #[.int .i64 x, .int .i64 y, .int .i64 z], .agg #[.int .i64 k, .int .i64 l, .int .i64 m], .agg #[.int .i64 n, .int .i64 d]] w fun r w' => r = .returned (.bool true) ∧ Below w.heap.size w w' := by
  have HA := Lib.hid (fun w => awake09 w)
  have KW := Lib.hid (fun w => ref9_Weight a b c w)
  rw [h] at KW
  have KC := Lib.hid (fun w => ref9_Color x y z w)
  rw [h2] at KC
  have KD := Lib.hid (fun w => ref9_Color k l m w)
  rw [h3] at KD
  have in3 : ∀ {v : T3}, rwei v = true → I64 v.1 ∧ I64 v.2.1 ∧ I64 v.2.2 := fun {v} hv => by
    unfold rwei at hv
    rw [rin_iff] at hv
    unfold I64
    omega
  have ic : ∀ {v : T3}, rcol v = true → I64 v.1 ∧ I64 v.2.1 ∧ I64 v.2.2 := fun {v} hv => by
    unfold rcol at hv
    rw [rin_iff] at hv
    unfold I64
    omega
  obtain ⟨i1, i2, i3⟩ := in3 h
  obtain ⟨i4, i5, i6⟩ := ic h2
  obtain ⟨i7, i8, i9⟩ := ic h3
  dsimp only at i1 i2 i3 i4 i5 i6 i7 i8 i9
  obtain ⟨l1, r1⟩ := hmix_le h h2
  obtain ⟨j1, j2, j3⟩ := in3 r1
  have K1 := Lib.hid (fun w => hue_Mix a b c x y z w i1 i2 i3 i4 i5 i6)
  have K2 := Lib.hid (fun w => hue_Mix a b c 65536 65536 65536 w i1 i2 i3 (by unfold I64; omega) (by unfold I64; omega) (by unfold I64; omega))
  rw [hmix_all h] at K2
  have K3 := Lib.hid (fun w => hue_Mix a b c 0 0 0 w i1 i2 i3 (by unfold I64; omega) (by unfold I64; omega) (by unfold I64; omega))
  rw [hmix_none h] at K3
  obtain ⟨l2, _⟩ := hmix_le r1 h3
  have l3 := hmix_mono r1 h h3 l1
  have K5 := Lib.hid (fun w => hue_Mix a b c k l m w i1 i2 i3 i7 i8 i9)
  generalize hmix (a, b, c) (x, y, z) = u at *
  generalize hmix (a, b, c) (k, l, m) = v at *
  obtain ⟨u1, u2, u3⟩ := u
  obtain ⟨v1, v2, v3⟩ := v
  have K4 := Lib.hid (fun w => hue_Mix u1 u2 u3 k l m w j1 j2 j3 i7 i8 i9)
  generalize hmix (u1, u2, u3) (k, l, m) = s at *
  obtain ⟨s1, s2, s3⟩ := s
  have KU := Lib.hid (fun w => hue_Weight u1 u2 u3 w)
  rw [r1] at KU
  have KB := Lib.hid (fun w => hue_Black 0 0 0 w)
  rw [show hblack (0, 0, 0) = true by decide +kernel] at KB
  have b1 := Lib.hid (fun w => law9_below u1 u2 u3 a b c w l1)
  have b2 := Lib.hid (fun w => law9_below s1 s2 s3 v1 v2 v3 w l3)
  have b3 := Lib.hid (fun w => law9_below s1 s2 s3 u1 u2 u3 w l2)
  dsimp only at K1 K2 K3 K4 K5
  have t1 : decide (d < 1) = false := decide_eq_false f1
  have t2 : decide (n < 0) = true := decide_eq_true f2
  clear l1 l2 l3 r1 in3 ic j1 j2 j3 h h2 h3 i1 i2 i3 i4 i5 i6 i7 i8 i9 hn hd f1 f2
  go_enter Try.func4, Try.ntmps4
  go_upto_region 1 with (fail)
  obtain ⟨W1, hW1⟩ : ∃ W, W = (((w.alloc (.cells #[.int .i64 a, .int .i64 b, .int .i64 c] 23)).alloc (.cells #[.int .i64 x, .int .i64 y, .int .i64 z] 23)).alloc (.cells #[.int .i64 k, .int .i64 l, .int .i64 m] 23)).alloc (.cells #[.int .i64 n, .int .i64 d] 25) := ⟨_, rfl⟩
  obtain ⟨k_w, k_c, k_d, k_f, B1⟩ := st4 hW1
  rw [← hW1]
  clear hW1
  have l_c : w.heap.size < w.heap.size + 1 := by omega
  have l_d : w.heap.size + 1 < w.heap.size + 1 + 1 := by omega
  have l_f : w.heap.size + 1 + 1 < w.heap.size + 1 + 1 + 1 := by omega
  generalize w.heap.size + 1 + 1 + 1 = g_f at *
  generalize w.heap.size + 1 + 1 = g_d at *
  generalize w.heap.size + 1 = g_c at *
  obtain ⟨c_w_0, c_w_1, c_w_2⟩ := bwc3 (k_w)
  obtain ⟨c_c_0, c_c_1, c_c_2⟩ := bwc3 (k_c)
  obtain ⟨c_d_0, c_d_1, c_d_2⟩ := bwc3 (k_d)
  obtain ⟨c_f_0, c_f_1⟩ := bwc2 (k_f)
  obtain ⟨p1, hp1⟩ : ∃ p : BW W1, p.w = W1 := ⟨BW.start W1, rfl⟩
  rw [← hp1]
  clear hp1
  go_upto_region 4 with (first
    | (go_at_call 9; (first | (with_reducible refine (bw_call KW.out _).mono ?_)); rintro e w' ⟨rfl, q, rfl⟩)
    | (go_at_call 7; (first | (with_reducible refine (bw_call KC.out _).mono ?_) | (with_reducible refine (bw_call KD.out _).mono ?_)); rintro e w' ⟨rfl, q, rfl⟩)
    | (go_at_call 10; (first | (with_reducible refine (bw_call K1.out _).mono ?_)); rintro e w' ⟨rfl, q, rfl⟩))
  obtain ⟨W2, hW2⟩ : ∃ W, W = q.w.alloc (.cells #[.int .i64 u1, .int .i64 u2, .int .i64 u3] 23) := ⟨_, rfl⟩
  have B2 : Below w.heap.size w W2 := by rw [hW2]; exact (bw_below B1 q).alloc (bw_below B1 q).size _
  have l_u : g_f < q.w.heap.size := (k_f.below q.h).lt
  have o_u : w.heap.size ≤ q.w.heap.size := (bw_below B1 q).size
  have k_w := bka hW2 (k_w.below q.h)
  have k_c := bka hW2 (k_c.below q.h)
  have k_d := bka hW2 (k_d.below q.h)
  have k_f := bka hW2 (k_f.below q.h)
  have k_u := bkn hW2
  rw [← hW2]
  clear hW2
  clear B1
  clear c_w_0 c_w_1 c_w_2 c_c_0 c_c_1 c_c_2 c_d_0 c_d_1 c_d_2 c_f_0 c_f_1
  generalize q.w.heap.size = g_u at *
  obtain ⟨c_w_0, c_w_1, c_w_2⟩ := bwc3 (k_w)
  obtain ⟨c_c_0, c_c_1, c_c_2⟩ := bwc3 (k_c)
  obtain ⟨c_d_0, c_d_1, c_d_2⟩ := bwc3 (k_d)
  obtain ⟨c_f_0, c_f_1⟩ := bwc2 (k_f)
  obtain ⟨c_u_0, c_u_1, c_u_2⟩ := bwc3 (k_u)
  obtain ⟨p2, hp2⟩ : ∃ p : BW W2, p.w = W2 := ⟨BW.start W2, rfl⟩
  rw [← hp2]
  clear hp2
  refine wp_region_bw (by kernel_rfl) (by kernel_rfl) ?_
  repeat (go_big_quiet_step (first
    | (go_at_call 10; (first | (with_reducible exact bw_call K2.out _) | (with_reducible exact bw_call K3.out _) | (with_reducible exact bw_call K4.out _) | (with_reducible exact bw_call K5.out _)))
    | (go_at_call 8; (first | (with_reducible exact bw_call KU.out _)))
    | (go_at_call 20; (first | (with_reducible exact bw_call KB.out _)))
    | (go_at_call 24; (first | (with_reducible exact bw_call b1.out _) | (with_reducible exact bw_call b2.out _) | (with_reducible exact bw_call b3.out _)))))
  refine wpQuiet_nil ?_
  intro _ hw'
  obtain ⟨q, rfl⟩ := hw'
  go_wp2_with (first
    | (go_at_call 5; (first | (with_reducible refine (bw_call HA.out _).mono ?_)); rintro e w' ⟨rfl, q, rfl⟩))
  go_ret
  exact ⟨rfl, bw_below B2 _⟩

set_option maxRecDepth 100000 in
set_option maxHeartbeats 8000000 in
theorem law_HueMix_yesG (a b c x y z k l m n d : Int) (w : World) (h : rwei (a, b, c) = true) (h2 : rcol (x, y, z) = true) (h3 : rcol (k, l, m) = true) (hn : I64 n) (hd : I64 d) (f1 : ¬ d < 1) (f2 : ¬ n < 0) (f3 : d < n) :
    Calls Try.prog 4 #[.agg #[.int .i64 a, .int .i64 b, .int .i64 c], .agg #[.int .i64 x, .int .i64 y, .int .i64 z], .agg #[.int .i64 k, .int .i64 l, .int .i64 m], .agg #[.int .i64 n, .int .i64 d]] w fun r w' => r = .returned (.bool true) ∧ Below w.heap.size w w' := by
  have HA := Lib.hid (fun w => awake09 w)
  have KW := Lib.hid (fun w => ref9_Weight a b c w)
  rw [h] at KW
  have KC := Lib.hid (fun w => ref9_Color x y z w)
  rw [h2] at KC
  have KD := Lib.hid (fun w => ref9_Color k l m w)
  rw [h3] at KD
  have in3 : ∀ {v : T3}, rwei v = true → I64 v.1 ∧ I64 v.2.1 ∧ I64 v.2.2 := fun {v} hv => by
    unfold rwei at hv
    rw [rin_iff] at hv
    unfold I64
    omega
  have ic : ∀ {v : T3}, rcol v = true → I64 v.1 ∧ I64 v.2.1 ∧ I64 v.2.2 := fun {v} hv => by
    unfold rcol at hv
    rw [rin_iff] at hv
    unfold I64
    omega
  obtain ⟨i1, i2, i3⟩ := in3 h
  obtain ⟨i4, i5, i6⟩ := ic h2
  obtain ⟨i7, i8, i9⟩ := ic h3
  dsimp only at i1 i2 i3 i4 i5 i6 i7 i8 i9
  obtain ⟨l1, r1⟩ := hmix_le h h2
  obtain ⟨j1, j2, j3⟩ := in3 r1
  have K1 := Lib.hid (fun w => hue_Mix a b c x y z w i1 i2 i3 i4 i5 i6)
  have K2 := Lib.hid (fun w => hue_Mix a b c 65536 65536 65536 w i1 i2 i3 (by unfold I64; omega) (by unfold I64; omega) (by unfold I64; omega))
  rw [hmix_all h] at K2
  have K3 := Lib.hid (fun w => hue_Mix a b c 0 0 0 w i1 i2 i3 (by unfold I64; omega) (by unfold I64; omega) (by unfold I64; omega))
  rw [hmix_none h] at K3
  obtain ⟨l2, _⟩ := hmix_le r1 h3
  have l3 := hmix_mono r1 h h3 l1
  have K5 := Lib.hid (fun w => hue_Mix a b c k l m w i1 i2 i3 i7 i8 i9)
  generalize hmix (a, b, c) (x, y, z) = u at *
  generalize hmix (a, b, c) (k, l, m) = v at *
  obtain ⟨u1, u2, u3⟩ := u
  obtain ⟨v1, v2, v3⟩ := v
  have K4 := Lib.hid (fun w => hue_Mix u1 u2 u3 k l m w j1 j2 j3 i7 i8 i9)
  generalize hmix (u1, u2, u3) (k, l, m) = s at *
  obtain ⟨s1, s2, s3⟩ := s
  have KU := Lib.hid (fun w => hue_Weight u1 u2 u3 w)
  rw [r1] at KU
  have KB := Lib.hid (fun w => hue_Black 0 0 0 w)
  rw [show hblack (0, 0, 0) = true by decide +kernel] at KB
  have b1 := Lib.hid (fun w => law9_below u1 u2 u3 a b c w l1)
  have b2 := Lib.hid (fun w => law9_below s1 s2 s3 v1 v2 v3 w l3)
  have b3 := Lib.hid (fun w => law9_below s1 s2 s3 u1 u2 u3 w l2)
  dsimp only at K1 K2 K3 K4 K5
  have t1 : decide (d < 1) = false := decide_eq_false f1
  have t2 : decide (n < 0) = false := decide_eq_false f2
  have t3 : decide (d < n) = true := decide_eq_true f3
  clear l1 l2 l3 r1 in3 ic j1 j2 j3 h h2 h3 i1 i2 i3 i4 i5 i6 i7 i8 i9 hn hd f1 f2 f3
  go_enter Try.func4, Try.ntmps4
  go_upto_region 1 with (fail)
  obtain ⟨W1, hW1⟩ : ∃ W, W = (((w.alloc (.cells #[.int .i64 a, .int .i64 b, .int .i64 c] 23)).alloc (.cells #[.int .i64 x, .int .i64 y, .int .i64 z] 23)).alloc (.cells #[.int .i64 k, .int .i64 l, .int .i64 m] 23)).alloc (.cells #[.int .i64 n, .int .i64 d] 25) := ⟨_, rfl⟩
  obtain ⟨k_w, k_c, k_d, k_f, B1⟩ := st4 hW1
  rw [← hW1]
  clear hW1
  have l_c : w.heap.size < w.heap.size + 1 := by omega
  have l_d : w.heap.size + 1 < w.heap.size + 1 + 1 := by omega
  have l_f : w.heap.size + 1 + 1 < w.heap.size + 1 + 1 + 1 := by omega
  generalize w.heap.size + 1 + 1 + 1 = g_f at *
  generalize w.heap.size + 1 + 1 = g_d at *
  generalize w.heap.size + 1 = g_c at *
  obtain ⟨c_w_0, c_w_1, c_w_2⟩ := bwc3 (k_w)
  obtain ⟨c_c_0, c_c_1, c_c_2⟩ := bwc3 (k_c)
  obtain ⟨c_d_0, c_d_1, c_d_2⟩ := bwc3 (k_d)
  obtain ⟨c_f_0, c_f_1⟩ := bwc2 (k_f)
  obtain ⟨p1, hp1⟩ : ∃ p : BW W1, p.w = W1 := ⟨BW.start W1, rfl⟩
  rw [← hp1]
  clear hp1
  go_upto_region 4 with (first
    | (go_at_call 9; (first | (with_reducible refine (bw_call KW.out _).mono ?_)); rintro e w' ⟨rfl, q, rfl⟩)
    | (go_at_call 7; (first | (with_reducible refine (bw_call KC.out _).mono ?_) | (with_reducible refine (bw_call KD.out _).mono ?_)); rintro e w' ⟨rfl, q, rfl⟩)
    | (go_at_call 10; (first | (with_reducible refine (bw_call K1.out _).mono ?_)); rintro e w' ⟨rfl, q, rfl⟩))
  obtain ⟨W2, hW2⟩ : ∃ W, W = q.w.alloc (.cells #[.int .i64 u1, .int .i64 u2, .int .i64 u3] 23) := ⟨_, rfl⟩
  have B2 : Below w.heap.size w W2 := by rw [hW2]; exact (bw_below B1 q).alloc (bw_below B1 q).size _
  have l_u : g_f < q.w.heap.size := (k_f.below q.h).lt
  have o_u : w.heap.size ≤ q.w.heap.size := (bw_below B1 q).size
  have k_w := bka hW2 (k_w.below q.h)
  have k_c := bka hW2 (k_c.below q.h)
  have k_d := bka hW2 (k_d.below q.h)
  have k_f := bka hW2 (k_f.below q.h)
  have k_u := bkn hW2
  rw [← hW2]
  clear hW2
  clear B1
  clear c_w_0 c_w_1 c_w_2 c_c_0 c_c_1 c_c_2 c_d_0 c_d_1 c_d_2 c_f_0 c_f_1
  generalize q.w.heap.size = g_u at *
  obtain ⟨c_w_0, c_w_1, c_w_2⟩ := bwc3 (k_w)
  obtain ⟨c_c_0, c_c_1, c_c_2⟩ := bwc3 (k_c)
  obtain ⟨c_d_0, c_d_1, c_d_2⟩ := bwc3 (k_d)
  obtain ⟨c_f_0, c_f_1⟩ := bwc2 (k_f)
  obtain ⟨c_u_0, c_u_1, c_u_2⟩ := bwc3 (k_u)
  obtain ⟨p2, hp2⟩ : ∃ p : BW W2, p.w = W2 := ⟨BW.start W2, rfl⟩
  rw [← hp2]
  clear hp2
  refine wp_region_bw (by kernel_rfl) (by kernel_rfl) ?_
  repeat (go_big_quiet_step (first
    | (go_at_call 10; (first | (with_reducible exact bw_call K2.out _) | (with_reducible exact bw_call K3.out _) | (with_reducible exact bw_call K4.out _) | (with_reducible exact bw_call K5.out _)))
    | (go_at_call 8; (first | (with_reducible exact bw_call KU.out _)))
    | (go_at_call 20; (first | (with_reducible exact bw_call KB.out _)))
    | (go_at_call 24; (first | (with_reducible exact bw_call b1.out _) | (with_reducible exact bw_call b2.out _) | (with_reducible exact bw_call b3.out _)))))
  refine wpQuiet_nil ?_
  intro _ hw'
  obtain ⟨q, rfl⟩ := hw'
  go_wp2_with (first
    | (go_at_call 5; (first | (with_reducible refine (bw_call HA.out _).mono ?_)); rintro e w' ⟨rfl, q, rfl⟩))
  go_ret
  exact ⟨rfl, bw_below B2 _⟩

set_option maxRecDepth 100000 in
set_option maxHeartbeats 8000000 in
theorem law_HueMix_yesY (a b c x y z k l m n d : Int) (w : World) (h : rwei (a, b, c) = true) (h2 : rcol (x, y, z) = true) (h3 : rcol (k, l, m) = true) (hn : I64 n) (hd : I64 d) (f1 : ¬ d < 1) (f2 : ¬ n < 0) (f3 : ¬ d < n) :
    Calls Try.prog 4 #[.agg #[.int .i64 a, .int .i64 b, .int .i64 c], .agg #[.int .i64 x, .int .i64 y, .int .i64 z], .agg #[.int .i64 k, .int .i64 l, .int .i64 m], .agg #[.int .i64 n, .int .i64 d]] w fun r w' => r = .returned (.bool true) ∧ Below w.heap.size w w' := by
  have HA := Lib.hid (fun w => awake09 w)
  have KW := Lib.hid (fun w => ref9_Weight a b c w)
  rw [h] at KW
  have KC := Lib.hid (fun w => ref9_Color x y z w)
  rw [h2] at KC
  have KD := Lib.hid (fun w => ref9_Color k l m w)
  rw [h3] at KD
  have in3 : ∀ {v : T3}, rwei v = true → I64 v.1 ∧ I64 v.2.1 ∧ I64 v.2.2 := fun {v} hv => by
    unfold rwei at hv
    rw [rin_iff] at hv
    unfold I64
    omega
  have ic : ∀ {v : T3}, rcol v = true → I64 v.1 ∧ I64 v.2.1 ∧ I64 v.2.2 := fun {v} hv => by
    unfold rcol at hv
    rw [rin_iff] at hv
    unfold I64
    omega
  obtain ⟨i1, i2, i3⟩ := in3 h
  obtain ⟨i4, i5, i6⟩ := ic h2
  obtain ⟨i7, i8, i9⟩ := ic h3
  dsimp only at i1 i2 i3 i4 i5 i6 i7 i8 i9
  obtain ⟨l1, r1⟩ := hmix_le h h2
  obtain ⟨j1, j2, j3⟩ := in3 r1
  have K1 := Lib.hid (fun w => hue_Mix a b c x y z w i1 i2 i3 i4 i5 i6)
  have K2 := Lib.hid (fun w => hue_Mix a b c 65536 65536 65536 w i1 i2 i3 (by unfold I64; omega) (by unfold I64; omega) (by unfold I64; omega))
  rw [hmix_all h] at K2
  have K3 := Lib.hid (fun w => hue_Mix a b c 0 0 0 w i1 i2 i3 (by unfold I64; omega) (by unfold I64; omega) (by unfold I64; omega))
  rw [hmix_none h] at K3
  obtain ⟨l2, _⟩ := hmix_le r1 h3
  have l3 := hmix_mono r1 h h3 l1
  have K5 := Lib.hid (fun w => hue_Mix a b c k l m w i1 i2 i3 i7 i8 i9)
  generalize hmix (a, b, c) (x, y, z) = u at *
  generalize hmix (a, b, c) (k, l, m) = v at *
  obtain ⟨u1, u2, u3⟩ := u
  obtain ⟨v1, v2, v3⟩ := v
  have K4 := Lib.hid (fun w => hue_Mix u1 u2 u3 k l m w j1 j2 j3 i7 i8 i9)
  generalize hmix (u1, u2, u3) (k, l, m) = s at *
  obtain ⟨s1, s2, s3⟩ := s
  have KU := Lib.hid (fun w => hue_Weight u1 u2 u3 w)
  rw [r1] at KU
  have KB := Lib.hid (fun w => hue_Black 0 0 0 w)
  rw [show hblack (0, 0, 0) = true by decide +kernel] at KB
  have b1 := Lib.hid (fun w => law9_below u1 u2 u3 a b c w l1)
  have b2 := Lib.hid (fun w => law9_below s1 s2 s3 v1 v2 v3 w l3)
  have b3 := Lib.hid (fun w => law9_below s1 s2 s3 u1 u2 u3 w l2)
  dsimp only at K1 K2 K3 K4 K5
  have t1 : decide (d < 1) = false := decide_eq_false f1
  have t2 : decide (n < 0) = false := decide_eq_false f2
  have t3 : decide (d < n) = false := decide_eq_false f3
  have lp := hpart_le h (n := n) (d := d) (by omega) (by omega) (by omega)
  have P1 := Lib.hid (fun w => hue_Part a b c n d w i1 i2 i3 hn hd)
  generalize hpart (a, b, c) n d = pt at *
  obtain ⟨y1, y2, y3⟩ := pt
  have P2 := Lib.hid (fun w => hue_Part a b c 1 1 w i1 i2 i3 (by unfold I64; omega) (by unfold I64; omega))
  rw [hpart_one h] at P2
  dsimp only at P1 P2
  have b4 := Lib.hid (fun w => law9_below y1 y2 y3 a b c w lp)
  obtain ⟨g0, g1⟩ := hgrey_le h
  have G1 := Lib.hid (fun w => hue_Grey a b c w i1 i2 i3)
  have O1 := Lib.hid (fun w => hue_Most a b c w i1 i2 i3)
  generalize hgrey (a, b, c) = gr at *
  generalize hmost (a, b, c) = mo at *
  have t4 : decide (gr ≤ mo) = true := decide_eq_true g1
  have t5 : decide (0 ≤ gr) = true := decide_eq_true g0
  clear lp g0 g1
  clear l1 l2 l3 r1 in3 ic j1 j2 j3 h h2 h3 i1 i2 i3 i4 i5 i6 i7 i8 i9 hn hd f1 f2 f3
  go_enter Try.func4, Try.ntmps4
  go_upto_region 1 with (fail)
  obtain ⟨W1, hW1⟩ : ∃ W, W = (((w.alloc (.cells #[.int .i64 a, .int .i64 b, .int .i64 c] 23)).alloc (.cells #[.int .i64 x, .int .i64 y, .int .i64 z] 23)).alloc (.cells #[.int .i64 k, .int .i64 l, .int .i64 m] 23)).alloc (.cells #[.int .i64 n, .int .i64 d] 25) := ⟨_, rfl⟩
  obtain ⟨k_w, k_c, k_d, k_f, B1⟩ := st4 hW1
  rw [← hW1]
  clear hW1
  have l_c : w.heap.size < w.heap.size + 1 := by omega
  have l_d : w.heap.size + 1 < w.heap.size + 1 + 1 := by omega
  have l_f : w.heap.size + 1 + 1 < w.heap.size + 1 + 1 + 1 := by omega
  generalize w.heap.size + 1 + 1 + 1 = g_f at *
  generalize w.heap.size + 1 + 1 = g_d at *
  generalize w.heap.size + 1 = g_c at *
  obtain ⟨c_w_0, c_w_1, c_w_2⟩ := bwc3 (k_w)
  obtain ⟨c_c_0, c_c_1, c_c_2⟩ := bwc3 (k_c)
  obtain ⟨c_d_0, c_d_1, c_d_2⟩ := bwc3 (k_d)
  obtain ⟨c_f_0, c_f_1⟩ := bwc2 (k_f)
  obtain ⟨p1, hp1⟩ : ∃ p : BW W1, p.w = W1 := ⟨BW.start W1, rfl⟩
  rw [← hp1]
  clear hp1
  go_upto_region 4 with (first
    | (go_at_call 9; (first | (with_reducible refine (bw_call KW.out _).mono ?_)); rintro e w' ⟨rfl, q, rfl⟩)
    | (go_at_call 7; (first | (with_reducible refine (bw_call KC.out _).mono ?_) | (with_reducible refine (bw_call KD.out _).mono ?_)); rintro e w' ⟨rfl, q, rfl⟩)
    | (go_at_call 10; (first | (with_reducible refine (bw_call K1.out _).mono ?_)); rintro e w' ⟨rfl, q, rfl⟩))
  obtain ⟨W2, hW2⟩ : ∃ W, W = q.w.alloc (.cells #[.int .i64 u1, .int .i64 u2, .int .i64 u3] 23) := ⟨_, rfl⟩
  have B2 : Below w.heap.size w W2 := by rw [hW2]; exact (bw_below B1 q).alloc (bw_below B1 q).size _
  have l_u : g_f < q.w.heap.size := (k_f.below q.h).lt
  have o_u : w.heap.size ≤ q.w.heap.size := (bw_below B1 q).size
  have k_w := bka hW2 (k_w.below q.h)
  have k_c := bka hW2 (k_c.below q.h)
  have k_d := bka hW2 (k_d.below q.h)
  have k_f := bka hW2 (k_f.below q.h)
  have k_u := bkn hW2
  rw [← hW2]
  clear hW2
  clear B1
  clear c_w_0 c_w_1 c_w_2 c_c_0 c_c_1 c_c_2 c_d_0 c_d_1 c_d_2 c_f_0 c_f_1
  generalize q.w.heap.size = g_u at *
  obtain ⟨c_w_0, c_w_1, c_w_2⟩ := bwc3 (k_w)
  obtain ⟨c_c_0, c_c_1, c_c_2⟩ := bwc3 (k_c)
  obtain ⟨c_d_0, c_d_1, c_d_2⟩ := bwc3 (k_d)
  obtain ⟨c_f_0, c_f_1⟩ := bwc2 (k_f)
  obtain ⟨c_u_0, c_u_1, c_u_2⟩ := bwc3 (k_u)
  obtain ⟨p2, hp2⟩ : ∃ p : BW W2, p.w = W2 := ⟨BW.start W2, rfl⟩
  rw [← hp2]
  clear hp2
  refine wp_region_bw (by kernel_rfl) (by kernel_rfl) ?_
  repeat (go_big_quiet_step (first
    | (go_at_call 10; (first | (with_reducible exact bw_call K2.out _) | (with_reducible exact bw_call K3.out _) | (with_reducible exact bw_call K4.out _) | (with_reducible exact bw_call K5.out _)))
    | (go_at_call 8; (first | (with_reducible exact bw_call KU.out _)))
    | (go_at_call 20; (first | (with_reducible exact bw_call KB.out _)))
    | (go_at_call 24; (first | (with_reducible exact bw_call b1.out _) | (with_reducible exact bw_call b2.out _) | (with_reducible exact bw_call b3.out _)))))
  refine wpQuiet_nil ?_
  intro _ hw'
  obtain ⟨q, rfl⟩ := hw'
  go_upto_region 8 with (fail)
  refine wp_region_bw (by kernel_rfl) (by kernel_rfl) ?_
  repeat (go_big_quiet_step (first
    | (go_at_call 14; (first | (with_reducible exact bw_call P1.out _) | (with_reducible exact bw_call P2.out _)))
    | (go_at_call 18; (first | (with_reducible exact bw_call G1.out _)))
    | (go_at_call 16; (first | (with_reducible exact bw_call O1.out _)))
    | (go_at_call 24; (first | (with_reducible exact bw_call b4.out _)))
    | (go_at_call 5; (first | (with_reducible exact bw_call HA.out _)))))
  refine wpQuiet_nil ?_
  intro _ hw'
  obtain ⟨q, rfl⟩ := hw'
  go_wp2
  go_ret
  exact ⟨rfl, bw_below B2 _⟩

theorem law_HueMix (a b c x y z k l m n d : Int) (w : World) (hn : I64 n) (hd : I64 d) :
    Calls Try.prog 4 #[.agg #[.int .i64 a, .int .i64 b, .int .i64 c], .agg #[.int .i64 x, .int .i64 y, .int .i64 z], .agg #[.int .i64 k, .int .i64 l, .int .i64 m], .agg #[.int .i64 n, .int .i64 d]] w fun r w' => r = .returned (.bool true) ∧ Below w.heap.size w w' := by
  cases h : rwei (a, b, c) with
  | false => exact law_HueMix_now a b c x y z k l m n d w h
  | true =>
    cases h2 : rcol (x, y, z) with
    | false => exact law_HueMix_noc a b c x y z k l m n d w h h2
    | true =>
      cases h3 : rcol (k, l, m) with
      | false => exact law_HueMix_nod a b c x y z k l m n d w h h2 h3
      | true =>
        by_cases f1 : d < 1
        · exact law_HueMix_yesD a b c x y z k l m n d w h h2 h3 hn hd f1
        · by_cases f2 : n < 0
          · exact law_HueMix_yesN a b c x y z k l m n d w h h2 h3 hn hd f1 f2
          · by_cases f3 : d < n
            · exact law_HueMix_yesG a b c x y z k l m n d w h h2 h3 hn hd f1 f2 f3
            · exact law_HueMix_yesY a b c x y z k l m n d w h h2 h3 hn hd f1 f2 f3

end Go.Proofs.Ytppfemaolaigoaa
