/- Contracts of package prim: the exported functions. -/
import Derived.Test.YtomlcglnkdfemaaGreatTb34


namespace Go.Proofs.YtomlcglnkdfemaaGreat
section

open Go.RowKit Go.Proofs.Sky

set_option linter.unusedVariables false

set_option linter.unusedSimpArgs false

theorem prim_as_nt (w : World) : (Instr.typeAssert .nilIface 96 99 true).run Tryz.prog w = .ok (.tuple #[.agg #[.int .i64 0, .int .i64 0, .int .i64 0, .int .i64 0, .int .i64 0, .int .i64 0, .int .i64 0, .int .i64 0, .int .i64 0], .bool false]) w := by kernel_rfl

theorem prim_as_ns (w : World) : (Instr.typeAssert .nilIface 96 104 true).run Tryz.prog w = .ok (.tuple #[.agg #[.int .i64 0, .int .i64 0, .int .i64 0, .int .i64 0], .bool false]) w := by kernel_rfl

theorem prim_as_tt (v : Value) (w : World) : (Instr.typeAssert (.iface 99 v) 96 99 true).run Tryz.prog w = .ok (.tuple #[v, .bool true]) w := by kernel_rfl

theorem prim_as_st (v : Value) (w : World) : (Instr.typeAssert (.iface 104 v) 96 99 true).run Tryz.prog w = .ok (.tuple #[.agg #[.int .i64 0, .int .i64 0, .int .i64 0, .int .i64 0, .int .i64 0, .int .i64 0, .int .i64 0, .int .i64 0, .int .i64 0], .bool false]) w := by kernel_rfl

theorem prim_as_ss (v : Value) (w : World) : (Instr.typeAssert (.iface 104 v) 96 104 true).run Tryz.prog w = .ok (.tuple #[v, .bool true]) w := by kernel_rfl

set_option maxRecDepth 100000 in
set_option maxHeartbeats 4000000 in
theorem prim_Right_no (k a1 a2 a3 b1 b2 b3 c1 c2 c3 r m : Int) (w : World) (K : Hid (∀ w, Calls Tryz.prog 39 #[.agg #[.int .i64 k, .int .i64 a1, .int .i64 a2, .int .i64 a3, .int .i64 b1, .int .i64 b2, .int .i64 b3, .int .i64 c1, .int .i64 c2, .int .i64 c3, .int .i64 r, .int .i64 m]] w fun en w' => en = .returned (.nilIface) ∧ Below w.heap.size w w')) :
    Calls Tryz.prog 24 #[.agg #[.int .i64 k, .int .i64 a1, .int .i64 a2, .int .i64 a3, .int .i64 b1, .int .i64 b2, .int .i64 b3, .int .i64 c1, .int .i64 c2, .int .i64 c3, .int .i64 r, .int .i64 m]] w fun en w' => en = .returned (.bool false) ∧ Below w.heap.size w w' := by
  go_enter Tryz.func24, Tryz.ntmps24
  go_upto_region 1 with (fail)
  obtain ⟨W1, hW1⟩ : ∃ W, W = w.alloc (.cells #[.int .i64 k, .int .i64 a1, .int .i64 a2, .int .i64 a3, .int .i64 b1, .int .i64 b2, .int .i64 b3, .int .i64 c1, .int .i64 c2, .int .i64 c3, .int .i64 r, .int .i64 m] 39) := ⟨_, rfl⟩
  obtain ⟨k_p, B1⟩ := st1 hW1
  rw [← hW1]
  clear hW1
  obtain ⟨c_p_0, c_p_1, c_p_2, c_p_3, c_p_4, c_p_5, c_p_6, c_p_7, c_p_8, c_p_9, c_p_10, c_p_11⟩ := bwc12 (k_p)
  obtain ⟨p1, hp1⟩ : ∃ p : BW W1, p.w = W1 := ⟨BW.start W1, rfl⟩
  rw [← hp1]
  clear hp1
  go_wp2_with (first
    | (go_at_call 39; (first | (with_reducible refine (bw_call K.out _).mono ?_)); rintro e w' ⟨rfl, q, rfl⟩))
  go_ret
  exact ⟨rfl, bw_below B1 _⟩

set_option maxRecDepth 100000 in
set_option maxHeartbeats 4000000 in
theorem prim_Right_tri (k a1 a2 a3 b1 b2 b3 c1 c2 c3 r m : Int) (w : World) (K : Hid (∀ w, Calls Tryz.prog 39 #[.agg #[.int .i64 k, .int .i64 a1, .int .i64 a2, .int .i64 a3, .int .i64 b1, .int .i64 b2, .int .i64 b3, .int .i64 c1, .int .i64 c2, .int .i64 c3, .int .i64 r, .int .i64 m]] w fun en w' => en = .returned (.iface 99 (.agg #[.int .i64 a1, .int .i64 a2, .int .i64 a3, .int .i64 b1, .int .i64 b2, .int .i64 b3, .int .i64 c1, .int .i64 c2, .int .i64 c3])) ∧ Below w.heap.size w w')) :
    Calls Tryz.prog 24 #[.agg #[.int .i64 k, .int .i64 a1, .int .i64 a2, .int .i64 a3, .int .i64 b1, .int .i64 b2, .int .i64 b3, .int .i64 c1, .int .i64 c2, .int .i64 c3, .int .i64 r, .int .i64 m]] w fun en w' => en = .returned (.bool true) ∧ Below w.heap.size w w' := by
  go_enter Tryz.func24, Tryz.ntmps24
  go_upto_region 1 with (fail)
  obtain ⟨W1, hW1⟩ : ∃ W, W = w.alloc (.cells #[.int .i64 k, .int .i64 a1, .int .i64 a2, .int .i64 a3, .int .i64 b1, .int .i64 b2, .int .i64 b3, .int .i64 c1, .int .i64 c2, .int .i64 c3, .int .i64 r, .int .i64 m] 39) := ⟨_, rfl⟩
  obtain ⟨k_p, B1⟩ := st1 hW1
  rw [← hW1]
  clear hW1
  obtain ⟨c_p_0, c_p_1, c_p_2, c_p_3, c_p_4, c_p_5, c_p_6, c_p_7, c_p_8, c_p_9, c_p_10, c_p_11⟩ := bwc12 (k_p)
  obtain ⟨p1, hp1⟩ : ∃ p : BW W1, p.w = W1 := ⟨BW.start W1, rfl⟩
  rw [← hp1]
  clear hp1
  go_wp2_with (first
    | (go_at_call 39; (first | (with_reducible refine (bw_call K.out _).mono ?_)); rintro e w' ⟨rfl, q, rfl⟩))
  go_ret
  exact ⟨rfl, bw_below B1 _⟩

set_option maxRecDepth 100000 in
set_option maxHeartbeats 4000000 in
theorem prim_Right_sph (k a1 a2 a3 b1 b2 b3 c1 c2 c3 r m : Int) (w : World) (K : Hid (∀ w, Calls Tryz.prog 39 #[.agg #[.int .i64 k, .int .i64 a1, .int .i64 a2, .int .i64 a3, .int .i64 b1, .int .i64 b2, .int .i64 b3, .int .i64 c1, .int .i64 c2, .int .i64 c3, .int .i64 r, .int .i64 m]] w fun en w' => en = .returned (.iface 104 (.agg #[.int .i64 a1, .int .i64 a2, .int .i64 a3, .int .i64 r])) ∧ Below w.heap.size w w')) :
    Calls Tryz.prog 24 #[.agg #[.int .i64 k, .int .i64 a1, .int .i64 a2, .int .i64 a3, .int .i64 b1, .int .i64 b2, .int .i64 b3, .int .i64 c1, .int .i64 c2, .int .i64 c3, .int .i64 r, .int .i64 m]] w fun en w' => en = .returned (.bool true) ∧ Below w.heap.size w w' := by
  go_enter Tryz.func24, Tryz.ntmps24
  go_upto_region 1 with (fail)
  obtain ⟨W1, hW1⟩ : ∃ W, W = w.alloc (.cells #[.int .i64 k, .int .i64 a1, .int .i64 a2, .int .i64 a3, .int .i64 b1, .int .i64 b2, .int .i64 b3, .int .i64 c1, .int .i64 c2, .int .i64 c3, .int .i64 r, .int .i64 m] 39) := ⟨_, rfl⟩
  obtain ⟨k_p, B1⟩ := st1 hW1
  rw [← hW1]
  clear hW1
  obtain ⟨c_p_0, c_p_1, c_p_2, c_p_3, c_p_4, c_p_5, c_p_6, c_p_7, c_p_8, c_p_9, c_p_10, c_p_11⟩ := bwc12 (k_p)
  obtain ⟨p1, hp1⟩ : ∃ p : BW W1, p.w = W1 := ⟨BW.start W1, rfl⟩
  rw [← hp1]
  clear hp1
  go_wp2_with (first
    | (go_at_call 39; (first | (with_reducible refine (bw_call K.out _).mono ?_)); rintro e w' ⟨rfl, q, rfl⟩))
  go_ret
  exact ⟨rfl, bw_below B1 _⟩

theorem prim_Right (k a1 a2 a3 b1 b2 b3 c1 c2 c3 r m : Int) (w : World) (hp : Pr.I (Pr.mk k (a1, a2, a3) (b1, b2, b3) (c1, c2, c3) r m)) :
    Calls Tryz.prog 24 #[.agg #[.int .i64 k, .int .i64 a1, .int .i64 a2, .int .i64 a3, .int .i64 b1, .int .i64 b2, .int .i64 b3, .int .i64 c1, .int .i64 c2, .int .i64 c3, .int .i64 r, .int .i64 m]] w fun en w' => en = .returned (.bool (pRight (Pr.mk k (a1, a2, a3) (b1, b2, b3) (c1, c2, c3) r m))) ∧ Below w.heap.size w w' := by
  have K := Lib.hid (fun w => prim_shapeOf k a1 a2 a3 b1 b2 b3 c1 c2 c3 r m w hp)
  unfold prSh at K
  cases h : pRight (Pr.mk k (a1, a2, a3) (b1, b2, b3) (c1, c2, c3) r m) with
  | false => rw [h, if_neg (by simp)] at K; exact prim_Right_no k a1 a2 a3 b1 b2 b3 c1 c2 c3 r m w K
  | true =>
    rw [h, if_pos rfl] at K
    by_cases hk : k = 1
    · rw [if_pos hk] at K; exact prim_Right_tri k a1 a2 a3 b1 b2 b3 c1 c2 c3 r m w K
    · rw [if_neg hk] at K; exact prim_Right_sph k a1 a2 a3 b1 b2 b3 c1 c2 c3 r m w K

set_option maxRecDepth 100000 in
set_option maxHeartbeats 4000000 in
theorem prim_Box_no (k a1 a2 a3 b1 b2 b3 c1 c2 c3 r m : Int) (w : World) (K : Hid (∀ w, Calls Tryz.prog 39 #[.agg #[.int .i64 k, .int .i64 a1, .int .i64 a2, .int .i64 a3, .int .i64 b1, .int .i64 b2, .int .i64 b3, .int .i64 c1, .int .i64 c2, .int .i64 c3, .int .i64 r, .int .i64 m]] w fun en w' => en = .returned (.nilIface) ∧ Below w.heap.size w w')) :
    Calls Tryz.prog 25 #[.agg #[.int .i64 k, .int .i64 a1, .int .i64 a2, .int .i64 a3, .int .i64 b1, .int .i64 b2, .int .i64 b3, .int .i64 c1, .int .i64 c2, .int .i64 c3, .int .i64 r, .int .i64 m]] w fun en w' => en = .returned (.agg #[.int .i64 0, .int .i64 0, .int .i64 0, .int .i64 0, .int .i64 0, .int .i64 0]) ∧ Below w.heap.size w w' := by
  have As1 := prim_as_nt
  have As2 := prim_as_ns
  go_enter Tryz.func25, Tryz.ntmps25
  go_upto_region 1 with (fail)
  obtain ⟨W1, hW1⟩ : ∃ W, W = (w.alloc (.cells #[.int .i64 k, .int .i64 a1, .int .i64 a2, .int .i64 a3, .int .i64 b1, .int .i64 b2, .int .i64 b3, .int .i64 c1, .int .i64 c2, .int .i64 c3, .int .i64 r, .int .i64 m] 39)).alloc (.cells #[.int .i64 0, .int .i64 0, .int .i64 0, .int .i64 0, .int .i64 0, .int .i64 0] 41) := ⟨_, rfl⟩
  obtain ⟨k_p, k_r, B1⟩ := st2 hW1
  rw [← hW1]
  clear hW1
  have l_r : w.heap.size < w.heap.size + 1 := by omega
  generalize w.heap.size + 1 = g_r at *
  obtain ⟨c_p_0, c_p_1, c_p_2, c_p_3, c_p_4, c_p_5, c_p_6, c_p_7, c_p_8, c_p_9, c_p_10, c_p_11⟩ := bwc12 (k_p)
  obtain ⟨c_r_0, c_r_1, c_r_2, c_r_3, c_r_4, c_r_5⟩ := bwc6 (k_r)
  obtain ⟨f_r_0, f_r_1, f_r_2, f_r_3, f_r_4, f_r_5⟩ := bwf6 (k_r)
  obtain ⟨p1, hp1⟩ : ∃ p : BW W1, p.w = W1 := ⟨BW.start W1, rfl⟩
  rw [← hp1]
  clear hp1
  go_wp2_with (first
    | (go_at_call 39; (first | (with_reducible refine (bw_call K.out _).mono ?_)); rintro e w' ⟨rfl, q, rfl⟩))
  have kr := bkp6 (k_r.below q.h) (.int .i64 0) (.int .i64 0) (.int .i64 0) (.int .i64 0) (.int .i64 0) (.int .i64 0)
  obtain ⟨rc0, rc1, rc2, rc3, rc4, rc5⟩ := rwc6 kr
  exact bodyPost_ret (v := .agg #[.int .i64 0, .int .i64 0, .int .i64 0, .int .i64 0, .int .i64 0, .int .i64 0]) (by simp [results, Tryz.results25, go_sem, rc0, rc1, rc2, rc3, rc4, rc5]) rfl ⟨rfl, blp6 (bw_below B1 q) (by omega)⟩

set_option maxRecDepth 100000 in
set_option maxHeartbeats 4000000 in
theorem prim_Box_tri (k a1 a2 a3 b1 b2 b3 c1 c2 c3 r m : Int) (w : World) (K : Hid (∀ w, Calls Tryz.prog 39 #[.agg #[.int .i64 k, .int .i64 a1, .int .i64 a2, .int .i64 a3, .int .i64 b1, .int .i64 b2, .int .i64 b3, .int .i64 c1, .int .i64 c2, .int .i64 c3, .int .i64 r, .int .i64 m]] w fun en w' => en = .returned (.iface 99 (.agg #[.int .i64 a1, .int .i64 a2, .int .i64 a3, .int .i64 b1, .int .i64 b2, .int .i64 b3, .int .i64 c1, .int .i64 c2, .int .i64 c3])) ∧ Below w.heap.size w w')) (h1 : vnear a1 a2 a3 = true) (h2 : vnear b1 b2 b3 = true) (h3 : vnear c1 c2 c3 = true) :
    Calls Tryz.prog 25 #[.agg #[.int .i64 k, .int .i64 a1, .int .i64 a2, .int .i64 a3, .int .i64 b1, .int .i64 b2, .int .i64 b3, .int .i64 c1, .int .i64 c2, .int .i64 c3, .int .i64 r, .int .i64 m]] w fun en w' => en = .returned (.agg #[.int .i64 (min (min a1 b1) c1), .int .i64 (min (min a2 b2) c2), .int .i64 (min (min a3 b3) c3), .int .i64 (max (max a1 b1) c1), .int .i64 (max (max a2 b2) c2), .int .i64 (max (max a3 b3) c3)]) ∧ Below w.heap.size w w' := by
  obtain ⟨u1, hu1⟩ : ∃ t, min (min a1 b1) c1 = t := ⟨_, rfl⟩
  obtain ⟨u2, hu2⟩ : ∃ t, min (min a2 b2) c2 = t := ⟨_, rfl⟩
  obtain ⟨u3, hu3⟩ : ∃ t, min (min a3 b3) c3 = t := ⟨_, rfl⟩
  obtain ⟨v1, hv1⟩ : ∃ t, max (max a1 b1) c1 = t := ⟨_, rfl⟩
  obtain ⟨v2, hv2⟩ : ∃ t, max (max a2 b2) c2 = t := ⟨_, rfl⟩
  obtain ⟨v3, hv3⟩ : ∃ t, max (max a3 b3) c3 = t := ⟨_, rfl⟩
  rw [hu1, hu2, hu3, hv1, hv2, hv3]
  have As1 := prim_as_tt
  go_enter Tryz.func25, Tryz.ntmps25
  go_upto_region 1 with (fail)
  obtain ⟨W1, hW1⟩ : ∃ W, W = (w.alloc (.cells #[.int .i64 k, .int .i64 a1, .int .i64 a2, .int .i64 a3, .int .i64 b1, .int .i64 b2, .int .i64 b3, .int .i64 c1, .int .i64 c2, .int .i64 c3, .int .i64 r, .int .i64 m] 39)).alloc (.cells #[.int .i64 0, .int .i64 0, .int .i64 0, .int .i64 0, .int .i64 0, .int .i64 0] 41) := ⟨_, rfl⟩
  obtain ⟨k_p, k_r, B1⟩ := st2 hW1
  rw [← hW1]
  clear hW1
  have l_r : w.heap.size < w.heap.size + 1 := by omega
  generalize w.heap.size + 1 = g_r at *
  obtain ⟨c_p_0, c_p_1, c_p_2, c_p_3, c_p_4, c_p_5, c_p_6, c_p_7, c_p_8, c_p_9, c_p_10, c_p_11⟩ := bwc12 (k_p)
  obtain ⟨c_r_0, c_r_1, c_r_2, c_r_3, c_r_4, c_r_5⟩ := bwc6 (k_r)
  obtain ⟨p1, hp1⟩ : ∃ p : BW W1, p.w = W1 := ⟨BW.start W1, rfl⟩
  rw [← hp1]
  clear hp1
  go_upto_region 4 with (first
    | (go_at_call 39; (first | (with_reducible refine (bw_call K.out _).mono ?_)); rintro e w' ⟨rfl, q, rfl⟩))
  obtain ⟨W2, hW2⟩ : ∃ W, W = q.w.alloc (.cells #[.int .i64 a1, .int .i64 a2, .int .i64 a3, .int .i64 b1, .int .i64 b2, .int .i64 b3, .int .i64 c1, .int .i64 c2, .int .i64 c3] 99) := ⟨_, rfl⟩
  have B2 : Below w.heap.size w W2 := by rw [hW2]; exact (bw_below B1 q).alloc (bw_below B1 q).size _
  have l_s : g_r < q.w.heap.size := (k_r.below q.h).lt
  have o_s : w.heap.size ≤ q.w.heap.size := (bw_below B1 q).size
  have k_p := bka hW2 (k_p.below q.h)
  have k_r := bka hW2 (k_r.below q.h)
  have k_s := bkn hW2
  rw [← hW2]
  clear hW2
  clear B1
  clear c_p_0 c_p_1 c_p_2 c_p_3 c_p_4 c_p_5 c_p_6 c_p_7 c_p_8 c_p_9 c_p_10 c_p_11 c_r_0 c_r_1 c_r_2 c_r_3 c_r_4 c_r_5
  generalize q.w.heap.size = g_s at *
  obtain ⟨c_p_0, c_p_1, c_p_2, c_p_3, c_p_4, c_p_5, c_p_6, c_p_7, c_p_8, c_p_9, c_p_10, c_p_11⟩ := bwc12 (k_p)
  obtain ⟨c_r_0, c_r_1, c_r_2, c_r_3, c_r_4, c_r_5⟩ := bwc6 (k_r)
  obtain ⟨c_s_0, c_s_1, c_s_2, c_s_3, c_s_4, c_s_5, c_s_6, c_s_7, c_s_8⟩ := bwc9 (k_s)
  obtain ⟨p2, hp2⟩ : ∃ p : BW W2, p.w = W2 := ⟨BW.start W2, rfl⟩
  rw [← hp2]
  clear hp2
  have KC : ∀ p : BW W2, Calls Tryz.prog 40 #[.slice (some ⟨p.w.heap.size, 0, none⟩) 3 3] (p.w.alloc (.cells #[.int .i64 a1, .int .i64 a2, .int .i64 a3, .int .i64 b1, .int .i64 b2, .int .i64 b3, .int .i64 c1, .int .i64 c2, .int .i64 c3] 37)) fun e w' => e = .returned (.tuple #[.agg #[.int .i64 u1, .int .i64 u2, .int .i64 u3, .int .i64 v1, .int .i64 v2, .int .i64 v3], .bool true]) ∧ ∃ q : BW W2, w' = q.w := fun p =>
    (box_Of3_last 3 a1 a2 a3 b1 b2 b3 c1 c2 c3 W2 p.w _ rfl p.h h1 h2 h3).mono fun e w' h => ⟨by rw [hu1, hu2, hu3, hv1, hv2, hv3] at h; exact h.1, ⟨w', h.2⟩, rfl⟩
  clear h1 h2 h3 hu1 hu2 hu3 hv1 hv2 hv3
  go_upto_region 5 with (go_at_call 40; (with_reducible refine (KC _).mono ?_); rintro e w' ⟨rfl, q, rfl⟩)
  clear KC
  obtain ⟨W3, hW3⟩ : ∃ W, W = q.w.alloc (.cells #[.int .i64 u1, .int .i64 u2, .int .i64 u3, .int .i64 v1, .int .i64 v2, .int .i64 v3] 41) := ⟨_, rfl⟩
  have B3 : Below w.heap.size w W3 := by rw [hW3]; exact (bw_below B2 q).alloc (bw_below B2 q).size _
  have l_a : g_s < q.w.heap.size := (k_s.below q.h).lt
  have o_a : w.heap.size ≤ q.w.heap.size := (bw_below B2 q).size
  have k_p := bka hW3 (k_p.below q.h)
  have k_r := bka hW3 (k_r.below q.h)
  have k_s := bka hW3 (k_s.below q.h)
  have k_a := bkn hW3
  rw [← hW3]
  clear hW3
  clear B2
  clear c_p_0 c_p_1 c_p_2 c_p_3 c_p_4 c_p_5 c_p_6 c_p_7 c_p_8 c_p_9 c_p_10 c_p_11 c_r_0 c_r_1 c_r_2 c_r_3 c_r_4 c_r_5 c_s_0 c_s_1 c_s_2 c_s_3 c_s_4 c_s_5 c_s_6 c_s_7 c_s_8
  generalize q.w.heap.size = g_a at *
  obtain ⟨c_p_0, c_p_1, c_p_2, c_p_3, c_p_4, c_p_5, c_p_6, c_p_7, c_p_8, c_p_9, c_p_10, c_p_11⟩ := bwc12 (k_p)
  obtain ⟨c_r_0, c_r_1, c_r_2, c_r_3, c_r_4, c_r_5⟩ := bwc6 (k_r)
  obtain ⟨f_r_0, f_r_1, f_r_2, f_r_3, f_r_4, f_r_5⟩ := bwf6 (k_r)
  obtain ⟨c_s_0, c_s_1, c_s_2, c_s_3, c_s_4, c_s_5, c_s_6, c_s_7, c_s_8⟩ := bwc9 (k_s)
  obtain ⟨c_a_0, c_a_1, c_a_2, c_a_3, c_a_4, c_a_5⟩ := bwc6 (k_a)
  obtain ⟨p3, hp3⟩ : ∃ p : BW W3, p.w = W3 := ⟨BW.start W3, rfl⟩
  rw [← hp3]
  clear hp3
  go_wp2
  have kr := bkp6 (k_r.below p3.h) (.int .i64 u1) (.int .i64 u2) (.int .i64 u3) (.int .i64 v1) (.int .i64 v2) (.int .i64 v3)
  obtain ⟨rc0, rc1, rc2, rc3, rc4, rc5⟩ := rwc6 kr
  exact bodyPost_ret (v := .agg #[.int .i64 u1, .int .i64 u2, .int .i64 u3, .int .i64 v1, .int .i64 v2, .int .i64 v3]) (by simp [results, Tryz.results25, go_sem, rc0, rc1, rc2, rc3, rc4, rc5]) rfl ⟨rfl, blp6 (bw_below B3 p3) (by omega)⟩

set_option maxRecDepth 100000 in
set_option maxHeartbeats 4000000 in
theorem prim_Box_sph (k a1 a2 a3 b1 b2 b3 c1 c2 c3 r m : Int) (w : World) (K : Hid (∀ w, Calls Tryz.prog 39 #[.agg #[.int .i64 k, .int .i64 a1, .int .i64 a2, .int .i64 a3, .int .i64 b1, .int .i64 b2, .int .i64 b3, .int .i64 c1, .int .i64 c2, .int .i64 c3, .int .i64 r, .int .i64 m]] w fun en w' => en = .returned (.iface 104 (.agg #[.int .i64 a1, .int .i64 a2, .int .i64 a3, .int .i64 r])) ∧ Below w.heap.size w w')) (h1 : -524288 ≤ a1 ∧ a1 ≤ 524288) (h2 : -524288 ≤ a2 ∧ a2 ≤ 524288) (h3 : -524288 ≤ a3 ∧ a3 ≤ 524288) (h4 : 0 ≤ r ∧ r ≤ 262144) :
    Calls Tryz.prog 25 #[.agg #[.int .i64 k, .int .i64 a1, .int .i64 a2, .int .i64 a3, .int .i64 b1, .int .i64 b2, .int .i64 b3, .int .i64 c1, .int .i64 c2, .int .i64 c3, .int .i64 r, .int .i64 m]] w fun en w' => en = .returned (.agg #[.int .i64 (a1 - r), .int .i64 (a2 - r), .int .i64 (a3 - r), .int .i64 (a1 + r), .int .i64 (a2 + r), .int .i64 (a3 + r)]) ∧ Below w.heap.size w w' := by
  have KS := Lib.hid (fun w => vec_Sub a1 a2 a3 r r r w (by unfold I64; omega) (by unfold I64; omega) (by unfold I64; omega) (by unfold I64; omega) (by unfold I64; omega) (by unfold I64; omega))
  have KA := Lib.hid (fun w => vec_Add a1 a2 a3 r r r w (by unfold I64; omega) (by unfold I64; omega) (by unfold I64; omega) (by unfold I64; omega) (by unfold I64; omega) (by unfold I64; omega))
  rw [vsub_in (x := a1) (by omega) (by omega), vsub_in (x := a2) (by omega) (by omega), vsub_in (x := a3) (by omega) (by omega)] at KS
  rw [sat_in (by omega), sat_in (by omega), sat_in (by omega)] at KA
  generalize a1 - r = u1 at *
  generalize a1 + r = v1 at *
  generalize a2 - r = u2 at *
  generalize a2 + r = v2 at *
  generalize a3 - r = u3 at *
  generalize a3 + r = v3 at *
  clear h1 h2 h3 h4
  have As1 := prim_as_st
  have As2 := prim_as_ss
  go_enter Tryz.func25, Tryz.ntmps25
  go_upto_region 1 with (fail)
  obtain ⟨W1, hW1⟩ : ∃ W, W = (w.alloc (.cells #[.int .i64 k, .int .i64 a1, .int .i64 a2, .int .i64 a3, .int .i64 b1, .int .i64 b2, .int .i64 b3, .int .i64 c1, .int .i64 c2, .int .i64 c3, .int .i64 r, .int .i64 m] 39)).alloc (.cells #[.int .i64 0, .int .i64 0, .int .i64 0, .int .i64 0, .int .i64 0, .int .i64 0] 41) := ⟨_, rfl⟩
  obtain ⟨k_p, k_r, B1⟩ := st2 hW1
  rw [← hW1]
  clear hW1
  have l_r : w.heap.size < w.heap.size + 1 := by omega
  generalize w.heap.size + 1 = g_r at *
  obtain ⟨c_p_0, c_p_1, c_p_2, c_p_3, c_p_4, c_p_5, c_p_6, c_p_7, c_p_8, c_p_9, c_p_10, c_p_11⟩ := bwc12 (k_p)
  obtain ⟨c_r_0, c_r_1, c_r_2, c_r_3, c_r_4, c_r_5⟩ := bwc6 (k_r)
  obtain ⟨p1, hp1⟩ : ∃ p : BW W1, p.w = W1 := ⟨BW.start W1, rfl⟩
  rw [← hp1]
  clear hp1
  go_upto_region 8 with (first
    | (go_at_call 39; (first | (with_reducible refine (bw_call K.out _).mono ?_)); rintro e w' ⟨rfl, q, rfl⟩))
  obtain ⟨W2, hW2⟩ : ∃ W, W = q.w.alloc (.cells #[.int .i64 a1, .int .i64 a2, .int .i64 a3, .int .i64 r] 104) := ⟨_, rfl⟩
  have B2 : Below w.heap.size w W2 := by rw [hW2]; exact (bw_below B1 q).alloc (bw_below B1 q).size _
  have l_s : g_r < q.w.heap.size := (k_r.below q.h).lt
  have o_s : w.heap.size ≤ q.w.heap.size := (bw_below B1 q).size
  have k_p := bka hW2 (k_p.below q.h)
  have k_r := bka hW2 (k_r.below q.h)
  have k_s := bkn hW2
  rw [← hW2]
  clear hW2
  clear B1
  clear c_p_0 c_p_1 c_p_2 c_p_3 c_p_4 c_p_5 c_p_6 c_p_7 c_p_8 c_p_9 c_p_10 c_p_11 c_r_0 c_r_1 c_r_2 c_r_3 c_r_4 c_r_5
  generalize q.w.heap.size = g_s at *
  obtain ⟨c_p_0, c_p_1, c_p_2, c_p_3, c_p_4, c_p_5, c_p_6, c_p_7, c_p_8, c_p_9, c_p_10, c_p_11⟩ := bwc12 (k_p)
  obtain ⟨c_r_0, c_r_1, c_r_2, c_r_3, c_r_4, c_r_5⟩ := bwc6 (k_r)
  obtain ⟨c_s_0, c_s_1, c_s_2, c_s_3⟩ := bwc4 (k_s)
  obtain ⟨p2, hp2⟩ : ∃ p : BW W2, p.w = W2 := ⟨BW.start W2, rfl⟩
  rw [← hp2]
  clear hp2
  go_upto_region 9 with (fail)
  obtain ⟨W3, hW3⟩ : ∃ W, W = p2.w.alloc (.cells #[.int .i64 r, .int .i64 r, .int .i64 r] 37) := ⟨_, rfl⟩
  have B3 : Below w.heap.size w W3 := by rw [hW3]; exact (bw_below B2 p2).alloc (bw_below B2 p2).size _
  have l_d : g_s < p2.w.heap.size := (k_s.below p2.h).lt
  have o_d : w.heap.size ≤ p2.w.heap.size := (bw_below B2 p2).size
  have l_d_r : g_r < p2.w.heap.size := (k_r.below p2.h).lt
  have k_p := bka hW3 (k_p.below p2.h)
  have k_r := bka hW3 (k_r.below p2.h)
  have k_s := bka hW3 (k_s.below p2.h)
  have k_d := bkn hW3
  rw [← hW3]
  clear hW3
  clear B2
  clear c_p_0 c_p_1 c_p_2 c_p_3 c_p_4 c_p_5 c_p_6 c_p_7 c_p_8 c_p_9 c_p_10 c_p_11 c_r_0 c_r_1 c_r_2 c_r_3 c_r_4 c_r_5 c_s_0 c_s_1 c_s_2 c_s_3
  generalize p2.w.heap.size = g_d at *
  obtain ⟨c_p_0, c_p_1, c_p_2, c_p_3, c_p_4, c_p_5, c_p_6, c_p_7, c_p_8, c_p_9, c_p_10, c_p_11⟩ := bwc12 (k_p)
  obtain ⟨c_r_0, c_r_1, c_r_2, c_r_3, c_r_4, c_r_5⟩ := bwc6 (k_r)
  obtain ⟨f_r_0, f_r_1, f_r_2, f_r_3, f_r_4, f_r_5⟩ := bwf6 (k_r)
  obtain ⟨c_s_0, c_s_1, c_s_2, c_s_3⟩ := bwc4 (k_s)
  obtain ⟨c_d_0, c_d_1, c_d_2⟩ := bwc3 (k_d)
  obtain ⟨p3, hp3⟩ : ∃ p : BW W3, p.w = W3 := ⟨BW.start W3, rfl⟩
  rw [← hp3]
  clear hp3
  refine wp_region_bw_tail 8 (by kernel_rfl) (by kernel_rfl) (by kernel_rfl) ?_
  simp only [List.take_succ_cons, List.take_zero, List.drop_succ_cons, List.drop_zero]
  repeat (go_big_quiet_step (first
    | (go_at_call 41; (first | (with_reducible exact bw_call KS.out _)))
    | (go_at_call 42; (first | (with_reducible exact bw_call KA.out _)))))
  refine wpQuiet_nil ?_
  intro _ hw'
  obtain ⟨q, rfl⟩ := hw'
  go_wp2
  have kr := bkp6 (k_r.below q.h) (.int .i64 u1) (.int .i64 u2) (.int .i64 u3) (.int .i64 v1) (.int .i64 v2) (.int .i64 v3)
  obtain ⟨rc0, rc1, rc2, rc3, rc4, rc5⟩ := rwc6 kr
  exact bodyPost_ret (v := .agg #[.int .i64 u1, .int .i64 u2, .int .i64 u3, .int .i64 v1, .int .i64 v2, .int .i64 v3]) (by simp [results, Tryz.results25, go_sem, rc0, rc1, rc2, rc3, rc4, rc5]) rfl ⟨rfl, blp6 (bw_below B3 q) (by omega)⟩

theorem prim_Box (k a1 a2 a3 b1 b2 b3 c1 c2 c3 r m : Int) (w : World) (hp : Pr.I (Pr.mk k (a1, a2, a3) (b1, b2, b3) (c1, c2, c3) r m)) :
    Calls Tryz.prog 25 #[.agg #[.int .i64 k, .int .i64 a1, .int .i64 a2, .int .i64 a3, .int .i64 b1, .int .i64 b2, .int .i64 b3, .int .i64 c1, .int .i64 c2, .int .i64 c3, .int .i64 r, .int .i64 m]] w fun en w' => en = .returned (.agg (bx6 (pBox (Pr.mk k (a1, a2, a3) (b1, b2, b3) (c1, c2, c3) r m)))) ∧ Below w.heap.size w w' := by
  have K := Lib.hid (fun w => prim_shapeOf k a1 a2 a3 b1 b2 b3 c1 c2 c3 r m w hp)
  unfold prSh at K
  unfold pBox
  by_cases h : pRight (Pr.mk k (a1, a2, a3) (b1, b2, b3) (c1, c2, c3) r m) = true
  · rw [if_pos h] at K ⊢
    by_cases hk : k = 1
    · rw [if_pos hk] at K
      obtain ⟨q, _⟩ := pRight_tri h hk
      obtain ⟨q1, q2, q3⟩ := pl3_iff.1 q
      rw [if_pos hk, tri_box q]
      exact prim_Box_tri k a1 a2 a3 b1 b2 b3 c1 c2 c3 r m w K (plc_near q1) (plc_near q2) (plc_near q3)
    · rw [if_neg hk] at K
      obtain ⟨_, q⟩ := pRight_ball h hk
      have q1 := plc_iff.1 (ballR_iff.1 q).1
      have q2 := (ballR_iff.1 q).2
      rw [if_neg hk]
      dsimp only at q1 q2
      exact prim_Box_sph k a1 a2 a3 b1 b2 b3 c1 c2 c3 r m w K (by omega) (by omega) (by omega) (by omega)
  · rw [if_neg h] at K ⊢
    exact prim_Box_no k a1 a2 a3 b1 b2 b3 c1 c2 c3 r m w K

end
end Go.Proofs.YtomlcglnkdfemaaGreat
