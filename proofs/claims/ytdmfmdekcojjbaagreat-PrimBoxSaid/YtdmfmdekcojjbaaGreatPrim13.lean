/- Contracts of package prim: the exported functions. -/
import Derived.Test.YtdmfmdekcojjbaaGreatPriml13
namespace Go.Proofs.YtdmfmdekcojjbaaGreat
open Go.RowKit Go.Proofs.Sky
set_option linter.unusedVariables false
set_option linter.unusedSimpArgs false

theorem prim_as_nt (w : World) : (Instr.typeAssert .nilIface 49 52 true).run Tryz.prog w = .ok (.tuple #[.agg #[.int .i64 0, .int .i64 0, .int .i64 0, .int .i64 0, .int .i64 0, .int .i64 0, .int .i64 0, .int .i64 0, .int .i64 0], .bool false]) w := by kernel_rfl

theorem prim_as_ns (w : World) : (Instr.typeAssert .nilIface 49 55 true).run Tryz.prog w = .ok (.tuple #[.agg #[.int .i64 0, .int .i64 0, .int .i64 0, .int .i64 0], .bool false]) w := by kernel_rfl

theorem prim_as_tt (v : Value) (w : World) : (Instr.typeAssert (.iface 52 v) 49 52 true).run Tryz.prog w = .ok (.tuple #[v, .bool true]) w := by kernel_rfl

theorem prim_as_st (v : Value) (w : World) : (Instr.typeAssert (.iface 55 v) 49 52 true).run Tryz.prog w = .ok (.tuple #[.agg #[.int .i64 0, .int .i64 0, .int .i64 0, .int .i64 0, .int .i64 0, .int .i64 0, .int .i64 0, .int .i64 0, .int .i64 0], .bool false]) w := by kernel_rfl

theorem prim_as_ss (v : Value) (w : World) : (Instr.typeAssert (.iface 55 v) 49 55 true).run Tryz.prog w = .ok (.tuple #[v, .bool true]) w := by kernel_rfl

set_option maxRecDepth 100000 in
set_option maxHeartbeats 4000000 in
theorem prim_Right_no (k a1 a2 a3 b1 b2 b3 c1 c2 c3 r m : Int) (w : World) (K : Hid (∀ w, Calls Tryz.prog 21 #[.agg #[.int .i64 k, .int .i64 a1, .int .i64 a2, .int .i64 a3, .int .i64 b1, .int .i64 b2, .int .i64 b3, .int .i64 c1, .int .i64 c2, .int .i64 c3, .int .i64 r, .int .i64 m]] w fun en w' => en = .returned (.nilIface) ∧ Below w.heap.size w w')) :
    Calls Tryz.prog 20 #[.agg #[.int .i64 k, .int .i64 a1, .int .i64 a2, .int .i64 a3, .int .i64 b1, .int .i64 b2, .int .i64 b3, .int .i64 c1, .int .i64 c2, .int .i64 c3, .int .i64 r, .int .i64 m]] w fun en w' => en = .returned (.bool false) ∧ Below w.heap.size w w' := by
  go_enter Tryz.func20, Tryz.ntmps20
  go_upto_region 1 with (fail)
  obtain ⟨W1, hW1⟩ : ∃ W, W = w.alloc (.cells #[.int .i64 k, .int .i64 a1, .int .i64 a2, .int .i64 a3, .int .i64 b1, .int .i64 b2, .int .i64 b3, .int .i64 c1, .int .i64 c2, .int .i64 c3, .int .i64 r, .int .i64 m] 25) := ⟨_, rfl⟩
  obtain ⟨k_p, B1⟩ := st1 hW1
  rw [← hW1]
  clear hW1
  obtain ⟨c_p_0, c_p_1, c_p_2, c_p_3, c_p_4, c_p_5, c_p_6, c_p_7, c_p_8, c_p_9, c_p_10, c_p_11⟩ := bwc12 (k_p)
  obtain ⟨p1, hp1⟩ : ∃ p : BW W1, p.w = W1 := ⟨BW.start W1, rfl⟩
  rw [← hp1]
  clear hp1
  go_wp2_with (first
    | (go_at_call 21; (first | (with_reducible refine (bw_call K.out _).mono ?_)); rintro e w' ⟨rfl, q, rfl⟩))
  go_ret
  exact ⟨rfl, bw_below B1 _⟩

set_option maxRecDepth 100000 in
set_option maxHeartbeats 4000000 in
theorem prim_Right_tri (k a1 a2 a3 b1 b2 b3 c1 c2 c3 r m : Int) (w : World) (K : Hid (∀ w, Calls Tryz.prog 21 #[.agg #[.int .i64 k, .int .i64 a1, .int .i64 a2, .int .i64 a3, .int .i64 b1, .int .i64 b2, .int .i64 b3, .int .i64 c1, .int .i64 c2, .int .i64 c3, .int .i64 r, .int .i64 m]] w fun en w' => en = .returned (.iface 52 (.agg #[.int .i64 a1, .int .i64 a2, .int .i64 a3, .int .i64 b1, .int .i64 b2, .int .i64 b3, .int .i64 c1, .int .i64 c2, .int .i64 c3])) ∧ Below w.heap.size w w')) :
    Calls Tryz.prog 20 #[.agg #[.int .i64 k, .int .i64 a1, .int .i64 a2, .int .i64 a3, .int .i64 b1, .int .i64 b2, .int .i64 b3, .int .i64 c1, .int .i64 c2, .int .i64 c3, .int .i64 r, .int .i64 m]] w fun en w' => en = .returned (.bool true) ∧ Below w.heap.size w w' := by
  go_enter Tryz.func20, Tryz.ntmps20
  go_upto_region 1 with (fail)
  obtain ⟨W1, hW1⟩ : ∃ W, W = w.alloc (.cells #[.int .i64 k, .int .i64 a1, .int .i64 a2, .int .i64 a3, .int .i64 b1, .int .i64 b2, .int .i64 b3, .int .i64 c1, .int .i64 c2, .int .i64 c3, .int .i64 r, .int .i64 m] 25) := ⟨_, rfl⟩
  obtain ⟨k_p, B1⟩ := st1 hW1
  rw [← hW1]
  clear hW1
  obtain ⟨c_p_0, c_p_1, c_p_2, c_p_3, c_p_4, c_p_5, c_p_6, c_p_7, c_p_8, c_p_9, c_p_10, c_p_11⟩ := bwc12 (k_p)
  obtain ⟨p1, hp1⟩ : ∃ p : BW W1, p.w = W1 := ⟨BW.start W1, rfl⟩
  rw [← hp1]
  clear hp1
  go_wp2_with (first
    | (go_at_call 21; (first | (with_reducible refine (bw_call K.out _).mono ?_)); rintro e w' ⟨rfl, q, rfl⟩))
  go_ret
  exact ⟨rfl, bw_below B1 _⟩

set_option maxRecDepth 100000 in
set_option maxHeartbeats 4000000 in
theorem prim_Right_sph (k a1 a2 a3 b1 b2 b3 c1 c2 c3 r m : Int) (w : World) (K : Hid (∀ w, Calls Tryz.prog 21 #[.agg #[.int .i64 k, .int .i64 a1, .int .i64 a2, .int .i64 a3, .int .i64 b1, .int .i64 b2, .int .i64 b3, .int .i64 c1, .int .i64 c2, .int .i64 c3, .int .i64 r, .int .i64 m]] w fun en w' => en = .returned (.iface 55 (.agg #[.int .i64 a1, .int .i64 a2, .int .i64 a3, .int .i64 r])) ∧ Below w.heap.size w w')) :
    Calls Tryz.prog 20 #[.agg #[.int .i64 k, .int .i64 a1, .int .i64 a2, .int .i64 a3, .int .i64 b1, .int .i64 b2, .int .i64 b3, .int .i64 c1, .int .i64 c2, .int .i64 c3, .int .i64 r, .int .i64 m]] w fun en w' => en = .returned (.bool true) ∧ Below w.heap.size w w' := by
  go_enter Tryz.func20, Tryz.ntmps20
  go_upto_region 1 with (fail)
  obtain ⟨W1, hW1⟩ : ∃ W, W = w.alloc (.cells #[.int .i64 k, .int .i64 a1, .int .i64 a2, .int .i64 a3, .int .i64 b1, .int .i64 b2, .int .i64 b3, .int .i64 c1, .int .i64 c2, .int .i64 c3, .int .i64 r, .int .i64 m] 25) := ⟨_, rfl⟩
  obtain ⟨k_p, B1⟩ := st1 hW1
  rw [← hW1]
  clear hW1
  obtain ⟨c_p_0, c_p_1, c_p_2, c_p_3, c_p_4, c_p_5, c_p_6, c_p_7, c_p_8, c_p_9, c_p_10, c_p_11⟩ := bwc12 (k_p)
  obtain ⟨p1, hp1⟩ : ∃ p : BW W1, p.w = W1 := ⟨BW.start W1, rfl⟩
  rw [← hp1]
  clear hp1
  go_wp2_with (first
    | (go_at_call 21; (first | (with_reducible refine (bw_call K.out _).mono ?_)); rintro e w' ⟨rfl, q, rfl⟩))
  go_ret
  exact ⟨rfl, bw_below B1 _⟩

theorem prim_Right (k a1 a2 a3 b1 b2 b3 c1 c2 c3 r m : Int) (w : World) (hp : Pr.I (Pr.mk k (a1, a2, a3) (b1, b2, b3) (c1, c2, c3) r m)) :
    Calls Tryz.prog 20 #[.agg #[.int .i64 k, .int .i64 a1, .int .i64 a2, .int .i64 a3, .int .i64 b1, .int .i64 b2, .int .i64 b3, .int .i64 c1, .int .i64 c2, .int .i64 c3, .int .i64 r, .int .i64 m]] w fun en w' => en = .returned (.bool (pRight (Pr.mk k (a1, a2, a3) (b1, b2, b3) (c1, c2, c3) r m))) ∧ Below w.heap.size w w' := by
  have K := Lib.hid (fun w => prim_shapeOf k a1 a2 a3 b1 b2 b3 c1 c2 c3 r m w hp)
  unfold prSh at K
  cases h : pRight (Pr.mk k (a1, a2, a3) (b1, b2, b3) (c1, c2, c3) r m) with
  | false => rw [h, if_neg (by simp)] at K; exact prim_Right_no k a1 a2 a3 b1 b2 b3 c1 c2 c3 r m w K
  | true =>
    rw [h, if_pos rfl] at K
    by_cases hk : k = 1
    · rw [if_pos hk] at K; exact prim_Right_tri k a1 a2 a3 b1 b2 b3 c1 c2 c3 r m w K
    · rw [if_neg hk] at K; exact prim_Right_sph k a1 a2 a3 b1 b2 b3 c1 c2 c3 r m w K

set_option maxRecDepth 100000 in
set_option maxHeartbeats 4000000 in
theorem prim_Box_no (k a1 a2 a3 b1 b2 b3 c1 c2 c3 r m : Int) (w : World) (K : Hid (∀ w, Calls Tryz.prog 21 #[.agg #[.int .i64 k, .int .i64 a1, .int .i64 a2, .int .i64 a3, .int .i64 b1, .int .i64 b2, .int .i64 b3, .int .i64 c1, .int .i64 c2, .int .i64 c3, .int .i64 r, .int .i64 m]] w fun en w' => en = .returned (.nilIface) ∧ Below w.heap.size w w')) :
    Calls Tryz.prog 9 #[.agg #[.int .i64 k, .int .i64 a1, .int .i64 a2, .int .i64 a3, .int .i64 b1, .int .i64 b2, .int .i64 b3, .int .i64 c1, .int .i64 c2, .int .i64 c3, .int .i64 r, .int .i64 m]] w fun en w' => en = .returned (.agg #[.int .i64 0, .int .i64 0, .int .i64 0, .int .i64 0, .int .i64 0, .int .i64 0]) ∧ Below w.heap.size w w' := by
  have As1 := prim_as_nt
  have As2 := prim_as_ns
  go_enter Tryz.func9, Tryz.ntmps9
  go_upto_region 1 with (fail)
  obtain ⟨W1, hW1⟩ : ∃ W, W = (w.alloc (.cells #[.int .i64 k, .int .i64 a1, .int .i64 a2, .int .i64 a3, .int .i64 b1, .int .i64 b2, .int .i64 b3, .int .i64 c1, .int .i64 c2, .int .i64 c3, .int .i64 r, .int .i64 m] 25)).alloc (.cells #[.int .i64 0, .int .i64 0, .int .i64 0, .int .i64 0, .int .i64 0, .int .i64 0] 36) := ⟨_, rfl⟩
  obtain ⟨k_p, k_r, B1⟩ := st2 hW1
  rw [← hW1]
  clear hW1
  have l_r : w.heap.size < w.heap.size + 1 := by omega
  generalize w.heap.size + 1 = g_r at *
  obtain ⟨c_p_0, c_p_1, c_p_2, c_p_3, c_p_4, c_p_5, c_p_6, c_p_7, c_p_8, c_p_9, c_p_10, c_p_11⟩ := bwc12 (k_p)
  obtain ⟨c_r_0, c_r_1, c_r_2, c_r_3, c_r_4, c_r_5⟩ := bwc6 (k_r)
  obtain ⟨f_r_0, f_r_1, f_r_2, f_r_3, f_r_4, f_r_5⟩ := bwf6 (k_r)
  obtain ⟨p1, hp1⟩ : ∃ p : BW W1, p.w = W1 := ⟨BW.start W1, rfl⟩
  rw [← hp1]
  clear hp1
  go_wp2_with (first
    | (go_at_call 21; (first | (with_reducible refine (bw_call K.out _).mono ?_)); rintro e w' ⟨rfl, q, rfl⟩))
  have kr := bkp6 (k_r.below q.h) (.int .i64 0) (.int .i64 0) (.int .i64 0) (.int .i64 0) (.int .i64 0) (.int .i64 0)
  obtain ⟨rc0, rc1, rc2, rc3, rc4, rc5⟩ := rwc6 kr
  exact bodyPost_ret (v := .agg #[.int .i64 0, .int .i64 0, .int .i64 0, .int .i64 0, .int .i64 0, .int .i64 0]) (by simp [results, Tryz.results9, go_sem, rc0, rc1, rc2, rc3, rc4, rc5]) rfl ⟨rfl, blp6 (bw_below B1 q) (by omega)⟩

set_option maxRecDepth 100000 in
set_option maxHeartbeats 4000000 in
theorem prim_Box_tri (k a1 a2 a3 b1 b2 b3 c1 c2 c3 r m : Int) (w : World) (K : Hid (∀ w, Calls Tryz.prog 21 #[.agg #[.int .i64 k, .int .i64 a1, .int .i64 a2, .int .i64 a3, .int .i64 b1, .int .i64 b2, .int .i64 b3, .int .i64 c1, .int .i64 c2, .int .i64 c3, .int .i64 r, .int .i64 m]] w fun en w' => en = .returned (.iface 52 (.agg #[.int .i64 a1, .int .i64 a2, .int .i64 a3, .int .i64 b1, .int .i64 b2, .int .i64 b3, .int .i64 c1, .int .i64 c2, .int .i64 c3])) ∧ Below w.heap.size w w')) (h1 : vnear a1 a2 a3 = true) (h2 : vnear b1 b2 b3 = true) (h3 : vnear c1 c2 c3 = true) :
    Calls Tryz.prog 9 #[.agg #[.int .i64 k, .int .i64 a1, .int .i64 a2, .int .i64 a3, .int .i64 b1, .int .i64 b2, .int .i64 b3, .int .i64 c1, .int .i64 c2, .int .i64 c3, .int .i64 r, .int .i64 m]] w fun en w' => en = .returned (.agg #[.int .i64 (min (min a1 b1) c1), .int .i64 (min (min a2 b2) c2), .int .i64 (min (min a3 b3) c3), .int .i64 (max (max a1 b1) c1), .int .i64 (max (max a2 b2) c2), .int .i64 (max (max a3 b3) c3)]) ∧ Below w.heap.size w w' := by
  obtain ⟨u1, hu1⟩ : ∃ t, min (min a1 b1) c1 = t := ⟨_, rfl⟩
  obtain ⟨u2, hu2⟩ : ∃ t, min (min a2 b2) c2 = t := ⟨_, rfl⟩
  obtain ⟨u3, hu3⟩ : ∃ t, min (min a3 b3) c3 = t := ⟨_, rfl⟩
  obtain ⟨v1, hv1⟩ : ∃ t, max (max a1 b1) c1 = t := ⟨_, rfl⟩
  obtain ⟨v2, hv2⟩ : ∃ t, max (max a2 b2) c2 = t := ⟨_, rfl⟩
  obtain ⟨v3, hv3⟩ : ∃ t, max (max a3 b3) c3 = t := ⟨_, rfl⟩
  rw [hu1, hu2, hu3, hv1, hv2, hv3]
  have As1 := prim_as_tt
  go_enter Tryz.func9, Tryz.ntmps9
  go_upto_region 1 with (fail)
  obtain ⟨W1, hW1⟩ : ∃ W, W = (w.alloc (.cells #[.int .i64 k, .int .i64 a1, .int .i64 a2, .int .i64 a3, .int .i64 b1, .int .i64 b2, .int .i64 b3, .int .i64 c1, .int .i64 c2, .int .i64 c3, .int .i64 r, .int .i64 m] 25)).alloc (.cells #[.int .i64 0, .int .i64 0, .int .i64 0, .int .i64 0, .int .i64 0, .int .i64 0] 36) := ⟨_, rfl⟩
  obtain ⟨k_p, k_r, B1⟩ := st2 hW1
  rw [← hW1]
  clear hW1
  have l_r : w.heap.size < w.heap.size + 1 := by omega
  generalize w.heap.size + 1 = g_r at *
  obtain ⟨c_p_0, c_p_1, c_p_2, c_p_3, c_p_4, c_p_5, c_p_6, c_p_7, c_p_8, c_p_9, c_p_10, c_p_11⟩ := bwc12 (k_p)
  obtain ⟨c_r_0, c_r_1, c_r_2, c_r_3, c_r_4, c_r_5⟩ := bwc6 (k_r)
  obtain ⟨p1, hp1⟩ : ∃ p : BW W1, p.w = W1 := ⟨BW.start W1, rfl⟩
  rw [← hp1]
  clear hp1
  go_upto_region 4 with (first
    | (go_at_call 21; (first | (with_reducible refine (bw_call K.out _).mono ?_)); rintro e w' ⟨rfl, q, rfl⟩))
  obtain ⟨W2, hW2⟩ : ∃ W, W = q.w.alloc (.cells #[.int .i64 a1, .int .i64 a2, .int .i64 a3, .int .i64 b1, .int .i64 b2, .int .i64 b3, .int .i64 c1, .int .i64 c2, .int .i64 c3] 52) := ⟨_, rfl⟩
  have B2 : Below w.heap.size w W2 := by rw [hW2]; exact (bw_below B1 q).alloc (bw_below B1 q).size _
  have l_s : g_r < q.w.heap.size := (k_r.below q.h).lt
  have o_s : w.heap.size ≤ q.w.heap.size := (bw_below B1 q).size
  have k_p := bka hW2 (k_p.below q.h)
  have k_r := bka hW2 (k_r.below q.h)
  have k_s := bkn hW2
  rw [← hW2]
  clear hW2
  clear B1
  clear c_p_0 c_p_1 c_p_2 c_p_3 c_p_4 c_p_5 c_p_6 c_p_7 c_p_8 c_p_9 c_p_10 c_p_11 c_r_0 c_r_1 c_r_2 c_r_3 c_r_4 c_r_5
  generalize q.w.heap.size = g_s at *
  obtain ⟨c_p_0, c_p_1, c_p_2, c_p_3, c_p_4, c_p_5, c_p_6, c_p_7, c_p_8, c_p_9, c_p_10, c_p_11⟩ := bwc12 (k_p)
  obtain ⟨c_r_0, c_r_1, c_r_2, c_r_3, c_r_4, c_r_5⟩ := bwc6 (k_r)
  obtain ⟨c_s_0, c_s_1, c_s_2, c_s_3, c_s_4, c_s_5, c_s_6, c_s_7, c_s_8⟩ := bwc9 (k_s)
  obtain ⟨p2, hp2⟩ : ∃ p : BW W2, p.w = W2 := ⟨BW.start W2, rfl⟩
  rw [← hp2]
  clear hp2
  have KC : ∀ p : BW W2, Calls Tryz.prog 25 #[.slice (some ⟨p.w.heap.size, 0, none⟩) 3 3] (p.w.alloc (.cells #[.int .i64 a1, .int .i64 a2, .int .i64 a3, .int .i64 b1, .int .i64 b2, .int .i64 b3, .int .i64 c1, .int .i64 c2, .int .i64 c3] 23)) fun e w' => e = .returned (.tuple #[.agg #[.int .i64 u1, .int .i64 u2, .int .i64 u3, .int .i64 v1, .int .i64 v2, .int .i64 v3], .bool true]) ∧ ∃ q : BW W2, w' = q.w := fun p =>
    (box_Of3_last 3 a1 a2 a3 b1 b2 b3 c1 c2 c3 W2 p.w _ rfl p.h h1 h2 h3).mono fun e w' h => ⟨by rw [hu1, hu2, hu3, hv1, hv2, hv3] at h; exact h.1, ⟨w', h.2⟩, rfl⟩
  clear h1 h2 h3 hu1 hu2 hu3 hv1 hv2 hv3
  go_upto_region 5 with (go_at_call 25; (with_reducible refine (KC _).mono ?_); rintro e w' ⟨rfl, q, rfl⟩)
  clear KC
  obtain ⟨W3, hW3⟩ : ∃ W, W = q.w.alloc (.cells #[.int .i64 u1, .int .i64 u2, .int .i64 u3, .int .i64 v1, .int .i64 v2, .int .i64 v3] 36) := ⟨_, rfl⟩
  have B3 : Below w.heap.size w W3 := by rw [hW3]; exact (bw_below B2 q).alloc (bw_below B2 q).size _
  have l_a : g_s < q.w.heap.size := (k_s.below q.h).lt
  have o_a : w.heap.size ≤ q.w.heap.size := (bw_below B2 q).size
  have k_p := bka hW3 (k_p.below q.h)
  have k_r := bka hW3 (k_r.below q.h)
  have k_s := bka hW3 (k_s.below q.h)
  have k_a := bkn hW3
  rw [← hW3]
  clear hW3
  clear B2
  clear c_p_0 c_p_1 c_p_2 c_p_3 c_p_4 c_p_5 c_p_6 c_p_7 c_p_8 c_p_9 c_p_10 c_p_11 c_r_0 c_r_1 c_r_2 c_r_3 c_r_4 c_r_5 c_s_0 c_s_1 c_s_2 c_s_3 c_s_4 c_s_5 c_s_6 c_s_7 c_s_8
  generalize q.w.heap.size = g_a at *
  obtain ⟨c_p_0, c_p_1, c_p_2, c_p_3, c_p_4, c_p_5, c_p_6, c_p_7, c_p_8, c_p_9, c_p_10, c_p_11⟩ := bwc12 (k_p)
  obtain ⟨c_r_0, c_r_1, c_r_2, c_r_3, c_r_4, c_r_5⟩ := bwc6 (k_r)
  obtain ⟨f_r_0, f_r_1, f_r_2, f_r_3, f_r_4, f_r_5⟩ := bwf6 (k_r)
  obtain ⟨c_s_0, c_s_1, c_s_2, c_s_3, c_s_4, c_s_5, c_s_6, c_s_7, c_s_8⟩ := bwc9 (k_s)
  obtain ⟨c_a_0, c_a_1, c_a_2, c_a_3, c_a_4, c_a_5⟩ := bwc6 (k_a)
  obtain ⟨p3, hp3⟩ : ∃ p : BW W3, p.w = W3 := ⟨BW.start W3, rfl⟩
  rw [← hp3]
  clear hp3
  go_wp2
  have kr := bkp6 (k_r.below p3.h) (.int .i64 u1) (.int .i64 u2) (.int .i64 u3) (.int .i64 v1) (.int .i64 v2) (.int .i64 v3)
  obtain ⟨rc0, rc1, rc2, rc3, rc4, rc5⟩ := rwc6 kr
  exact bodyPost_ret (v := .agg #[.int .i64 u1, .int .i64 u2, .int .i64 u3, .int .i64 v1, .int .i64 v2, .int .i64 v3]) (by simp [results, Tryz.results9, go_sem, rc0, rc1, rc2, rc3, rc4, rc5]) rfl ⟨rfl, blp6 (bw_below B3 p3) (by omega)⟩

set_option maxRecDepth 100000 in
set_option maxHeartbeats 4000000 in
theorem prim_Box_sph (k a1 a2 a3 b1 b2 b3 c1 c2 c3 r m : Int) (w : World) (K : Hid (∀ w, Calls Tryz.prog 21 #[.agg #[.int .i64 k, .int .i64 a1, .int .i64 a2, .int .i64 a3, .int .i64 b1, .int .i64 b2, .int .i64 b3, .int .i64 c1, .int .i64 c2, .int .i64 c3, .int .i64 r, .int .i64 m]] w fun en w' => en = .returned (.iface 55 (.agg #[.int .i64 a1, .int .i64 a2, .int .i64 a3, .int .i64 r])) ∧ Below w.heap.size w w')) (h1 : -524288 ≤ a1 ∧ a1 ≤ 524288) (h2 : -524288 ≤ a2 ∧ a2 ≤ 524288) (h3 : -524288 ≤ a3 ∧ a3 ≤ 524288) (h4 : 0 ≤ r ∧ r ≤ 262144) :
    Calls Tryz.prog 9 #[.agg #[.int .i64 k, .int .i64 a1, .int .i64 a2, .int .i64 a3, .int .i64 b1, .int .i64 b2, .int .i64 b3, .int .i64 c1, .int .i64 c2, .int .i64 c3, .int .i64 r, .int .i64 m]] w fun en w' => en = .returned (.agg #[.int .i64 (a1 - r), .int .i64 (a2 - r), .int .i64 (a3 - r), .int .i64 (a1 + r), .int .i64 (a2 + r), .int .i64 (a3 + r)]) ∧ Below w.heap.size w w' := by
  have KS := Lib.hid (fun w => vec_Sub a1 a2 a3 r r r w (by unfold I64; omega) (by unfold I64; omega) (by unfold I64; omega) (by unfold I64; omega) (by unfold I64; omega) (by unfold I64; omega))
  have KA := Lib.hid (fun w => vec_Add a1 a2 a3 r r r w (by unfold I64; omega) (by unfold I64; omega) (by unfold I64; omega) (by unfold I64; omega) (by unfold I64; omega) (by unfold I64; omega))
  rw [vsub_in (x := a1) (by omega) (by omega), vsub_in (x := a2) (by omega) (by omega), vsub_in (x := a3) (by omega) (by omega)] at KS
  rw [sat_in (by omega), sat_in (by omega), sat_in (by omega)] at KA
  generalize a1 - r = u1 at *
  generalize a1 + r = v1 at *
  generalize a2 - r = u2 at *
  generalize a2 + r = v2 at *
  generalize a3 - r = u3 at *
  generalize a3 + r = v3 at *
  clear h1 h2 h3 h4
  have As1 := prim_as_st
  have As2 := prim_as_ss
  go_enter Tryz.func9, Tryz.ntmps9
  go_upto_region 1 with (fail)
  obtain ⟨W1, hW1⟩ : ∃ W, W = (w.alloc (.cells #[.int .i64 k, .int .i64 a1, .int .i64 a2, .int .i64 a3, .int .i64 b1, .int .i64 b2, .int .i64 b3, .int .i64 c1, .int .i64 c2, .int .i64 c3, .int .i64 r, .int .i64 m] 25)).alloc (.cells #[.int .i64 0, .int .i64 0, .int .i64 0, .int .i64 0, .int .i64 0, .int .i64 0] 36) := ⟨_, rfl⟩
  obtain ⟨k_p, k_r, B1⟩ := st2 hW1
  rw [← hW1]
  clear hW1
  have l_r : w.heap.size < w.heap.size + 1 := by omega
  generalize w.heap.size + 1 = g_r at *
  obtain ⟨c_p_0, c_p_1, c_p_2, c_p_3, c_p_4, c_p_5, c_p_6, c_p_7, c_p_8, c_p_9, c_p_10, c_p_11⟩ := bwc12 (k_p)
  obtain ⟨c_r_0, c_r_1, c_r_2, c_r_3, c_r_4, c_r_5⟩ := bwc6 (k_r)
  obtain ⟨p1, hp1⟩ : ∃ p : BW W1, p.w = W1 := ⟨BW.start W1, rfl⟩
  rw [← hp1]
  clear hp1
  go_upto_region 8 with (first
    | (go_at_call 21; (first | (with_reducible refine (bw_call K.out _).mono ?_)); rintro e w' ⟨rfl, q, rfl⟩))
  obtain ⟨W2, hW2⟩ : ∃ W, W = q.w.alloc (.cells #[.int .i64 a1, .int .i64 a2, .int .i64 a3, .int .i64 r] 55) := ⟨_, rfl⟩
  have B2 : Below w.heap.size w W2 := by rw [hW2]; exact (bw_below B1 q).alloc (bw_below B1 q).size _
  have l_s : g_r < q.w.heap.size := (k_r.below q.h).lt
  have o_s : w.heap.size ≤ q.w.heap.size := (bw_below B1 q).size
  have k_p := bka hW2 (k_p.below q.h)
  have k_r := bka hW2 (k_r.below q.h)
  have k_s := bkn hW2
  rw [← hW2]
  clear hW2
  clear B1
  clear c_p_0 c_p_1 c_p_2 c_p_3 c_p_4 c_p_5 c_p_6 c_p_7 c_p_8 c_p_9 c_p_10 c_p_11 c_r_0 c_r_1 c_r_2 c_r_3 c_r_4 c_r_5
  generalize q.w.heap.size = g_s at *
  obtain ⟨c_p_0, c_p_1, c_p_2, c_p_3, c_p_4, c_p_5, c_p_6, c_p_7, c_p_8, c_p_9, c_p_10, c_p_11⟩ := bwc12 (k_p)
  obtain ⟨c_r_0, c_r_1, c_r_2, c_r_3, c_r_4, c_r_5⟩ := bwc6 (k_r)
  obtain ⟨c_s_0, c_s_1, c_s_2, c_s_3⟩ := bwc4 (k_s)
  obtain ⟨p2, hp2⟩ : ∃ p : BW W2, p.w = W2 := ⟨BW.start W2, rfl⟩
  rw [← hp2]
  clear hp2
  go_upto_region 9 with (fail)
  obtain ⟨W3, hW3⟩ : ∃ W, W = p2.w.alloc (.cells #[.int .i64 r, .int .i64 r, .int .i64 r] 23) := ⟨_, rfl⟩
  have B3 : Below w.heap.size w W3 := by rw [hW3]; exact (bw_below B2 p2).alloc (bw_below B2 p2).size _
  have l_d : g_s < p2.w.heap.size := (k_s.below p2.h).lt
  have o_d : w.heap.size ≤ p2.w.heap.size := (bw_below B2 p2).size
  have l_d_r : g_r < p2.w.heap.size := (k_r.below p2.h).lt
  have k_p := bka hW3 (k_p.below p2.h)
  have k_r := bka hW3 (k_r.below p2.h)
  have k_s := bka hW3 (k_s.below p2.h)
  have k_d := bkn hW3
  rw [← hW3]
  clear hW3
  clear B2
  clear c_p_0 c_p_1 c_p_2 c_p_3 c_p_4 c_p_5 c_p_6 c_p_7 c_p_8 c_p_9 c_p_10 c_p_11 c_r_0 c_r_1 c_r_2 c_r_3 c_r_4 c_r_5 c_s_0 c_s_1 c_s_2 c_s_3
  generalize p2.w.heap.size = g_d at *
  obtain ⟨c_p_0, c_p_1, c_p_2, c_p_3, c_p_4, c_p_5, c_p_6, c_p_7, c_p_8, c_p_9, c_p_10, c_p_11⟩ := bwc12 (k_p)
  obtain ⟨c_r_0, c_r_1, c_r_2, c_r_3, c_r_4, c_r_5⟩ := bwc6 (k_r)
  obtain ⟨f_r_0, f_r_1, f_r_2, f_r_3, f_r_4, f_r_5⟩ := bwf6 (k_r)
  obtain ⟨c_s_0, c_s_1, c_s_2, c_s_3⟩ := bwc4 (k_s)
  obtain ⟨c_d_0, c_d_1, c_d_2⟩ := bwc3 (k_d)
  obtain ⟨p3, hp3⟩ : ∃ p : BW W3, p.w = W3 := ⟨BW.start W3, rfl⟩
  rw [← hp3]
  clear hp3
  refine wp_region_bw_tail 8 (by kernel_rfl) (by kernel_rfl) (by kernel_rfl) ?_
  simp only [List.take_succ_cons, List.take_zero, List.drop_succ_cons, List.drop_zero]
  repeat (go_big_quiet_step (first
    | (go_at_call 26; (first | (with_reducible exact bw_call KS.out _)))
    | (go_at_call 27; (first | (with_reducible exact bw_call KA.out _)))))
  refine wpQuiet_nil ?_
  intro _ hw'
  obtain ⟨q, rfl⟩ := hw'
  go_wp2
  have kr := bkp6 (k_r.below q.h) (.int .i64 u1) (.int .i64 u2) (.int .i64 u3) (.int .i64 v1) (.int .i64 v2) (.int .i64 v3)
  obtain ⟨rc0, rc1, rc2, rc3, rc4, rc5⟩ := rwc6 kr
  exact bodyPost_ret (v := .agg #[.int .i64 u1, .int .i64 u2, .int .i64 u3, .int .i64 v1, .int .i64 v2, .int .i64 v3]) (by simp [results, Tryz.results9, go_sem, rc0, rc1, rc2, rc3, rc4, rc5]) rfl ⟨rfl, blp6 (bw_below B3 q) (by omega)⟩

theorem prim_Box (k a1 a2 a3 b1 b2 b3 c1 c2 c3 r m : Int) (w : World) (hp : Pr.I (Pr.mk k (a1, a2, a3) (b1, b2, b3) (c1, c2, c3) r m)) :
    Calls Tryz.prog 9 #[.agg #[.int .i64 k, .int .i64 a1, .int .i64 a2, .int .i64 a3, .int .i64 b1, .int .i64 b2, .int .i64 b3, .int .i64 c1, .int .i64 c2, .int .i64 c3, .int .i64 r, .int .i64 m]] w fun en w' => en = .returned (.agg (bx6 (pBox (Pr.mk k (a1, a2, a3) (b1, b2, b3) (c1, c2, c3) r m)))) ∧ Below w.heap.size w w' := by
  have K := Lib.hid (fun w => prim_shapeOf k a1 a2 a3 b1 b2 b3 c1 c2 c3 r m w hp)
  unfold prSh at K
  unfold pBox
  by_cases h : pRight (Pr.mk k (a1, a2, a3) (b1, b2, b3) (c1, c2, c3) r m) = true
  · rw [if_pos h] at K ⊢
    by_cases hk : k = 1
    · rw [if_pos hk] at K
      obtain ⟨q, _⟩ := pRight_tri h hk
      obtain ⟨q1, q2, q3⟩ := pl3_iff.1 q
      rw [if_pos hk, tri_box q]
      exact prim_Box_tri k a1 a2 a3 b1 b2 b3 c1 c2 c3 r m w K (plc_near q1) (plc_near q2) (plc_near q3)
    · rw [if_neg hk] at K
      obtain ⟨_, q⟩ := pRight_ball h hk
      have q1 := plc_iff.1 (ballR_iff.1 q).1
      have q2 := (ballR_iff.1 q).2
      rw [if_neg hk]
      dsimp only at q1 q2
      exact prim_Box_sph k a1 a2 a3 b1 b2 b3 c1 c2 c3 r m w K (by omega) (by omega) (by omega) (by omega)
  · rw [if_neg h] at K ⊢
    exact prim_Box_no k a1 a2 a3 b1 b2 b3 c1 c2 c3 r m w K

set_option maxRecDepth 100000 in
set_option maxHeartbeats 4000000 in
theorem prim_Hit_no0 (k a1 a2 a3 b1 b2 b3 c1 c2 c3 r m ix o1 o2 o3 d1 d2 d3 fr : Int) (w : World) (K : Hid (∀ w, Calls Tryz.prog 21 #[.agg #[.int .i64 k, .int .i64 a1, .int .i64 a2, .int .i64 a3, .int .i64 b1, .int .i64 b2, .int .i64 b3, .int .i64 c1, .int .i64 c2, .int .i64 c3, .int .i64 r, .int .i64 m]] w fun en w' => en = .returned (.nilIface) ∧ Below w.heap.size w w')) (hf : fr = ix) :
    Calls Tryz.prog 8 #[.agg #[.int .i64 k, .int .i64 a1, .int .i64 a2, .int .i64 a3, .int .i64 b1, .int .i64 b2, .int .i64 b3, .int .i64 c1, .int .i64 c2, .int .i64 c3, .int .i64 r, .int .i64 m], .int .i64 ix, .agg #[.int .i64 o1, .int .i64 o2, .int .i64 o3, .int .i64 d1, .int .i64 d2, .int .i64 d3, .int .i64 fr]] w fun en w' => en = .returned (.tuple #[.agg #[.int .i64 0, .int .i64 0], .bool false]) ∧ Below w.heap.size w w' := by
  subst hf
  have As1 := prim_as_nt
  have As2 := prim_as_ns
  go_enter Tryz.func8, Tryz.ntmps8
  go_upto_region 1 with (fail)
  obtain ⟨W1, hW1⟩ : ∃ W, W = ((w.alloc (.cells #[.int .i64 k, .int .i64 a1, .int .i64 a2, .int .i64 a3, .int .i64 b1, .int .i64 b2, .int .i64 b3, .int .i64 c1, .int .i64 c2, .int .i64 c3, .int .i64 r, .int .i64 m] 25)).alloc (.cells #[.int .i64 o1, .int .i64 o2, .int .i64 o3, .int .i64 d1, .int .i64 d2, .int .i64 d3, .int .i64 fr] 27)).alloc (.cells #[.int .i64 0, .int .i64 0] 32) := ⟨_, rfl⟩
  obtain ⟨k_p, k_y, k_r, B1⟩ := st3 hW1
  rw [← hW1]
  clear hW1
  have l_y : w.heap.size < w.heap.size + 1 := by omega
  have l_r : w.heap.size + 1 < w.heap.size + 1 + 1 := by omega
  generalize w.heap.size + 1 + 1 = g_r at *
  generalize w.heap.size + 1 = g_y at *
  obtain ⟨c_p_0, c_p_1, c_p_2, c_p_3, c_p_4, c_p_5, c_p_6, c_p_7, c_p_8, c_p_9, c_p_10, c_p_11⟩ := bwc12 (k_p)
  obtain ⟨c_y_0, c_y_1, c_y_2, c_y_3, c_y_4, c_y_5, c_y_6⟩ := bwc7 (k_y)
  obtain ⟨c_r_0, c_r_1⟩ := bwc2 (k_r)
  obtain ⟨f_r_0, f_r_1⟩ := bwf2 (k_r)
  obtain ⟨p1, hp1⟩ : ∃ p : BW W1, p.w = W1 := ⟨BW.start W1, rfl⟩
  rw [← hp1]
  clear hp1
  go_wp2_with (first
    | (go_at_call 21; (first | (with_reducible refine (bw_call K.out _).mono ?_)); rintro e w' ⟨rfl, q, rfl⟩))
  have kr := bkp2 (k_r.below q.h) (.int .i64 0) (.int .i64 0)
  obtain ⟨rc0, rc1⟩ := rwc2 kr
  exact bodyPost_ret (v := .tuple #[.agg #[.int .i64 0, .int .i64 0], .bool false]) (by simp [results, Tryz.results8, go_sem, rc0, rc1]) rfl ⟨rfl, blp2 (bw_below B1 q) (by omega)⟩

set_option maxRecDepth 100000 in
set_option maxHeartbeats 4000000 in
theorem prim_Hit_no1 (k a1 a2 a3 b1 b2 b3 c1 c2 c3 r m ix o1 o2 o3 d1 d2 d3 fr : Int) (w : World) (K : Hid (∀ w, Calls Tryz.prog 21 #[.agg #[.int .i64 k, .int .i64 a1, .int .i64 a2, .int .i64 a3, .int .i64 b1, .int .i64 b2, .int .i64 b3, .int .i64 c1, .int .i64 c2, .int .i64 c3, .int .i64 r, .int .i64 m]] w fun en w' => en = .returned (.nilIface) ∧ Below w.heap.size w w')) (hf : ¬ fr = ix) :
    Calls Tryz.prog 8 #[.agg #[.int .i64 k, .int .i64 a1, .int .i64 a2, .int .i64 a3, .int .i64 b1, .int .i64 b2, .int .i64 b3, .int .i64 c1, .int .i64 c2, .int .i64 c3, .int .i64 r, .int .i64 m], .int .i64 ix, .agg #[.int .i64 o1, .int .i64 o2, .int .i64 o3, .int .i64 d1, .int .i64 d2, .int .i64 d3, .int .i64 fr]] w fun en w' => en = .returned (.tuple #[.agg #[.int .i64 0, .int .i64 0], .bool false]) ∧ Below w.heap.size w w' := by
  have As1 := prim_as_nt
  have As2 := prim_as_ns
  go_enter Tryz.func8, Tryz.ntmps8
  go_upto_region 1 with (fail)
  obtain ⟨W1, hW1⟩ : ∃ W, W = ((w.alloc (.cells #[.int .i64 k, .int .i64 a1, .int .i64 a2, .int .i64 a3, .int .i64 b1, .int .i64 b2, .int .i64 b3, .int .i64 c1, .int .i64 c2, .int .i64 c3, .int .i64 r, .int .i64 m] 25)).alloc (.cells #[.int .i64 o1, .int .i64 o2, .int .i64 o3, .int .i64 d1, .int .i64 d2, .int .i64 d3, .int .i64 fr] 27)).alloc (.cells #[.int .i64 0, .int .i64 0] 32) := ⟨_, rfl⟩
  obtain ⟨k_p, k_y, k_r, B1⟩ := st3 hW1
  rw [← hW1]
  clear hW1
  have l_y : w.heap.size < w.heap.size + 1 := by omega
  have l_r : w.heap.size + 1 < w.heap.size + 1 + 1 := by omega
  generalize w.heap.size + 1 + 1 = g_r at *
  generalize w.heap.size + 1 = g_y at *
  obtain ⟨c_p_0, c_p_1, c_p_2, c_p_3, c_p_4, c_p_5, c_p_6, c_p_7, c_p_8, c_p_9, c_p_10, c_p_11⟩ := bwc12 (k_p)
  obtain ⟨c_y_0, c_y_1, c_y_2, c_y_3, c_y_4, c_y_5, c_y_6⟩ := bwc7 (k_y)
  obtain ⟨c_r_0, c_r_1⟩ := bwc2 (k_r)
  obtain ⟨f_r_0, f_r_1⟩ := bwf2 (k_r)
  obtain ⟨p1, hp1⟩ : ∃ p : BW W1, p.w = W1 := ⟨BW.start W1, rfl⟩
  rw [← hp1]
  clear hp1
  go_wp2_with (first
    | (go_at_call 21; (first | (with_reducible refine (bw_call K.out _).mono ?_)); rintro e w' ⟨rfl, q, rfl⟩))
  have kr := bkp2 (k_r.below q.h) (.int .i64 0) (.int .i64 0)
  obtain ⟨rc0, rc1⟩ := rwc2 kr
  exact bodyPost_ret (v := .tuple #[.agg #[.int .i64 0, .int .i64 0], .bool false]) (by simp [results, Tryz.results8, go_sem, rc0, rc1]) rfl ⟨rfl, blp2 (bw_below B1 q) (by omega)⟩

set_option maxRecDepth 100000 in
set_option maxHeartbeats 4000000 in
theorem prim_Hit_tri0 (k a1 a2 a3 b1 b2 b3 c1 c2 c3 r m ix o1 o2 o3 d1 d2 d3 fr : Int) (w : World) (K : Hid (∀ w, Calls Tryz.prog 21 #[.agg #[.int .i64 k, .int .i64 a1, .int .i64 a2, .int .i64 a3, .int .i64 b1, .int .i64 b2, .int .i64 b3, .int .i64 c1, .int .i64 c2, .int .i64 c3, .int .i64 r, .int .i64 m]] w fun en w' => en = .returned (.iface 52 (.agg #[.int .i64 a1, .int .i64 a2, .int .i64 a3, .int .i64 b1, .int .i64 b2, .int .i64 b3, .int .i64 c1, .int .i64 c2, .int .i64 c3])) ∧ Below w.heap.size w w')) (hf : fr = ix) :
    Calls Tryz.prog 8 #[.agg #[.int .i64 k, .int .i64 a1, .int .i64 a2, .int .i64 a3, .int .i64 b1, .int .i64 b2, .int .i64 b3, .int .i64 c1, .int .i64 c2, .int .i64 c3, .int .i64 r, .int .i64 m], .int .i64 ix, .agg #[.int .i64 o1, .int .i64 o2, .int .i64 o3, .int .i64 d1, .int .i64 d2, .int .i64 d3, .int .i64 fr]] w fun en w' => en = .returned (.tuple #[.agg #[.int .i64 0, .int .i64 0], .bool false]) ∧ Below w.heap.size w w' := by
  subst hf
  have As1 := prim_as_tt
  go_enter Tryz.func8, Tryz.ntmps8
  go_upto_region 1 with (fail)
  obtain ⟨W1, hW1⟩ : ∃ W, W = ((w.alloc (.cells #[.int .i64 k, .int .i64 a1, .int .i64 a2, .int .i64 a3, .int .i64 b1, .int .i64 b2, .int .i64 b3, .int .i64 c1, .int .i64 c2, .int .i64 c3, .int .i64 r, .int .i64 m] 25)).alloc (.cells #[.int .i64 o1, .int .i64 o2, .int .i64 o3, .int .i64 d1, .int .i64 d2, .int .i64 d3, .int .i64 fr] 27)).alloc (.cells #[.int .i64 0, .int .i64 0] 32) := ⟨_, rfl⟩
  obtain ⟨k_p, k_y, k_r, B1⟩ := st3 hW1
  rw [← hW1]
  clear hW1
  have l_y : w.heap.size < w.heap.size + 1 := by omega
  have l_r : w.heap.size + 1 < w.heap.size + 1 + 1 := by omega
  generalize w.heap.size + 1 + 1 = g_r at *
  generalize w.heap.size + 1 = g_y at *
  obtain ⟨c_p_0, c_p_1, c_p_2, c_p_3, c_p_4, c_p_5, c_p_6, c_p_7, c_p_8, c_p_9, c_p_10, c_p_11⟩ := bwc12 (k_p)
  obtain ⟨c_y_0, c_y_1, c_y_2, c_y_3, c_y_4, c_y_5, c_y_6⟩ := bwc7 (k_y)
  obtain ⟨c_r_0, c_r_1⟩ := bwc2 (k_r)
  obtain ⟨f_r_0, f_r_1⟩ := bwf2 (k_r)
  obtain ⟨p1, hp1⟩ : ∃ p : BW W1, p.w = W1 := ⟨BW.start W1, rfl⟩
  rw [← hp1]
  clear hp1
  go_upto_region 5 with (first
    | (go_at_call 21; (first | (with_reducible refine (bw_call K.out _).mono ?_)); rintro e w' ⟨rfl, q, rfl⟩))
  obtain ⟨W2, hW2⟩ : ∃ W, W = q.w.alloc (.cells #[.int .i64 a1, .int .i64 a2, .int .i64 a3, .int .i64 b1, .int .i64 b2, .int .i64 b3, .int .i64 c1, .int .i64 c2, .int .i64 c3] 52) := ⟨_, rfl⟩
  have B2 : Below w.heap.size w W2 := by rw [hW2]; exact (bw_below B1 q).alloc (bw_below B1 q).size _
  have l_s : g_r < q.w.heap.size := (k_r.below q.h).lt
  have o_s : w.heap.size ≤ q.w.heap.size := (bw_below B1 q).size
  have k_p := bka hW2 (k_p.below q.h)
  have k_y := bka hW2 (k_y.below q.h)
  have k_r := bka hW2 (k_r.below q.h)
  have k_s := bkn hW2
  rw [← hW2]
  clear hW2
  clear B1
  clear c_p_0 c_p_1 c_p_2 c_p_3 c_p_4 c_p_5 c_p_6 c_p_7 c_p_8 c_p_9 c_p_10 c_p_11 c_y_0 c_y_1 c_y_2 c_y_3 c_y_4 c_y_5 c_y_6 c_r_0 c_r_1 f_r_0 f_r_1
  generalize q.w.heap.size = g_s at *
  obtain ⟨c_p_0, c_p_1, c_p_2, c_p_3, c_p_4, c_p_5, c_p_6, c_p_7, c_p_8, c_p_9, c_p_10, c_p_11⟩ := bwc12 (k_p)
  obtain ⟨c_y_0, c_y_1, c_y_2, c_y_3, c_y_4, c_y_5, c_y_6⟩ := bwc7 (k_y)
  obtain ⟨c_r_0, c_r_1⟩ := bwc2 (k_r)
  obtain ⟨f_r_0, f_r_1⟩ := bwf2 (k_r)
  obtain ⟨c_s_0, c_s_1, c_s_2, c_s_3, c_s_4, c_s_5, c_s_6, c_s_7, c_s_8⟩ := bwc9 (k_s)
  obtain ⟨p2, hp2⟩ : ∃ p : BW W2, p.w = W2 := ⟨BW.start W2, rfl⟩
  rw [← hp2]
  clear hp2
  go_wp2
  have kr := bkp2 (k_r.below p2.h) (.int .i64 0) (.int .i64 0)
  obtain ⟨rc0, rc1⟩ := rwc2 kr
  exact bodyPost_ret (v := .tuple #[.agg #[.int .i64 0, .int .i64 0], .bool false]) (by simp [results, Tryz.results8, go_sem, rc0, rc1]) rfl ⟨rfl, blp2 (bw_below B2 p2) (by omega)⟩

set_option maxRecDepth 100000 in
set_option maxHeartbeats 4000000 in
theorem prim_Hit_tri1 (k a1 a2 a3 b1 b2 b3 c1 c2 c3 r m ix o1 o2 o3 d1 d2 d3 fr : Int) (w : World) (K : Hid (∀ w, Calls Tryz.prog 21 #[.agg #[.int .i64 k, .int .i64 a1, .int .i64 a2, .int .i64 a3, .int .i64 b1, .int .i64 b2, .int .i64 b3, .int .i64 c1, .int .i64 c2, .int .i64 c3, .int .i64 r, .int .i64 m]] w fun en w' => en = .returned (.iface 52 (.agg #[.int .i64 a1, .int .i64 a2, .int .i64 a3, .int .i64 b1, .int .i64 b2, .int .i64 b3, .int .i64 c1, .int .i64 c2, .int .i64 c3])) ∧ Below w.heap.size w w')) (ha : I3 (a1, a2, a3)) (hb : I3 (b1, b2, b3)) (hc : I3 (c1, c2, c3)) (ho : I3 (o1, o2, o3)) (hd : I3 (d1, d2, d3)) (hf : ¬ fr = ix) :
    Calls Tryz.prog 8 #[.agg #[.int .i64 k, .int .i64 a1, .int .i64 a2, .int .i64 a3, .int .i64 b1, .int .i64 b2, .int .i64 b3, .int .i64 c1, .int .i64 c2, .int .i64 c3, .int .i64 r, .int .i64 m], .int .i64 ix, .agg #[.int .i64 o1, .int .i64 o2, .int .i64 o3, .int .i64 d1, .int .i64 d2, .int .i64 d3, .int .i64 fr]] w fun en w' => en = .returned (.tuple #[.agg #[.int .i64 (tHit (a1, a2, a3) (b1, b2, b3) (c1, c2, c3) (o1, o2, o3) (d1, d2, d3)).1.1, .int .i64 (tHit (a1, a2, a3) (b1, b2, b3) (c1, c2, c3) (o1, o2, o3) (d1, d2, d3)).1.2], .bool (tHit (a1, a2, a3) (b1, b2, b3) (c1, c2, c3) (o1, o2, o3) (d1, d2, d3)).2]) ∧ Below w.heap.size w w' := by
  have KH := Lib.hid (fun w => tri_Hit a1 a2 a3 b1 b2 b3 c1 c2 c3 o1 o2 o3 d1 d2 d3 fr w ha hb hc ho hd)
  generalize tHit (a1, a2, a3) (b1, b2, b3) (c1, c2, c3) (o1, o2, o3) (d1, d2, d3) = Q at *
  obtain ⟨⟨x1, x2⟩, xk⟩ := Q
  dsimp only at KH ⊢
  clear ha ho hd hb hc
  have As1 := prim_as_tt
  go_enter Tryz.func8, Tryz.ntmps8
  go_upto_region 1 with (fail)
  obtain ⟨W1, hW1⟩ : ∃ W, W = ((w.alloc (.cells #[.int .i64 k, .int .i64 a1, .int .i64 a2, .int .i64 a3, .int .i64 b1, .int .i64 b2, .int .i64 b3, .int .i64 c1, .int .i64 c2, .int .i64 c3, .int .i64 r, .int .i64 m] 25)).alloc (.cells #[.int .i64 o1, .int .i64 o2, .int .i64 o3, .int .i64 d1, .int .i64 d2, .int .i64 d3, .int .i64 fr] 27)).alloc (.cells #[.int .i64 0, .int .i64 0] 32) := ⟨_, rfl⟩
  obtain ⟨k_p, k_y, k_r, B1⟩ := st3 hW1
  rw [← hW1]
  clear hW1
  have l_y : w.heap.size < w.heap.size + 1 := by omega
  have l_r : w.heap.size + 1 < w.heap.size + 1 + 1 := by omega
  generalize w.heap.size + 1 + 1 = g_r at *
  generalize w.heap.size + 1 = g_y at *
  obtain ⟨c_p_0, c_p_1, c_p_2, c_p_3, c_p_4, c_p_5, c_p_6, c_p_7, c_p_8, c_p_9, c_p_10, c_p_11⟩ := bwc12 (k_p)
  obtain ⟨c_y_0, c_y_1, c_y_2, c_y_3, c_y_4, c_y_5, c_y_6⟩ := bwc7 (k_y)
  obtain ⟨c_r_0, c_r_1⟩ := bwc2 (k_r)
  obtain ⟨f_r_0, f_r_1⟩ := bwf2 (k_r)
  obtain ⟨p1, hp1⟩ : ∃ p : BW W1, p.w = W1 := ⟨BW.start W1, rfl⟩
  rw [← hp1]
  clear hp1
  go_upto_region 5 with (first
    | (go_at_call 21; (first | (with_reducible refine (bw_call K.out _).mono ?_)); rintro e w' ⟨rfl, q, rfl⟩))
  obtain ⟨W2, hW2⟩ : ∃ W, W = q.w.alloc (.cells #[.int .i64 a1, .int .i64 a2, .int .i64 a3, .int .i64 b1, .int .i64 b2, .int .i64 b3, .int .i64 c1, .int .i64 c2, .int .i64 c3] 52) := ⟨_, rfl⟩
  have B2 : Below w.heap.size w W2 := by rw [hW2]; exact (bw_below B1 q).alloc (bw_below B1 q).size _
  have l_s : g_r < q.w.heap.size := (k_r.below q.h).lt
  have o_s : w.heap.size ≤ q.w.heap.size := (bw_below B1 q).size
  have k_p := bka hW2 (k_p.below q.h)
  have k_y := bka hW2 (k_y.below q.h)
  have k_r := bka hW2 (k_r.below q.h)
  have k_s := bkn hW2
  rw [← hW2]
  clear hW2
  clear B1
  clear c_p_0 c_p_1 c_p_2 c_p_3 c_p_4 c_p_5 c_p_6 c_p_7 c_p_8 c_p_9 c_p_10 c_p_11 c_y_0 c_y_1 c_y_2 c_y_3 c_y_4 c_y_5 c_y_6 c_r_0 c_r_1 f_r_0 f_r_1
  generalize q.w.heap.size = g_s at *
  obtain ⟨c_p_0, c_p_1, c_p_2, c_p_3, c_p_4, c_p_5, c_p_6, c_p_7, c_p_8, c_p_9, c_p_10, c_p_11⟩ := bwc12 (k_p)
  obtain ⟨c_y_0, c_y_1, c_y_2, c_y_3, c_y_4, c_y_5, c_y_6⟩ := bwc7 (k_y)
  obtain ⟨c_r_0, c_r_1⟩ := bwc2 (k_r)
  obtain ⟨f_r_0, f_r_1⟩ := bwf2 (k_r)
  obtain ⟨c_s_0, c_s_1, c_s_2, c_s_3, c_s_4, c_s_5, c_s_6, c_s_7, c_s_8⟩ := bwc9 (k_s)
  obtain ⟨p2, hp2⟩ : ∃ p : BW W2, p.w = W2 := ⟨BW.start W2, rfl⟩
  rw [← hp2]
  clear hp2
  go_wp2_with (first
    | (go_at_call 22; (first | (with_reducible refine (bw_call KH.out _).mono ?_)); rintro e w' ⟨rfl, q, rfl⟩))
  have kr := bkp2 (k_r.below q.h) (.int .i64 x1) (.int .i64 x2)
  obtain ⟨rc0, rc1⟩ := rwc2 kr
  exact bodyPost_ret (v := .tuple #[.agg #[.int .i64 x1, .int .i64 x2], .bool xk]) (by simp [results, Tryz.results8, go_sem, rc0, rc1]) rfl ⟨rfl, blp2 (bw_below B2 q) (by omega)⟩

set_option maxRecDepth 100000 in
set_option maxHeartbeats 4000000 in
theorem prim_Hit_sph0 (k a1 a2 a3 b1 b2 b3 c1 c2 c3 r m ix o1 o2 o3 d1 d2 d3 fr : Int) (w : World) (K : Hid (∀ w, Calls Tryz.prog 21 #[.agg #[.int .i64 k, .int .i64 a1, .int .i64 a2, .int .i64 a3, .int .i64 b1, .int .i64 b2, .int .i64 b3, .int .i64 c1, .int .i64 c2, .int .i64 c3, .int .i64 r, .int .i64 m]] w fun en w' => en = .returned (.iface 55 (.agg #[.int .i64 a1, .int .i64 a2, .int .i64 a3, .int .i64 r])) ∧ Below w.heap.size w w')) (ha : I3 (a1, a2, a3)) (hr : I64 r) (ho : I3 (o1, o2, o3)) (hd : I3 (d1, d2, d3)) (hf : fr = ix) :
    Calls Tryz.prog 8 #[.agg #[.int .i64 k, .int .i64 a1, .int .i64 a2, .int .i64 a3, .int .i64 b1, .int .i64 b2, .int .i64 b3, .int .i64 c1, .int .i64 c2, .int .i64 c3, .int .i64 r, .int .i64 m], .int .i64 ix, .agg #[.int .i64 o1, .int .i64 o2, .int .i64 o3, .int .i64 d1, .int .i64 d2, .int .i64 d3, .int .i64 fr]] w fun en w' => en = .returned (.tuple #[.agg #[.int .i64 (ballT (a1, a2, a3) r (o1, o2, o3) (d1, d2, d3)).1.1, .int .i64 (ballT (a1, a2, a3) r (o1, o2, o3) (d1, d2, d3)).1.2], .bool (ballT (a1, a2, a3) r (o1, o2, o3) (d1, d2, d3)).2]) ∧ Below w.heap.size w w' := by
  subst hf
  have KH := Lib.hid (fun w => ball_Through a1 a2 a3 r o1 o2 o3 d1 d2 d3 fr w ha hr ho hd)
  generalize ballT (a1, a2, a3) r (o1, o2, o3) (d1, d2, d3) = Q at *
  obtain ⟨⟨x1, x2⟩, xk⟩ := Q
  dsimp only at KH ⊢
  clear ha ho hd hr
  have As1 := prim_as_st
  have As2 := prim_as_ss
  go_enter Tryz.func8, Tryz.ntmps8
  go_upto_region 1 with (fail)
  obtain ⟨W1, hW1⟩ : ∃ W, W = ((w.alloc (.cells #[.int .i64 k, .int .i64 a1, .int .i64 a2, .int .i64 a3, .int .i64 b1, .int .i64 b2, .int .i64 b3, .int .i64 c1, .int .i64 c2, .int .i64 c3, .int .i64 r, .int .i64 m] 25)).alloc (.cells #[.int .i64 o1, .int .i64 o2, .int .i64 o3, .int .i64 d1, .int .i64 d2, .int .i64 d3, .int .i64 fr] 27)).alloc (.cells #[.int .i64 0, .int .i64 0] 32) := ⟨_, rfl⟩
  obtain ⟨k_p, k_y, k_r, B1⟩ := st3 hW1
  rw [← hW1]
  clear hW1
  have l_y : w.heap.size < w.heap.size + 1 := by omega
  have l_r : w.heap.size + 1 < w.heap.size + 1 + 1 := by omega
  generalize w.heap.size + 1 + 1 = g_r at *
  generalize w.heap.size + 1 = g_y at *
  obtain ⟨c_p_0, c_p_1, c_p_2, c_p_3, c_p_4, c_p_5, c_p_6, c_p_7, c_p_8, c_p_9, c_p_10, c_p_11⟩ := bwc12 (k_p)
  obtain ⟨c_y_0, c_y_1, c_y_2, c_y_3, c_y_4, c_y_5, c_y_6⟩ := bwc7 (k_y)
  obtain ⟨c_r_0, c_r_1⟩ := bwc2 (k_r)
  obtain ⟨f_r_0, f_r_1⟩ := bwf2 (k_r)
  obtain ⟨p1, hp1⟩ : ∃ p : BW W1, p.w = W1 := ⟨BW.start W1, rfl⟩
  rw [← hp1]
  clear hp1
  go_upto_region 10 with (first
    | (go_at_call 21; (first | (with_reducible refine (bw_call K.out _).mono ?_)); rintro e w' ⟨rfl, q, rfl⟩))
  obtain ⟨W2, hW2⟩ : ∃ W, W = q.w.alloc (.cells #[.int .i64 a1, .int .i64 a2, .int .i64 a3, .int .i64 r] 55) := ⟨_, rfl⟩
  have B2 : Below w.heap.size w W2 := by rw [hW2]; exact (bw_below B1 q).alloc (bw_below B1 q).size _
  have l_s : g_r < q.w.heap.size := (k_r.below q.h).lt
  have o_s : w.heap.size ≤ q.w.heap.size := (bw_below B1 q).size
  have k_p := bka hW2 (k_p.below q.h)
  have k_y := bka hW2 (k_y.below q.h)
  have k_r := bka hW2 (k_r.below q.h)
  have k_s := bkn hW2
  rw [← hW2]
  clear hW2
  clear B1
  clear c_p_0 c_p_1 c_p_2 c_p_3 c_p_4 c_p_5 c_p_6 c_p_7 c_p_8 c_p_9 c_p_10 c_p_11 c_y_0 c_y_1 c_y_2 c_y_3 c_y_4 c_y_5 c_y_6 c_r_0 c_r_1 f_r_0 f_r_1
  generalize q.w.heap.size = g_s at *
  obtain ⟨c_p_0, c_p_1, c_p_2, c_p_3, c_p_4, c_p_5, c_p_6, c_p_7, c_p_8, c_p_9, c_p_10, c_p_11⟩ := bwc12 (k_p)
  obtain ⟨c_y_0, c_y_1, c_y_2, c_y_3, c_y_4, c_y_5, c_y_6⟩ := bwc7 (k_y)
  obtain ⟨c_r_0, c_r_1⟩ := bwc2 (k_r)
  obtain ⟨f_r_0, f_r_1⟩ := bwf2 (k_r)
  obtain ⟨c_s_0, c_s_1, c_s_2, c_s_3⟩ := bwc4 (k_s)
  obtain ⟨p2, hp2⟩ : ∃ p : BW W2, p.w = W2 := ⟨BW.start W2, rfl⟩
  rw [← hp2]
  clear hp2
  go_wp2_with (first
    | (go_at_call 23; (first | (with_reducible refine (bw_call KH.out _).mono ?_)); rintro e w' ⟨rfl, q, rfl⟩))
  have kr := bkp2 (k_r.below q.h) (.int .i64 x1) (.int .i64 x2)
  obtain ⟨rc0, rc1⟩ := rwc2 kr
  exact bodyPost_ret (v := .tuple #[.agg #[.int .i64 x1, .int .i64 x2], .bool xk]) (by simp [results, Tryz.results8, go_sem, rc0, rc1]) rfl ⟨rfl, blp2 (bw_below B2 q) (by omega)⟩

set_option maxRecDepth 100000 in
set_option maxHeartbeats 4000000 in
theorem prim_Hit_sph1 (k a1 a2 a3 b1 b2 b3 c1 c2 c3 r m ix o1 o2 o3 d1 d2 d3 fr : Int) (w : World) (K : Hid (∀ w, Calls Tryz.prog 21 #[.agg #[.int .i64 k, .int .i64 a1, .int .i64 a2, .int .i64 a3, .int .i64 b1, .int .i64 b2, .int .i64 b3, .int .i64 c1, .int .i64 c2, .int .i64 c3, .int .i64 r, .int .i64 m]] w fun en w' => en = .returned (.iface 55 (.agg #[.int .i64 a1, .int .i64 a2, .int .i64 a3, .int .i64 r])) ∧ Below w.heap.size w w')) (ha : I3 (a1, a2, a3)) (hr : I64 r) (ho : I3 (o1, o2, o3)) (hd : I3 (d1, d2, d3)) (hf : ¬ fr = ix) :
    Calls Tryz.prog 8 #[.agg #[.int .i64 k, .int .i64 a1, .int .i64 a2, .int .i64 a3, .int .i64 b1, .int .i64 b2, .int .i64 b3, .int .i64 c1, .int .i64 c2, .int .i64 c3, .int .i64 r, .int .i64 m], .int .i64 ix, .agg #[.int .i64 o1, .int .i64 o2, .int .i64 o3, .int .i64 d1, .int .i64 d2, .int .i64 d3, .int .i64 fr]] w fun en w' => en = .returned (.tuple #[.agg #[.int .i64 (ballH (a1, a2, a3) r (o1, o2, o3) (d1, d2, d3)).1.1, .int .i64 (ballH (a1, a2, a3) r (o1, o2, o3) (d1, d2, d3)).1.2], .bool (ballH (a1, a2, a3) r (o1, o2, o3) (d1, d2, d3)).2]) ∧ Below w.heap.size w w' := by
  have KH := Lib.hid (fun w => ball_Hit a1 a2 a3 r o1 o2 o3 d1 d2 d3 fr w ha hr ho hd)
  generalize ballH (a1, a2, a3) r (o1, o2, o3) (d1, d2, d3) = Q at *
  obtain ⟨⟨x1, x2⟩, xk⟩ := Q
  dsimp only at KH ⊢
  clear ha ho hd hr
  have As1 := prim_as_st
  have As2 := prim_as_ss
  go_enter Tryz.func8, Tryz.ntmps8
  go_upto_region 1 with (fail)
  obtain ⟨W1, hW1⟩ : ∃ W, W = ((w.alloc (.cells #[.int .i64 k, .int .i64 a1, .int .i64 a2, .int .i64 a3, .int .i64 b1, .int .i64 b2, .int .i64 b3, .int .i64 c1, .int .i64 c2, .int .i64 c3, .int .i64 r, .int .i64 m] 25)).alloc (.cells #[.int .i64 o1, .int .i64 o2, .int .i64 o3, .int .i64 d1, .int .i64 d2, .int .i64 d3, .int .i64 fr] 27)).alloc (.cells #[.int .i64 0, .int .i64 0] 32) := ⟨_, rfl⟩
  obtain ⟨k_p, k_y, k_r, B1⟩ := st3 hW1
  rw [← hW1]
  clear hW1
  have l_y : w.heap.size < w.heap.size + 1 := by omega
  have l_r : w.heap.size + 1 < w.heap.size + 1 + 1 := by omega
  generalize w.heap.size + 1 + 1 = g_r at *
  generalize w.heap.size + 1 = g_y at *
  obtain ⟨c_p_0, c_p_1, c_p_2, c_p_3, c_p_4, c_p_5, c_p_6, c_p_7, c_p_8, c_p_9, c_p_10, c_p_11⟩ := bwc12 (k_p)
  obtain ⟨c_y_0, c_y_1, c_y_2, c_y_3, c_y_4, c_y_5, c_y_6⟩ := bwc7 (k_y)
  obtain ⟨c_r_0, c_r_1⟩ := bwc2 (k_r)
  obtain ⟨f_r_0, f_r_1⟩ := bwf2 (k_r)
  obtain ⟨p1, hp1⟩ : ∃ p : BW W1, p.w = W1 := ⟨BW.start W1, rfl⟩
  rw [← hp1]
  clear hp1
  go_upto_region 10 with (first
    | (go_at_call 21; (first | (with_reducible refine (bw_call K.out _).mono ?_)); rintro e w' ⟨rfl, q, rfl⟩))
  obtain ⟨W2, hW2⟩ : ∃ W, W = q.w.alloc (.cells #[.int .i64 a1, .int .i64 a2, .int .i64 a3, .int .i64 r] 55) := ⟨_, rfl⟩
  have B2 : Below w.heap.size w W2 := by rw [hW2]; exact (bw_below B1 q).alloc (bw_below B1 q).size _
  have l_s : g_r < q.w.heap.size := (k_r.below q.h).lt
  have o_s : w.heap.size ≤ q.w.heap.size := (bw_below B1 q).size
  have k_p := bka hW2 (k_p.below q.h)
  have k_y := bka hW2 (k_y.below q.h)
  have k_r := bka hW2 (k_r.below q.h)
  have k_s := bkn hW2
  rw [← hW2]
  clear hW2
  clear B1
  clear c_p_0 c_p_1 c_p_2 c_p_3 c_p_4 c_p_5 c_p_6 c_p_7 c_p_8 c_p_9 c_p_10 c_p_11 c_y_0 c_y_1 c_y_2 c_y_3 c_y_4 c_y_5 c_y_6 c_r_0 c_r_1 f_r_0 f_r_1
  generalize q.w.heap.size = g_s at *
  obtain ⟨c_p_0, c_p_1, c_p_2, c_p_3, c_p_4, c_p_5, c_p_6, c_p_7, c_p_8, c_p_9, c_p_10, c_p_11⟩ := bwc12 (k_p)
  obtain ⟨c_y_0, c_y_1, c_y_2, c_y_3, c_y_4, c_y_5, c_y_6⟩ := bwc7 (k_y)
  obtain ⟨c_r_0, c_r_1⟩ := bwc2 (k_r)
  obtain ⟨f_r_0, f_r_1⟩ := bwf2 (k_r)
  obtain ⟨c_s_0, c_s_1, c_s_2, c_s_3⟩ := bwc4 (k_s)
  obtain ⟨p2, hp2⟩ : ∃ p : BW W2, p.w = W2 := ⟨BW.start W2, rfl⟩
  rw [← hp2]
  clear hp2
  go_wp2_with (first
    | (go_at_call 24; (first | (with_reducible refine (bw_call KH.out _).mono ?_)); rintro e w' ⟨rfl, q, rfl⟩))
  have kr := bkp2 (k_r.below q.h) (.int .i64 x1) (.int .i64 x2)
  obtain ⟨rc0, rc1⟩ := rwc2 kr
  exact bodyPost_ret (v := .tuple #[.agg #[.int .i64 x1, .int .i64 x2], .bool xk]) (by simp [results, Tryz.results8, go_sem, rc0, rc1]) rfl ⟨rfl, blp2 (bw_below B2 q) (by omega)⟩

theorem prim_Hit (k a1 a2 a3 b1 b2 b3 c1 c2 c3 r m ix o1 o2 o3 d1 d2 d3 fr : Int) (w : World) (hp : Pr.I (Pr.mk k (a1, a2, a3) (b1, b2, b3) (c1, c2, c3) r m)) (hx : I64 ix) (ho : I3 (o1, o2, o3)) (hd : I3 (d1, d2, d3)) (hf : I64 fr) :
    Calls Tryz.prog 8 #[.agg #[.int .i64 k, .int .i64 a1, .int .i64 a2, .int .i64 a3, .int .i64 b1, .int .i64 b2, .int .i64 b3, .int .i64 c1, .int .i64 c2, .int .i64 c3, .int .i64 r, .int .i64 m], .int .i64 ix, .agg #[.int .i64 o1, .int .i64 o2, .int .i64 o3, .int .i64 d1, .int .i64 d2, .int .i64 d3, .int .i64 fr]] w fun en w' => en = .returned (.tuple #[.agg #[.int .i64 (pHit (Pr.mk k (a1, a2, a3) (b1, b2, b3) (c1, c2, c3) r m) ix (o1, o2, o3) (d1, d2, d3) fr).1.1, .int .i64 (pHit (Pr.mk k (a1, a2, a3) (b1, b2, b3) (c1, c2, c3) r m) ix (o1, o2, o3) (d1, d2, d3) fr).1.2], .bool (pHit (Pr.mk k (a1, a2, a3) (b1, b2, b3) (c1, c2, c3) r m) ix (o1, o2, o3) (d1, d2, d3) fr).2]) ∧ Below w.heap.size w w' := by
  have K := Lib.hid (fun w => prim_shapeOf k a1 a2 a3 b1 b2 b3 c1 c2 c3 r m w hp)
  unfold prSh at K
  unfold pHit
  by_cases h : pRight (Pr.mk k (a1, a2, a3) (b1, b2, b3) (c1, c2, c3) r m) = true
  · rw [if_pos h] at K ⊢
    by_cases hk : k = 1
    · rw [if_pos hk] at K
      rw [if_pos hk]
      by_cases hf : fr = ix
      · rw [if_pos hf]; exact prim_Hit_tri0 k a1 a2 a3 b1 b2 b3 c1 c2 c3 r m ix o1 o2 o3 d1 d2 d3 fr w K hf
      · rw [if_neg hf]; exact prim_Hit_tri1 k a1 a2 a3 b1 b2 b3 c1 c2 c3 r m ix o1 o2 o3 d1 d2 d3 fr w K hp.2.1 hp.2.2.1 hp.2.2.2.1 ho hd hf
    · rw [if_neg hk] at K
      rw [if_neg hk]
      by_cases hf : fr = ix
      · rw [if_pos hf]; exact prim_Hit_sph0 k a1 a2 a3 b1 b2 b3 c1 c2 c3 r m ix o1 o2 o3 d1 d2 d3 fr w K hp.2.1 hp.2.2.2.2.1 ho hd hf
      · rw [if_neg hf]; exact prim_Hit_sph1 k a1 a2 a3 b1 b2 b3 c1 c2 c3 r m ix o1 o2 o3 d1 d2 d3 fr w K hp.2.1 hp.2.2.2.2.1 ho hd hf
  · rw [if_neg h] at K ⊢
    by_cases hf : fr = ix
    · exact prim_Hit_no0 k a1 a2 a3 b1 b2 b3 c1 c2 c3 r m ix o1 o2 o3 d1 d2 d3 fr w K hf
    · exact prim_Hit_no1 k a1 a2 a3 b1 b2 b3 c1 c2 c3 r m ix o1 o2 o3 d1 d2 d3 fr w K hf

set_option maxRecDepth 100000 in
set_option maxHeartbeats 4000000 in
theorem prim_Normal_no (k a1 a2 a3 b1 b2 b3 c1 c2 c3 r m t1 t2 t3 : Int) (w : World) (K : Hid (∀ w, Calls Tryz.prog 21 #[.agg #[.int .i64 k, .int .i64 a1, .int .i64 a2, .int .i64 a3, .int .i64 b1, .int .i64 b2, .int .i64 b3, .int .i64 c1, .int .i64 c2, .int .i64 c3, .int .i64 r, .int .i64 m]] w fun en w' => en = .returned (.nilIface) ∧ Below w.heap.size w w')) :
    Calls Tryz.prog 12 #[.agg #[.int .i64 k, .int .i64 a1, .int .i64 a2, .int .i64 a3, .int .i64 b1, .int .i64 b2, .int .i64 b3, .int .i64 c1, .int .i64 c2, .int .i64 c3, .int .i64 r, .int .i64 m], .agg #[.int .i64 t1, .int .i64 t2, .int .i64 t3]] w fun en w' => en = .returned (.agg #[.int .i64 0, .int .i64 0, .int .i64 0]) ∧ Below w.heap.size w w' := by
  have As1 := prim_as_nt
  have As2 := prim_as_ns
  go_enter Tryz.func12, Tryz.ntmps12
  go_upto_region 1 with (fail)
  obtain ⟨W1, hW1⟩ : ∃ W, W = ((w.alloc (.cells #[.int .i64 k, .int .i64 a1, .int .i64 a2, .int .i64 a3, .int .i64 b1, .int .i64 b2, .int .i64 b3, .int .i64 c1, .int .i64 c2, .int .i64 c3, .int .i64 r, .int .i64 m] 25)).alloc (.cells #[.int .i64 t1, .int .i64 t2, .int .i64 t3] 23)).alloc (.cells #[.int .i64 0, .int .i64 0, .int .i64 0] 23) := ⟨_, rfl⟩
  obtain ⟨k_p, k_t, k_r, B1⟩ := st3 hW1
  rw [← hW1]
  clear hW1
  have l_t : w.heap.size < w.heap.size + 1 := by omega
  have l_r : w.heap.size + 1 < w.heap.size + 1 + 1 := by omega
  generalize w.heap.size + 1 + 1 = g_r at *
  generalize w.heap.size + 1 = g_t at *
  obtain ⟨c_p_0, c_p_1, c_p_2, c_p_3, c_p_4, c_p_5, c_p_6, c_p_7, c_p_8, c_p_9, c_p_10, c_p_11⟩ := bwc12 (k_p)
  obtain ⟨c_t_0, c_t_1, c_t_2⟩ := bwc3 (k_t)
  obtain ⟨c_r_0, c_r_1, c_r_2⟩ := bwc3 (k_r)
  obtain ⟨f_r_0, f_r_1, f_r_2⟩ := bwf3 (k_r)
  obtain ⟨p1, hp1⟩ : ∃ p : BW W1, p.w = W1 := ⟨BW.start W1, rfl⟩
  rw [← hp1]
  clear hp1
  go_wp2_with (first
    | (go_at_call 21; (first | (with_reducible refine (bw_call K.out _).mono ?_)); rintro e w' ⟨rfl, q, rfl⟩))
  have kr := bkp3 (k_r.below q.h) (.int .i64 0) (.int .i64 0) (.int .i64 0)
  obtain ⟨rc0, rc1, rc2⟩ := rwc3 kr
  exact bodyPost_ret (v := .agg #[.int .i64 0, .int .i64 0, .int .i64 0]) (by simp [results, Tryz.results12, go_sem, rc0, rc1, rc2]) rfl ⟨rfl, blp3 (bw_below B1 q) (by omega)⟩

set_option maxRecDepth 100000 in
set_option maxHeartbeats 4000000 in
theorem prim_Normal_tri (k a1 a2 a3 b1 b2 b3 c1 c2 c3 r m t1 t2 t3 : Int) (w : World) (K : Hid (∀ w, Calls Tryz.prog 21 #[.agg #[.int .i64 k, .int .i64 a1, .int .i64 a2, .int .i64 a3, .int .i64 b1, .int .i64 b2, .int .i64 b3, .int .i64 c1, .int .i64 c2, .int .i64 c3, .int .i64 r, .int .i64 m]] w fun en w' => en = .returned (.iface 52 (.agg #[.int .i64 a1, .int .i64 a2, .int .i64 a3, .int .i64 b1, .int .i64 b2, .int .i64 b3, .int .i64 c1, .int .i64 c2, .int .i64 c3])) ∧ Below w.heap.size w w')) (ha : I3 (a1, a2, a3)) (hb : I3 (b1, b2, b3)) (hc : I3 (c1, c2, c3)) :
    Calls Tryz.prog 12 #[.agg #[.int .i64 k, .int .i64 a1, .int .i64 a2, .int .i64 a3, .int .i64 b1, .int .i64 b2, .int .i64 b3, .int .i64 c1, .int .i64 c2, .int .i64 c3, .int .i64 r, .int .i64 m], .agg #[.int .i64 t1, .int .i64 t2, .int .i64 t3]] w fun en w' => en = .returned (.agg #[.int .i64 ((tNorm (a1, a2, a3) (b1, b2, b3) (c1, c2, c3)).1).1, .int .i64 ((tNorm (a1, a2, a3) (b1, b2, b3) (c1, c2, c3)).1).2.1, .int .i64 ((tNorm (a1, a2, a3) (b1, b2, b3) (c1, c2, c3)).1).2.2]) ∧ Below w.heap.size w w' := by
  have KN := Lib.hid (fun w => tri_Normal a1 a2 a3 b1 b2 b3 c1 c2 c3 w ha hb hc)
  generalize tNorm (a1, a2, a3) (b1, b2, b3) (c1, c2, c3) = Q at *
  obtain ⟨⟨x1, x2, x3⟩, xk⟩ := Q
  dsimp only at KN ⊢
  clear ha hb hc
  have As1 := prim_as_tt
  go_enter Tryz.func12, Tryz.ntmps12
  go_upto_region 1 with (fail)
  obtain ⟨W1, hW1⟩ : ∃ W, W = ((w.alloc (.cells #[.int .i64 k, .int .i64 a1, .int .i64 a2, .int .i64 a3, .int .i64 b1, .int .i64 b2, .int .i64 b3, .int .i64 c1, .int .i64 c2, .int .i64 c3, .int .i64 r, .int .i64 m] 25)).alloc (.cells #[.int .i64 t1, .int .i64 t2, .int .i64 t3] 23)).alloc (.cells #[.int .i64 0, .int .i64 0, .int .i64 0] 23) := ⟨_, rfl⟩
  obtain ⟨k_p, k_t, k_r, B1⟩ := st3 hW1
  rw [← hW1]
  clear hW1
  have l_t : w.heap.size < w.heap.size + 1 := by omega
  have l_r : w.heap.size + 1 < w.heap.size + 1 + 1 := by omega
  generalize w.heap.size + 1 + 1 = g_r at *
  generalize w.heap.size + 1 = g_t at *
  obtain ⟨c_p_0, c_p_1, c_p_2, c_p_3, c_p_4, c_p_5, c_p_6, c_p_7, c_p_8, c_p_9, c_p_10, c_p_11⟩ := bwc12 (k_p)
  obtain ⟨c_t_0, c_t_1, c_t_2⟩ := bwc3 (k_t)
  obtain ⟨c_r_0, c_r_1, c_r_2⟩ := bwc3 (k_r)
  obtain ⟨p1, hp1⟩ : ∃ p : BW W1, p.w = W1 := ⟨BW.start W1, rfl⟩
  rw [← hp1]
  clear hp1
  go_upto_region 4 with (first
    | (go_at_call 21; (first | (with_reducible refine (bw_call K.out _).mono ?_)); rintro e w' ⟨rfl, q, rfl⟩))
  obtain ⟨W2, hW2⟩ : ∃ W, W = q.w.alloc (.cells #[.int .i64 a1, .int .i64 a2, .int .i64 a3, .int .i64 b1, .int .i64 b2, .int .i64 b3, .int .i64 c1, .int .i64 c2, .int .i64 c3] 52) := ⟨_, rfl⟩
  have B2 : Below w.heap.size w W2 := by rw [hW2]; exact (bw_below B1 q).alloc (bw_below B1 q).size _
  have l_s : g_r < q.w.heap.size := (k_r.below q.h).lt
  have o_s : w.heap.size ≤ q.w.heap.size := (bw_below B1 q).size
  have k_p := bka hW2 (k_p.below q.h)
  have k_t := bka hW2 (k_t.below q.h)
  have k_r := bka hW2 (k_r.below q.h)
  have k_s := bkn hW2
  rw [← hW2]
  clear hW2
  clear B1
  clear c_p_0 c_p_1 c_p_2 c_p_3 c_p_4 c_p_5 c_p_6 c_p_7 c_p_8 c_p_9 c_p_10 c_p_11 c_t_0 c_t_1 c_t_2 c_r_0 c_r_1 c_r_2
  generalize q.w.heap.size = g_s at *
  obtain ⟨c_p_0, c_p_1, c_p_2, c_p_3, c_p_4, c_p_5, c_p_6, c_p_7, c_p_8, c_p_9, c_p_10, c_p_11⟩ := bwc12 (k_p)
  obtain ⟨c_t_0, c_t_1, c_t_2⟩ := bwc3 (k_t)
  obtain ⟨c_r_0, c_r_1, c_r_2⟩ := bwc3 (k_r)
  obtain ⟨c_s_0, c_s_1, c_s_2, c_s_3, c_s_4, c_s_5, c_s_6, c_s_7, c_s_8⟩ := bwc9 (k_s)
  obtain ⟨p2, hp2⟩ : ∃ p : BW W2, p.w = W2 := ⟨BW.start W2, rfl⟩
  rw [← hp2]
  clear hp2
  go_upto_region 5 with (first
    | (go_at_call 33; (first | (with_reducible refine (bw_call KN.out _).mono ?_)); rintro e w' ⟨rfl, q, rfl⟩))
  obtain ⟨W3, hW3⟩ : ∃ W, W = q.w.alloc (.cells #[.int .i64 x1, .int .i64 x2, .int .i64 x3] 23) := ⟨_, rfl⟩
  have B3 : Below w.heap.size w W3 := by rw [hW3]; exact (bw_below B2 q).alloc (bw_below B2 q).size _
  have l_n : g_s < q.w.heap.size := (k_s.below q.h).lt
  have o_n : w.heap.size ≤ q.w.heap.size := (bw_below B2 q).size
  have l_n_r : g_r < q.w.heap.size := (k_r.below q.h).lt
  have k_p := bka hW3 (k_p.below q.h)
  have k_t := bka hW3 (k_t.below q.h)
  have k_r := bka hW3 (k_r.below q.h)
  have k_s := bka hW3 (k_s.below q.h)
  have k_n := bkn hW3
  rw [← hW3]
  clear hW3
  clear B2
  clear c_p_0 c_p_1 c_p_2 c_p_3 c_p_4 c_p_5 c_p_6 c_p_7 c_p_8 c_p_9 c_p_10 c_p_11 c_t_0 c_t_1 c_t_2 c_r_0 c_r_1 c_r_2 c_s_0 c_s_1 c_s_2 c_s_3 c_s_4 c_s_5 c_s_6 c_s_7 c_s_8
  generalize q.w.heap.size = g_n at *
  obtain ⟨c_p_0, c_p_1, c_p_2, c_p_3, c_p_4, c_p_5, c_p_6, c_p_7, c_p_8, c_p_9, c_p_10, c_p_11⟩ := bwc12 (k_p)
  obtain ⟨c_t_0, c_t_1, c_t_2⟩ := bwc3 (k_t)
  obtain ⟨c_r_0, c_r_1, c_r_2⟩ := bwc3 (k_r)
  obtain ⟨f_r_0, f_r_1, f_r_2⟩ := bwf3 (k_r)
  obtain ⟨c_s_0, c_s_1, c_s_2, c_s_3, c_s_4, c_s_5, c_s_6, c_s_7, c_s_8⟩ := bwc9 (k_s)
  obtain ⟨c_n_0, c_n_1, c_n_2⟩ := bwc3 (k_n)
  obtain ⟨p3, hp3⟩ : ∃ p : BW W3, p.w = W3 := ⟨BW.start W3, rfl⟩
  rw [← hp3]
  clear hp3
  go_wp2
  have kr := bkp3 (k_r.below p3.h) (.int .i64 x1) (.int .i64 x2) (.int .i64 x3)
  obtain ⟨rc0, rc1, rc2⟩ := rwc3 kr
  exact bodyPost_ret (v := .agg #[.int .i64 x1, .int .i64 x2, .int .i64 x3]) (by simp [results, Tryz.results12, go_sem, rc0, rc1, rc2]) rfl ⟨rfl, blp3 (bw_below B3 p3) (by omega)⟩

set_option maxRecDepth 100000 in
set_option maxHeartbeats 4000000 in
theorem prim_Normal_sph (k a1 a2 a3 b1 b2 b3 c1 c2 c3 r m t1 t2 t3 : Int) (w : World) (K : Hid (∀ w, Calls Tryz.prog 21 #[.agg #[.int .i64 k, .int .i64 a1, .int .i64 a2, .int .i64 a3, .int .i64 b1, .int .i64 b2, .int .i64 b3, .int .i64 c1, .int .i64 c2, .int .i64 c3, .int .i64 r, .int .i64 m]] w fun en w' => en = .returned (.iface 55 (.agg #[.int .i64 a1, .int .i64 a2, .int .i64 a3, .int .i64 r])) ∧ Below w.heap.size w w')) (ha : I3 (a1, a2, a3)) (ht : I3 (t1, t2, t3)) :
    Calls Tryz.prog 12 #[.agg #[.int .i64 k, .int .i64 a1, .int .i64 a2, .int .i64 a3, .int .i64 b1, .int .i64 b2, .int .i64 b3, .int .i64 c1, .int .i64 c2, .int .i64 c3, .int .i64 r, .int .i64 m], .agg #[.int .i64 t1, .int .i64 t2, .int .i64 t3]] w fun en w' => en = .returned (.agg #[.int .i64 (ballN (a1, a2, a3) (t1, t2, t3)).1, .int .i64 (ballN (a1, a2, a3) (t1, t2, t3)).2.1, .int .i64 (ballN (a1, a2, a3) (t1, t2, t3)).2.2]) ∧ Below w.heap.size w w' := by
  have KN := Lib.hid (fun w => ball_Normal a1 a2 a3 t1 t2 t3 w ha ht)
  generalize ballN (a1, a2, a3) (t1, t2, t3) = Q at *
  obtain ⟨x1, x2, x3⟩ := Q
  dsimp only at KN ⊢
  clear ha ht
  have As1 := prim_as_st
  have As2 := prim_as_ss
  go_enter Tryz.func12, Tryz.ntmps12
  go_upto_region 1 with (fail)
  obtain ⟨W1, hW1⟩ : ∃ W, W = ((w.alloc (.cells #[.int .i64 k, .int .i64 a1, .int .i64 a2, .int .i64 a3, .int .i64 b1, .int .i64 b2, .int .i64 b3, .int .i64 c1, .int .i64 c2, .int .i64 c3, .int .i64 r, .int .i64 m] 25)).alloc (.cells #[.int .i64 t1, .int .i64 t2, .int .i64 t3] 23)).alloc (.cells #[.int .i64 0, .int .i64 0, .int .i64 0] 23) := ⟨_, rfl⟩
  obtain ⟨k_p, k_t, k_r, B1⟩ := st3 hW1
  rw [← hW1]
  clear hW1
  have l_t : w.heap.size < w.heap.size + 1 := by omega
  have l_r : w.heap.size + 1 < w.heap.size + 1 + 1 := by omega
  generalize w.heap.size + 1 + 1 = g_r at *
  generalize w.heap.size + 1 = g_t at *
  obtain ⟨c_p_0, c_p_1, c_p_2, c_p_3, c_p_4, c_p_5, c_p_6, c_p_7, c_p_8, c_p_9, c_p_10, c_p_11⟩ := bwc12 (k_p)
  obtain ⟨c_t_0, c_t_1, c_t_2⟩ := bwc3 (k_t)
  obtain ⟨c_r_0, c_r_1, c_r_2⟩ := bwc3 (k_r)
  obtain ⟨p1, hp1⟩ : ∃ p : BW W1, p.w = W1 := ⟨BW.start W1, rfl⟩
  rw [← hp1]
  clear hp1
  go_upto_region 8 with (first
    | (go_at_call 21; (first | (with_reducible refine (bw_call K.out _).mono ?_)); rintro e w' ⟨rfl, q, rfl⟩))
  obtain ⟨W2, hW2⟩ : ∃ W, W = q.w.alloc (.cells #[.int .i64 a1, .int .i64 a2, .int .i64 a3, .int .i64 r] 55) := ⟨_, rfl⟩
  have B2 : Below w.heap.size w W2 := by rw [hW2]; exact (bw_below B1 q).alloc (bw_below B1 q).size _
  have l_s : g_r < q.w.heap.size := (k_r.below q.h).lt
  have o_s : w.heap.size ≤ q.w.heap.size := (bw_below B1 q).size
  have k_p := bka hW2 (k_p.below q.h)
  have k_t := bka hW2 (k_t.below q.h)
  have k_r := bka hW2 (k_r.below q.h)
  have k_s := bkn hW2
  rw [← hW2]
  clear hW2
  clear B1
  clear c_p_0 c_p_1 c_p_2 c_p_3 c_p_4 c_p_5 c_p_6 c_p_7 c_p_8 c_p_9 c_p_10 c_p_11 c_t_0 c_t_1 c_t_2 c_r_0 c_r_1 c_r_2
  generalize q.w.heap.size = g_s at *
  obtain ⟨c_p_0, c_p_1, c_p_2, c_p_3, c_p_4, c_p_5, c_p_6, c_p_7, c_p_8, c_p_9, c_p_10, c_p_11⟩ := bwc12 (k_p)
  obtain ⟨c_t_0, c_t_1, c_t_2⟩ := bwc3 (k_t)
  obtain ⟨c_r_0, c_r_1, c_r_2⟩ := bwc3 (k_r)
  obtain ⟨f_r_0, f_r_1, f_r_2⟩ := bwf3 (k_r)
  obtain ⟨c_s_0, c_s_1, c_s_2, c_s_3⟩ := bwc4 (k_s)
  obtain ⟨p2, hp2⟩ : ∃ p : BW W2, p.w = W2 := ⟨BW.start W2, rfl⟩
  rw [← hp2]
  clear hp2
  go_wp2_with (first
    | (go_at_call 34; (first | (with_reducible refine (bw_call KN.out _).mono ?_)); rintro e w' ⟨rfl, q, rfl⟩))
  have kr := bkp3 (k_r.below q.h) (.int .i64 x1) (.int .i64 x2) (.int .i64 x3)
  obtain ⟨rc0, rc1, rc2⟩ := rwc3 kr
  exact bodyPost_ret (v := .agg #[.int .i64 x1, .int .i64 x2, .int .i64 x3]) (by simp [results, Tryz.results12, go_sem, rc0, rc1, rc2]) rfl ⟨rfl, blp3 (bw_below B2 q) (by omega)⟩

theorem prim_Normal (k a1 a2 a3 b1 b2 b3 c1 c2 c3 r m t1 t2 t3 : Int) (w : World) (hp : Pr.I (Pr.mk k (a1, a2, a3) (b1, b2, b3) (c1, c2, c3) r m)) (ht : I3 (t1, t2, t3)) :
    Calls Tryz.prog 12 #[.agg #[.int .i64 k, .int .i64 a1, .int .i64 a2, .int .i64 a3, .int .i64 b1, .int .i64 b2, .int .i64 b3, .int .i64 c1, .int .i64 c2, .int .i64 c3, .int .i64 r, .int .i64 m], .agg #[.int .i64 t1, .int .i64 t2, .int .i64 t3]] w fun en w' => en = .returned (.agg #[.int .i64 (pNormal (Pr.mk k (a1, a2, a3) (b1, b2, b3) (c1, c2, c3) r m) (t1, t2, t3)).1, .int .i64 (pNormal (Pr.mk k (a1, a2, a3) (b1, b2, b3) (c1, c2, c3) r m) (t1, t2, t3)).2.1, .int .i64 (pNormal (Pr.mk k (a1, a2, a3) (b1, b2, b3) (c1, c2, c3) r m) (t1, t2, t3)).2.2]) ∧ Below w.heap.size w w' := by
  have K := Lib.hid (fun w => prim_shapeOf k a1 a2 a3 b1 b2 b3 c1 c2 c3 r m w hp)
  unfold prSh at K
  unfold pNormal
  by_cases h : pRight (Pr.mk k (a1, a2, a3) (b1, b2, b3) (c1, c2, c3) r m) = true
  · rw [if_pos h] at K ⊢
    by_cases hk : k = 1
    · rw [if_pos hk] at K
      rw [if_neg (by dsimp only; omega)]
      exact prim_Normal_tri k a1 a2 a3 b1 b2 b3 c1 c2 c3 r m t1 t2 t3 w K hp.2.1 hp.2.2.1 hp.2.2.2.1
    · rw [if_neg hk] at K
      rw [if_pos (pRight_ball h hk).1]
      exact prim_Normal_sph k a1 a2 a3 b1 b2 b3 c1 c2 c3 r m t1 t2 t3 w K hp.2.1 ht
  · rw [if_neg h] at K ⊢
    exact prim_Normal_no k a1 a2 a3 b1 b2 b3 c1 c2 c3 r m t1 t2 t3 w K

set_option maxRecDepth 100000 in
set_option maxHeartbeats 4000000 in
theorem prim_Point_no (k a1 a2 a3 b1 b2 b3 c1 c2 c3 r m u v : Int) (w : World) (K : Hid (∀ w, Calls Tryz.prog 21 #[.agg #[.int .i64 k, .int .i64 a1, .int .i64 a2, .int .i64 a3, .int .i64 b1, .int .i64 b2, .int .i64 b3, .int .i64 c1, .int .i64 c2, .int .i64 c3, .int .i64 r, .int .i64 m]] w fun en w' => en = .returned (.nilIface) ∧ Below w.heap.size w w')) :
    Calls Tryz.prog 15 #[.agg #[.int .i64 k, .int .i64 a1, .int .i64 a2, .int .i64 a3, .int .i64 b1, .int .i64 b2, .int .i64 b3, .int .i64 c1, .int .i64 c2, .int .i64 c3, .int .i64 r, .int .i64 m], .int .i64 u, .int .i64 v] w fun en w' => en = .returned (.agg #[.int .i64 0, .int .i64 0, .int .i64 0]) ∧ Below w.heap.size w w' := by
  have As1 := prim_as_nt
  have As2 := prim_as_ns
  go_enter Tryz.func15, Tryz.ntmps15
  go_upto_region 1 with (fail)
  obtain ⟨W1, hW1⟩ : ∃ W, W = (w.alloc (.cells #[.int .i64 k, .int .i64 a1, .int .i64 a2, .int .i64 a3, .int .i64 b1, .int .i64 b2, .int .i64 b3, .int .i64 c1, .int .i64 c2, .int .i64 c3, .int .i64 r, .int .i64 m] 25)).alloc (.cells #[.int .i64 0, .int .i64 0, .int .i64 0] 23) := ⟨_, rfl⟩
  obtain ⟨k_p, k_r, B1⟩ := st2 hW1
  rw [← hW1]
  clear hW1
  have l_r : w.heap.size < w.heap.size + 1 := by omega
  generalize w.heap.size + 1 = g_r at *
  obtain ⟨c_p_0, c_p_1, c_p_2, c_p_3, c_p_4, c_p_5, c_p_6, c_p_7, c_p_8, c_p_9, c_p_10, c_p_11⟩ := bwc12 (k_p)
  obtain ⟨c_r_0, c_r_1, c_r_2⟩ := bwc3 (k_r)
  obtain ⟨f_r_0, f_r_1, f_r_2⟩ := bwf3 (k_r)
  obtain ⟨p1, hp1⟩ : ∃ p : BW W1, p.w = W1 := ⟨BW.start W1, rfl⟩
  rw [← hp1]
  clear hp1
  go_wp2_with (first
    | (go_at_call 21; (first | (with_reducible refine (bw_call K.out _).mono ?_)); rintro e w' ⟨rfl, q, rfl⟩))
  have kr := bkp3 (k_r.below q.h) (.int .i64 0) (.int .i64 0) (.int .i64 0)
  obtain ⟨rc0, rc1, rc2⟩ := rwc3 kr
  exact bodyPost_ret (v := .agg #[.int .i64 0, .int .i64 0, .int .i64 0]) (by simp [results, Tryz.results15, go_sem, rc0, rc1, rc2]) rfl ⟨rfl, blp3 (bw_below B1 q) (by omega)⟩

set_option maxRecDepth 100000 in
set_option maxHeartbeats 4000000 in
theorem prim_Point_tri (k a1 a2 a3 b1 b2 b3 c1 c2 c3 r m u v : Int) (w : World) (K : Hid (∀ w, Calls Tryz.prog 21 #[.agg #[.int .i64 k, .int .i64 a1, .int .i64 a2, .int .i64 a3, .int .i64 b1, .int .i64 b2, .int .i64 b3, .int .i64 c1, .int .i64 c2, .int .i64 c3, .int .i64 r, .int .i64 m]] w fun en w' => en = .returned (.iface 52 (.agg #[.int .i64 a1, .int .i64 a2, .int .i64 a3, .int .i64 b1, .int .i64 b2, .int .i64 b3, .int .i64 c1, .int .i64 c2, .int .i64 c3])) ∧ Below w.heap.size w w')) (ha : I3 (a1, a2, a3)) (hb : I3 (b1, b2, b3)) (hc : I3 (c1, c2, c3)) (hu : I64 u) (hv : I64 v) :
    Calls Tryz.prog 15 #[.agg #[.int .i64 k, .int .i64 a1, .int .i64 a2, .int .i64 a3, .int .i64 b1, .int .i64 b2, .int .i64 b3, .int .i64 c1, .int .i64 c2, .int .i64 c3, .int .i64 r, .int .i64 m], .int .i64 u, .int .i64 v] w fun en w' => en = .returned (.agg #[.int .i64 (tAt (a1, a2, a3) (b1, b2, b3) (c1, c2, c3) u v).1, .int .i64 (tAt (a1, a2, a3) (b1, b2, b3) (c1, c2, c3) u v).2.1, .int .i64 (tAt (a1, a2, a3) (b1, b2, b3) (c1, c2, c3) u v).2.2]) ∧ Below w.heap.size w w' := by
  have KN := Lib.hid (fun w => tri_At a1 a2 a3 b1 b2 b3 c1 c2 c3 u v w ha hb hc hu hv)
  generalize tAt (a1, a2, a3) (b1, b2, b3) (c1, c2, c3) u v = Q at *
  obtain ⟨x1, x2, x3⟩ := Q
  dsimp only at KN ⊢
  clear ha hb hc hu hv
  have As1 := prim_as_tt
  go_enter Tryz.func15, Tryz.ntmps15
  go_upto_region 1 with (fail)
  obtain ⟨W1, hW1⟩ : ∃ W, W = (w.alloc (.cells #[.int .i64 k, .int .i64 a1, .int .i64 a2, .int .i64 a3, .int .i64 b1, .int .i64 b2, .int .i64 b3, .int .i64 c1, .int .i64 c2, .int .i64 c3, .int .i64 r, .int .i64 m] 25)).alloc (.cells #[.int .i64 0, .int .i64 0, .int .i64 0] 23) := ⟨_, rfl⟩
  obtain ⟨k_p, k_r, B1⟩ := st2 hW1
  rw [← hW1]
  clear hW1
  have l_r : w.heap.size < w.heap.size + 1 := by omega
  generalize w.heap.size + 1 = g_r at *
  obtain ⟨c_p_0, c_p_1, c_p_2, c_p_3, c_p_4, c_p_5, c_p_6, c_p_7, c_p_8, c_p_9, c_p_10, c_p_11⟩ := bwc12 (k_p)
  obtain ⟨c_r_0, c_r_1, c_r_2⟩ := bwc3 (k_r)
  obtain ⟨p1, hp1⟩ : ∃ p : BW W1, p.w = W1 := ⟨BW.start W1, rfl⟩
  rw [← hp1]
  clear hp1
  go_upto_region 4 with (first
    | (go_at_call 21; (first | (with_reducible refine (bw_call K.out _).mono ?_)); rintro e w' ⟨rfl, q, rfl⟩))
  obtain ⟨W2, hW2⟩ : ∃ W, W = q.w.alloc (.cells #[.int .i64 a1, .int .i64 a2, .int .i64 a3, .int .i64 b1, .int .i64 b2, .int .i64 b3, .int .i64 c1, .int .i64 c2, .int .i64 c3] 52) := ⟨_, rfl⟩
  have B2 : Below w.heap.size w W2 := by rw [hW2]; exact (bw_below B1 q).alloc (bw_below B1 q).size _
  have l_s : g_r < q.w.heap.size := (k_r.below q.h).lt
  have o_s : w.heap.size ≤ q.w.heap.size := (bw_below B1 q).size
  have k_p := bka hW2 (k_p.below q.h)
  have k_r := bka hW2 (k_r.below q.h)
  have k_s := bkn hW2
  rw [← hW2]
  clear hW2
  clear B1
  clear c_p_0 c_p_1 c_p_2 c_p_3 c_p_4 c_p_5 c_p_6 c_p_7 c_p_8 c_p_9 c_p_10 c_p_11 c_r_0 c_r_1 c_r_2
  generalize q.w.heap.size = g_s at *
  obtain ⟨c_p_0, c_p_1, c_p_2, c_p_3, c_p_4, c_p_5, c_p_6, c_p_7, c_p_8, c_p_9, c_p_10, c_p_11⟩ := bwc12 (k_p)
  obtain ⟨c_r_0, c_r_1, c_r_2⟩ := bwc3 (k_r)
  obtain ⟨f_r_0, f_r_1, f_r_2⟩ := bwf3 (k_r)
  obtain ⟨c_s_0, c_s_1, c_s_2, c_s_3, c_s_4, c_s_5, c_s_6, c_s_7, c_s_8⟩ := bwc9 (k_s)
  obtain ⟨p2, hp2⟩ : ∃ p : BW W2, p.w = W2 := ⟨BW.start W2, rfl⟩
  rw [← hp2]
  clear hp2
  go_wp2_with (first
    | (go_at_call 38; (first | (with_reducible refine (bw_call KN.out _).mono ?_)); rintro e w' ⟨rfl, q, rfl⟩))
  have kr := bkp3 (k_r.below q.h) (.int .i64 x1) (.int .i64 x2) (.int .i64 x3)
  obtain ⟨rc0, rc1, rc2⟩ := rwc3 kr
  exact bodyPost_ret (v := .agg #[.int .i64 x1, .int .i64 x2, .int .i64 x3]) (by simp [results, Tryz.results15, go_sem, rc0, rc1, rc2]) rfl ⟨rfl, blp3 (bw_below B2 q) (by omega)⟩

set_option maxRecDepth 100000 in
set_option maxHeartbeats 4000000 in
theorem prim_Point_sph (k a1 a2 a3 b1 b2 b3 c1 c2 c3 r m u v : Int) (w : World) (K : Hid (∀ w, Calls Tryz.prog 21 #[.agg #[.int .i64 k, .int .i64 a1, .int .i64 a2, .int .i64 a3, .int .i64 b1, .int .i64 b2, .int .i64 b3, .int .i64 c1, .int .i64 c2, .int .i64 c3, .int .i64 r, .int .i64 m]] w fun en w' => en = .returned (.iface 55 (.agg #[.int .i64 a1, .int .i64 a2, .int .i64 a3, .int .i64 r])) ∧ Below w.heap.size w w')) :
    Calls Tryz.prog 15 #[.agg #[.int .i64 k, .int .i64 a1, .int .i64 a2, .int .i64 a3, .int .i64 b1, .int .i64 b2, .int .i64 b3, .int .i64 c1, .int .i64 c2, .int .i64 c3, .int .i64 r, .int .i64 m], .int .i64 u, .int .i64 v] w fun en w' => en = .returned (.agg #[.int .i64 a1, .int .i64 a2, .int .i64 a3]) ∧ Below w.heap.size w w' := by
  have As1 := prim_as_st
  have As2 := prim_as_ss
  go_enter Tryz.func15, Tryz.ntmps15
  go_upto_region 1 with (fail)
  obtain ⟨W1, hW1⟩ : ∃ W, W = (w.alloc (.cells #[.int .i64 k, .int .i64 a1, .int .i64 a2, .int .i64 a3, .int .i64 b1, .int .i64 b2, .int .i64 b3, .int .i64 c1, .int .i64 c2, .int .i64 c3, .int .i64 r, .int .i64 m] 25)).alloc (.cells #[.int .i64 0, .int .i64 0, .int .i64 0] 23) := ⟨_, rfl⟩
  obtain ⟨k_p, k_r, B1⟩ := st2 hW1
  rw [← hW1]
  clear hW1
  have l_r : w.heap.size < w.heap.size + 1 := by omega
  generalize w.heap.size + 1 = g_r at *
  obtain ⟨c_p_0, c_p_1, c_p_2, c_p_3, c_p_4, c_p_5, c_p_6, c_p_7, c_p_8, c_p_9, c_p_10, c_p_11⟩ := bwc12 (k_p)
  obtain ⟨c_r_0, c_r_1, c_r_2⟩ := bwc3 (k_r)
  obtain ⟨p1, hp1⟩ : ∃ p : BW W1, p.w = W1 := ⟨BW.start W1, rfl⟩
  rw [← hp1]
  clear hp1
  go_upto_region 7 with (first
    | (go_at_call 21; (first | (with_reducible refine (bw_call K.out _).mono ?_)); rintro e w' ⟨rfl, q, rfl⟩))
  obtain ⟨W2, hW2⟩ : ∃ W, W = q.w.alloc (.cells #[.int .i64 a1, .int .i64 a2, .int .i64 a3, .int .i64 r] 55) := ⟨_, rfl⟩
  have B2 : Below w.heap.size w W2 := by rw [hW2]; exact (bw_below B1 q).alloc (bw_below B1 q).size _
  have l_s : g_r < q.w.heap.size := (k_r.below q.h).lt
  have o_s : w.heap.size ≤ q.w.heap.size := (bw_below B1 q).size
  have k_p := bka hW2 (k_p.below q.h)
  have k_r := bka hW2 (k_r.below q.h)
  have k_s := bkn hW2
  rw [← hW2]
  clear hW2
  clear B1
  clear c_p_0 c_p_1 c_p_2 c_p_3 c_p_4 c_p_5 c_p_6 c_p_7 c_p_8 c_p_9 c_p_10 c_p_11 c_r_0 c_r_1 c_r_2
  generalize q.w.heap.size = g_s at *
  obtain ⟨c_p_0, c_p_1, c_p_2, c_p_3, c_p_4, c_p_5, c_p_6, c_p_7, c_p_8, c_p_9, c_p_10, c_p_11⟩ := bwc12 (k_p)
  obtain ⟨c_r_0, c_r_1, c_r_2⟩ := bwc3 (k_r)
  obtain ⟨f_r_0, f_r_1, f_r_2⟩ := bwf3 (k_r)
  obtain ⟨c_s_0, c_s_1, c_s_2, c_s_3⟩ := bwc4 (k_s)
  obtain ⟨p2, hp2⟩ : ∃ p : BW W2, p.w = W2 := ⟨BW.start W2, rfl⟩
  rw [← hp2]
  clear hp2
  go_wp2
  have kr := bkp3 (k_r.below p2.h) (.int .i64 a1) (.int .i64 a2) (.int .i64 a3)
  obtain ⟨rc0, rc1, rc2⟩ := rwc3 kr
  exact bodyPost_ret (v := .agg #[.int .i64 a1, .int .i64 a2, .int .i64 a3]) (by simp [results, Tryz.results15, go_sem, rc0, rc1, rc2]) rfl ⟨rfl, blp3 (bw_below B2 p2) (by omega)⟩

theorem prim_Point (k a1 a2 a3 b1 b2 b3 c1 c2 c3 r m u v : Int) (w : World) (hp : Pr.I (Pr.mk k (a1, a2, a3) (b1, b2, b3) (c1, c2, c3) r m)) (hu : I64 u) (hv : I64 v) :
    Calls Tryz.prog 15 #[.agg #[.int .i64 k, .int .i64 a1, .int .i64 a2, .int .i64 a3, .int .i64 b1, .int .i64 b2, .int .i64 b3, .int .i64 c1, .int .i64 c2, .int .i64 c3, .int .i64 r, .int .i64 m], .int .i64 u, .int .i64 v] w fun en w' => en = .returned (.agg #[.int .i64 (pPoint (Pr.mk k (a1, a2, a3) (b1, b2, b3) (c1, c2, c3) r m) u v).1, .int .i64 (pPoint (Pr.mk k (a1, a2, a3) (b1, b2, b3) (c1, c2, c3) r m) u v).2.1, .int .i64 (pPoint (Pr.mk k (a1, a2, a3) (b1, b2, b3) (c1, c2, c3) r m) u v).2.2]) ∧ Below w.heap.size w w' := by
  have K := Lib.hid (fun w => prim_shapeOf k a1 a2 a3 b1 b2 b3 c1 c2 c3 r m w hp)
  unfold prSh at K
  unfold pPoint
  by_cases h : pRight (Pr.mk k (a1, a2, a3) (b1, b2, b3) (c1, c2, c3) r m) = true
  · rw [if_pos h] at K ⊢
    by_cases hk : k = 1
    · rw [if_pos hk] at K
      rw [if_neg (by dsimp only; omega)]
      exact prim_Point_tri k a1 a2 a3 b1 b2 b3 c1 c2 c3 r m u v w K hp.2.1 hp.2.2.1 hp.2.2.2.1 hu hv
    · rw [if_neg hk] at K
      rw [if_pos (pRight_ball h hk).1]
      exact prim_Point_sph k a1 a2 a3 b1 b2 b3 c1 c2 c3 r m u v w K
  · rw [if_neg h] at K ⊢
    exact prim_Point_no k a1 a2 a3 b1 b2 b3 c1 c2 c3 r m u v w K

end Go.Proofs.YtdmfmdekcojjbaaGreat
