/- The walk of the statement PoseNone. -/
import Derived.Test.YtnoaljfdbfbhmaaAwake08
import Derived.Test.YtnoaljfdbfbhmaaRef06
import Derived.Test.YtnoaljfdbfbhmaaTail
import Derived.Test.YtnoaljfdbfbhmaaFloat
import Derived.Deep.DeepCutAuto
namespace Go.Proofs.Ytnoaljfdbfbhmaa
open Go.RowKit Go.Proofs.Sky
set_option linter.unusedVariables false

theorem u8_of_wf {a : Int} (h : (Lit.int .u8 a).wf = true) : 0 ≤ a ∧ a ≤ 255 := by
  simp [Lit.wf, IntKind.min, IntKind.max, IntKind.signed, IntKind.bits] at h
  omega

set_option maxRecDepth 100000 in
set_option maxHeartbeats 8000000 in
theorem law_PoseNone_far (a x y z n : Int) (w : World) (ha : 0 ≤ a ∧ a ≤ 255) (hn : 0 ≤ n ∧ n ≤ 255) (h : nrT (x, y, z) = false) :
    Calls Try.prog 5 #[.int .u8 a, .agg #[.int .i64 x, .int .i64 y, .int .i64 z], .int .u8 n] w fun r w' => r = .returned (.bool true) ∧ Below w.heap.size w w' := by
  have HA := Lib.hid (fun w => awake08 w)
  have N1 := Lib.hid (fun w => pose_None w)
  obtain ⟨ax, hax⟩ : ∃ t, t = a.tmod 3 := ⟨_, rfl⟩
  have x0 : 0 ≤ ax ∧ ax < 3 := by rw [hax, Int.tmod_eq_emod_of_nonneg (by omega)]; omega
  have j1 : a.tmod 3 = ax := hax.symm
  have wa : wrap64 a = a := IntWalk.wrap64_in _ (by omega)
  have wn : wrap64 n = n := IntWalk.wrap64_in _ (by omega)
  have U1 := Lib.hid (fun w => pose_Turned ax 16384 w (by unfold I64; omega))
  have U2 := Lib.hid (fun w => pose_Turned ax 32768 w (by unfold I64; omega))
  obtain ⟨_, f2, f3⟩ := four_quarters x0.1 x0.2
  generalize pTurned ax 16384 = Q at *
  generalize pTurned ax 32768 = H at *
  obtain ⟨⟨q1, q2, q3⟩, ⟨q4, q5, q6⟩, ⟨q7, q8, q9⟩, ⟨q10, q11, q12⟩⟩ := Q
  obtain ⟨⟨h1, h2, h3⟩, ⟨h4, h5, h6⟩, ⟨h7, h8, h9⟩, ⟨h10, h11, h12⟩⟩ := H
  unfold p12 at U1 U2
  dsimp only at U1 U2
  have T1 := Lib.hid (fun w => pose_Then q1 q2 q3 q4 q5 q6 q7 q8 q9 q10 q11 q12 q1 q2 q3 q4 q5 q6 q7 q8 q9 q10 q11 q12 w)
  rw [f3] at T1
  have T2 := Lib.hid (fun w => pose_Then h1 h2 h3 h4 h5 h6 h7 h8 h9 h10 h11 h12 h1 h2 h3 h4 h5 h6 h7 h8 h9 h10 h11 h12 w)
  rw [f2] at T2
  unfold p12 pNone at T2
  unfold p12 at T1
  dsimp only at T1 T2
  have NR := Lib.hid (fun w => ref6_Near x y z w)
  rw [show vnear x y z = _ from h] at NR
  have P1 := Lib.hid (fun w => pose_Put q1 q2 q3 q4 q5 q6 q7 q8 q9 q10 q11 q12 x y z w)
  rw [pPut_far h] at P1
  dsimp only at P1
  clear f2 f3 hax h
  clear x0 ha hn
  go_enter Try.func5, Try.ntmps5
  go_upto_region 1 with (fail)
  obtain ⟨W1, hW1⟩ : ∃ W, W = w.alloc (.cells #[.int .i64 x, .int .i64 y, .int .i64 z] 23) := ⟨_, rfl⟩
  have B1 : Below w.heap.size w W1 := by rw [hW1]; go_grown
  have k_v : Bk W1 (w.heap.size) 23 #[.int .i64 x, .int .i64 y, .int .i64 z] := by rw [hW1]; exact Bk.new _ _ _
  rw [← hW1]
  clear hW1
  have c_v_0 : ∀ p : BW W1, p.w.cell? ⟨w.heap.size, 0, none⟩ = some (.int .i64 x) := bw_cell (k_v.cell rfl)
  have c_v_1 : ∀ p : BW W1, p.w.cell? ⟨w.heap.size, 1, none⟩ = some (.int .i64 y) := bw_cell (k_v.cell rfl)
  have c_v_2 : ∀ p : BW W1, p.w.cell? ⟨w.heap.size, 2, none⟩ = some (.int .i64 z) := bw_cell (k_v.cell rfl)
  obtain ⟨p1, hp1⟩ : ∃ p : BW W1, p.w = W1 := ⟨BW.start W1, rfl⟩
  rw [← hp1]
  clear hp1
  go_upto_region 2 with (first
    | (go_at_call 12; (first | (with_reducible refine (bw_call U1.out _).mono ?_)); rintro e w' ⟨rfl, q, rfl⟩))
  obtain ⟨W2, hW2⟩ : ∃ W, W = q.w.alloc (.cells #[.int .i64 q1, .int .i64 q2, .int .i64 q3, .int .i64 q4, .int .i64 q5, .int .i64 q6, .int .i64 q7, .int .i64 q8, .int .i64 q9, .int .i64 q10, .int .i64 q11, .int .i64 q12] 29) := ⟨_, rfl⟩
  have B2 : Below w.heap.size w W2 := by rw [hW2]; exact (bw_below B1 q).alloc (bw_below B1 q).size _
  have l_q : w.heap.size < q.w.heap.size := (k_v.below q.h).lt
  have k_v := (k_v.below q.h).alloc (.cells #[.int .i64 q1, .int .i64 q2, .int .i64 q3, .int .i64 q4, .int .i64 q5, .int .i64 q6, .int .i64 q7, .int .i64 q8, .int .i64 q9, .int .i64 q10, .int .i64 q11, .int .i64 q12] 29)
  rw [← hW2] at k_v
  have k_q : Bk W2 q.w.heap.size 29 #[.int .i64 q1, .int .i64 q2, .int .i64 q3, .int .i64 q4, .int .i64 q5, .int .i64 q6, .int .i64 q7, .int .i64 q8, .int .i64 q9, .int .i64 q10, .int .i64 q11, .int .i64 q12] := by rw [hW2]; exact Bk.new _ _ _
  rw [← hW2]
  clear hW2
  clear B1
  clear c_v_0 c_v_1 c_v_2
  generalize q.w.heap.size = g_q at *
  have c_v_0 : ∀ p : BW W2, p.w.cell? ⟨w.heap.size, 0, none⟩ = some (.int .i64 x) := bw_cell (k_v.cell rfl)
  have c_v_1 : ∀ p : BW W2, p.w.cell? ⟨w.heap.size, 1, none⟩ = some (.int .i64 y) := bw_cell (k_v.cell rfl)
  have c_v_2 : ∀ p : BW W2, p.w.cell? ⟨w.heap.size, 2, none⟩ = some (.int .i64 z) := bw_cell (k_v.cell rfl)
  have c_q_0 : ∀ p : BW W2, p.w.cell? ⟨g_q, 0, none⟩ = some (.int .i64 q1) := bw_cell (k_q.cell rfl)
  have c_q_1 : ∀ p : BW W2, p.w.cell? ⟨g_q, 1, none⟩ = some (.int .i64 q2) := bw_cell (k_q.cell rfl)
  have c_q_2 : ∀ p : BW W2, p.w.cell? ⟨g_q, 2, none⟩ = some (.int .i64 q3) := bw_cell (k_q.cell rfl)
  have c_q_3 : ∀ p : BW W2, p.w.cell? ⟨g_q, 3, none⟩ = some (.int .i64 q4) := bw_cell (k_q.cell rfl)
  have c_q_4 : ∀ p : BW W2, p.w.cell? ⟨g_q, 4, none⟩ = some (.int .i64 q5) := bw_cell (k_q.cell rfl)
  have c_q_5 : ∀ p : BW W2, p.w.cell? ⟨g_q, 5, none⟩ = some (.int .i64 q6) := bw_cell (k_q.cell rfl)
  have c_q_6 : ∀ p : BW W2, p.w.cell? ⟨g_q, 6, none⟩ = some (.int .i64 q7) := bw_cell (k_q.cell rfl)
  have c_q_7 : ∀ p : BW W2, p.w.cell? ⟨g_q, 7, none⟩ = some (.int .i64 q8) := bw_cell (k_q.cell rfl)
  have c_q_8 : ∀ p : BW W2, p.w.cell? ⟨g_q, 8, none⟩ = some (.int .i64 q9) := bw_cell (k_q.cell rfl)
  have c_q_9 : ∀ p : BW W2, p.w.cell? ⟨g_q, 9, none⟩ = some (.int .i64 q10) := bw_cell (k_q.cell rfl)
  have c_q_10 : ∀ p : BW W2, p.w.cell? ⟨g_q, 10, none⟩ = some (.int .i64 q11) := bw_cell (k_q.cell rfl)
  have c_q_11 : ∀ p : BW W2, p.w.cell? ⟨g_q, 11, none⟩ = some (.int .i64 q12) := bw_cell (k_q.cell rfl)
  obtain ⟨p2, hp2⟩ : ∃ p : BW W2, p.w = W2 := ⟨BW.start W2, rfl⟩
  rw [← hp2]
  clear hp2
  go_upto_region 3 with (first
    | (go_at_call 12; (first | (with_reducible refine (bw_call U2.out _).mono ?_)); rintro e w' ⟨rfl, q, rfl⟩))
  obtain ⟨W3, hW3⟩ : ∃ W, W = q.w.alloc (.cells #[.int .i64 h1, .int .i64 h2, .int .i64 h3, .int .i64 h4, .int .i64 h5, .int .i64 h6, .int .i64 h7, .int .i64 h8, .int .i64 h9, .int .i64 h10, .int .i64 h11, .int .i64 h12] 29) := ⟨_, rfl⟩
  have B3 : Below w.heap.size w W3 := by rw [hW3]; exact (bw_below B2 q).alloc (bw_below B2 q).size _
  have l_h : g_q < q.w.heap.size := (k_q.below q.h).lt
  have k_v := (k_v.below q.h).alloc (.cells #[.int .i64 h1, .int .i64 h2, .int .i64 h3, .int .i64 h4, .int .i64 h5, .int .i64 h6, .int .i64 h7, .int .i64 h8, .int .i64 h9, .int .i64 h10, .int .i64 h11, .int .i64 h12] 29)
  rw [← hW3] at k_v
  have k_q := (k_q.below q.h).alloc (.cells #[.int .i64 h1, .int .i64 h2, .int .i64 h3, .int .i64 h4, .int .i64 h5, .int .i64 h6, .int .i64 h7, .int .i64 h8, .int .i64 h9, .int .i64 h10, .int .i64 h11, .int .i64 h12] 29)
  rw [← hW3] at k_q
  have k_h : Bk W3 q.w.heap.size 29 #[.int .i64 h1, .int .i64 h2, .int .i64 h3, .int .i64 h4, .int .i64 h5, .int .i64 h6, .int .i64 h7, .int .i64 h8, .int .i64 h9, .int .i64 h10, .int .i64 h11, .int .i64 h12] := by rw [hW3]; exact Bk.new _ _ _
  rw [← hW3]
  clear hW3
  clear B2
  clear c_v_0 c_v_1 c_v_2 c_q_0 c_q_1 c_q_2 c_q_3 c_q_4 c_q_5 c_q_6 c_q_7 c_q_8 c_q_9 c_q_10 c_q_11
  generalize q.w.heap.size = g_h at *
  have c_v_0 : ∀ p : BW W3, p.w.cell? ⟨w.heap.size, 0, none⟩ = some (.int .i64 x) := bw_cell (k_v.cell rfl)
  have c_v_1 : ∀ p : BW W3, p.w.cell? ⟨w.heap.size, 1, none⟩ = some (.int .i64 y) := bw_cell (k_v.cell rfl)
  have c_v_2 : ∀ p : BW W3, p.w.cell? ⟨w.heap.size, 2, none⟩ = some (.int .i64 z) := bw_cell (k_v.cell rfl)
  have c_q_0 : ∀ p : BW W3, p.w.cell? ⟨g_q, 0, none⟩ = some (.int .i64 q1) := bw_cell (k_q.cell rfl)
  have c_q_1 : ∀ p : BW W3, p.w.cell? ⟨g_q, 1, none⟩ = some (.int .i64 q2) := bw_cell (k_q.cell rfl)
  have c_q_2 : ∀ p : BW W3, p.w.cell? ⟨g_q, 2, none⟩ = some (.int .i64 q3) := bw_cell (k_q.cell rfl)
  have c_q_3 : ∀ p : BW W3, p.w.cell? ⟨g_q, 3, none⟩ = some (.int .i64 q4) := bw_cell (k_q.cell rfl)
  have c_q_4 : ∀ p : BW W3, p.w.cell? ⟨g_q, 4, none⟩ = some (.int .i64 q5) := bw_cell (k_q.cell rfl)
  have c_q_5 : ∀ p : BW W3, p.w.cell? ⟨g_q, 5, none⟩ = some (.int .i64 q6) := bw_cell (k_q.cell rfl)
  have c_q_6 : ∀ p : BW W3, p.w.cell? ⟨g_q, 6, none⟩ = some (.int .i64 q7) := bw_cell (k_q.cell rfl)
  have c_q_7 : ∀ p : BW W3, p.w.cell? ⟨g_q, 7, none⟩ = some (.int .i64 q8) := bw_cell (k_q.cell rfl)
  have c_q_8 : ∀ p : BW W3, p.w.cell? ⟨g_q, 8, none⟩ = some (.int .i64 q9) := bw_cell (k_q.cell rfl)
  have c_q_9 : ∀ p : BW W3, p.w.cell? ⟨g_q, 9, none⟩ = some (.int .i64 q10) := bw_cell (k_q.cell rfl)
  have c_q_10 : ∀ p : BW W3, p.w.cell? ⟨g_q, 10, none⟩ = some (.int .i64 q11) := bw_cell (k_q.cell rfl)
  have c_q_11 : ∀ p : BW W3, p.w.cell? ⟨g_q, 11, none⟩ = some (.int .i64 q12) := bw_cell (k_q.cell rfl)
  have c_h_0 : ∀ p : BW W3, p.w.cell? ⟨g_h, 0, none⟩ = some (.int .i64 h1) := bw_cell (k_h.cell rfl)
  have c_h_1 : ∀ p : BW W3, p.w.cell? ⟨g_h, 1, none⟩ = some (.int .i64 h2) := bw_cell (k_h.cell rfl)
  have c_h_2 : ∀ p : BW W3, p.w.cell? ⟨g_h, 2, none⟩ = some (.int .i64 h3) := bw_cell (k_h.cell rfl)
  have c_h_3 : ∀ p : BW W3, p.w.cell? ⟨g_h, 3, none⟩ = some (.int .i64 h4) := bw_cell (k_h.cell rfl)
  have c_h_4 : ∀ p : BW W3, p.w.cell? ⟨g_h, 4, none⟩ = some (.int .i64 h5) := bw_cell (k_h.cell rfl)
  have c_h_5 : ∀ p : BW W3, p.w.cell? ⟨g_h, 5, none⟩ = some (.int .i64 h6) := bw_cell (k_h.cell rfl)
  have c_h_6 : ∀ p : BW W3, p.w.cell? ⟨g_h, 6, none⟩ = some (.int .i64 h7) := bw_cell (k_h.cell rfl)
  have c_h_7 : ∀ p : BW W3, p.w.cell? ⟨g_h, 7, none⟩ = some (.int .i64 h8) := bw_cell (k_h.cell rfl)
  have c_h_8 : ∀ p : BW W3, p.w.cell? ⟨g_h, 8, none⟩ = some (.int .i64 h9) := bw_cell (k_h.cell rfl)
  have c_h_9 : ∀ p : BW W3, p.w.cell? ⟨g_h, 9, none⟩ = some (.int .i64 h10) := bw_cell (k_h.cell rfl)
  have c_h_10 : ∀ p : BW W3, p.w.cell? ⟨g_h, 10, none⟩ = some (.int .i64 h11) := bw_cell (k_h.cell rfl)
  have c_h_11 : ∀ p : BW W3, p.w.cell? ⟨g_h, 11, none⟩ = some (.int .i64 h12) := bw_cell (k_h.cell rfl)
  obtain ⟨p3, hp3⟩ : ∃ p : BW W3, p.w = W3 := ⟨BW.start W3, rfl⟩
  rw [← hp3]
  clear hp3
  refine wp_region_bw (by kernel_rfl) (by kernel_rfl) ?_
  repeat (go_big_quiet_step (first
    | (go_at_call 16; (first | (with_reducible exact bw_call T1.out _) | (with_reducible exact bw_call T2.out _)))
    | (go_at_call 10; (first | (with_reducible exact bw_call N1.out _)))))
  refine wpQuiet_nil ?_
  intro _ hw'
  obtain ⟨q, rfl⟩ := hw'
  go_wp2_with (first
    | (go_at_call 23; (first | (with_reducible refine (bw_call NR.out _).mono ?_)); rintro e w' ⟨rfl, q, rfl⟩)
    | (go_at_call 20; (first | (with_reducible refine (bw_call P1.out _).mono ?_)); rintro e w' ⟨rfl, q, rfl⟩)
    | (go_at_call 6; (first | (with_reducible refine (bw_call HA.out _).mono ?_)); rintro e w' ⟨rfl, q, rfl⟩))
  go_ret
  exact ⟨rfl, bw_below B3 _⟩

set_option maxRecDepth 100000 in
set_option maxHeartbeats 8000000 in
theorem law_PoseNone_near (a x y z n : Int) (w : World) (ha : 0 ≤ a ∧ a ≤ 255) (hn : 0 ≤ n ∧ n ≤ 255) (h : nrT (x, y, z) = true) :
    Calls Try.prog 5 #[.int .u8 a, .agg #[.int .i64 x, .int .i64 y, .int .i64 z], .int .u8 n] w fun r w' => r = .returned (.bool true) ∧ Below w.heap.size w w' := by
  have HA := Lib.hid (fun w => awake08 w)
  have N1 := Lib.hid (fun w => pose_None w)
  obtain ⟨ax, hax⟩ : ∃ t, t = a.tmod 3 := ⟨_, rfl⟩
  have x0 : 0 ≤ ax ∧ ax < 3 := by rw [hax, Int.tmod_eq_emod_of_nonneg (by omega)]; omega
  have j1 : a.tmod 3 = ax := hax.symm
  have wa : wrap64 a = a := IntWalk.wrap64_in _ (by omega)
  have wn : wrap64 n = n := IntWalk.wrap64_in _ (by omega)
  have U1 := Lib.hid (fun w => pose_Turned ax 16384 w (by unfold I64; omega))
  have U2 := Lib.hid (fun w => pose_Turned ax 32768 w (by unfold I64; omega))
  obtain ⟨_, f2, f3⟩ := four_quarters x0.1 x0.2
  generalize pTurned ax 16384 = Q at *
  generalize pTurned ax 32768 = H at *
  obtain ⟨⟨q1, q2, q3⟩, ⟨q4, q5, q6⟩, ⟨q7, q8, q9⟩, ⟨q10, q11, q12⟩⟩ := Q
  obtain ⟨⟨h1, h2, h3⟩, ⟨h4, h5, h6⟩, ⟨h7, h8, h9⟩, ⟨h10, h11, h12⟩⟩ := H
  unfold p12 at U1 U2
  dsimp only at U1 U2
  have T1 := Lib.hid (fun w => pose_Then q1 q2 q3 q4 q5 q6 q7 q8 q9 q10 q11 q12 q1 q2 q3 q4 q5 q6 q7 q8 q9 q10 q11 q12 w)
  rw [f3] at T1
  have T2 := Lib.hid (fun w => pose_Then h1 h2 h3 h4 h5 h6 h7 h8 h9 h10 h11 h12 h1 h2 h3 h4 h5 h6 h7 h8 h9 h10 h11 h12 w)
  rw [f2] at T2
  unfold p12 pNone at T2
  unfold p12 at T1
  dsimp only at T1 T2
  have NR := Lib.hid (fun w => ref6_Near x y z w)
  rw [show vnear x y z = _ from h] at NR
  obtain ⟨m, hm⟩ : ∃ t, t = n.tmod 8 := ⟨_, rfl⟩
  have m0 : 0 ≤ m ∧ m < 8 := by rw [hm, Int.tmod_eq_emod_of_nonneg (by omega)]; omega
  have j2 : n.tmod 8 = m := hm.symm
  obtain ⟨k, hk⟩ : ∃ k, k = 1 + m := ⟨_, rfl⟩
  have k0 : 1 ≤ k ∧ k ≤ 8 := by omega
  have S1 := Lib.hid (fun w => pose_Sized k 1 w (by unfold I64; omega) (by unfold I64; omega))
  rw [pSized_k k0] at S1
  unfold p12 pNone at S1
  dsimp only at S1
  have P2 := Lib.hid (fun w => pose_Put (16384 * k) 0 0 0 (16384 * k) 0 0 0 (16384 * k) 0 0 0 x y z w)
  rw [show (((16384 * k, 0, 0), (0, 16384 * k, 0), (0, 0, 16384 * k), (0, 0, 0)) : P4) = pNone (16384 * k) from rfl, pPut_none k0 h] at P2
  dsimp only at P2
  have P3 := Lib.hid (fun w => pose_Put 16384 0 0 0 16384 0 0 0 16384 0 0 0 x y z w)
  rw [show (((16384, 0, 0), (0, 16384, 0), (0, 0, 16384), (0, 0, 0)) : P4) = pNone (16384 * 1) from rfl, pPut_none (k := 1) (by omega) h] at P3
  dsimp only at P3
  rw [Int.one_mul, Int.one_mul, Int.one_mul] at P3
  unfold nrT at h
  rw [vnear_iff] at h
  dsimp only at h
  have mk : ∀ t : Int, -1048576 ≤ t ∧ t ≤ 1048576 → -8388608 ≤ k * t ∧ k * t ≤ 8388608 := fun t ht => mul_in (N := 8) (M := 1048576) (by omega) ht
  have mx := mk x (by omega)
  have my := mk y (by omega)
  have mz := mk z (by omega)
  obtain ⟨kx, hx⟩ : ∃ t, t = k * x := ⟨_, rfl⟩
  have wx : wrap64 (k * x) = kx := by rw [hx]; exact IntWalk.wrap64_in _ (by omega)
  obtain ⟨ky, hy⟩ : ∃ t, t = k * y := ⟨_, rfl⟩
  have wy : wrap64 (k * y) = ky := by rw [hy]; exact IntWalk.wrap64_in _ (by omega)
  obtain ⟨kz, hz⟩ : ∃ t, t = k * z := ⟨_, rfl⟩
  have wz : wrap64 (k * z) = kz := by rw [hz]; exact IntWalk.wrap64_in _ (by omega)
  have vx : IntKind.i64.wrap (k * x) = kx := by rw [hx, i64w]; omega
  have vy : IntKind.i64.wrap (k * y) = ky := by rw [hy, i64w]; omega
  have vz : IntKind.i64.wrap (k * z) = kz := by rw [hz, i64w]; omega
  have j3 : 1 + m = k := hk.symm
  have j4 : wrap64 k = k := IntWalk.wrap64_in _ (by omega)
  generalize 16384 * k = kk at *
  rw [← hx] at P2
  rw [← hy] at P2
  rw [← hz] at P2
  clear mk mx my mz hx hy hz f2 f3 hax h hm hk k0 m0
  clear x0 ha hn
  go_enter Try.func5, Try.ntmps5
  go_upto_region 1 with (fail)
  obtain ⟨W1, hW1⟩ : ∃ W, W = w.alloc (.cells #[.int .i64 x, .int .i64 y, .int .i64 z] 23) := ⟨_, rfl⟩
  have B1 : Below w.heap.size w W1 := by rw [hW1]; go_grown
  have k_v : Bk W1 (w.heap.size) 23 #[.int .i64 x, .int .i64 y, .int .i64 z] := by rw [hW1]; exact Bk.new _ _ _
  rw [← hW1]
  clear hW1
  have c_v_0 : ∀ p : BW W1, p.w.cell? ⟨w.heap.size, 0, none⟩ = some (.int .i64 x) := bw_cell (k_v.cell rfl)
  have c_v_1 : ∀ p : BW W1, p.w.cell? ⟨w.heap.size, 1, none⟩ = some (.int .i64 y) := bw_cell (k_v.cell rfl)
  have c_v_2 : ∀ p : BW W1, p.w.cell? ⟨w.heap.size, 2, none⟩ = some (.int .i64 z) := bw_cell (k_v.cell rfl)
  obtain ⟨p1, hp1⟩ : ∃ p : BW W1, p.w = W1 := ⟨BW.start W1, rfl⟩
  rw [← hp1]
  clear hp1
  go_upto_region 2 with (first
    | (go_at_call 12; (first | (with_reducible refine (bw_call U1.out _).mono ?_)); rintro e w' ⟨rfl, q, rfl⟩))
  obtain ⟨W2, hW2⟩ : ∃ W, W = q.w.alloc (.cells #[.int .i64 q1, .int .i64 q2, .int .i64 q3, .int .i64 q4, .int .i64 q5, .int .i64 q6, .int .i64 q7, .int .i64 q8, .int .i64 q9, .int .i64 q10, .int .i64 q11, .int .i64 q12] 29) := ⟨_, rfl⟩
  have B2 : Below w.heap.size w W2 := by rw [hW2]; exact (bw_below B1 q).alloc (bw_below B1 q).size _
  have l_q : w.heap.size < q.w.heap.size := (k_v.below q.h).lt
  have k_v := (k_v.below q.h).alloc (.cells #[.int .i64 q1, .int .i64 q2, .int .i64 q3, .int .i64 q4, .int .i64 q5, .int .i64 q6, .int .i64 q7, .int .i64 q8, .int .i64 q9, .int .i64 q10, .int .i64 q11, .int .i64 q12] 29)
  rw [← hW2] at k_v
  have k_q : Bk W2 q.w.heap.size 29 #[.int .i64 q1, .int .i64 q2, .int .i64 q3, .int .i64 q4, .int .i64 q5, .int .i64 q6, .int .i64 q7, .int .i64 q8, .int .i64 q9, .int .i64 q10, .int .i64 q11, .int .i64 q12] := by rw [hW2]; exact Bk.new _ _ _
  rw [← hW2]
  clear hW2
  clear B1
  clear c_v_0 c_v_1 c_v_2
  generalize q.w.heap.size = g_q at *
  have c_v_0 : ∀ p : BW W2, p.w.cell? ⟨w.heap.size, 0, none⟩ = some (.int .i64 x) := bw_cell (k_v.cell rfl)
  have c_v_1 : ∀ p : BW W2, p.w.cell? ⟨w.heap.size, 1, none⟩ = some (.int .i64 y) := bw_cell (k_v.cell rfl)
  have c_v_2 : ∀ p : BW W2, p.w.cell? ⟨w.heap.size, 2, none⟩ = some (.int .i64 z) := bw_cell (k_v.cell rfl)
  have c_q_0 : ∀ p : BW W2, p.w.cell? ⟨g_q, 0, none⟩ = some (.int .i64 q1) := bw_cell (k_q.cell rfl)
  have c_q_1 : ∀ p : BW W2, p.w.cell? ⟨g_q, 1, none⟩ = some (.int .i64 q2) := bw_cell (k_q.cell rfl)
  have c_q_2 : ∀ p : BW W2, p.w.cell? ⟨g_q, 2, none⟩ = some (.int .i64 q3) := bw_cell (k_q.cell rfl)
  have c_q_3 : ∀ p : BW W2, p.w.cell? ⟨g_q, 3, none⟩ = some (.int .i64 q4) := bw_cell (k_q.cell rfl)
  have c_q_4 : ∀ p : BW W2, p.w.cell? ⟨g_q, 4, none⟩ = some (.int .i64 q5) := bw_cell (k_q.cell rfl)
  have c_q_5 : ∀ p : BW W2, p.w.cell? ⟨g_q, 5, none⟩ = some (.int .i64 q6) := bw_cell (k_q.cell rfl)
  have c_q_6 : ∀ p : BW W2, p.w.cell? ⟨g_q, 6, none⟩ = some (.int .i64 q7) := bw_cell (k_q.cell rfl)
  have c_q_7 : ∀ p : BW W2, p.w.cell? ⟨g_q, 7, none⟩ = some (.int .i64 q8) := bw_cell (k_q.cell rfl)
  have c_q_8 : ∀ p : BW W2, p.w.cell? ⟨g_q, 8, none⟩ = some (.int .i64 q9) := bw_cell (k_q.cell rfl)
  have c_q_9 : ∀ p : BW W2, p.w.cell? ⟨g_q, 9, none⟩ = some (.int .i64 q10) := bw_cell (k_q.cell rfl)
  have c_q_10 : ∀ p : BW W2, p.w.cell? ⟨g_q, 10, none⟩ = some (.int .i64 q11) := bw_cell (k_q.cell rfl)
  have c_q_11 : ∀ p : BW W2, p.w.cell? ⟨g_q, 11, none⟩ = some (.int .i64 q12) := bw_cell (k_q.cell rfl)
  obtain ⟨p2, hp2⟩ : ∃ p : BW W2, p.w = W2 := ⟨BW.start W2, rfl⟩
  rw [← hp2]
  clear hp2
  go_upto_region 3 with (first
    | (go_at_call 12; (first | (with_reducible refine (bw_call U2.out _).mono ?_)); rintro e w' ⟨rfl, q, rfl⟩))
  obtain ⟨W3, hW3⟩ : ∃ W, W = q.w.alloc (.cells #[.int .i64 h1, .int .i64 h2, .int .i64 h3, .int .i64 h4, .int .i64 h5, .int .i64 h6, .int .i64 h7, .int .i64 h8, .int .i64 h9, .int .i64 h10, .int .i64 h11, .int .i64 h12] 29) := ⟨_, rfl⟩
  have B3 : Below w.heap.size w W3 := by rw [hW3]; exact (bw_below B2 q).alloc (bw_below B2 q).size _
  have l_h : g_q < q.w.heap.size := (k_q.below q.h).lt
  have k_v := (k_v.below q.h).alloc (.cells #[.int .i64 h1, .int .i64 h2, .int .i64 h3, .int .i64 h4, .int .i64 h5, .int .i64 h6, .int .i64 h7, .int .i64 h8, .int .i64 h9, .int .i64 h10, .int .i64 h11, .int .i64 h12] 29)
  rw [← hW3] at k_v
  have k_q := (k_q.below q.h).alloc (.cells #[.int .i64 h1, .int .i64 h2, .int .i64 h3, .int .i64 h4, .int .i64 h5, .int .i64 h6, .int .i64 h7, .int .i64 h8, .int .i64 h9, .int .i64 h10, .int .i64 h11, .int .i64 h12] 29)
  rw [← hW3] at k_q
  have k_h : Bk W3 q.w.heap.size 29 #[.int .i64 h1, .int .i64 h2, .int .i64 h3, .int .i64 h4, .int .i64 h5, .int .i64 h6, .int .i64 h7, .int .i64 h8, .int .i64 h9, .int .i64 h10, .int .i64 h11, .int .i64 h12] := by rw [hW3]; exact Bk.new _ _ _
  rw [← hW3]
  clear hW3
  clear B2
  clear c_v_0 c_v_1 c_v_2 c_q_0 c_q_1 c_q_2 c_q_3 c_q_4 c_q_5 c_q_6 c_q_7 c_q_8 c_q_9 c_q_10 c_q_11
  generalize q.w.heap.size = g_h at *
  have c_v_0 : ∀ p : BW W3, p.w.cell? ⟨w.heap.size, 0, none⟩ = some (.int .i64 x) := bw_cell (k_v.cell rfl)
  have c_v_1 : ∀ p : BW W3, p.w.cell? ⟨w.heap.size, 1, none⟩ = some (.int .i64 y) := bw_cell (k_v.cell rfl)
  have c_v_2 : ∀ p : BW W3, p.w.cell? ⟨w.heap.size, 2, none⟩ = some (.int .i64 z) := bw_cell (k_v.cell rfl)
  have c_q_0 : ∀ p : BW W3, p.w.cell? ⟨g_q, 0, none⟩ = some (.int .i64 q1) := bw_cell (k_q.cell rfl)
  have c_q_1 : ∀ p : BW W3, p.w.cell? ⟨g_q, 1, none⟩ = some (.int .i64 q2) := bw_cell (k_q.cell rfl)
  have c_q_2 : ∀ p : BW W3, p.w.cell? ⟨g_q, 2, none⟩ = some (.int .i64 q3) := bw_cell (k_q.cell rfl)
  have c_q_3 : ∀ p : BW W3, p.w.cell? ⟨g_q, 3, none⟩ = some (.int .i64 q4) := bw_cell (k_q.cell rfl)
  have c_q_4 : ∀ p : BW W3, p.w.cell? ⟨g_q, 4, none⟩ = some (.int .i64 q5) := bw_cell (k_q.cell rfl)
  have c_q_5 : ∀ p : BW W3, p.w.cell? ⟨g_q, 5, none⟩ = some (.int .i64 q6) := bw_cell (k_q.cell rfl)
  have c_q_6 : ∀ p : BW W3, p.w.cell? ⟨g_q, 6, none⟩ = some (.int .i64 q7) := bw_cell (k_q.cell rfl)
  have c_q_7 : ∀ p : BW W3, p.w.cell? ⟨g_q, 7, none⟩ = some (.int .i64 q8) := bw_cell (k_q.cell rfl)
  have c_q_8 : ∀ p : BW W3, p.w.cell? ⟨g_q, 8, none⟩ = some (.int .i64 q9) := bw_cell (k_q.cell rfl)
  have c_q_9 : ∀ p : BW W3, p.w.cell? ⟨g_q, 9, none⟩ = some (.int .i64 q10) := bw_cell (k_q.cell rfl)
  have c_q_10 : ∀ p : BW W3, p.w.cell? ⟨g_q, 10, none⟩ = some (.int .i64 q11) := bw_cell (k_q.cell rfl)
  have c_q_11 : ∀ p : BW W3, p.w.cell? ⟨g_q, 11, none⟩ = some (.int .i64 q12) := bw_cell (k_q.cell rfl)
  have c_h_0 : ∀ p : BW W3, p.w.cell? ⟨g_h, 0, none⟩ = some (.int .i64 h1) := bw_cell (k_h.cell rfl)
  have c_h_1 : ∀ p : BW W3, p.w.cell? ⟨g_h, 1, none⟩ = some (.int .i64 h2) := bw_cell (k_h.cell rfl)
  have c_h_2 : ∀ p : BW W3, p.w.cell? ⟨g_h, 2, none⟩ = some (.int .i64 h3) := bw_cell (k_h.cell rfl)
  have c_h_3 : ∀ p : BW W3, p.w.cell? ⟨g_h, 3, none⟩ = some (.int .i64 h4) := bw_cell (k_h.cell rfl)
  have c_h_4 : ∀ p : BW W3, p.w.cell? ⟨g_h, 4, none⟩ = some (.int .i64 h5) := bw_cell (k_h.cell rfl)
  have c_h_5 : ∀ p : BW W3, p.w.cell? ⟨g_h, 5, none⟩ = some (.int .i64 h6) := bw_cell (k_h.cell rfl)
  have c_h_6 : ∀ p : BW W3, p.w.cell? ⟨g_h, 6, none⟩ = some (.int .i64 h7) := bw_cell (k_h.cell rfl)
  have c_h_7 : ∀ p : BW W3, p.w.cell? ⟨g_h, 7, none⟩ = some (.int .i64 h8) := bw_cell (k_h.cell rfl)
  have c_h_8 : ∀ p : BW W3, p.w.cell? ⟨g_h, 8, none⟩ = some (.int .i64 h9) := bw_cell (k_h.cell rfl)
  have c_h_9 : ∀ p : BW W3, p.w.cell? ⟨g_h, 9, none⟩ = some (.int .i64 h10) := bw_cell (k_h.cell rfl)
  have c_h_10 : ∀ p : BW W3, p.w.cell? ⟨g_h, 10, none⟩ = some (.int .i64 h11) := bw_cell (k_h.cell rfl)
  have c_h_11 : ∀ p : BW W3, p.w.cell? ⟨g_h, 11, none⟩ = some (.int .i64 h12) := bw_cell (k_h.cell rfl)
  obtain ⟨p3, hp3⟩ : ∃ p : BW W3, p.w = W3 := ⟨BW.start W3, rfl⟩
  rw [← hp3]
  clear hp3
  refine wp_region_bw (by kernel_rfl) (by kernel_rfl) ?_
  repeat (go_big_quiet_step (first
    | (go_at_call 16; (first | (with_reducible exact bw_call T1.out _) | (with_reducible exact bw_call T2.out _)))
    | (go_at_call 10; (first | (with_reducible exact bw_call N1.out _)))))
  refine wpQuiet_nil ?_
  intro _ hw'
  obtain ⟨q, rfl⟩ := hw'
  go_upto_region 8 with (first
    | (go_at_call 23; (first | (with_reducible refine (bw_call NR.out _).mono ?_)); rintro e w' ⟨rfl, q, rfl⟩))
  rw [j4]
  refine wp_region_float (t := 23) (zs := #[.int .i64 0, .int .i64 0, .int .i64 0]) 5 4 10 95 (by kernel_rfl) (by kernel_rfl) (by kernel_rfl) (by kernel_rfl) (by kernel_rfl) rfl ?_ ?_
  · intro ev wx
    simp [execOp, go_sem]
  apply Exists.intro
  refine ⟨?_, ?_⟩
  · intro wb' hwb'
    have d_v_0 : ∀ q : BW wb', q.w.cell? ⟨w.heap.size, 0, none⟩ = some (.int .i64 x) := bw_cell ((k_v.below hwb').cell rfl)
    have d_v_1 : ∀ q : BW wb', q.w.cell? ⟨w.heap.size, 1, none⟩ = some (.int .i64 y) := bw_cell ((k_v.below hwb').cell rfl)
    have d_v_2 : ∀ q : BW wb', q.w.cell? ⟨w.heap.size, 2, none⟩ = some (.int .i64 z) := bw_cell ((k_v.below hwb').cell rfl)
    have d_q_0 : ∀ q : BW wb', q.w.cell? ⟨g_q, 0, none⟩ = some (.int .i64 q1) := bw_cell ((k_q.below hwb').cell rfl)
    have d_q_1 : ∀ q : BW wb', q.w.cell? ⟨g_q, 1, none⟩ = some (.int .i64 q2) := bw_cell ((k_q.below hwb').cell rfl)
    have d_q_2 : ∀ q : BW wb', q.w.cell? ⟨g_q, 2, none⟩ = some (.int .i64 q3) := bw_cell ((k_q.below hwb').cell rfl)
    have d_q_3 : ∀ q : BW wb', q.w.cell? ⟨g_q, 3, none⟩ = some (.int .i64 q4) := bw_cell ((k_q.below hwb').cell rfl)
    have d_q_4 : ∀ q : BW wb', q.w.cell? ⟨g_q, 4, none⟩ = some (.int .i64 q5) := bw_cell ((k_q.below hwb').cell rfl)
    have d_q_5 : ∀ q : BW wb', q.w.cell? ⟨g_q, 5, none⟩ = some (.int .i64 q6) := bw_cell ((k_q.below hwb').cell rfl)
    have d_q_6 : ∀ q : BW wb', q.w.cell? ⟨g_q, 6, none⟩ = some (.int .i64 q7) := bw_cell ((k_q.below hwb').cell rfl)
    have d_q_7 : ∀ q : BW wb', q.w.cell? ⟨g_q, 7, none⟩ = some (.int .i64 q8) := bw_cell ((k_q.below hwb').cell rfl)
    have d_q_8 : ∀ q : BW wb', q.w.cell? ⟨g_q, 8, none⟩ = some (.int .i64 q9) := bw_cell ((k_q.below hwb').cell rfl)
    have d_q_9 : ∀ q : BW wb', q.w.cell? ⟨g_q, 9, none⟩ = some (.int .i64 q10) := bw_cell ((k_q.below hwb').cell rfl)
    have d_q_10 : ∀ q : BW wb', q.w.cell? ⟨g_q, 10, none⟩ = some (.int .i64 q11) := bw_cell ((k_q.below hwb').cell rfl)
    have d_q_11 : ∀ q : BW wb', q.w.cell? ⟨g_q, 11, none⟩ = some (.int .i64 q12) := bw_cell ((k_q.below hwb').cell rfl)
    have d_h_0 : ∀ q : BW wb', q.w.cell? ⟨g_h, 0, none⟩ = some (.int .i64 h1) := bw_cell ((k_h.below hwb').cell rfl)
    have d_h_1 : ∀ q : BW wb', q.w.cell? ⟨g_h, 1, none⟩ = some (.int .i64 h2) := bw_cell ((k_h.below hwb').cell rfl)
    have d_h_2 : ∀ q : BW wb', q.w.cell? ⟨g_h, 2, none⟩ = some (.int .i64 h3) := bw_cell ((k_h.below hwb').cell rfl)
    have d_h_3 : ∀ q : BW wb', q.w.cell? ⟨g_h, 3, none⟩ = some (.int .i64 h4) := bw_cell ((k_h.below hwb').cell rfl)
    have d_h_4 : ∀ q : BW wb', q.w.cell? ⟨g_h, 4, none⟩ = some (.int .i64 h5) := bw_cell ((k_h.below hwb').cell rfl)
    have d_h_5 : ∀ q : BW wb', q.w.cell? ⟨g_h, 5, none⟩ = some (.int .i64 h6) := bw_cell ((k_h.below hwb').cell rfl)
    have d_h_6 : ∀ q : BW wb', q.w.cell? ⟨g_h, 6, none⟩ = some (.int .i64 h7) := bw_cell ((k_h.below hwb').cell rfl)
    have d_h_7 : ∀ q : BW wb', q.w.cell? ⟨g_h, 7, none⟩ = some (.int .i64 h8) := bw_cell ((k_h.below hwb').cell rfl)
    have d_h_8 : ∀ q : BW wb', q.w.cell? ⟨g_h, 8, none⟩ = some (.int .i64 h9) := bw_cell ((k_h.below hwb').cell rfl)
    have d_h_9 : ∀ q : BW wb', q.w.cell? ⟨g_h, 9, none⟩ = some (.int .i64 h10) := bw_cell ((k_h.below hwb').cell rfl)
    have d_h_10 : ∀ q : BW wb', q.w.cell? ⟨g_h, 10, none⟩ = some (.int .i64 h11) := bw_cell ((k_h.below hwb').cell rfl)
    have d_h_11 : ∀ q : BW wb', q.w.cell? ⟨g_h, 11, none⟩ = some (.int .i64 h12) := bw_cell ((k_h.below hwb').cell rfl)
    simp only [maskAt, List.take_succ_cons, List.take_zero]
    repeat (go_big_quiet_step (first
      | (go_at_call 14; (first | (with_reducible exact bw_call S1.out _)))
      | (go_at_call 20; (first | (with_reducible exact bw_call P2.out _)))))
    refine wpQuiet_nil ?_
    exact rfl
  intro W4 g_s hW hg k_s
  have B4 : Below w.heap.size w W4 := B3.trans (hW.mono B3.size)
  have l_s : g_h < g_s := Nat.lt_of_lt_of_le k_h.lt hg
  have k_v := k_v.below hW
  have k_q := k_q.below hW
  have k_h := k_h.below hW
  clear hW hg B3
  clear c_v_0 c_v_1 c_v_2 c_q_0 c_q_1 c_q_2 c_q_3 c_q_4 c_q_5 c_q_6 c_q_7 c_q_8 c_q_9 c_q_10 c_q_11 c_h_0 c_h_1 c_h_2 c_h_3 c_h_4 c_h_5 c_h_6 c_h_7 c_h_8 c_h_9 c_h_10 c_h_11
  simp only [List.drop_succ_cons, List.drop_zero, Act.put, List.setIfInBounds_toArray, List.set_cons_zero, List.set_cons_succ]
  have c_v_0 : ∀ p : BW W4, p.w.cell? ⟨w.heap.size, 0, none⟩ = some (.int .i64 x) := bw_cell (k_v.cell rfl)
  have c_v_1 : ∀ p : BW W4, p.w.cell? ⟨w.heap.size, 1, none⟩ = some (.int .i64 y) := bw_cell (k_v.cell rfl)
  have c_v_2 : ∀ p : BW W4, p.w.cell? ⟨w.heap.size, 2, none⟩ = some (.int .i64 z) := bw_cell (k_v.cell rfl)
  have c_q_0 : ∀ p : BW W4, p.w.cell? ⟨g_q, 0, none⟩ = some (.int .i64 q1) := bw_cell (k_q.cell rfl)
  have c_q_1 : ∀ p : BW W4, p.w.cell? ⟨g_q, 1, none⟩ = some (.int .i64 q2) := bw_cell (k_q.cell rfl)
  have c_q_2 : ∀ p : BW W4, p.w.cell? ⟨g_q, 2, none⟩ = some (.int .i64 q3) := bw_cell (k_q.cell rfl)
  have c_q_3 : ∀ p : BW W4, p.w.cell? ⟨g_q, 3, none⟩ = some (.int .i64 q4) := bw_cell (k_q.cell rfl)
  have c_q_4 : ∀ p : BW W4, p.w.cell? ⟨g_q, 4, none⟩ = some (.int .i64 q5) := bw_cell (k_q.cell rfl)
  have c_q_5 : ∀ p : BW W4, p.w.cell? ⟨g_q, 5, none⟩ = some (.int .i64 q6) := bw_cell (k_q.cell rfl)
  have c_q_6 : ∀ p : BW W4, p.w.cell? ⟨g_q, 6, none⟩ = some (.int .i64 q7) := bw_cell (k_q.cell rfl)
  have c_q_7 : ∀ p : BW W4, p.w.cell? ⟨g_q, 7, none⟩ = some (.int .i64 q8) := bw_cell (k_q.cell rfl)
  have c_q_8 : ∀ p : BW W4, p.w.cell? ⟨g_q, 8, none⟩ = some (.int .i64 q9) := bw_cell (k_q.cell rfl)
  have c_q_9 : ∀ p : BW W4, p.w.cell? ⟨g_q, 9, none⟩ = some (.int .i64 q10) := bw_cell (k_q.cell rfl)
  have c_q_10 : ∀ p : BW W4, p.w.cell? ⟨g_q, 10, none⟩ = some (.int .i64 q11) := bw_cell (k_q.cell rfl)
  have c_q_11 : ∀ p : BW W4, p.w.cell? ⟨g_q, 11, none⟩ = some (.int .i64 q12) := bw_cell (k_q.cell rfl)
  have c_h_0 : ∀ p : BW W4, p.w.cell? ⟨g_h, 0, none⟩ = some (.int .i64 h1) := bw_cell (k_h.cell rfl)
  have c_h_1 : ∀ p : BW W4, p.w.cell? ⟨g_h, 1, none⟩ = some (.int .i64 h2) := bw_cell (k_h.cell rfl)
  have c_h_2 : ∀ p : BW W4, p.w.cell? ⟨g_h, 2, none⟩ = some (.int .i64 h3) := bw_cell (k_h.cell rfl)
  have c_h_3 : ∀ p : BW W4, p.w.cell? ⟨g_h, 3, none⟩ = some (.int .i64 h4) := bw_cell (k_h.cell rfl)
  have c_h_4 : ∀ p : BW W4, p.w.cell? ⟨g_h, 4, none⟩ = some (.int .i64 h5) := bw_cell (k_h.cell rfl)
  have c_h_5 : ∀ p : BW W4, p.w.cell? ⟨g_h, 5, none⟩ = some (.int .i64 h6) := bw_cell (k_h.cell rfl)
  have c_h_6 : ∀ p : BW W4, p.w.cell? ⟨g_h, 6, none⟩ = some (.int .i64 h7) := bw_cell (k_h.cell rfl)
  have c_h_7 : ∀ p : BW W4, p.w.cell? ⟨g_h, 7, none⟩ = some (.int .i64 h8) := bw_cell (k_h.cell rfl)
  have c_h_8 : ∀ p : BW W4, p.w.cell? ⟨g_h, 8, none⟩ = some (.int .i64 h9) := bw_cell (k_h.cell rfl)
  have c_h_9 : ∀ p : BW W4, p.w.cell? ⟨g_h, 9, none⟩ = some (.int .i64 h10) := bw_cell (k_h.cell rfl)
  have c_h_10 : ∀ p : BW W4, p.w.cell? ⟨g_h, 10, none⟩ = some (.int .i64 h11) := bw_cell (k_h.cell rfl)
  have c_h_11 : ∀ p : BW W4, p.w.cell? ⟨g_h, 11, none⟩ = some (.int .i64 h12) := bw_cell (k_h.cell rfl)
  have c_s_0 : ∀ p : BW W4, p.w.cell? ⟨g_s, 0, none⟩ = some (.int .i64 0) := bw_cell (k_s.cell rfl)
  have f_s_0 : ∀ p : BW W4, p.w.frozen? ⟨g_s, 0, none⟩ = false := fun p => (k_s.below p.h).frozen 0
  have c_s_1 : ∀ p : BW W4, p.w.cell? ⟨g_s, 1, none⟩ = some (.int .i64 0) := bw_cell (k_s.cell rfl)
  have f_s_1 : ∀ p : BW W4, p.w.frozen? ⟨g_s, 1, none⟩ = false := fun p => (k_s.below p.h).frozen 1
  have c_s_2 : ∀ p : BW W4, p.w.cell? ⟨g_s, 2, none⟩ = some (.int .i64 0) := bw_cell (k_s.cell rfl)
  have f_s_2 : ∀ p : BW W4, p.w.frozen? ⟨g_s, 2, none⟩ = false := fun p => (k_s.below p.h).frozen 2
  obtain ⟨p4, hp4⟩ : ∃ p : BW W4, p.w = W4 := ⟨BW.start W4, rfl⟩
  rw [← hp4]
  clear hp4
  go_upto_region 9 with (fail)
  obtain ⟨W5, hW5⟩ : ∃ W, W = ((p4.w.setCell ⟨g_s, 0, none⟩ (.int .i64 kx)).setCell ⟨g_s, 1, none⟩ (.int .i64 ky)).setCell ⟨g_s, 2, none⟩ (.int .i64 kz) := ⟨_, rfl⟩
  have B5 : Below w.heap.size w W5 := by rw [hW5]; exact ((((bw_below B4 p4).setCell (p := ⟨g_s, 0, none⟩) (by show w.heap.size ≤ g_s; omega) _).setCell (p := ⟨g_s, 1, none⟩) (by show w.heap.size ≤ g_s; omega) _).setCell (p := ⟨g_s, 2, none⟩) (by show w.heap.size ≤ g_s; omega) _)
  have k_v : Bk W5 (w.heap.size) 23 #[.int .i64 x, .int .i64 y, .int .i64 z] := by rw [hW5]; exact ((((k_v.below p4.h).other (a := ⟨g_s, 0, none⟩) (by show ¬ w.heap.size = g_s; omega) (.int .i64 kx)).other (a := ⟨g_s, 1, none⟩) (by show ¬ w.heap.size = g_s; omega) (.int .i64 ky)).other (a := ⟨g_s, 2, none⟩) (by show ¬ w.heap.size = g_s; omega) (.int .i64 kz))
  have k_q : Bk W5 (g_q) 29 #[.int .i64 q1, .int .i64 q2, .int .i64 q3, .int .i64 q4, .int .i64 q5, .int .i64 q6, .int .i64 q7, .int .i64 q8, .int .i64 q9, .int .i64 q10, .int .i64 q11, .int .i64 q12] := by rw [hW5]; exact ((((k_q.below p4.h).other (a := ⟨g_s, 0, none⟩) (by show ¬ g_q = g_s; omega) (.int .i64 kx)).other (a := ⟨g_s, 1, none⟩) (by show ¬ g_q = g_s; omega) (.int .i64 ky)).other (a := ⟨g_s, 2, none⟩) (by show ¬ g_q = g_s; omega) (.int .i64 kz))
  have k_h : Bk W5 (g_h) 29 #[.int .i64 h1, .int .i64 h2, .int .i64 h3, .int .i64 h4, .int .i64 h5, .int .i64 h6, .int .i64 h7, .int .i64 h8, .int .i64 h9, .int .i64 h10, .int .i64 h11, .int .i64 h12] := by rw [hW5]; exact ((((k_h.below p4.h).other (a := ⟨g_s, 0, none⟩) (by show ¬ g_h = g_s; omega) (.int .i64 kx)).other (a := ⟨g_s, 1, none⟩) (by show ¬ g_h = g_s; omega) (.int .i64 ky)).other (a := ⟨g_s, 2, none⟩) (by show ¬ g_h = g_s; omega) (.int .i64 kz))
  have k_s : Bk W5 (g_s) 23 #[.int .i64 kx, .int .i64 ky, .int .i64 kz] := by rw [hW5]; exact ((((k_s.below p4.h).set 0 (.int .i64 kx)).set 1 (.int .i64 ky)).set 2 (.int .i64 kz))
  rw [← hW5]
  clear hW5
  clear B4
  clear c_v_0 c_v_1 c_v_2 c_q_0 c_q_1 c_q_2 c_q_3 c_q_4 c_q_5 c_q_6 c_q_7 c_q_8 c_q_9 c_q_10 c_q_11 c_h_0 c_h_1 c_h_2 c_h_3 c_h_4 c_h_5 c_h_6 c_h_7 c_h_8 c_h_9 c_h_10 c_h_11 c_s_0 f_s_0 c_s_1 f_s_1 c_s_2 f_s_2
  have c_v_0 : ∀ p : BW W5, p.w.cell? ⟨w.heap.size, 0, none⟩ = some (.int .i64 x) := bw_cell (k_v.cell rfl)
  have c_v_1 : ∀ p : BW W5, p.w.cell? ⟨w.heap.size, 1, none⟩ = some (.int .i64 y) := bw_cell (k_v.cell rfl)
  have c_v_2 : ∀ p : BW W5, p.w.cell? ⟨w.heap.size, 2, none⟩ = some (.int .i64 z) := bw_cell (k_v.cell rfl)
  have c_q_0 : ∀ p : BW W5, p.w.cell? ⟨g_q, 0, none⟩ = some (.int .i64 q1) := bw_cell (k_q.cell rfl)
  have c_q_1 : ∀ p : BW W5, p.w.cell? ⟨g_q, 1, none⟩ = some (.int .i64 q2) := bw_cell (k_q.cell rfl)
  have c_q_2 : ∀ p : BW W5, p.w.cell? ⟨g_q, 2, none⟩ = some (.int .i64 q3) := bw_cell (k_q.cell rfl)
  have c_q_3 : ∀ p : BW W5, p.w.cell? ⟨g_q, 3, none⟩ = some (.int .i64 q4) := bw_cell (k_q.cell rfl)
  have c_q_4 : ∀ p : BW W5, p.w.cell? ⟨g_q, 4, none⟩ = some (.int .i64 q5) := bw_cell (k_q.cell rfl)
  have c_q_5 : ∀ p : BW W5, p.w.cell? ⟨g_q, 5, none⟩ = some (.int .i64 q6) := bw_cell (k_q.cell rfl)
  have c_q_6 : ∀ p : BW W5, p.w.cell? ⟨g_q, 6, none⟩ = some (.int .i64 q7) := bw_cell (k_q.cell rfl)
  have c_q_7 : ∀ p : BW W5, p.w.cell? ⟨g_q, 7, none⟩ = some (.int .i64 q8) := bw_cell (k_q.cell rfl)
  have c_q_8 : ∀ p : BW W5, p.w.cell? ⟨g_q, 8, none⟩ = some (.int .i64 q9) := bw_cell (k_q.cell rfl)
  have c_q_9 : ∀ p : BW W5, p.w.cell? ⟨g_q, 9, none⟩ = some (.int .i64 q10) := bw_cell (k_q.cell rfl)
  have c_q_10 : ∀ p : BW W5, p.w.cell? ⟨g_q, 10, none⟩ = some (.int .i64 q11) := bw_cell (k_q.cell rfl)
  have c_q_11 : ∀ p : BW W5, p.w.cell? ⟨g_q, 11, none⟩ = some (.int .i64 q12) := bw_cell (k_q.cell rfl)
  have c_h_0 : ∀ p : BW W5, p.w.cell? ⟨g_h, 0, none⟩ = some (.int .i64 h1) := bw_cell (k_h.cell rfl)
  have c_h_1 : ∀ p : BW W5, p.w.cell? ⟨g_h, 1, none⟩ = some (.int .i64 h2) := bw_cell (k_h.cell rfl)
  have c_h_2 : ∀ p : BW W5, p.w.cell? ⟨g_h, 2, none⟩ = some (.int .i64 h3) := bw_cell (k_h.cell rfl)
  have c_h_3 : ∀ p : BW W5, p.w.cell? ⟨g_h, 3, none⟩ = some (.int .i64 h4) := bw_cell (k_h.cell rfl)
  have c_h_4 : ∀ p : BW W5, p.w.cell? ⟨g_h, 4, none⟩ = some (.int .i64 h5) := bw_cell (k_h.cell rfl)
  have c_h_5 : ∀ p : BW W5, p.w.cell? ⟨g_h, 5, none⟩ = some (.int .i64 h6) := bw_cell (k_h.cell rfl)
  have c_h_6 : ∀ p : BW W5, p.w.cell? ⟨g_h, 6, none⟩ = some (.int .i64 h7) := bw_cell (k_h.cell rfl)
  have c_h_7 : ∀ p : BW W5, p.w.cell? ⟨g_h, 7, none⟩ = some (.int .i64 h8) := bw_cell (k_h.cell rfl)
  have c_h_8 : ∀ p : BW W5, p.w.cell? ⟨g_h, 8, none⟩ = some (.int .i64 h9) := bw_cell (k_h.cell rfl)
  have c_h_9 : ∀ p : BW W5, p.w.cell? ⟨g_h, 9, none⟩ = some (.int .i64 h10) := bw_cell (k_h.cell rfl)
  have c_h_10 : ∀ p : BW W5, p.w.cell? ⟨g_h, 10, none⟩ = some (.int .i64 h11) := bw_cell (k_h.cell rfl)
  have c_h_11 : ∀ p : BW W5, p.w.cell? ⟨g_h, 11, none⟩ = some (.int .i64 h12) := bw_cell (k_h.cell rfl)
  have c_s_0 : ∀ p : BW W5, p.w.cell? ⟨g_s, 0, none⟩ = some (.int .i64 kx) := bw_cell (k_s.cell rfl)
  have c_s_1 : ∀ p : BW W5, p.w.cell? ⟨g_s, 1, none⟩ = some (.int .i64 ky) := bw_cell (k_s.cell rfl)
  have c_s_2 : ∀ p : BW W5, p.w.cell? ⟨g_s, 2, none⟩ = some (.int .i64 kz) := bw_cell (k_s.cell rfl)
  obtain ⟨p5, hp5⟩ : ∃ p : BW W5, p.w = W5 := ⟨BW.start W5, rfl⟩
  rw [← hp5]
  clear hp5
  refine wp_region_bw (by kernel_rfl) (by kernel_rfl) ?_
  repeat (go_big_quiet_step (first
    | (go_at_call 16; (first | (with_reducible exact bw_call T2.out _)))
    | (go_at_call 10; (first | (with_reducible exact bw_call N1.out _)))
    | (go_at_call 20; (first | (with_reducible exact bw_call P3.out _)))
    | (go_at_call 6; (first | (with_reducible exact bw_call HA.out _)))))
  refine wpQuiet_nil ?_
  intro _ hw'
  obtain ⟨q, rfl⟩ := hw'
  go_wp2
  go_ret
  exact ⟨rfl, bw_below B5 _⟩

set_option maxRecDepth 100000 in
set_option maxHeartbeats 8000000 in
theorem law_PoseNone (a x y z n : Int) (w : World) (ha : 0 ≤ a ∧ a ≤ 255) (hn : 0 ≤ n ∧ n ≤ 255) :
    Calls Try.prog 5 #[.int .u8 a, .agg #[.int .i64 x, .int .i64 y, .int .i64 z], .int .u8 n] w fun r w' => r = .returned (.bool true) ∧ Below w.heap.size w w' := by
  cases h : nrT (x, y, z) with
  | true => exact law_PoseNone_near a x y z n w ha hn h
  | false => exact law_PoseNone_far a x y z n w ha hn h

end Go.Proofs.Ytnoaljfdbfbhmaa
