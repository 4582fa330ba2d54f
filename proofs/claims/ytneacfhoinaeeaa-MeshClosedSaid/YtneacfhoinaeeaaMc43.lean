/- Contracts of the landed mesh: Cube, Grid, Cone. -/
import Derived.Test.YtneacfhoinaeeaaMc42
import Derived.Test.YtneacfhoinaeeaaMc40
import Derived.Test.YtneacfhoinaeeaaMc41
import Derived.Deep.RegionHeld3


namespace Go.Proofs.Ytneacfhoinaeeaa
section

open Go.RowKit Go.Proofs.Sky

set_option linter.unusedVariables false

set_option linter.unusedSimpArgs false

theorem cube_in : ∀ t ∈ cubeT, t.1 < 8 ∧ t.2.1 < 8 ∧ t.2.2 < 8 := by decide

theorem use_in {N : Nat} {tr : List Tg} (h : useB N tr = true) : ∀ t ∈ tr, t.1 < N ∧ t.2.1 < N ∧ t.2.2 < N := by
  unfold useB at h
  simp only [Bool.and_eq_true, List.all_eq_true, decide_eq_true_eq] at h
  exact h.1

set_option maxRecDepth 100000 in
set_option maxHeartbeats 8000000 in
theorem mesh_Cube_no (a1 a2 a3 a4 a5 a6 a7 a8 a9 a10 a11 a12 m : Int) (w : World) (KF : Hid (∀ w, Calls Try.prog 20 #[.agg #[.int .i64 a1, .int .i64 a2, .int .i64 a3, .int .i64 a4, .int .i64 a5, .int .i64 a6, .int .i64 a7, .int .i64 a8, .int .i64 a9, .int .i64 a10, .int .i64 a11, .int .i64 a12], .int .i64 m] w fun en w' => en = .returned (.bool false) ∧ Below w.heap.size w w')) (hR : mCube ((a1, a2, a3), (a4, a5, a6), (a7, a8, a9), (a10, a11, a12)) m = ([], 1)) :
    Calls Try.prog 6 #[.agg #[.int .i64 a1, .int .i64 a2, .int .i64 a3, .int .i64 a4, .int .i64 a5, .int .i64 a6, .int .i64 a7, .int .i64 a8, .int .i64 a9, .int .i64 a10, .int .i64 a11, .int .i64 a12], .int .i64 m] w fun e w' => ∃ v, e = .returned (.tuple #[v, .int .i64 (mCube ((a1, a2, a3), (a4, a5, a6), (a7, a8, a9), (a10, a11, a12)) m).2]) ∧ PRow w' w.heap.size v (mCube ((a1, a2, a3), (a4, a5, a6), (a7, a8, a9), (a10, a11, a12)) m).1 ∧ Below w.heap.size w w' := by
  have HR := Lib.hid hR
  clear hR
  generalize mCube ((a1, a2, a3), (a4, a5, a6), (a7, a8, a9), (a10, a11, a12)) m = R at *
  go_enter Try.func6, Try.ntmps6
  go_upto_region 1 with (fail)
  obtain ⟨W1, hW1⟩ : ∃ W, W = w.alloc (.cells #[.int .i64 a1, .int .i64 a2, .int .i64 a3, .int .i64 a4, .int .i64 a5, .int .i64 a6, .int .i64 a7, .int .i64 a8, .int .i64 a9, .int .i64 a10, .int .i64 a11, .int .i64 a12] 31) := ⟨_, rfl⟩
  obtain ⟨k_p, B1⟩ := st1 hW1
  rw [← hW1]
  clear hW1
  obtain ⟨c_p_0, c_p_1, c_p_2, c_p_3, c_p_4, c_p_5, c_p_6, c_p_7, c_p_8, c_p_9, c_p_10, c_p_11⟩ := bwc12 (k_p)
  obtain ⟨p1, hp1⟩ : ∃ p : BW W1, p.w = W1 := ⟨BW.start W1, rfl⟩
  rw [← hp1]
  clear hp1
  go_wp2_with (first
    | (go_at_call 20; (first | (with_reducible refine (bw_call KF.out _).mono ?_)); rintro e w' ⟨rfl, q, rfl⟩))
  exact bodyPost_ret (v := .tuple #[.slice none 0 0, .int .i64 1]) (by simp [results, Try.results6, go_sem]) rfl ⟨_, by rw [HR.out], by rw [HR.out]; exact prow_nil _ _, bw_below B1 q⟩

set_option maxRecDepth 100000 in
set_option maxHeartbeats 8000000 in
theorem mesh_Cube_yes (a1 a2 a3 a4 a5 a6 a7 a8 a9 a10 a11 a12 m : Int) (w : World) (hm : I64 m) (hfit : mFit ((a1, a2, a3), (a4, a5, a6), (a7, a8, a9), (a10, a11, a12)) m = true) (hR : mCube ((a1, a2, a3), (a4, a5, a6), (a7, a8, a9), (a10, a11, a12)) m = mPlaced (fun i => pPut ((a1, a2, a3), (a4, a5, a6), (a7, a8, a9), (a10, a11, a12)) (cubeV i)) 8 cubeT m) :
    Calls Try.prog 6 #[.agg #[.int .i64 a1, .int .i64 a2, .int .i64 a3, .int .i64 a4, .int .i64 a5, .int .i64 a6, .int .i64 a7, .int .i64 a8, .int .i64 a9, .int .i64 a10, .int .i64 a11, .int .i64 a12], .int .i64 m] w fun e w' => ∃ v, e = .returned (.tuple #[v, .int .i64 (mCube ((a1, a2, a3), (a4, a5, a6), (a7, a8, a9), (a10, a11, a12)) m).2]) ∧ PRow w' w.heap.size v (mCube ((a1, a2, a3), (a4, a5, a6), (a7, a8, a9), (a10, a11, a12)) m).1 ∧ Below w.heap.size w w' := by
  have hNa : 0 < 8 := by decide
  have hNb : 8 ≤ 1000 := by decide
  have hlenT : cubeT.length ≤ 1000 := by decide
  have KF := Lib.hid (fun w => mesh_fits a1 a2 a3 a4 a5 a6 a7 a8 a9 a10 a11 a12 m w hm)
  rw [hfit] at KF
  have KC := Lib.hid (fun w => mesh_cube w)
  have KP := Lib.hid (fun B uc ut X hc ht => mesh_placed a1 a2 a3 a4 a5 a6 a7 a8 a9 a10 a11 a12 m B (8) (cubeV) (cubeT) uc ut X hc ht hNa hNb hlenT (cube_in))
  rw [hR]
  clear hR hfit
  generalize mPlaced (fun i => pPut ((a1, a2, a3), (a4, a5, a6), (a7, a8, a9), (a10, a11, a12)) ((cubeV) i)) (8) (cubeT) m = R at *
  clear hm
  go_enter Try.func6, Try.ntmps6
  go_upto_region 1 with (fail)
  obtain ⟨W1, hW1⟩ : ∃ W, W = w.alloc (.cells #[.int .i64 a1, .int .i64 a2, .int .i64 a3, .int .i64 a4, .int .i64 a5, .int .i64 a6, .int .i64 a7, .int .i64 a8, .int .i64 a9, .int .i64 a10, .int .i64 a11, .int .i64 a12] 31) := ⟨_, rfl⟩
  obtain ⟨k_p, B1⟩ := st1 hW1
  rw [← hW1]
  clear hW1
  obtain ⟨c_p_0, c_p_1, c_p_2, c_p_3, c_p_4, c_p_5, c_p_6, c_p_7, c_p_8, c_p_9, c_p_10, c_p_11⟩ := bwc12 (k_p)
  obtain ⟨p1, hp1⟩ : ∃ p : BW W1, p.w = W1 := ⟨BW.start W1, rfl⟩
  rw [← hp1]
  clear hp1
  go_upto_region 3 with (go_at_call 20; (with_reducible refine (bw_call KF.out _).mono ?_); rintro e w' ⟨rfl, p1', rfl⟩)
  go_region_held3 (fun w' => w'.cell? ⟨w.heap.size, 0, none⟩ = some (.int .i64 a1) ∧ w'.cell? ⟨w.heap.size, 1, none⟩ = some (.int .i64 a2) ∧ w'.cell? ⟨w.heap.size, 2, none⟩ = some (.int .i64 a3) ∧ w'.cell? ⟨w.heap.size, 3, none⟩ = some (.int .i64 a4) ∧ w'.cell? ⟨w.heap.size, 4, none⟩ = some (.int .i64 a5) ∧ w'.cell? ⟨w.heap.size, 5, none⟩ = some (.int .i64 a6) ∧ w'.cell? ⟨w.heap.size, 6, none⟩ = some (.int .i64 a7) ∧ w'.cell? ⟨w.heap.size, 7, none⟩ = some (.int .i64 a8) ∧ w'.cell? ⟨w.heap.size, 8, none⟩ = some (.int .i64 a9) ∧ w'.cell? ⟨w.heap.size, 9, none⟩ = some (.int .i64 a10) ∧ w'.cell? ⟨w.heap.size, 10, none⟩ = some (.int .i64 a11) ∧ w'.cell? ⟨w.heap.size, 11, none⟩ = some (.int .i64 a12)) (first | with_reducible exact ⟨c_p_0 _, c_p_1 _, c_p_2 _, c_p_3 _, c_p_4 _, c_p_5 _, c_p_6 _, c_p_7 _, c_p_8 _, c_p_9 _, c_p_10 _, c_p_11 _⟩ | exact ⟨c_p_0 p1, c_p_1 p1, c_p_2 p1, c_p_3 p1, c_p_4 p1, c_p_5 p1, c_p_6 p1, c_p_7 p1, c_p_8 p1, c_p_9 p1, c_p_10 p1, c_p_11 p1⟩ | go_keep)
    (first
      | (go_at_call 22; (with_reducible refine (KC.out _).mono ?_); rintro e w1 ⟨uc, ut, rfl, hc, ht, hb⟩; (first | obtain ⟨q, rfl⟩ := bw_take_drew hb | obtain ⟨q, rfl⟩ := bw_take hb))
      | (go_at_call 21; (with_reducible refine (KP.out _ _ _ _ hc ht).mono ?_); rintro e w1 ⟨v, rfl, hv, hb2⟩; obtain ⟨q2, rfl⟩ := bw_take hb2)
      | fail)
  go_wp2
  exact bodyPost_ret (v := .tuple #[v, .int .i64 R.2]) (by simp [results, Try.results6, go_sem]) rfl ⟨_, rfl, owns_mono hv (bw_below B1 q).size, bw_below B1 _⟩

theorem mesh_Cube (a1 a2 a3 a4 a5 a6 a7 a8 a9 a10 a11 a12 m : Int) (w : World) (hm : I64 m) :
    Calls Try.prog 6 #[.agg #[.int .i64 a1, .int .i64 a2, .int .i64 a3, .int .i64 a4, .int .i64 a5, .int .i64 a6, .int .i64 a7, .int .i64 a8, .int .i64 a9, .int .i64 a10, .int .i64 a11, .int .i64 a12], .int .i64 m] w fun e w' => ∃ v, e = .returned (.tuple #[v, .int .i64 (mCube ((a1, a2, a3), (a4, a5, a6), (a7, a8, a9), (a10, a11, a12)) m).2]) ∧ PRow w' w.heap.size v (mCube ((a1, a2, a3), (a4, a5, a6), (a7, a8, a9), (a10, a11, a12)) m).1 ∧ Below w.heap.size w w' := by
  cases h : mFit ((a1, a2, a3), (a4, a5, a6), (a7, a8, a9), (a10, a11, a12)) m with
  | false => exact mesh_Cube_no a1 a2 a3 a4 a5 a6 a7 a8 a9 a10 a11 a12 m w (Lib.hid fun w => by rw [← h]; exact mesh_fits a1 a2 a3 a4 a5 a6 a7 a8 a9 a10 a11 a12 m w hm) (by unfold mCube mMesh; rw [h]; rfl)
  | true => exact mesh_Cube_yes a1 a2 a3 a4 a5 a6 a7 a8 a9 a10 a11 a12 m w hm h (by unfold mCube mMesh; rw [h]; rfl)

set_option maxRecDepth 100000 in
set_option maxHeartbeats 8000000 in
theorem mesh_Grid_n1 (n a1 a2 a3 a4 a5 a6 a7 a8 a9 a10 a11 a12 m : Int) (w : World) (h : n < 1) (hR : mGrid n ((a1, a2, a3), (a4, a5, a6), (a7, a8, a9), (a10, a11, a12)) m = ([], 1)) :
    Calls Try.prog 9 #[.int .i64 n, .agg #[.int .i64 a1, .int .i64 a2, .int .i64 a3, .int .i64 a4, .int .i64 a5, .int .i64 a6, .int .i64 a7, .int .i64 a8, .int .i64 a9, .int .i64 a10, .int .i64 a11, .int .i64 a12], .int .i64 m] w fun e w' => ∃ v, e = .returned (.tuple #[v, .int .i64 (mGrid n ((a1, a2, a3), (a4, a5, a6), (a7, a8, a9), (a10, a11, a12)) m).2]) ∧ PRow w' w.heap.size v (mGrid n ((a1, a2, a3), (a4, a5, a6), (a7, a8, a9), (a10, a11, a12)) m).1 ∧ Below w.heap.size w w' := by
  have HR := Lib.hid hR
  clear hR
  generalize mGrid n ((a1, a2, a3), (a4, a5, a6), (a7, a8, a9), (a10, a11, a12)) m = R at *
  have t1 : decide (n < 1) = true := decide_eq_true h
  clear h
  go_enter Try.func9, Try.ntmps9
  go_upto_region 1 with (fail)
  obtain ⟨W1, hW1⟩ : ∃ W, W = w.alloc (.cells #[.int .i64 a1, .int .i64 a2, .int .i64 a3, .int .i64 a4, .int .i64 a5, .int .i64 a6, .int .i64 a7, .int .i64 a8, .int .i64 a9, .int .i64 a10, .int .i64 a11, .int .i64 a12] 31) := ⟨_, rfl⟩
  obtain ⟨k_p, B1⟩ := st1 hW1
  rw [← hW1]
  clear hW1
  obtain ⟨c_p_0, c_p_1, c_p_2, c_p_3, c_p_4, c_p_5, c_p_6, c_p_7, c_p_8, c_p_9, c_p_10, c_p_11⟩ := bwc12 (k_p)
  obtain ⟨p1, hp1⟩ : ∃ p : BW W1, p.w = W1 := ⟨BW.start W1, rfl⟩
  rw [← hp1]
  clear hp1
  go_wp2
  exact bodyPost_ret (v := .tuple #[.slice none 0 0, .int .i64 1]) (by simp [results, Try.results9, go_sem]) rfl ⟨_, by rw [HR.out], by rw [HR.out]; exact prow_nil _ _, bw_below B1 p1⟩

set_option maxRecDepth 100000 in
set_option maxHeartbeats 8000000 in
theorem mesh_Grid_n2 (n a1 a2 a3 a4 a5 a6 a7 a8 a9 a10 a11 a12 m : Int) (w : World) (h0 : ¬ n < 1) (h : 8 < n) (hR : mGrid n ((a1, a2, a3), (a4, a5, a6), (a7, a8, a9), (a10, a11, a12)) m = ([], 1)) :
    Calls Try.prog 9 #[.int .i64 n, .agg #[.int .i64 a1, .int .i64 a2, .int .i64 a3, .int .i64 a4, .int .i64 a5, .int .i64 a6, .int .i64 a7, .int .i64 a8, .int .i64 a9, .int .i64 a10, .int .i64 a11, .int .i64 a12], .int .i64 m] w fun e w' => ∃ v, e = .returned (.tuple #[v, .int .i64 (mGrid n ((a1, a2, a3), (a4, a5, a6), (a7, a8, a9), (a10, a11, a12)) m).2]) ∧ PRow w' w.heap.size v (mGrid n ((a1, a2, a3), (a4, a5, a6), (a7, a8, a9), (a10, a11, a12)) m).1 ∧ Below w.heap.size w w' := by
  have HR := Lib.hid hR
  clear hR
  generalize mGrid n ((a1, a2, a3), (a4, a5, a6), (a7, a8, a9), (a10, a11, a12)) m = R at *
  have t1 : decide (n < 1) = false := decide_eq_false h0
  have t2 : decide (8 < n) = true := decide_eq_true h
  clear h h0
  go_enter Try.func9, Try.ntmps9
  go_upto_region 1 with (fail)
  obtain ⟨W1, hW1⟩ : ∃ W, W = w.alloc (.cells #[.int .i64 a1, .int .i64 a2, .int .i64 a3, .int .i64 a4, .int .i64 a5, .int .i64 a6, .int .i64 a7, .int .i64 a8, .int .i64 a9, .int .i64 a10, .int .i64 a11, .int .i64 a12] 31) := ⟨_, rfl⟩
  obtain ⟨k_p, B1⟩ := st1 hW1
  rw [← hW1]
  clear hW1
  obtain ⟨c_p_0, c_p_1, c_p_2, c_p_3, c_p_4, c_p_5, c_p_6, c_p_7, c_p_8, c_p_9, c_p_10, c_p_11⟩ := bwc12 (k_p)
  obtain ⟨p1, hp1⟩ : ∃ p : BW W1, p.w = W1 := ⟨BW.start W1, rfl⟩
  rw [← hp1]
  clear hp1
  go_wp2
  exact bodyPost_ret (v := .tuple #[.slice none 0 0, .int .i64 1]) (by simp [results, Try.results9, go_sem]) rfl ⟨_, by rw [HR.out], by rw [HR.out]; exact prow_nil _ _, bw_below B1 p1⟩

set_option maxRecDepth 100000 in
set_option maxHeartbeats 8000000 in
theorem mesh_Grid_n3 (n a1 a2 a3 a4 a5 a6 a7 a8 a9 a10 a11 a12 m : Int) (w : World) (h0 : ¬ n < 1) (h : ¬ 8 < n) (KF : Hid (∀ w, Calls Try.prog 20 #[.agg #[.int .i64 a1, .int .i64 a2, .int .i64 a3, .int .i64 a4, .int .i64 a5, .int .i64 a6, .int .i64 a7, .int .i64 a8, .int .i64 a9, .int .i64 a10, .int .i64 a11, .int .i64 a12], .int .i64 m] w fun en w' => en = .returned (.bool false) ∧ Below w.heap.size w w')) (hR : mGrid n ((a1, a2, a3), (a4, a5, a6), (a7, a8, a9), (a10, a11, a12)) m = ([], 1)) :
    Calls Try.prog 9 #[.int .i64 n, .agg #[.int .i64 a1, .int .i64 a2, .int .i64 a3, .int .i64 a4, .int .i64 a5, .int .i64 a6, .int .i64 a7, .int .i64 a8, .int .i64 a9, .int .i64 a10, .int .i64 a11, .int .i64 a12], .int .i64 m] w fun e w' => ∃ v, e = .returned (.tuple #[v, .int .i64 (mGrid n ((a1, a2, a3), (a4, a5, a6), (a7, a8, a9), (a10, a11, a12)) m).2]) ∧ PRow w' w.heap.size v (mGrid n ((a1, a2, a3), (a4, a5, a6), (a7, a8, a9), (a10, a11, a12)) m).1 ∧ Below w.heap.size w w' := by
  have HR := Lib.hid hR
  clear hR
  generalize mGrid n ((a1, a2, a3), (a4, a5, a6), (a7, a8, a9), (a10, a11, a12)) m = R at *
  have t1 : decide (n < 1) = false := decide_eq_false h0
  have t2 : decide (8 < n) = false := decide_eq_false h
  clear h h0
  go_enter Try.func9, Try.ntmps9
  go_upto_region 1 with (fail)
  obtain ⟨W1, hW1⟩ : ∃ W, W = w.alloc (.cells #[.int .i64 a1, .int .i64 a2, .int .i64 a3, .int .i64 a4, .int .i64 a5, .int .i64 a6, .int .i64 a7, .int .i64 a8, .int .i64 a9, .int .i64 a10, .int .i64 a11, .int .i64 a12] 31) := ⟨_, rfl⟩
  obtain ⟨k_p, B1⟩ := st1 hW1
  rw [← hW1]
  clear hW1
  obtain ⟨c_p_0, c_p_1, c_p_2, c_p_3, c_p_4, c_p_5, c_p_6, c_p_7, c_p_8, c_p_9, c_p_10, c_p_11⟩ := bwc12 (k_p)
  obtain ⟨p1, hp1⟩ : ∃ p : BW W1, p.w = W1 := ⟨BW.start W1, rfl⟩
  rw [← hp1]
  clear hp1
  go_wp2_with (first
    | (go_at_call 20; (first | (with_reducible refine (bw_call KF.out _).mono ?_)); rintro e w' ⟨rfl, q, rfl⟩))
  exact bodyPost_ret (v := .tuple #[.slice none 0 0, .int .i64 1]) (by simp [results, Try.results9, go_sem]) rfl ⟨_, by rw [HR.out], by rw [HR.out]; exact prow_nil _ _, bw_below B1 q⟩

set_option maxRecDepth 100000 in
set_option maxHeartbeats 8000000 in
theorem mesh_Grid_yes (n : Nat) (a1 a2 a3 a4 a5 a6 a7 a8 a9 a10 a11 a12 m : Int) (w : World) (h0 : 1 ≤ n) (hn : n ≤ 8) (hm : I64 m) (hfit : mFit ((a1, a2, a3), (a4, a5, a6), (a7, a8, a9), (a10, a11, a12)) m = true) (hR : mGrid (n : Int) ((a1, a2, a3), (a4, a5, a6), (a7, a8, a9), (a10, a11, a12)) m = mPlaced (fun i => pPut ((a1, a2, a3), (a4, a5, a6), (a7, a8, a9), (a10, a11, a12)) (gridV n i)) ((n + 1) * (n + 1)) (gridT n) m) :
    Calls Try.prog 9 #[.int .i64 (n : Int), .agg #[.int .i64 a1, .int .i64 a2, .int .i64 a3, .int .i64 a4, .int .i64 a5, .int .i64 a6, .int .i64 a7, .int .i64 a8, .int .i64 a9, .int .i64 a10, .int .i64 a11, .int .i64 a12], .int .i64 m] w fun e w' => ∃ v, e = .returned (.tuple #[v, .int .i64 (mGrid (n : Int) ((a1, a2, a3), (a4, a5, a6), (a7, a8, a9), (a10, a11, a12)) m).2]) ∧ PRow w' w.heap.size v (mGrid (n : Int) ((a1, a2, a3), (a4, a5, a6), (a7, a8, a9), (a10, a11, a12)) m).1 ∧ Below w.heap.size w w' := by
  have hNa : 0 < (n + 1) * (n + 1) := Nat.mul_pos (by omega) (by omega)
  have hNb : (n + 1) * (n + 1) ≤ 1000 := Nat.le_trans (Nat.mul_le_mul (show n + 1 ≤ 9 by omega) (show n + 1 ≤ 9 by omega)) (by decide)
  have hlenT : (gridT n).length ≤ 1000 := by rw [grid_len]; exact Nat.le_trans (Nat.mul_le_mul hn (show n * 2 ≤ 16 by omega)) (by decide)
  have t1 : decide ((n : Int) < 1) = false := decide_eq_false (by omega)
  have t2 : decide (8 < (n : Int)) = false := decide_eq_false (by omega)
  have KF := Lib.hid (fun w => mesh_fits a1 a2 a3 a4 a5 a6 a7 a8 a9 a10 a11 a12 m w hm)
  rw [hfit] at KF
  have KC := Lib.hid (fun w => mesh_grid n h0 hn w)
  have KP := Lib.hid (fun B uc ut X hc ht => mesh_placed a1 a2 a3 a4 a5 a6 a7 a8 a9 a10 a11 a12 m B ((n + 1) * (n + 1)) (gridV n) (gridT n) uc ut X hc ht hNa hNb hlenT (use_in (grid_use n hn h0)))
  rw [hR]
  clear hR hfit
  generalize mPlaced (fun i => pPut ((a1, a2, a3), (a4, a5, a6), (a7, a8, a9), (a10, a11, a12)) ((gridV n) i)) ((n + 1) * (n + 1)) (gridT n) m = R at *
  clear hm
  go_enter Try.func9, Try.ntmps9
  go_upto_region 1 with (fail)
  obtain ⟨W1, hW1⟩ : ∃ W, W = w.alloc (.cells #[.int .i64 a1, .int .i64 a2, .int .i64 a3, .int .i64 a4, .int .i64 a5, .int .i64 a6, .int .i64 a7, .int .i64 a8, .int .i64 a9, .int .i64 a10, .int .i64 a11, .int .i64 a12] 31) := ⟨_, rfl⟩
  obtain ⟨k_p, B1⟩ := st1 hW1
  rw [← hW1]
  clear hW1
  obtain ⟨c_p_0, c_p_1, c_p_2, c_p_3, c_p_4, c_p_5, c_p_6, c_p_7, c_p_8, c_p_9, c_p_10, c_p_11⟩ := bwc12 (k_p)
  obtain ⟨p1, hp1⟩ : ∃ p : BW W1, p.w = W1 := ⟨BW.start W1, rfl⟩
  rw [← hp1]
  clear hp1
  go_upto_region 3 with (go_at_call 20; (with_reducible refine (bw_call KF.out _).mono ?_); rintro e w' ⟨rfl, p1', rfl⟩)
  go_region_held3 (fun w' => w'.cell? ⟨w.heap.size, 0, none⟩ = some (.int .i64 a1) ∧ w'.cell? ⟨w.heap.size, 1, none⟩ = some (.int .i64 a2) ∧ w'.cell? ⟨w.heap.size, 2, none⟩ = some (.int .i64 a3) ∧ w'.cell? ⟨w.heap.size, 3, none⟩ = some (.int .i64 a4) ∧ w'.cell? ⟨w.heap.size, 4, none⟩ = some (.int .i64 a5) ∧ w'.cell? ⟨w.heap.size, 5, none⟩ = some (.int .i64 a6) ∧ w'.cell? ⟨w.heap.size, 6, none⟩ = some (.int .i64 a7) ∧ w'.cell? ⟨w.heap.size, 7, none⟩ = some (.int .i64 a8) ∧ w'.cell? ⟨w.heap.size, 8, none⟩ = some (.int .i64 a9) ∧ w'.cell? ⟨w.heap.size, 9, none⟩ = some (.int .i64 a10) ∧ w'.cell? ⟨w.heap.size, 10, none⟩ = some (.int .i64 a11) ∧ w'.cell? ⟨w.heap.size, 11, none⟩ = some (.int .i64 a12)) (first | with_reducible exact ⟨c_p_0 _, c_p_1 _, c_p_2 _, c_p_3 _, c_p_4 _, c_p_5 _, c_p_6 _, c_p_7 _, c_p_8 _, c_p_9 _, c_p_10 _, c_p_11 _⟩ | exact ⟨c_p_0 p1, c_p_1 p1, c_p_2 p1, c_p_3 p1, c_p_4 p1, c_p_5 p1, c_p_6 p1, c_p_7 p1, c_p_8 p1, c_p_9 p1, c_p_10 p1, c_p_11 p1⟩ | go_keep)
    (first
      | (go_at_call 27; (with_reducible refine (KC.out _).mono ?_); rintro e w1 ⟨uc, ut, rfl, hc, ht, hb⟩; (first | obtain ⟨q, rfl⟩ := bw_take_drew hb | obtain ⟨q, rfl⟩ := bw_take hb))
      | (go_at_call 21; (with_reducible refine (KP.out _ _ _ _ hc ht).mono ?_); rintro e w1 ⟨v, rfl, hv, hb2⟩; obtain ⟨q2, rfl⟩ := bw_take hb2)
      | fail)
  go_wp2
  exact bodyPost_ret (v := .tuple #[v, .int .i64 R.2]) (by simp [results, Try.results9, go_sem]) rfl ⟨_, rfl, owns_mono hv (bw_below B1 q).size, bw_below B1 _⟩

theorem mesh_Grid (n a1 a2 a3 a4 a5 a6 a7 a8 a9 a10 a11 a12 m : Int) (w : World) (hm : I64 m) :
    Calls Try.prog 9 #[.int .i64 n, .agg #[.int .i64 a1, .int .i64 a2, .int .i64 a3, .int .i64 a4, .int .i64 a5, .int .i64 a6, .int .i64 a7, .int .i64 a8, .int .i64 a9, .int .i64 a10, .int .i64 a11, .int .i64 a12], .int .i64 m] w fun e w' => ∃ v, e = .returned (.tuple #[v, .int .i64 (mGrid n ((a1, a2, a3), (a4, a5, a6), (a7, a8, a9), (a10, a11, a12)) m).2]) ∧ PRow w' w.heap.size v (mGrid n ((a1, a2, a3), (a4, a5, a6), (a7, a8, a9), (a10, a11, a12)) m).1 ∧ Below w.heap.size w w' := by
  by_cases h1 : n < 1
  · exact mesh_Grid_n1 n a1 a2 a3 a4 a5 a6 a7 a8 a9 a10 a11 a12 m w h1 (by unfold mGrid; rw [if_neg (by omega)])
  by_cases h2 : 8 < n
  · exact mesh_Grid_n2 n a1 a2 a3 a4 a5 a6 a7 a8 a9 a10 a11 a12 m w h1 h2 (by unfold mGrid; rw [if_neg (by omega)])
  cases h : mFit ((a1, a2, a3), (a4, a5, a6), (a7, a8, a9), (a10, a11, a12)) m with
  | false => exact mesh_Grid_n3 n a1 a2 a3 a4 a5 a6 a7 a8 a9 a10 a11 a12 m w h1 h2 (Lib.hid fun w => by rw [← h]; exact mesh_fits a1 a2 a3 a4 a5 a6 a7 a8 a9 a10 a11 a12 m w hm) (by unfold mGrid; rw [if_pos (by omega)]; unfold mMesh; rw [h]; rfl)
  | true =>
    obtain ⟨k, rfl⟩ := Int.eq_ofNat_of_zero_le (show 0 ≤ n by omega)
    exact mesh_Grid_yes k a1 a2 a3 a4 a5 a6 a7 a8 a9 a10 a11 a12 m w (by omega) (by omega) hm h (by unfold mGrid; rw [if_pos (by omega)]; unfold mMesh; rw [h]; rfl)

set_option maxRecDepth 100000 in
set_option maxHeartbeats 8000000 in
theorem mesh_Cone_n1 (n a1 a2 a3 a4 a5 a6 a7 a8 a9 a10 a11 a12 m : Int) (w : World) (h : n < 3) (hR : mCone n ((a1, a2, a3), (a4, a5, a6), (a7, a8, a9), (a10, a11, a12)) m = ([], 1)) :
    Calls Try.prog 11 #[.int .i64 n, .agg #[.int .i64 a1, .int .i64 a2, .int .i64 a3, .int .i64 a4, .int .i64 a5, .int .i64 a6, .int .i64 a7, .int .i64 a8, .int .i64 a9, .int .i64 a10, .int .i64 a11, .int .i64 a12], .int .i64 m] w fun e w' => ∃ v, e = .returned (.tuple #[v, .int .i64 (mCone n ((a1, a2, a3), (a4, a5, a6), (a7, a8, a9), (a10, a11, a12)) m).2]) ∧ PRow w' w.heap.size v (mCone n ((a1, a2, a3), (a4, a5, a6), (a7, a8, a9), (a10, a11, a12)) m).1 ∧ Below w.heap.size w w' := by
  have HR := Lib.hid hR
  clear hR
  generalize mCone n ((a1, a2, a3), (a4, a5, a6), (a7, a8, a9), (a10, a11, a12)) m = R at *
  have t1 : decide (n < 3) = true := decide_eq_true h
  clear h
  go_enter Try.func11, Try.ntmps11
  go_upto_region 1 with (fail)
  obtain ⟨W1, hW1⟩ : ∃ W, W = w.alloc (.cells #[.int .i64 a1, .int .i64 a2, .int .i64 a3, .int .i64 a4, .int .i64 a5, .int .i64 a6, .int .i64 a7, .int .i64 a8, .int .i64 a9, .int .i64 a10, .int .i64 a11, .int .i64 a12] 31) := ⟨_, rfl⟩
  obtain ⟨k_p, B1⟩ := st1 hW1
  rw [← hW1]
  clear hW1
  obtain ⟨c_p_0, c_p_1, c_p_2, c_p_3, c_p_4, c_p_5, c_p_6, c_p_7, c_p_8, c_p_9, c_p_10, c_p_11⟩ := bwc12 (k_p)
  obtain ⟨p1, hp1⟩ : ∃ p : BW W1, p.w = W1 := ⟨BW.start W1, rfl⟩
  rw [← hp1]
  clear hp1
  go_wp2
  exact bodyPost_ret (v := .tuple #[.slice none 0 0, .int .i64 1]) (by simp [results, Try.results11, go_sem]) rfl ⟨_, by rw [HR.out], by rw [HR.out]; exact prow_nil _ _, bw_below B1 p1⟩

set_option maxRecDepth 100000 in
set_option maxHeartbeats 8000000 in
theorem mesh_Cone_n2 (n a1 a2 a3 a4 a5 a6 a7 a8 a9 a10 a11 a12 m : Int) (w : World) (h0 : ¬ n < 3) (h : 32 < n) (hR : mCone n ((a1, a2, a3), (a4, a5, a6), (a7, a8, a9), (a10, a11, a12)) m = ([], 1)) :
    Calls Try.prog 11 #[.int .i64 n, .agg #[.int .i64 a1, .int .i64 a2, .int .i64 a3, .int .i64 a4, .int .i64 a5, .int .i64 a6, .int .i64 a7, .int .i64 a8, .int .i64 a9, .int .i64 a10, .int .i64 a11, .int .i64 a12], .int .i64 m] w fun e w' => ∃ v, e = .returned (.tuple #[v, .int .i64 (mCone n ((a1, a2, a3), (a4, a5, a6), (a7, a8, a9), (a10, a11, a12)) m).2]) ∧ PRow w' w.heap.size v (mCone n ((a1, a2, a3), (a4, a5, a6), (a7, a8, a9), (a10, a11, a12)) m).1 ∧ Below w.heap.size w w' := by
  have HR := Lib.hid hR
  clear hR
  generalize mCone n ((a1, a2, a3), (a4, a5, a6), (a7, a8, a9), (a10, a11, a12)) m = R at *
  have t1 : decide (n < 3) = false := decide_eq_false h0
  have t2 : decide (32 < n) = true := decide_eq_true h
  clear h h0
  go_enter Try.func11, Try.ntmps11
  go_upto_region 1 with (fail)
  obtain ⟨W1, hW1⟩ : ∃ W, W = w.alloc (.cells #[.int .i64 a1, .int .i64 a2, .int .i64 a3, .int .i64 a4, .int .i64 a5, .int .i64 a6, .int .i64 a7, .int .i64 a8, .int .i64 a9, .int .i64 a10, .int .i64 a11, .int .i64 a12] 31) := ⟨_, rfl⟩
  obtain ⟨k_p, B1⟩ := st1 hW1
  rw [← hW1]
  clear hW1
  obtain ⟨c_p_0, c_p_1, c_p_2, c_p_3, c_p_4, c_p_5, c_p_6, c_p_7, c_p_8, c_p_9, c_p_10, c_p_11⟩ := bwc12 (k_p)
  obtain ⟨p1, hp1⟩ : ∃ p : BW W1, p.w = W1 := ⟨BW.start W1, rfl⟩
  rw [← hp1]
  clear hp1
  go_wp2
  exact bodyPost_ret (v := .tuple #[.slice none 0 0, .int .i64 1]) (by simp [results, Try.results11, go_sem]) rfl ⟨_, by rw [HR.out], by rw [HR.out]; exact prow_nil _ _, bw_below B1 p1⟩

set_option maxRecDepth 100000 in
set_option maxHeartbeats 8000000 in
theorem mesh_Cone_n3 (n a1 a2 a3 a4 a5 a6 a7 a8 a9 a10 a11 a12 m : Int) (w : World) (h0 : ¬ n < 3) (h : ¬ 32 < n) (KF : Hid (∀ w, Calls Try.prog 20 #[.agg #[.int .i64 a1, .int .i64 a2, .int .i64 a3, .int .i64 a4, .int .i64 a5, .int .i64 a6, .int .i64 a7, .int .i64 a8, .int .i64 a9, .int .i64 a10, .int .i64 a11, .int .i64 a12], .int .i64 m] w fun en w' => en = .returned (.bool false) ∧ Below w.heap.size w w')) (hR : mCone n ((a1, a2, a3), (a4, a5, a6), (a7, a8, a9), (a10, a11, a12)) m = ([], 1)) :
    Calls Try.prog 11 #[.int .i64 n, .agg #[.int .i64 a1, .int .i64 a2, .int .i64 a3, .int .i64 a4, .int .i64 a5, .int .i64 a6, .int .i64 a7, .int .i64 a8, .int .i64 a9, .int .i64 a10, .int .i64 a11, .int .i64 a12], .int .i64 m] w fun e w' => ∃ v, e = .returned (.tuple #[v, .int .i64 (mCone n ((a1, a2, a3), (a4, a5, a6), (a7, a8, a9), (a10, a11, a12)) m).2]) ∧ PRow w' w.heap.size v (mCone n ((a1, a2, a3), (a4, a5, a6), (a7, a8, a9), (a10, a11, a12)) m).1 ∧ Below w.heap.size w w' := by
  have HR := Lib.hid hR
  clear hR
  generalize mCone n ((a1, a2, a3), (a4, a5, a6), (a7, a8, a9), (a10, a11, a12)) m = R at *
  have t1 : decide (n < 3) = false := decide_eq_false h0
  have t2 : decide (32 < n) = false := decide_eq_false h
  clear h h0
  go_enter Try.func11, Try.ntmps11
  go_upto_region 1 with (fail)
  obtain ⟨W1, hW1⟩ : ∃ W, W = w.alloc (.cells #[.int .i64 a1, .int .i64 a2, .int .i64 a3, .int .i64 a4, .int .i64 a5, .int .i64 a6, .int .i64 a7, .int .i64 a8, .int .i64 a9, .int .i64 a10, .int .i64 a11, .int .i64 a12] 31) := ⟨_, rfl⟩
  obtain ⟨k_p, B1⟩ := st1 hW1
  rw [← hW1]
  clear hW1
  obtain ⟨c_p_0, c_p_1, c_p_2, c_p_3, c_p_4, c_p_5, c_p_6, c_p_7, c_p_8, c_p_9, c_p_10, c_p_11⟩ := bwc12 (k_p)
  obtain ⟨p1, hp1⟩ : ∃ p : BW W1, p.w = W1 := ⟨BW.start W1, rfl⟩
  rw [← hp1]
  clear hp1
  go_wp2_with (first
    | (go_at_call 20; (first | (with_reducible refine (bw_call KF.out _).mono ?_)); rintro e w' ⟨rfl, q, rfl⟩))
  exact bodyPost_ret (v := .tuple #[.slice none 0 0, .int .i64 1]) (by simp [results, Try.results11, go_sem]) rfl ⟨_, by rw [HR.out], by rw [HR.out]; exact prow_nil _ _, bw_below B1 q⟩

set_option maxRecDepth 100000 in
set_option maxHeartbeats 8000000 in
theorem mesh_Cone_yes (n : Nat) (a1 a2 a3 a4 a5 a6 a7 a8 a9 a10 a11 a12 m : Int) (w : World) (h0 : 3 ≤ n) (hn : n ≤ 32) (hm : I64 m) (hfit : mFit ((a1, a2, a3), (a4, a5, a6), (a7, a8, a9), (a10, a11, a12)) m = true) (hR : mCone (n : Int) ((a1, a2, a3), (a4, a5, a6), (a7, a8, a9), (a10, a11, a12)) m = mPlaced (fun i => pPut ((a1, a2, a3), (a4, a5, a6), (a7, a8, a9), (a10, a11, a12)) (coneV n i)) (n + 2) (coneT n) m) :
    Calls Try.prog 11 #[.int .i64 (n : Int), .agg #[.int .i64 a1, .int .i64 a2, .int .i64 a3, .int .i64 a4, .int .i64 a5, .int .i64 a6, .int .i64 a7, .int .i64 a8, .int .i64 a9, .int .i64 a10, .int .i64 a11, .int .i64 a12], .int .i64 m] w fun e w' => ∃ v, e = .returned (.tuple #[v, .int .i64 (mCone (n : Int) ((a1, a2, a3), (a4, a5, a6), (a7, a8, a9), (a10, a11, a12)) m).2]) ∧ PRow w' w.heap.size v (mCone (n : Int) ((a1, a2, a3), (a4, a5, a6), (a7, a8, a9), (a10, a11, a12)) m).1 ∧ Below w.heap.size w w' := by
  have hNa : 0 < n + 2 := by omega
  have hNb : n + 2 ≤ 1000 := by omega
  have hlenT : (coneT n).length ≤ 1000 := by rw [cone_len]; omega
  have t1 : decide ((n : Int) < 3) = false := decide_eq_false (by omega)
  have t2 : decide (32 < (n : Int)) = false := decide_eq_false (by omega)
  have KF := Lib.hid (fun w => mesh_fits a1 a2 a3 a4 a5 a6 a7 a8 a9 a10 a11 a12 m w hm)
  rw [hfit] at KF
  have KC := Lib.hid (fun w => mesh_cone n h0 hn w)
  have KP := Lib.hid (fun B uc ut X hc ht => mesh_placed a1 a2 a3 a4 a5 a6 a7 a8 a9 a10 a11 a12 m B (n + 2) (coneV n) (coneT n) uc ut X hc ht hNa hNb hlenT (use_in (cone_use n hn h0)))
  rw [hR]
  clear hR hfit
  generalize mPlaced (fun i => pPut ((a1, a2, a3), (a4, a5, a6), (a7, a8, a9), (a10, a11, a12)) ((coneV n) i)) (n + 2) (coneT n) m = R at *
  clear hm
  go_enter Try.func11, Try.ntmps11
  go_upto_region 1 with (fail)
  obtain ⟨W1, hW1⟩ : ∃ W, W = w.alloc (.cells #[.int .i64 a1, .int .i64 a2, .int .i64 a3, .int .i64 a4, .int .i64 a5, .int .i64 a6, .int .i64 a7, .int .i64 a8, .int .i64 a9, .int .i64 a10, .int .i64 a11, .int .i64 a12] 31) := ⟨_, rfl⟩
  obtain ⟨k_p, B1⟩ := st1 hW1
  rw [← hW1]
  clear hW1
  obtain ⟨c_p_0, c_p_1, c_p_2, c_p_3, c_p_4, c_p_5, c_p_6, c_p_7, c_p_8, c_p_9, c_p_10, c_p_11⟩ := bwc12 (k_p)
  obtain ⟨p1, hp1⟩ : ∃ p : BW W1, p.w = W1 := ⟨BW.start W1, rfl⟩
  rw [← hp1]
  clear hp1
  go_upto_region 3 with (go_at_call 20; (with_reducible refine (bw_call KF.out _).mono ?_); rintro e w' ⟨rfl, p1', rfl⟩)
  go_region_held3 (fun w' => w'.cell? ⟨w.heap.size, 0, none⟩ = some (.int .i64 a1) ∧ w'.cell? ⟨w.heap.size, 1, none⟩ = some (.int .i64 a2) ∧ w'.cell? ⟨w.heap.size, 2, none⟩ = some (.int .i64 a3) ∧ w'.cell? ⟨w.heap.size, 3, none⟩ = some (.int .i64 a4) ∧ w'.cell? ⟨w.heap.size, 4, none⟩ = some (.int .i64 a5) ∧ w'.cell? ⟨w.heap.size, 5, none⟩ = some (.int .i64 a6) ∧ w'.cell? ⟨w.heap.size, 6, none⟩ = some (.int .i64 a7) ∧ w'.cell? ⟨w.heap.size, 7, none⟩ = some (.int .i64 a8) ∧ w'.cell? ⟨w.heap.size, 8, none⟩ = some (.int .i64 a9) ∧ w'.cell? ⟨w.heap.size, 9, none⟩ = some (.int .i64 a10) ∧ w'.cell? ⟨w.heap.size, 10, none⟩ = some (.int .i64 a11) ∧ w'.cell? ⟨w.heap.size, 11, none⟩ = some (.int .i64 a12)) (first | with_reducible exact ⟨c_p_0 _, c_p_1 _, c_p_2 _, c_p_3 _, c_p_4 _, c_p_5 _, c_p_6 _, c_p_7 _, c_p_8 _, c_p_9 _, c_p_10 _, c_p_11 _⟩ | exact ⟨c_p_0 p1, c_p_1 p1, c_p_2 p1, c_p_3 p1, c_p_4 p1, c_p_5 p1, c_p_6 p1, c_p_7 p1, c_p_8 p1, c_p_9 p1, c_p_10 p1, c_p_11 p1⟩ | go_keep)
    (first
      | (go_at_call 29; (with_reducible refine (KC.out _).mono ?_); rintro e w1 ⟨uc, ut, rfl, hc, ht, hb⟩; (first | obtain ⟨q, rfl⟩ := bw_take_drew hb | obtain ⟨q, rfl⟩ := bw_take hb))
      | (go_at_call 21; (with_reducible refine (KP.out _ _ _ _ hc ht).mono ?_); rintro e w1 ⟨v, rfl, hv, hb2⟩; obtain ⟨q2, rfl⟩ := bw_take hb2)
      | fail)
  go_wp2
  exact bodyPost_ret (v := .tuple #[v, .int .i64 R.2]) (by simp [results, Try.results11, go_sem]) rfl ⟨_, rfl, owns_mono hv (bw_below B1 q).size, bw_below B1 _⟩

theorem mesh_Cone (n a1 a2 a3 a4 a5 a6 a7 a8 a9 a10 a11 a12 m : Int) (w : World) (hm : I64 m) :
    Calls Try.prog 11 #[.int .i64 n, .agg #[.int .i64 a1, .int .i64 a2, .int .i64 a3, .int .i64 a4, .int .i64 a5, .int .i64 a6, .int .i64 a7, .int .i64 a8, .int .i64 a9, .int .i64 a10, .int .i64 a11, .int .i64 a12], .int .i64 m] w fun e w' => ∃ v, e = .returned (.tuple #[v, .int .i64 (mCone n ((a1, a2, a3), (a4, a5, a6), (a7, a8, a9), (a10, a11, a12)) m).2]) ∧ PRow w' w.heap.size v (mCone n ((a1, a2, a3), (a4, a5, a6), (a7, a8, a9), (a10, a11, a12)) m).1 ∧ Below w.heap.size w w' := by
  by_cases h1 : n < 3
  · exact mesh_Cone_n1 n a1 a2 a3 a4 a5 a6 a7 a8 a9 a10 a11 a12 m w h1 (by unfold mCone; rw [if_neg (by omega)])
  by_cases h2 : 32 < n
  · exact mesh_Cone_n2 n a1 a2 a3 a4 a5 a6 a7 a8 a9 a10 a11 a12 m w h1 h2 (by unfold mCone; rw [if_neg (by omega)])
  cases h : mFit ((a1, a2, a3), (a4, a5, a6), (a7, a8, a9), (a10, a11, a12)) m with
  | false => exact mesh_Cone_n3 n a1 a2 a3 a4 a5 a6 a7 a8 a9 a10 a11 a12 m w h1 h2 (Lib.hid fun w => by rw [← h]; exact mesh_fits a1 a2 a3 a4 a5 a6 a7 a8 a9 a10 a11 a12 m w hm) (by unfold mCone; rw [if_pos (by omega)]; unfold mMesh; rw [h]; rfl)
  | true =>
    obtain ⟨k, rfl⟩ := Int.eq_ofNat_of_zero_le (show 0 ≤ n by omega)
    exact mesh_Cone_yes k a1 a2 a3 a4 a5 a6 a7 a8 a9 a10 a11 a12 m w (by omega) (by omega) hm h (by unfold mCone; rw [if_pos (by omega)]; unfold mMesh; rw [h]; rfl)

end
end Go.Proofs.Ytneacfhoinaeeaa
