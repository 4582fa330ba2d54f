/- Contracts of the document's own answers, layer 19: Grid. -/
import Derived.Test.YtneacfhoinaeeaaMa39


namespace Go.Proofs.Ytneacfhoinaeeaa
section

open Go.RowKit Go.Proofs.Sky

set_option linter.unusedVariables false

set_option linter.unusedSimpArgs false

theorem gI_next (n k i : Nat) : (List.range (i + 1)).flatMap (gface n k) = (List.range i).flatMap (gface n k) ++ gface n k i := by
  rw [List.range_succ, List.flatMap_append]; simp

theorem gI_len (n k i : Nat) : ((List.range i).flatMap (gface n k)).length = i * 6 := by
  rw [flat_len_const _ 6 _ (fun _ _ => rfl), List.length_range]

theorem gK_next (n k : Nat) : (List.range (k + 1)).flatMap (gfaces n) = (List.range k).flatMap (gfaces n) ++ gfaces n k := by
  rw [List.range_succ, List.flatMap_append]; simp

theorem gK_len (n k : Nat) : ((List.range k).flatMap (gfaces n)).length = k * (n * 6) := by
  rw [flat_len_const _ (n * 6) _ (fun k _ => gfaces_len n k), List.length_range]

theorem line_small (i n : Nat) (hi : i ≤ 1000) : -1000000 ≤ dv (128 * (i : Int)) (n : Int) ∧ dv (128 * (i : Int)) (n : Int) ≤ 1000000 := by
  unfold dv
  split
  · omega
  · rename_i h
    have h1 : 0 ≤ 128 * (i : Int) / (n : Int) := Int.ediv_nonneg (by omega) (by omega)
    have h2 : 128 * (i : Int) / (n : Int) ≤ 128 * (i : Int) := Int.ediv_le_self _ (by omega)
    omega

set_option maxRecDepth 100000 in
set_option maxHeartbeats 8000000 in
theorem ref19_Grid_n1 (n a1 a2 a3 a4 a5 a6 a7 a8 a9 a10 a11 a12 m : Int) (w : World) (h : n < 1) (hR : mGrid n ((a1, a2, a3), (a4, a5, a6), (a7, a8, a9), (a10, a11, a12)) m = ([], 1)) :
    Calls Try.prog 10 #[.int .i64 n, .agg #[.int .i64 a1, .int .i64 a2, .int .i64 a3, .int .i64 a4, .int .i64 a5, .int .i64 a6, .int .i64 a7, .int .i64 a8, .int .i64 a9, .int .i64 a10, .int .i64 a11, .int .i64 a12], .int .i64 m] w fun e w' => ∃ v, e = .returned (.tuple #[v, .int .i64 (mGrid n ((a1, a2, a3), (a4, a5, a6), (a7, a8, a9), (a10, a11, a12)) m).2]) ∧ PRow w' w.heap.size v (mGrid n ((a1, a2, a3), (a4, a5, a6), (a7, a8, a9), (a10, a11, a12)) m).1 ∧ Below w.heap.size w w' := by
  have HR := Lib.hid hR
  clear hR
  generalize mGrid n ((a1, a2, a3), (a4, a5, a6), (a7, a8, a9), (a10, a11, a12)) m = R at *
  have t1 : decide (n < 1) = true := decide_eq_true h
  clear h
  go_enter Try.func10, Try.ntmps10
  go_upto_region 1 with (fail)
  obtain ⟨W1, hW1⟩ : ∃ W, W = w.alloc (.cells #[.int .i64 a1, .int .i64 a2, .int .i64 a3, .int .i64 a4, .int .i64 a5, .int .i64 a6, .int .i64 a7, .int .i64 a8, .int .i64 a9, .int .i64 a10, .int .i64 a11, .int .i64 a12] 25) := ⟨_, rfl⟩
  obtain ⟨k_p, B1⟩ := st1 hW1
  rw [← hW1]
  clear hW1
  obtain ⟨c_p_0, c_p_1, c_p_2, c_p_3, c_p_4, c_p_5, c_p_6, c_p_7, c_p_8, c_p_9, c_p_10, c_p_11⟩ := bwc12 (k_p)
  obtain ⟨p1, hp1⟩ : ∃ p : BW W1, p.w = W1 := ⟨BW.start W1, rfl⟩
  rw [← hp1]
  clear hp1
  go_wp2
  exact bodyPost_ret (v := .tuple #[.slice none 0 0, .int .i64 1]) (by simp [results, Try.results10, go_sem]) rfl ⟨_, by rw [HR.out], by rw [HR.out]; exact prow_nil _ _, bw_below B1 p1⟩

set_option maxRecDepth 100000 in
set_option maxHeartbeats 8000000 in
theorem ref19_Grid_n2 (n a1 a2 a3 a4 a5 a6 a7 a8 a9 a10 a11 a12 m : Int) (w : World) (h0 : ¬ n < 1) (h : 8 < n) (hR : mGrid n ((a1, a2, a3), (a4, a5, a6), (a7, a8, a9), (a10, a11, a12)) m = ([], 1)) :
    Calls Try.prog 10 #[.int .i64 n, .agg #[.int .i64 a1, .int .i64 a2, .int .i64 a3, .int .i64 a4, .int .i64 a5, .int .i64 a6, .int .i64 a7, .int .i64 a8, .int .i64 a9, .int .i64 a10, .int .i64 a11, .int .i64 a12], .int .i64 m] w fun e w' => ∃ v, e = .returned (.tuple #[v, .int .i64 (mGrid n ((a1, a2, a3), (a4, a5, a6), (a7, a8, a9), (a10, a11, a12)) m).2]) ∧ PRow w' w.heap.size v (mGrid n ((a1, a2, a3), (a4, a5, a6), (a7, a8, a9), (a10, a11, a12)) m).1 ∧ Below w.heap.size w w' := by
  have HR := Lib.hid hR
  clear hR
  generalize mGrid n ((a1, a2, a3), (a4, a5, a6), (a7, a8, a9), (a10, a11, a12)) m = R at *
  have t1 : decide (n < 1) = false := decide_eq_false h0
  have t2 : decide (8 < n) = true := decide_eq_true h
  clear h h0
  go_enter Try.func10, Try.ntmps10
  go_upto_region 1 with (fail)
  obtain ⟨W1, hW1⟩ : ∃ W, W = w.alloc (.cells #[.int .i64 a1, .int .i64 a2, .int .i64 a3, .int .i64 a4, .int .i64 a5, .int .i64 a6, .int .i64 a7, .int .i64 a8, .int .i64 a9, .int .i64 a10, .int .i64 a11, .int .i64 a12] 25) := ⟨_, rfl⟩
  obtain ⟨k_p, B1⟩ := st1 hW1
  rw [← hW1]
  clear hW1
  obtain ⟨c_p_0, c_p_1, c_p_2, c_p_3, c_p_4, c_p_5, c_p_6, c_p_7, c_p_8, c_p_9, c_p_10, c_p_11⟩ := bwc12 (k_p)
  obtain ⟨p1, hp1⟩ : ∃ p : BW W1, p.w = W1 := ⟨BW.start W1, rfl⟩
  rw [← hp1]
  clear hp1
  go_wp2
  exact bodyPost_ret (v := .tuple #[.slice none 0 0, .int .i64 1]) (by simp [results, Try.results10, go_sem]) rfl ⟨_, by rw [HR.out], by rw [HR.out]; exact prow_nil _ _, bw_below B1 p1⟩

set_option maxRecDepth 100000 in
set_option maxHeartbeats 8000000 in
theorem ref19_Grid_n3 (n a1 a2 a3 a4 a5 a6 a7 a8 a9 a10 a11 a12 m : Int) (w : World) (h0 : ¬ n < 1) (h : ¬ 8 < n) (KF : Hid (∀ w, Calls Try.prog 23 #[.agg #[.int .i64 a1, .int .i64 a2, .int .i64 a3, .int .i64 a4, .int .i64 a5, .int .i64 a6, .int .i64 a7, .int .i64 a8, .int .i64 a9, .int .i64 a10, .int .i64 a11, .int .i64 a12], .int .i64 m] w fun en w' => en = .returned (.bool false) ∧ Below w.heap.size w w')) (hR : mGrid n ((a1, a2, a3), (a4, a5, a6), (a7, a8, a9), (a10, a11, a12)) m = ([], 1)) :
    Calls Try.prog 10 #[.int .i64 n, .agg #[.int .i64 a1, .int .i64 a2, .int .i64 a3, .int .i64 a4, .int .i64 a5, .int .i64 a6, .int .i64 a7, .int .i64 a8, .int .i64 a9, .int .i64 a10, .int .i64 a11, .int .i64 a12], .int .i64 m] w fun e w' => ∃ v, e = .returned (.tuple #[v, .int .i64 (mGrid n ((a1, a2, a3), (a4, a5, a6), (a7, a8, a9), (a10, a11, a12)) m).2]) ∧ PRow w' w.heap.size v (mGrid n ((a1, a2, a3), (a4, a5, a6), (a7, a8, a9), (a10, a11, a12)) m).1 ∧ Below w.heap.size w w' := by
  have HR := Lib.hid hR
  clear hR
  generalize mGrid n ((a1, a2, a3), (a4, a5, a6), (a7, a8, a9), (a10, a11, a12)) m = R at *
  have t1 : decide (n < 1) = false := decide_eq_false h0
  have t2 : decide (8 < n) = false := decide_eq_false h
  clear h h0
  go_enter Try.func10, Try.ntmps10
  go_upto_region 1 with (fail)
  obtain ⟨W1, hW1⟩ : ∃ W, W = w.alloc (.cells #[.int .i64 a1, .int .i64 a2, .int .i64 a3, .int .i64 a4, .int .i64 a5, .int .i64 a6, .int .i64 a7, .int .i64 a8, .int .i64 a9, .int .i64 a10, .int .i64 a11, .int .i64 a12] 25) := ⟨_, rfl⟩
  obtain ⟨k_p, B1⟩ := st1 hW1
  rw [← hW1]
  clear hW1
  obtain ⟨c_p_0, c_p_1, c_p_2, c_p_3, c_p_4, c_p_5, c_p_6, c_p_7, c_p_8, c_p_9, c_p_10, c_p_11⟩ := bwc12 (k_p)
  obtain ⟨p1, hp1⟩ : ∃ p : BW W1, p.w = W1 := ⟨BW.start W1, rfl⟩
  rw [← hp1]
  clear hp1
  go_wp2_with (first
    | (go_at_call 23; (first | (with_reducible refine (bw_call KF.out _).mono ?_)); rintro e w' ⟨rfl, q, rfl⟩))
  exact bodyPost_ret (v := .tuple #[.slice none 0 0, .int .i64 1]) (by simp [results, Try.results10, go_sem]) rfl ⟨_, by rw [HR.out], by rw [HR.out]; exact prow_nil _ _, bw_below B1 q⟩

set_option maxRecDepth 100000 in
set_option maxHeartbeats 8000000 in
theorem ref19_Grid_yes (n : Nat) (a1 a2 a3 a4 a5 a6 a7 a8 a9 a10 a11 a12 m : Int) (w : World) (h0 : 1 ≤ n) (hn : n ≤ 8) (hm : I64 m) (hfit : mFit ((a1, a2, a3), (a4, a5, a6), (a7, a8, a9), (a10, a11, a12)) m = true) (hR : mGrid (n : Int) ((a1, a2, a3), (a4, a5, a6), (a7, a8, a9), (a10, a11, a12)) m = mPut (fun i => pPut ((a1, a2, a3), (a4, a5, a6), (a7, a8, a9), (a10, a11, a12)) (gridV n i)) (gridT n) m) :
    Calls Try.prog 10 #[.int .i64 (n : Int), .agg #[.int .i64 a1, .int .i64 a2, .int .i64 a3, .int .i64 a4, .int .i64 a5, .int .i64 a6, .int .i64 a7, .int .i64 a8, .int .i64 a9, .int .i64 a10, .int .i64 a11, .int .i64 a12], .int .i64 m] w fun e w' => ∃ v, e = .returned (.tuple #[v, .int .i64 (mGrid (n : Int) ((a1, a2, a3), (a4, a5, a6), (a7, a8, a9), (a10, a11, a12)) m).2]) ∧ PRow w' w.heap.size v (mGrid (n : Int) ((a1, a2, a3), (a4, a5, a6), (a7, a8, a9), (a10, a11, a12)) m).1 ∧ Below w.heap.size w w' := by
  obtain ⟨i0, hi0, hz0, hz1, hz2⟩ := info_parts vec_info19
  have KF := Lib.hid (fun w => ref19_may a1 a2 a3 a4 a5 a6 a7 a8 a9 a10 a11 a12 m w hm)
  rw [hfit] at KF
  have hlenT : (gridT n).length ≤ 1000 := by rw [grid_len]; exact Nat.le_trans (Nat.mul_le_mul hn (show n * 2 ≤ 16 by omega)) (by decide)
  have KP := Lib.hid (fun B ul X hl => ref19_put a1 a2 a3 a4 a5 a6 a7 a8 a9 a10 a11 a12 m B (gridV n) (gridT n) ul X hl hlenT)
  rw [hR]
  clear hR hfit hm hlenT
  generalize mPut (fun i => pPut ((a1, a2, a3), (a4, a5, a6), (a7, a8, a9), (a10, a11, a12)) ((gridV n) i)) (gridT n) m = R at *
  have t1 : decide ((n : Int) < 1) = false := decide_eq_false (by omega)
  have t2 : decide (8 < (n : Int)) = false := decide_eq_false (by omega)
  go_enter Try.func10, Try.ntmps10
  go_upto_region 1 with (fail)
  obtain ⟨W1, hW1⟩ : ∃ W, W = w.alloc (.cells #[.int .i64 a1, .int .i64 a2, .int .i64 a3, .int .i64 a4, .int .i64 a5, .int .i64 a6, .int .i64 a7, .int .i64 a8, .int .i64 a9, .int .i64 a10, .int .i64 a11, .int .i64 a12] 25) := ⟨_, rfl⟩
  obtain ⟨k_p, B1⟩ := st1 hW1
  rw [← hW1]
  clear hW1
  obtain ⟨c_p_0, c_p_1, c_p_2, c_p_3, c_p_4, c_p_5, c_p_6, c_p_7, c_p_8, c_p_9, c_p_10, c_p_11⟩ := bwc12 (k_p)
  obtain ⟨p1, hp1⟩ : ∃ p : BW W1, p.w = W1 := ⟨BW.start W1, rfl⟩
  rw [← hp1]
  clear hp1
  go_upto_region 3 with (go_at_call 23; (with_reducible refine (bw_call KF.out _).mono ?_); rintro e w' ⟨rfl, q, rfl⟩)
  clear KF c_p_0 c_p_1 c_p_2 c_p_3 c_p_4 c_p_5 c_p_6 c_p_7 c_p_8 c_p_9 c_p_10 c_p_11
  have k_p := k_p.below q.h
  have B2 := bw_below B1 q
  generalize q.w = wq at *
  go_wp2
  go_loopw [8, 9] (fun u i wr => ∃ (k : Nat), k ≤ n ∧ i = .int .i64 k ∧ VRow wr w.heap.size u ((List.range k).flatMap (gfaces n)) ∧ Bk wr w.heap.size 25 #[.int .i64 a1, .int .i64 a2, .int .i64 a3, .int .i64 a4, .int .i64 a5, .int .i64 a6, .int .i64 a7, .int .i64 a8, .int .i64 a9, .int .i64 a10, .int .i64 a11, .int .i64 a12] ∧ Below w.heap.size w wr) (fun _ i _ => n - (intOf i).toNat)
  case atStart => exact ⟨0, by omega, rfl, vrow_nil _ _, k_p, B2⟩
  case round =>
    clear k_p B2
    obtain ⟨k, hk, rfl, hcor, k_p, BO⟩ := hrel
    by_cases hlt : k < n
    · obtain ⟨N0, hN0⟩ : ∃ N0, N0 = k * (n * 6) := ⟨_, rfl⟩
      have hNl : N0 ≤ 400 := by rw [hN0]; exact Nat.le_trans (Nat.mul_le_mul (Nat.le_of_lt hlt) (Nat.le_refl _)) (Nat.le_trans (Nat.mul_le_mul (show n ≤ 8 by omega) (show n * 6 ≤ 48 by omega)) (by decide))
      have hlen0 : ((List.range k).flatMap (gfaces n)).length = N0 := by rw [gK_len, hN0]
      clear hN0
      have HST := Lib.hid (gK_next n k)
      obtain ⟨T0, hT0⟩ : ∃ T0, T0 = (List.range k).flatMap (gfaces n) := ⟨_, rfl⟩
      rw [← hT0] at hcor hlen0 HST
      clear hT0
      go_wp2
      rename World => wz
      go_loopw [8, 10] (fun u i wr => ∃ (i' : Nat), i' ≤ n ∧ i = .int .i64 i' ∧ VRow wr w.heap.size u (T0 ++ (List.range i').flatMap (gface n k)) ∧ Bk wr w.heap.size 25 #[.int .i64 a1, .int .i64 a2, .int .i64 a3, .int .i64 a4, .int .i64 a5, .int .i64 a6, .int .i64 a7, .int .i64 a8, .int .i64 a9, .int .i64 a10, .int .i64 a11, .int .i64 a12] ∧ Below w.heap.size w wr) (fun _ i _ => n - (intOf i).toNat)
      case atStart => exact ⟨0, by omega, rfl, (by rw [List.range_zero, List.flatMap_nil, List.append_nil]; exact hcor), k_p, BO⟩
      case round =>
        clear hcor k_p BO
        obtain ⟨i, hi, rfl, hcor, k_p, BO⟩ := hrel
        have B1 := BO
        have hlen : (T0 ++ (List.range i).flatMap (gface n k)).length = N0 + i * 6 := by rw [List.length_append, hlen0, gI_len]
        by_cases hlj : i < n
        · have HS : Hid (T0 ++ (List.range (i + 1)).flatMap (gface n k) = (T0 ++ (List.range i).flatMap (gface n k)) ++ faceL (lineI i n, lineI k n, 0) (lineI (i + 1) n, lineI k n, 0) (lineI (i + 1) n, lineI (k + 1) n, 0) (lineI i n, lineI (k + 1) n, 0)) := Lib.hid (by rw [gI_next, List.append_assoc]; rfl)
          have L1 : lineI i n = dv (128 * (i : Int)) (n : Int) - 64 := rfl
          have L2 : lineI (i + 1) n = dv (128 * ((i : Int) + 1)) (n : Int) - 64 := rfl
          have L3 : lineI k n = dv (128 * (k : Int)) (n : Int) - 64 := rfl
          have L4 : lineI (k + 1) n = dv (128 * ((k : Int) + 1)) (n : Int) - 64 := rfl
          have s1 := line_small i n (by omega)
          have s2 := line_small (i + 1) n (by omega)
          have s3 := line_small k n (by omega)
          have s4 := line_small (k + 1) n (by omega)
          have D1 := Lib.hid (fun w => below_of_same (fun w => ref_Div (128 * (i : Int)) (n : Int) w ⟨by omega, by omega⟩ ⟨by omega, by omega⟩) w)
          have D2 := Lib.hid (fun w => below_of_same (fun w => ref_Div (128 * ((i : Int) + 1)) (n : Int) w ⟨by omega, by omega⟩ ⟨by omega, by omega⟩) w)
          have D3 := Lib.hid (fun w => below_of_same (fun w => ref_Div (128 * (k : Int)) (n : Int) w ⟨by omega, by omega⟩ ⟨by omega, by omega⟩) w)
          have D4 := Lib.hid (fun w => below_of_same (fun w => ref_Div (128 * ((k : Int) + 1)) (n : Int) w ⟨by omega, by omega⟩ ⟨by omega, by omega⟩) w)
          rw [L1, L2, L3, L4] at HS
          simp only [Int.natCast_add, Int.natCast_one] at s2 s4
          clear L1 L2 L3 L4
          generalize dv (128 * (i : Int)) (n : Int) = x1 at *
          generalize dv (128 * ((i : Int) + 1)) (n : Int) = x2 at *
          generalize dv (128 * (k : Int)) (n : Int) = x3 at *
          generalize dv (128 * ((k : Int) + 1)) (n : Int) = x4 at *
          have KH := Lib.hid (fun w => ref19_face (x1 - 64) (x3 - 64) 0 (x2 - 64) (x3 - 64) 0 (x2 - 64) (x4 - 64) 0 (x1 - 64) (x4 - 64) 0 w)
          obtain ⟨L, hL⟩ : ∃ L, L = T0 ++ (List.range i).flatMap (gface n k) := ⟨_, rfl⟩
          rw [← hL] at hcor hlen HS
          clear hL
          obtain ⟨al, cl, rfl⟩ := owns_val19 hcor
          rw [hlen]
          have hcor : VRow wr w.heap.size (.slice al (N0 + i * 6) cl) L := by rw [hlen] at hcor; exact hcor
          obtain ⟨c_p_0, c_p_1, c_p_2, c_p_3, c_p_4, c_p_5, c_p_6, c_p_7, c_p_8, c_p_9, c_p_10, c_p_11⟩ := bwc12 (k_p)
          obtain ⟨p1, hp1⟩ : ∃ p : BW wr, p.w = wr := ⟨BW.start wr, rfl⟩
          rw [← hp1]
          clear hp1
          go_wp2_with (first
            | (go_at_call 28; (first | (with_reducible refine (bw_call D1.out _).mono ?_) | (with_reducible refine (bw_call D2.out _).mono ?_) | (with_reducible refine (bw_call D3.out _).mono ?_) | (with_reducible refine (bw_call D4.out _).mono ?_)); rintro e w' ⟨rfl, q, rfl⟩)
            | (go_at_call 24; (with_reducible refine (KH.out _).mono ?_); rintro e w' ⟨gh, rfl, hgl, k_gh, hb⟩; obtain ⟨qf, rfl⟩ := bw_take hb)
            | (at_builtin; refine wpList_append_at rfl _ _ 48 rfl w.heap.size 23 i0 _ 3 24 Try.underlying48 hi0 hz0 hz1 hz2 rfl (by decide) _ (N0 + i * 6) (L.flatMap vcells) rfl (by have h := hcor.below qf.h; unfold VRow at h; rw [hlen] at h; exact h) ⟨gh, 0, none⟩ 6 6 ((faceL (x1 - 64, x3 - 64, 0) (x2 - 64, x3 - 64, 0) (x2 - 64, x4 - 64, 0) (x1 - 64, x4 - 64, 0)).flatMap vcells) rfl rfl ?g1 ?g2 ?g3 ?g4 ?g5 ?_))
          case g1 => exact cells_at19 k_gh
          case g2 => exact flat_one19 vcells_one _
          case g3 => unfold maxLen; omega
          case g4 => omega
          case g5 => exact (bw_below B1 qf).size
          intro v' w1 hown hgrow hat
          have hcq := hcor.below qf.h
          have hb1 : Below w.heap.size w w1 := (bw_below B1 qf).grown hgrow (bw_below B1 qf).size (fun j ej => (World.ownsRow.lt hcq j ej).1)
          have hrow : VRow w1 w.heap.size v' (L ++ (faceL (x1 - 64, x3 - 64, 0) (x2 - 64, x3 - 64, 0) (x2 - 64, x4 - 64, 0) (x1 - 64, x4 - 64, 0))) := by unfold VRow; rw [List.length_append, hlen, List.flatMap_append]; exact hown
          have k_p1 := bk_grown19 hcq (k_p.below qf.h) (by decide) hgrow
          clear hgrow hat hown hcq hcor
          go_wp2
          go_roundw
          case rel => exact ⟨i + 1, by omega, by go_num, (by rw [HS.out]; exact hrow), k_p1, hb1⟩
          case measure => simp [intOf]; omega
        · have hie : i = n := by omega
          have hc2 : ∀ v, VRow wr w.heap.size v (T0 ++ (List.range i).flatMap (gface n k)) → VRow wr w.heap.size v ((List.range (k + 1)).flatMap (gfaces n)) := fun v h => by rw [HST.out]; rw [hie] at h; exact h
          have hcor := hc2 _ hcor
          clear hc2
          clear hie hlen
          go_wp2
          go_roundw
          case rel => exact ⟨k + 1, by omega, by go_num, hcor, k_p, BO⟩
          case measure => simp [intOf]; omega
    · have hke : k = n := by omega
      rw [hke] at hcor
      have B1 := BO
      have hlen := gK_len n n
      obtain ⟨LN, hLN⟩ : ∃ LN, LN = n * (n * 6) := ⟨_, rfl⟩
      rw [← hLN] at hlen
      obtain ⟨al, cl, rfl⟩ := owns_val19 hcor
      have hcor : VRow wr w.heap.size (.slice al LN cl) ((gridT n).flatMap (cor3 (gridV n))) := by rw [← gall_cor]; rw [hlen] at hcor; exact hcor
      rw [hlen]
      clear hke hlen hLN
      obtain ⟨c_p_0, c_p_1, c_p_2, c_p_3, c_p_4, c_p_5, c_p_6, c_p_7, c_p_8, c_p_9, c_p_10, c_p_11⟩ := bwc12 (k_p)
      obtain ⟨p1, hp1⟩ : ∃ p : BW wr, p.w = wr := ⟨BW.start wr, rfl⟩
      rw [← hp1]
      clear hp1
      skip
      have KP1 : Hid (∀ q : BW wr, Calls Try.prog 26 #[.slice al LN cl, .agg #[.int .i64 a1, .int .i64 a2, .int .i64 a3, .int .i64 a4, .int .i64 a5, .int .i64 a6, .int .i64 a7, .int .i64 a8, .int .i64 a9, .int .i64 a10, .int .i64 a11, .int .i64 a12], .int .i64 m] q.w fun e w' => ∃ v, e = .returned (.tuple #[v, .int .i64 R.2]) ∧ PRow w' w.heap.size v R.1 ∧ Below w.heap.size w w') := Lib.hid (fun q => (KP.out w.heap.size (.slice al LN cl) q.w (hcor.below q.h)).mono (by
        rintro e w' ⟨v, rfl, hv, hb⟩
        exact ⟨v, rfl, owns_mono hv (bw_below B1 q).size, (bw_below B1 q).trans (hb.mono (bw_below B1 q).size)⟩))
      go_wp2_with (go_at_call 26; (with_reducible refine (KP1.out _).mono ?_); rintro e w2 ⟨v, rfl, hv, hb2⟩)
      exact bodyPost_ret (v := .tuple #[v, .int .i64 R.2]) (by simp [results, Try.results10, go_sem]) rfl ⟨_, rfl, hv, hb2⟩

theorem ref19_Grid (n a1 a2 a3 a4 a5 a6 a7 a8 a9 a10 a11 a12 m : Int) (w : World) (hm : I64 m) :
    Calls Try.prog 10 #[.int .i64 n, .agg #[.int .i64 a1, .int .i64 a2, .int .i64 a3, .int .i64 a4, .int .i64 a5, .int .i64 a6, .int .i64 a7, .int .i64 a8, .int .i64 a9, .int .i64 a10, .int .i64 a11, .int .i64 a12], .int .i64 m] w fun e w' => ∃ v, e = .returned (.tuple #[v, .int .i64 (mGrid n ((a1, a2, a3), (a4, a5, a6), (a7, a8, a9), (a10, a11, a12)) m).2]) ∧ PRow w' w.heap.size v (mGrid n ((a1, a2, a3), (a4, a5, a6), (a7, a8, a9), (a10, a11, a12)) m).1 ∧ Below w.heap.size w w' := by
  by_cases h1 : n < 1
  · exact ref19_Grid_n1 n a1 a2 a3 a4 a5 a6 a7 a8 a9 a10 a11 a12 m w h1 (by unfold mGrid; rw [if_neg (by omega)])
  by_cases h2 : 8 < n
  · exact ref19_Grid_n2 n a1 a2 a3 a4 a5 a6 a7 a8 a9 a10 a11 a12 m w h1 h2 (by unfold mGrid; rw [if_neg (by omega)])
  cases h : mFit ((a1, a2, a3), (a4, a5, a6), (a7, a8, a9), (a10, a11, a12)) m with
  | false => exact ref19_Grid_n3 n a1 a2 a3 a4 a5 a6 a7 a8 a9 a10 a11 a12 m w h1 h2 (Lib.hid fun w => by rw [← h]; exact ref19_may a1 a2 a3 a4 a5 a6 a7 a8 a9 a10 a11 a12 m w hm) (by unfold mGrid; rw [if_pos (by omega)]; unfold mMesh; rw [h]; rfl)
  | true =>
    obtain ⟨k, rfl⟩ := Int.eq_ofNat_of_zero_le (show 0 ≤ n by omega)
    exact ref19_Grid_yes k a1 a2 a3 a4 a5 a6 a7 a8 a9 a10 a11 a12 m w (by omega) (by omega) hm h (by rw [put_placed (grid_use k (by omega) (by omega))]; unfold mGrid; rw [if_pos (by omega)]; unfold mMesh; rw [h]; rfl)

end
end Go.Proofs.Ytneacfhoinaeeaa
