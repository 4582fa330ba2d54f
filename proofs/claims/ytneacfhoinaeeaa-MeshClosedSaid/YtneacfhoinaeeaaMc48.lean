/- The walk of the statement MeshClosed: cubes and cones are closed, grids whose corners stay apart are not, a cube without a triangle is not. -/
import Derived.Test.YtneacfhoinaeeaaMc47


namespace Go.Proofs.Ytneacfhoinaeeaa
section

open Go.RowKit Go.Proofs.Sky

set_option linter.unusedVariables false

set_option linter.unusedSimpArgs false

set_option maxRecDepth 100000 in
set_option maxHeartbeats 8000000 in
theorem law_MeshClosed_no (a1 a2 a3 a4 a5 a6 a7 a8 a9 a10 a11 a12 : Int) (n at_ : Nat) (w : World) (hn : n ≤ 255) (ha : at_ ≤ 255) (h : qRight ((a1, a2, a3), (a4, a5, a6), (a7, a8, a9), (a10, a11, a12)) = false) :
    Calls Try.prog 4 #[.agg #[.int .i64 a1, .int .i64 a2, .int .i64 a3, .int .i64 a4, .int .i64 a5, .int .i64 a6, .int .i64 a7, .int .i64 a8, .int .i64 a9, .int .i64 a10, .int .i64 a11, .int .i64 a12], .int .u8 (n : Int), .int .u8 (at_ : Int)] w fun en w' => en = .returned (.bool true) ∧ Below w.heap.size w w' := by
  have KW := Lib.hid (fun w => awake19 w)
  have KR : Hid (∀ X, Calls Try.prog 16 #[.agg #[.int .i64 a1, .int .i64 a2, .int .i64 a3, .int .i64 a4, .int .i64 a5, .int .i64 a6, .int .i64 a7, .int .i64 a8, .int .i64 a9, .int .i64 a10, .int .i64 a11, .int .i64 a12]] X fun en w' => en = .returned (.bool false) ∧ Below X.heap.size X w') := Lib.hid (fun X => by
    have e := ref8_Right a1 a2 a3 a4 a5 a6 a7 a8 a9 a10 a11 a12 X
    rw [h] at e
    exact e)
  clear h
  go_enter Try.func4, Try.ntmps4
  go_upto_region 1 with (fail)
  obtain ⟨W1, hW1⟩ : ∃ W, W = w.alloc (.cells #[.int .i64 a1, .int .i64 a2, .int .i64 a3, .int .i64 a4, .int .i64 a5, .int .i64 a6, .int .i64 a7, .int .i64 a8, .int .i64 a9, .int .i64 a10, .int .i64 a11, .int .i64 a12] 25) := ⟨_, rfl⟩
  obtain ⟨k_p, B1⟩ := st1 hW1
  rw [← hW1]
  clear hW1
  obtain ⟨c_p_0, c_p_1, c_p_2, c_p_3, c_p_4, c_p_5, c_p_6, c_p_7, c_p_8, c_p_9, c_p_10, c_p_11⟩ := bwc12 (k_p)
  obtain ⟨p1, hp1⟩ : ∃ p : BW W1, p.w = W1 := ⟨BW.start W1, rfl⟩
  rw [← hp1]
  clear hp1
  go_wp2_with (first
    | (go_at_call 16; (first | (with_reducible refine (bw_call KR.out _).mono ?_)); rintro e w' ⟨rfl, q, rfl⟩)
    | (go_at_call 5; (first | (with_reducible refine (bw_call KW.out _).mono ?_)); rintro e w' ⟨rfl, q, rfl⟩))
  go_ret
  exact ⟨rfl, bw_below B1 _⟩

set_option maxRecDepth 100000 in
set_option maxHeartbeats 8000000 in
theorem law_MeshClosed_yes (a1 a2 a3 a4 a5 a6 a7 a8 a9 a10 a11 a12 : Int) (n at_ : Nat) (w : World) (hn : n ≤ 255) (ha : at_ ≤ 255) (h : qRight ((a1, a2, a3), (a4, a5, a6), (a7, a8, a9), (a10, a11, a12)) = true) :
    Calls Try.prog 4 #[.agg #[.int .i64 a1, .int .i64 a2, .int .i64 a3, .int .i64 a4, .int .i64 a5, .int .i64 a6, .int .i64 a7, .int .i64 a8, .int .i64 a9, .int .i64 a10, .int .i64 a11, .int .i64 a12], .int .u8 (n : Int), .int .u8 (at_ : Int)] w fun en w' => en = .returned (.bool true) ∧ Below w.heap.size w w' := by
  obtain ⟨i0, hi0, hz0, hz1, hz2⟩ := info_parts prim_info19
  have KW := Lib.hid (fun w => awake19 w)
  have KO := Lib.hid (fun w => law19_of a1 a2 a3 a4 a5 a6 a7 a8 a9 a10 a11 a12 w)
  have KR : Hid (∀ X, Calls Try.prog 16 #[.agg #[.int .i64 a1, .int .i64 a2, .int .i64 a3, .int .i64 a4, .int .i64 a5, .int .i64 a6, .int .i64 a7, .int .i64 a8, .int .i64 a9, .int .i64 a10, .int .i64 a11, .int .i64 a12]] X fun en w' => en = .returned (.bool true) ∧ Below X.heap.size X w') := Lib.hid (fun X => by
    have e := ref8_Right a1 a2 a3 a4 a5 a6 a7 a8 a9 a10 a11 a12 X
    rw [h] at e
    exact e)
  obtain ⟨g, hg⟩ : ∃ g, g = 1 + n % 4 := ⟨_, rfl⟩
  obtain ⟨r, hr⟩ : ∃ r, r = 3 + n % 10 := ⟨_, rfl⟩
  obtain ⟨k, hk⟩ : ∃ k, k = at_ % 12 := ⟨_, rfl⟩
  have g1 : 1 ≤ g := by omega
  have g4 : g ≤ 4 := by omega
  have r3 : 3 ≤ r := by omega
  have r12 : r ≤ 12 := by omega
  have k12 : k < 12 := by omega
  have C1 := Lib.hid (fun w => mesh_Cube a1 a2 a3 a4 a5 a6 a7 a8 a9 a10 a11 a12 3 w ⟨by omega, by omega⟩)
  have C2 := Lib.hid (fun w => mesh_Grid (g : Int) a1 a2 a3 a4 a5 a6 a7 a8 a9 a10 a11 a12 3 w ⟨by omega, by omega⟩)
  have C3 := Lib.hid (fun w => mesh_Cone (r : Int) a1 a2 a3 a4 a5 a6 a7 a8 a9 a10 a11 a12 3 w ⟨by omega, by omega⟩)
  have O1 := out_cube h
  have O2 := out_grid h g1 g4
  have O3 := out_cone h r3 r12
  generalize mCube ((a1, a2, a3), (a4, a5, a6), (a7, a8, a9), (a10, a11, a12)) 3 = RA at *
  generalize mGrid (g : Int) ((a1, a2, a3), (a4, a5, a6), (a7, a8, a9), (a10, a11, a12)) 3 = RB at *
  generalize mCone (r : Int) ((a1, a2, a3), (a4, a5, a6), (a7, a8, a9), (a10, a11, a12)) 3 = RC at *
  obtain ⟨lA, eA⟩ := RA
  obtain ⟨lB, eB⟩ := RB
  obtain ⟨lC, eC⟩ := RC
  dsimp only at C1 C2 C3 O1 O2 O3
  have HG : Hid (1 + (n : Int) % 4 = (g : Int)) := Lib.hid (by omega)
  have HR : Hid (3 + (n : Int) % 10 = (r : Int)) := Lib.hid (by omega)
  have HK : Hid ((at_ : Int) % 12 = (k : Int)) := Lib.hid (by omega)
  clear h hg hr hk
  go_enter Try.func4, Try.ntmps4
  go_upto_region 1 with (fail)
  obtain ⟨W1, hW1⟩ : ∃ W, W = w.alloc (.cells #[.int .i64 a1, .int .i64 a2, .int .i64 a3, .int .i64 a4, .int .i64 a5, .int .i64 a6, .int .i64 a7, .int .i64 a8, .int .i64 a9, .int .i64 a10, .int .i64 a11, .int .i64 a12] 25) := ⟨_, rfl⟩
  obtain ⟨k_p, B1⟩ := st1 hW1
  rw [← hW1]
  clear hW1
  obtain ⟨c_p_0, c_p_1, c_p_2, c_p_3, c_p_4, c_p_5, c_p_6, c_p_7, c_p_8, c_p_9, c_p_10, c_p_11⟩ := bwc12 (k_p)
  obtain ⟨p1, hp1⟩ : ∃ p : BW W1, p.w = W1 := ⟨BW.start W1, rfl⟩
  rw [← hp1]
  clear hp1
  go_upto_region 4 with (first
    | (go_at_call 16; (first | (with_reducible refine (bw_call KR.out _).mono ?_)); rintro e w' ⟨rfl, q, rfl⟩))
  rw [HG.out, HR.out]
  clear HG HR
  go_upto_region 5 with (first
    | (go_at_call 7; (with_reducible refine (bw_call KO.out _).mono ?_); rintro e w' ⟨rfl, q, rfl⟩)
    | (go_at_call 6; (with_reducible refine (C1.out _).mono ?_); rintro e w' ⟨v_hva, rfl, hva, hb⟩; obtain ⟨q', rfl⟩ := bw_take hb))
  have hva : PRow q'.w w.heap.size v_hva lA := owns_mono hva (bw_below B1 q).size
  obtain ⟨W2, hW2⟩ : ∃ W, W = q'.w := ⟨_, rfl⟩
  have B2 : Below w.heap.size w W2 := by rw [hW2]; exact (bw_below B1 q')
  have k_p := k_p.below q'.h
  rw [← hW2] at k_p
  rw [← hW2] at hva
  rw [← hW2]
  clear hW2
  clear B1
  clear c_p_0 c_p_1 c_p_2 c_p_3 c_p_4 c_p_5 c_p_6 c_p_7 c_p_8 c_p_9 c_p_10 c_p_11
  obtain ⟨c_p_0, c_p_1, c_p_2, c_p_3, c_p_4, c_p_5, c_p_6, c_p_7, c_p_8, c_p_9, c_p_10, c_p_11⟩ := bwc12 (k_p)
  obtain ⟨p2, hp2⟩ : ∃ p : BW W2, p.w = W2 := ⟨BW.start W2, rfl⟩
  rw [← hp2]
  clear hp2
  go_upto_region 6 with (first
    | (go_at_call 7; (with_reducible refine (bw_call KO.out _).mono ?_); rintro e w' ⟨rfl, q, rfl⟩)
    | (go_at_call 9; (with_reducible refine (C2.out _).mono ?_); rintro e w' ⟨v_hvb, rfl, hvb, hb⟩; obtain ⟨q', rfl⟩ := bw_take hb))
  have hvb : PRow q'.w w.heap.size v_hvb lB := owns_mono hvb (bw_below B2 q).size
  obtain ⟨W3, hW3⟩ : ∃ W, W = q'.w := ⟨_, rfl⟩
  have B3 : Below w.heap.size w W3 := by rw [hW3]; exact (bw_below B2 q')
  have k_p := k_p.below q'.h
  rw [← hW3] at k_p
  have hva := hva.below q'.h
  rw [← hW3] at hva
  rw [← hW3] at hvb
  rw [← hW3]
  clear hW3
  clear B2
  clear c_p_0 c_p_1 c_p_2 c_p_3 c_p_4 c_p_5 c_p_6 c_p_7 c_p_8 c_p_9 c_p_10 c_p_11
  obtain ⟨c_p_0, c_p_1, c_p_2, c_p_3, c_p_4, c_p_5, c_p_6, c_p_7, c_p_8, c_p_9, c_p_10, c_p_11⟩ := bwc12 (k_p)
  obtain ⟨p3, hp3⟩ : ∃ p : BW W3, p.w = W3 := ⟨BW.start W3, rfl⟩
  rw [← hp3]
  clear hp3
  go_upto_region 7 with (first
    | (go_at_call 7; (with_reducible refine (bw_call KO.out _).mono ?_); rintro e w' ⟨rfl, q, rfl⟩)
    | (go_at_call 11; (with_reducible refine (C3.out _).mono ?_); rintro e w' ⟨v_hvc, rfl, hvc, hb⟩; obtain ⟨q', rfl⟩ := bw_take hb))
  have hvc : PRow q'.w w.heap.size v_hvc lC := owns_mono hvc (bw_below B3 q).size
  obtain ⟨W4, hW4⟩ : ∃ W, W = q'.w := ⟨_, rfl⟩
  have B4 : Below w.heap.size w W4 := by rw [hW4]; exact (bw_below B3 q')
  have k_p := k_p.below q'.h
  rw [← hW4] at k_p
  have hva := hva.below q'.h
  rw [← hW4] at hva
  have hvb := hvb.below q'.h
  rw [← hW4] at hvb
  rw [← hW4] at hvc
  rw [← hW4]
  clear hW4
  clear B3
  clear c_p_0 c_p_1 c_p_2 c_p_3 c_p_4 c_p_5 c_p_6 c_p_7 c_p_8 c_p_9 c_p_10 c_p_11
  obtain ⟨c_p_0, c_p_1, c_p_2, c_p_3, c_p_4, c_p_5, c_p_6, c_p_7, c_p_8, c_p_9, c_p_10, c_p_11⟩ := bwc12 (k_p)
  obtain ⟨p4, hp4⟩ : ∃ p : BW W4, p.w = W4 := ⟨BW.start W4, rfl⟩
  rw [← hp4]
  clear hp4
  have hgg : wrap64 (2 * (g : Int) * (g : Int)) = ((g * (g * 2) : Nat) : Int) := by
    obtain rfl | rfl | rfl | rfl : g = 1 ∨ g = 2 ∨ g = 3 ∨ g = 4 := by omega
    all_goals decide +kernel
  have hg1 : wrap64 (((g : Int) + 1) * ((g : Int) + 1)) = (((g + 1) * (g + 1) : Nat) : Int) := by
    obtain rfl | rfl | rfl | rfl : g = 1 ∨ g = 2 ∨ g = 3 ∨ g = 4 := by omega
    all_goals decide +kernel
  have hr2 : 2 * (r : Int) = ((r * 2 : Nat) : Int) := by omega
  have S1 : Hid (∀ q : BW W4, Calls Try.prog 17 #[v_hva, .int .i64 eA, .int .i64 12] q.w fun e w' => e = .returned (.bool true) ∧ Below q.w.heap.size q.w w') := Lib.hid (fun q => out_whole O1 (hva.below q.h) (N := 12) rfl (by omega))
  have S2 : Hid (∀ q : BW W4, Calls Try.prog 17 #[v_hvb, .int .i64 eB, .int .i64 (wrap64 (2 * (g : Int) * (g : Int)))] q.w fun e w' => e = .returned (.bool true) ∧ Below q.w.heap.size q.w w') := Lib.hid (fun q => by
    rw [hgg]
    exact out_whole O2 (hvb.below q.h) (grid_len g).symm (Nat.le_trans (Nat.mul_le_mul g4 (Nat.mul_le_mul g4 (Nat.le_refl 2))) (by decide)))
  have S3 : Hid (∀ q : BW W4, Calls Try.prog 17 #[v_hvc, .int .i64 eC, .int .i64 (2 * (r : Int))] q.w fun e w' => e = .returned (.bool true) ∧ Below q.w.heap.size q.w w') := Lib.hid (fun q => by
    rw [hr2]
    exact out_whole O3 (hvc.below q.h) (cone_len r).symm (by omega))
  have hlB : lB.length ≤ 1000 := by
    rcases O2 with ⟨q, _⟩ | ⟨_, U, q, _⟩
    · rw [q]; simp
    · rw [q, List.length_map, grid_len]
      exact Nat.le_trans (Nat.mul_le_mul g4 (Nat.mul_le_mul g4 (Nat.le_refl 2))) (by decide)
  have KP : Hid (∀ q : BW W4, Calls Try.prog 18 #[v_hvb, .int .i64 (wrap64 (((g : Int) + 1) * ((g : Int) + 1)))] q.w fun e w' => e = .returned (.bool (((mMet lB).length : Int) == (((g + 1) * (g + 1) : Nat) : Int))) ∧ Below q.w.heap.size q.w w') := Lib.hid (fun q => by
    rw [hg1]
    exact law19_apart v_hvb lB _ q.w (prow_sll (hvb.below q.h) (by omega)) hlB)
  have KB : Hid (∀ q : BW W4, Calls Try.prog 14 #[v_hvb] q.w fun e w' => e = .returned (.bool (mClosed lB)) ∧ Below q.w.heap.size q.w w') := Lib.hid (fun q => good_Closed (out_good O2) (prow_sll (hvb.below q.h) (by omega)) (by omega) rfl)
  have HB : Hid (eB = 0 → ((mMet lB).length : Int) = (((g + 1) * (g + 1) : Nat) : Int) → mClosed lB = false) := Lib.hid (by
    intro h0 hm
    rcases O2 with ⟨_, q | q⟩ | ⟨_, U, q, _⟩
    · omega
    · omega
    · rw [q] at hm ⊢
      exact grid_open g1 g4 3 U (by omega))
  generalize ((mMet lB).length : Int) = nm at *
  generalize mClosed lB = zB at *
  clear hgg hg1 hr2 hlB
  go_upto_region 9 with (first
    | (go_at_call 17; (first | (with_reducible refine (S1.out _).mono ?_) | (with_reducible refine (S2.out _).mono ?_) | (with_reducible refine (S3.out _).mono ?_)); rintro e w' ⟨rfl, hb⟩; obtain ⟨q, rfl⟩ := bw_take hb))
  clear S1 S2 S3 O2 hvb
  rcases O1 with ⟨hA, heA⟩ | ⟨heA, UA, hA, hupA⟩
  · have tA : ((eA : Int) == 0) = false := by rcases heA with rfl | rfl <;> rfl
    have tA2 : ((eA : Int) != 0) = true := by rcases heA with rfl | rfl <;> rfl
    clear hA heA hva
    rcases O3 with ⟨hC, heC⟩ | ⟨heC, UC, hC, hupC⟩
    · have tC : ((eC : Int) == 0) = false := by rcases heC with rfl | rfl <;> rfl
      clear hC heC hvc
      go_wp2_with (first
        | (go_at_call 14; (first | (with_reducible refine (KB.out _).mono ?_)); rintro e w' ⟨rfl, hb⟩; obtain ⟨q, rfl⟩ := bw_take hb)
        | (go_at_call 5; (with_reducible refine (bw_call KW.out _).mono ?_); rintro e w' ⟨rfl, q, rfl⟩))
      go_ret
      exact ⟨rfl, bw_below B4 _⟩
    · have O3 : mOut lC eC (coneT r) := .inr ⟨heC, UC, hC, hupC⟩
      have hCl : lC.length ≤ 1000000 := by rw [hC, List.length_map, cone_len]; omega
      have KC : Hid (∀ q : BW W4, Calls Try.prog 14 #[v_hvc] q.w fun e w' => e = .returned (.bool true) ∧ Below q.w.heap.size q.w w') := Lib.hid (fun q => good_Closed (out_good O3) (prow_sll (hvc.below q.h) (by omega)) (by omega) (by rw [hC]; exact even_closed (cone_even r r12 r3) 3 UC))
      subst heC
      clear O3 hC hupC hCl hvc
      go_wp2_with (first
        | (go_at_call 14; (first | (with_reducible refine (KC.out _).mono ?_)); rintro e w' ⟨rfl, hb⟩; obtain ⟨q, rfl⟩ := bw_take hb)
        | (go_at_call 5; (with_reducible refine (bw_call KW.out _).mono ?_); rintro e w' ⟨rfl, q, rfl⟩))
      go_ret
      exact ⟨rfl, bw_below B4 _⟩
  · have O1 : mOut lA eA cubeT := .inr ⟨heA, UA, hA, hupA⟩
    have hlA : lA.length = 12 := by rw [hA, List.length_map]; rfl
    have KA : Hid (∀ q : BW W4, Calls Try.prog 14 #[v_hva] q.w fun e w' => e = .returned (.bool true) ∧ Below q.w.heap.size q.w w') := Lib.hid (fun q => good_Closed (out_good O1) (prow_sll (hva.below q.h) (by omega)) (by omega) (by rw [hA]; exact even_closed cube_even 3 UA))
    have hLo : mClosed (lA.take k ++ lA.drop (k + 1)) = false := by rw [hA]; exact cube_less hupA k12
    have hll : (lA.take k ++ lA.drop (k + 1)).length = 11 := by rw [List.length_append, List.length_take, List.length_drop, hlA]; omega
    have hGood : ∀ p ∈ lA.take k ++ lA.drop (k + 1), mGood p := fun p hp => by
      rcases List.mem_append.1 hp with h1 | h1
      · exact out_good O1 p (List.mem_of_mem_take h1)
      · exact out_good O1 p (List.mem_of_mem_drop h1)
    obtain ⟨gA, ca, ad, c2, rfl, hca, hgA, hsl2, hct, hcd⟩ := cube_cut hva hlA k12
    have HL1 : Hid (((lA.take k).flatMap pcells).length = k * 12) := Lib.hid (by rw [flat_len_const pcells 12 _ (fun _ _ => rfl), List.length_take, hlA, Nat.min_eq_left (by omega)])
    have HL2 : Hid (((lA.drop (k + 1)).flatMap pcells).length = (11 - k) * 12) := Lib.hid (by rw [flat_len_const pcells 12 _ (fun _ _ => rfl), List.length_drop, hlA, show 12 - (k + 1) = 11 - k by omega])
    have HT1 := Lib.hid hct
    have HT2 := Lib.hid hcd
    have HO1 : Hid (∀ u ∈ (lA.take k).flatMap pcells, u.oneCell' = true) := Lib.hid (flat_one19 pcells_one _)
    have HO2 : Hid (∀ u ∈ (lA.drop (k + 1)).flatMap pcells, u.oneCell' = true) := Lib.hid (flat_one19 pcells_one _)
    have HLESS : Hid (∀ (X : World) (v : Value), X.ownsRow W4.heap.size 45 12 v (k + (11 - k)) ((lA.take k).flatMap pcells ++ (lA.drop (k + 1)).flatMap pcells) → PRow X W4.heap.size v (lA.take k ++ lA.drop (k + 1))) := Lib.hid (fun X v h => by
      unfold PRow
      rw [hll, List.flatMap_append]
      rw [show k + (11 - k) = 11 by omega] at h
      exact h)
    have HKL : Hid (∀ (X : World) (v : Value), PRow X W4.heap.size v (lA.take k ++ lA.drop (k + 1)) → Calls Try.prog 14 #[v] X fun e w' => e = .returned (.bool false) ∧ Below X.heap.size X w') := Lib.hid (fun X v h => good_Closed hGood (prow_sll h (by omega)) (by omega) hLo)
    generalize (lA.take k).flatMap pcells = L1 at *
    generalize (lA.drop (k + 1)).flatMap pcells = L2 at *
    generalize lA.take k ++ lA.drop (k + 1) = LE at *
    subst heA
    clear O1 hA hupA hLo hll hGood hct hcd hva hlA
    rcases O3 with ⟨hC, heC⟩ | ⟨heC, UC, hC, hupC⟩
    · have tC : ((eC : Int) == 0) = false := by rcases heC with rfl | rfl <;> rfl
      clear hC heC hvc
      go_upto_region 15 with (first
        | (go_at_call 14; (first | (with_reducible refine (KA.out _).mono ?_)); rintro e w' ⟨rfl, hb⟩; obtain ⟨q, rfl⟩ := bw_take hb)
        | (go_at_call 5; (with_reducible refine (bw_call KW.out _).mono ?_); rintro e w' ⟨rfl, q, rfl⟩))
      rw [HK.out]
      have hsl1 : ∀ W, (Instr.slice 26 (.slice (some ⟨gA, 0, none⟩) 12 ca) none (some (.int .i64 (k : Int))) none).run Try.prog W = .ok (.slice (some ⟨gA, 0, none⟩) k ca) W := fun W => slice_to19 _ 12 ca k (by omega) W
      go_upto_region 16 with (at_builtin; refine wpList_append_at rfl _ _ 26 rfl W4.heap.size 45 i0 _ 12 96 Try.underlying26 hi0 hz0 hz1 hz2 rfl (by decide) _ 0 [] rfl (World.ownsRow_nil _ _ _ _) ⟨gA, 0, none⟩ k ca L1 rfl HL1.out ?g1 ?g2 ?g3 ?g4 ?g5 ?_)
      case g1 => exact HT1.out _ (BW.h _)
      case g2 => exact HO1.out
      case g3 => unfold maxLen; omega
      case g4 => omega
      case g5 => exact (BW.h _).size
      intro v' w1 hown hgrow hat
      have hown1 : w1.ownsRow W4.heap.size 45 12 v' k L1 := hown
      have hbW : Below W4.heap.size W4 w1 := (BW.h _).grown hgrow (BW.h _).size (fun j ej => by cases ej)
      obtain ⟨q1, rfl⟩ : ∃ q : BW W4, w1 = q.w := ⟨⟨w1, hbW⟩, rfl⟩
      clear hown hgrow hat hbW hsl1
      go_upto_region 17 with (at_builtin; refine wpList_append_at rfl _ _ 26 rfl W4.heap.size 45 i0 _ 12 96 Try.underlying26 hi0 hz0 hz1 hz2 rfl (by decide) _ k L1 rfl hown1 ad (11 - k) c2 L2 rfl HL2.out ?g1 ?g2 ?g3 ?g4 ?g5 ?_)
      case g1 => exact HT2.out _ q1.h
      case g2 => exact HO2.out
      case g3 => unfold maxLen; omega
      case g4 => omega
      case g5 => exact q1.h.size
      intro v2 w2 hown2 hgrow2 hat2
      have hbW2 : Below W4.heap.size W4 w2 := q1.h.grown hgrow2 q1.h.size (fun j ej => (World.ownsRow.lt hown1 j ej).1)
      have hless := HLESS.out _ _ hown2
      obtain ⟨q2, rfl⟩ : ∃ q : BW W4, w2 = q.w := ⟨⟨w2, hbW2⟩, rfl⟩
      have KL := Lib.hid (HKL.out _ _ hless)
      clear hown1 hown2 hgrow2 hat2 hbW2 hless
      by_cases e0 : eB = 0
      · subst e0
        by_cases hnm : nm = (((g + 1) * (g + 1) : Nat) : Int)
        · have tm : (nm == (((g + 1) * (g + 1) : Nat) : Int)) = true := beq_iff_eq.2 hnm
          have hz := HB.out rfl hnm
          rw [tm] at KP
          rw [hz] at KB
          clear hz hnm tm
          go_wp2_with (first
            | (go_at_call 14; (first | (with_reducible refine (KL.out).mono ?_) | (with_reducible refine (KB.out _).mono ?_)); rintro e w' ⟨rfl, hb⟩; obtain ⟨q, rfl⟩ := bw_take hb)
            | (go_at_call 18; (with_reducible refine (KP.out _).mono ?_); rintro e w' ⟨rfl, hb⟩; obtain ⟨q, rfl⟩ := bw_take hb)
            | (go_at_call 5; (with_reducible refine (bw_call KW.out _).mono ?_); rintro e w' ⟨rfl, q, rfl⟩))
          go_ret
          exact ⟨rfl, bw_below B4 _⟩
        · have tm : (nm == (((g + 1) * (g + 1) : Nat) : Int)) = false := by rw [beq_eq_false_iff_ne]; exact hnm
          rw [tm] at KP
          clear hnm tm
          go_wp2_with (first
            | (go_at_call 14; (first | (with_reducible refine (KL.out).mono ?_) | (with_reducible refine (KB.out _).mono ?_)); rintro e w' ⟨rfl, hb⟩; obtain ⟨q, rfl⟩ := bw_take hb)
            | (go_at_call 18; (with_reducible refine (KP.out _).mono ?_); rintro e w' ⟨rfl, hb⟩; obtain ⟨q, rfl⟩ := bw_take hb)
            | (go_at_call 5; (with_reducible refine (bw_call KW.out _).mono ?_); rintro e w' ⟨rfl, q, rfl⟩))
          go_ret
          exact ⟨rfl, bw_below B4 _⟩
      · have tB : ((eB : Int) != 0) = true := by rw [bne_iff_ne]; exact e0
        clear e0
        go_wp2_with (first
          | (go_at_call 14; (first | (with_reducible refine (KL.out).mono ?_) | (with_reducible refine (KB.out _).mono ?_)); rintro e w' ⟨rfl, hb⟩; obtain ⟨q, rfl⟩ := bw_take hb)
          | (go_at_call 18; (with_reducible refine (KP.out _).mono ?_); rintro e w' ⟨rfl, hb⟩; obtain ⟨q, rfl⟩ := bw_take hb)
          | (go_at_call 5; (with_reducible refine (bw_call KW.out _).mono ?_); rintro e w' ⟨rfl, q, rfl⟩))
        go_ret
        exact ⟨rfl, bw_below B4 _⟩
    · have O3 : mOut lC eC (coneT r) := .inr ⟨heC, UC, hC, hupC⟩
      have hCl : lC.length ≤ 1000000 := by rw [hC, List.length_map, cone_len]; omega
      have KC : Hid (∀ q : BW W4, Calls Try.prog 14 #[v_hvc] q.w fun e w' => e = .returned (.bool true) ∧ Below q.w.heap.size q.w w') := Lib.hid (fun q => good_Closed (out_good O3) (prow_sll (hvc.below q.h) (by omega)) (by omega) (by rw [hC]; exact even_closed (cone_even r r12 r3) 3 UC))
      subst heC
      clear O3 hC hupC hCl hvc
      go_upto_region 15 with (first
        | (go_at_call 14; (first | (with_reducible refine (KA.out _).mono ?_) | (with_reducible refine (KC.out _).mono ?_)); rintro e w' ⟨rfl, hb⟩; obtain ⟨q, rfl⟩ := bw_take hb)
        | (go_at_call 5; (with_reducible refine (bw_call KW.out _).mono ?_); rintro e w' ⟨rfl, q, rfl⟩))
      rw [HK.out]
      have hsl1 : ∀ W, (Instr.slice 26 (.slice (some ⟨gA, 0, none⟩) 12 ca) none (some (.int .i64 (k : Int))) none).run Try.prog W = .ok (.slice (some ⟨gA, 0, none⟩) k ca) W := fun W => slice_to19 _ 12 ca k (by omega) W
      go_upto_region 16 with (at_builtin; refine wpList_append_at rfl _ _ 26 rfl W4.heap.size 45 i0 _ 12 96 Try.underlying26 hi0 hz0 hz1 hz2 rfl (by decide) _ 0 [] rfl (World.ownsRow_nil _ _ _ _) ⟨gA, 0, none⟩ k ca L1 rfl HL1.out ?g1 ?g2 ?g3 ?g4 ?g5 ?_)
      case g1 => exact HT1.out _ (BW.h _)
      case g2 => exact HO1.out
      case g3 => unfold maxLen; omega
      case g4 => omega
      case g5 => exact (BW.h _).size
      intro v' w1 hown hgrow hat
      have hown1 : w1.ownsRow W4.heap.size 45 12 v' k L1 := hown
      have hbW : Below W4.heap.size W4 w1 := (BW.h _).grown hgrow (BW.h _).size (fun j ej => by cases ej)
      obtain ⟨q1, rfl⟩ : ∃ q : BW W4, w1 = q.w := ⟨⟨w1, hbW⟩, rfl⟩
      clear hown hgrow hat hbW hsl1
      go_upto_region 17 with (at_builtin; refine wpList_append_at rfl _ _ 26 rfl W4.heap.size 45 i0 _ 12 96 Try.underlying26 hi0 hz0 hz1 hz2 rfl (by decide) _ k L1 rfl hown1 ad (11 - k) c2 L2 rfl HL2.out ?g1 ?g2 ?g3 ?g4 ?g5 ?_)
      case g1 => exact HT2.out _ q1.h
      case g2 => exact HO2.out
      case g3 => unfold maxLen; omega
      case g4 => omega
      case g5 => exact q1.h.size
      intro v2 w2 hown2 hgrow2 hat2
      have hbW2 : Below W4.heap.size W4 w2 := q1.h.grown hgrow2 q1.h.size (fun j ej => (World.ownsRow.lt hown1 j ej).1)
      have hless := HLESS.out _ _ hown2
      obtain ⟨q2, rfl⟩ : ∃ q : BW W4, w2 = q.w := ⟨⟨w2, hbW2⟩, rfl⟩
      have KL := Lib.hid (HKL.out _ _ hless)
      clear hown1 hown2 hgrow2 hat2 hbW2 hless
      by_cases e0 : eB = 0
      · subst e0
        by_cases hnm : nm = (((g + 1) * (g + 1) : Nat) : Int)
        · have tm : (nm == (((g + 1) * (g + 1) : Nat) : Int)) = true := beq_iff_eq.2 hnm
          have hz := HB.out rfl hnm
          rw [tm] at KP
          rw [hz] at KB
          clear hz hnm tm
          go_wp2_with (first
            | (go_at_call 14; (first | (with_reducible refine (KL.out).mono ?_) | (with_reducible refine (KB.out _).mono ?_)); rintro e w' ⟨rfl, hb⟩; obtain ⟨q, rfl⟩ := bw_take hb)
            | (go_at_call 18; (with_reducible refine (KP.out _).mono ?_); rintro e w' ⟨rfl, hb⟩; obtain ⟨q, rfl⟩ := bw_take hb)
            | (go_at_call 5; (with_reducible refine (bw_call KW.out _).mono ?_); rintro e w' ⟨rfl, q, rfl⟩))
          go_ret
          exact ⟨rfl, bw_below B4 _⟩
        · have tm : (nm == (((g + 1) * (g + 1) : Nat) : Int)) = false := by rw [beq_eq_false_iff_ne]; exact hnm
          rw [tm] at KP
          clear hnm tm
          go_wp2_with (first
            | (go_at_call 14; (first | (with_reducible refine (KL.out).mono ?_) | (with_reducible refine (KB.out _).mono ?_)); rintro e w' ⟨rfl, hb⟩; obtain ⟨q, rfl⟩ := bw_take hb)
            | (go_at_call 18; (with_reducible refine (KP.out _).mono ?_); rintro e w' ⟨rfl, hb⟩; obtain ⟨q, rfl⟩ := bw_take hb)
            | (go_at_call 5; (with_reducible refine (bw_call KW.out _).mono ?_); rintro e w' ⟨rfl, q, rfl⟩))
          go_ret
          exact ⟨rfl, bw_below B4 _⟩
      · have tB : ((eB : Int) != 0) = true := by rw [bne_iff_ne]; exact e0
        clear e0
        go_wp2_with (first
          | (go_at_call 14; (first | (with_reducible refine (KL.out).mono ?_) | (with_reducible refine (KB.out _).mono ?_)); rintro e w' ⟨rfl, hb⟩; obtain ⟨q, rfl⟩ := bw_take hb)
          | (go_at_call 18; (with_reducible refine (KP.out _).mono ?_); rintro e w' ⟨rfl, hb⟩; obtain ⟨q, rfl⟩ := bw_take hb)
          | (go_at_call 5; (with_reducible refine (bw_call KW.out _).mono ?_); rintro e w' ⟨rfl, q, rfl⟩))
        go_ret
        exact ⟨rfl, bw_below B4 _⟩

theorem law_MeshClosed (a1 a2 a3 a4 a5 a6 a7 a8 a9 a10 a11 a12 : Int) (n at_ : Nat) (w : World) (hn : n ≤ 255) (ha : at_ ≤ 255) :
    Calls Try.prog 4 #[.agg #[.int .i64 a1, .int .i64 a2, .int .i64 a3, .int .i64 a4, .int .i64 a5, .int .i64 a6, .int .i64 a7, .int .i64 a8, .int .i64 a9, .int .i64 a10, .int .i64 a11, .int .i64 a12], .int .u8 (n : Int), .int .u8 (at_ : Int)] w fun en w' => en = .returned (.bool true) ∧ Below w.heap.size w w' := by
  cases h : qRight ((a1, a2, a3), (a4, a5, a6), (a7, a8, a9), (a10, a11, a12)) with
  | false => exact law_MeshClosed_no a1 a2 a3 a4 a5 a6 a7 a8 a9 a10 a11 a12 n at_ w hn ha h
  | true => exact law_MeshClosed_yes a1 a2 a3 a4 a5 a6 a7 a8 a9 a10 a11 a12 n at_ w hn ha h

theorem u8_of_wf19 {v : Int} (h : (Lit.int .u8 v).wf = true) : 0 ≤ v ∧ v ≤ 255 := by
  simp [Lit.wf, IntKind.min, IntKind.max, IntKind.signed, IntKind.bits] at h
  omega

theorem law_MeshClosedI (a1 a2 a3 a4 a5 a6 a7 a8 a9 a10 a11 a12 n at_ : Int) (w : World) (hn : (Lit.int .u8 n).wf = true) (ha : (Lit.int .u8 at_).wf = true) :
    Calls Try.prog 4 #[.agg #[.int .i64 a1, .int .i64 a2, .int .i64 a3, .int .i64 a4, .int .i64 a5, .int .i64 a6, .int .i64 a7, .int .i64 a8, .int .i64 a9, .int .i64 a10, .int .i64 a11, .int .i64 a12], .int .u8 n, .int .u8 at_] w fun en w' => en = .returned (.bool true) ∧ Below w.heap.size w w' := by
  obtain ⟨h1, h2⟩ := u8_of_wf19 hn
  obtain ⟨h3, h4⟩ := u8_of_wf19 ha
  obtain ⟨x, rfl⟩ := Int.eq_ofNat_of_zero_le h1
  obtain ⟨y, rfl⟩ := Int.eq_ofNat_of_zero_le h3
  exact law_MeshClosed a1 a2 a3 a4 a5 a6 a7 a8 a9 a10 a11 a12 x y w (by omega) (by omega)

end
end Go.Proofs.Ytneacfhoinaeeaa
