/- Contracts of the landed mesh: the frames' parts. -/
import Derived.Test.YtneacfhoinaeeaaMc28
import Derived.Test.YtneacfhoinaeeaaMc4
import Derived.Test.YtneacfhoinaeeaaMc35
import Derived.Test.YtneacfhoinaeeaaMc9
import Derived.Deep.DeepCutAuto


namespace Go.Proofs.Ytneacfhoinaeeaa
section

open Go.RowKit Go.Proofs.Sky

set_option linter.unusedVariables false

set_option linter.unusedSimpArgs false

set_option maxRecDepth 100000 in
set_option maxHeartbeats 8000000 in
theorem mesh_side0 (i : Nat) (hi : i < 8) (w : World) :
    Calls Try.prog 39 #[.int .i64 (i : Int), .int .i64 0] w fun e w' => e = .returned (.int .i64 (cubeV i).1) ∧ Below w.heap.size w w' := by
  obtain rfl | rfl | rfl | rfl | rfl | rfl | rfl | rfl : i = 0 ∨ i = 1 ∨ i = 2 ∨ i = 3 ∨ i = 4 ∨ i = 5 ∨ i = 6 ∨ i = 7 := by omega
  all_goals
    go_enter Try.func39, Try.ntmps39
    go_wp2
    go_ret
    exact ⟨rfl, Below.refl _ _⟩

set_option maxRecDepth 100000 in
set_option maxHeartbeats 8000000 in
theorem mesh_side1 (i : Nat) (hi : i < 8) (w : World) :
    Calls Try.prog 39 #[.int .i64 (i : Int), .int .i64 1] w fun e w' => e = .returned (.int .i64 (cubeV i).2.1) ∧ Below w.heap.size w w' := by
  obtain rfl | rfl | rfl | rfl | rfl | rfl | rfl | rfl : i = 0 ∨ i = 1 ∨ i = 2 ∨ i = 3 ∨ i = 4 ∨ i = 5 ∨ i = 6 ∨ i = 7 := by omega
  all_goals
    go_enter Try.func39, Try.ntmps39
    go_wp2
    go_ret
    exact ⟨rfl, Below.refl _ _⟩

set_option maxRecDepth 100000 in
set_option maxHeartbeats 8000000 in
theorem mesh_side2 (i : Nat) (hi : i < 8) (w : World) :
    Calls Try.prog 39 #[.int .i64 (i : Int), .int .i64 2] w fun e w' => e = .returned (.int .i64 (cubeV i).2.2) ∧ Below w.heap.size w w' := by
  obtain rfl | rfl | rfl | rfl | rfl | rfl | rfl | rfl : i = 0 ∨ i = 1 ∨ i = 2 ∨ i = 3 ∨ i = 4 ∨ i = 5 ∨ i = 6 ∨ i = 7 := by omega
  all_goals
    go_enter Try.func39, Try.ntmps39
    go_wp2
    go_ret
    exact ⟨rfl, Below.refl _ _⟩

set_option maxRecDepth 100000 in
set_option maxHeartbeats 8000000 in
theorem mesh_line (i n : Nat) (hi : i ≤ 1000) (hn : n ≤ 1000) (w : World) :
    Calls Try.prog 44 #[.int .i64 (i : Int), .int .i64 (n : Int)] w fun e w' => e = .returned (.int .i64 (lineI i n)) ∧ Below w.heap.size w w' := by
  have KD := Lib.hid (fun w => below_of_same (fun w => num_Div (128 * (i : Int)) (n : Int) w ⟨by omega, by omega⟩ ⟨by omega, by omega⟩) w)
  have hd : 0 ≤ dv (128 * (i : Int)) (n : Int) ∧ dv (128 * (i : Int)) (n : Int) ≤ 128 * (i : Int) := by
    unfold dv
    split
    · omega
    · rename_i h
      exact ⟨Int.ediv_nonneg (by omega) (by omega), Int.ediv_le_self _ (by omega)⟩
  have HL : Hid (lineI i n = dv (128 * (i : Int)) (n : Int) - 64) := Lib.hid rfl
  generalize dv (128 * (i : Int)) (n : Int) = d at *
  go_enter Try.func44, Try.ntmps44
  go_wp2_with (go_at_call 59; (with_reducible refine (KD.out _).mono ?_); rintro e w' ⟨rfl, hb⟩)
  go_ret
  exact ⟨by rw [HL.out]; rfl, hb⟩

set_option maxRecDepth 100000 in
set_option maxHeartbeats 8000000 in
theorem mesh_part (x : Int) (hx : -1000000 ≤ x ∧ x ≤ 1000000) (w : World) :
    Calls Try.prog 46 #[.int .i64 x] w fun e w' => e = .returned (.int .i64 (partI x)) ∧ Below w.heap.size w w' := by
  have KD := Lib.hid (fun w => below_of_same (fun w => num_Div (x * 64) 16384 w ⟨by omega, by omega⟩ ⟨by omega, by omega⟩) w)
  have HL : Hid (partI x = dv (x * 64) 16384) := Lib.hid rfl
  generalize dv (x * 64) 16384 = d at *
  go_enter Try.func46, Try.ntmps46
  go_wp2_with (go_at_call 59; (with_reducible refine (KD.out _).mono ?_); rintro e w' ⟨rfl, hb⟩)
  go_ret
  exact ⟨by rw [HL.out]; rfl, hb⟩

set_option maxRecDepth 100000 in
set_option maxHeartbeats 8000000 in
theorem mesh_halves (a b c d : Nat) (w : World) :
    Calls Try.prog 40 #[.agg #[.int .i64 (a : Int), .int .i64 (b : Int), .int .i64 (c : Int), .int .i64 (d : Int)]] w fun e w' => ∃ g, e = .returned (.slice (some ⟨g, 0, none⟩) 2 2) ∧ w.heap.size ≤ g ∧ Bk w' g 74 ((halvesT (a, b, c, d)).flatMap tcells).toArray ∧ Below w.heap.size w w' := by
  have HT : Hid (((halvesT (a, b, c, d)).flatMap tcells).toArray = #[.int .i64 (a : Int), .int .i64 (b : Int), .int .i64 (c : Int), .int .i64 (a : Int), .int .i64 (c : Int), .int .i64 (d : Int)]) := Lib.hid rfl
  generalize ((halvesT (a, b, c, d)).flatMap tcells).toArray = LL at *
  generalize (a : Int) = za at *
  generalize (b : Int) = zb at *
  generalize (c : Int) = zc at *
  generalize (d : Int) = zd at *
  go_enter Try.func40, Try.ntmps40
  go_upto_region 1 with (fail)
  obtain ⟨W1, hW1⟩ : ∃ W, W = w.alloc (.cells #[.int .i64 za, .int .i64 zb, .int .i64 zc, .int .i64 zd] 76) := ⟨_, rfl⟩
  obtain ⟨k_x, B1⟩ := st1 hW1
  rw [← hW1]
  clear hW1
  obtain ⟨c_x_0, c_x_1, c_x_2, c_x_3⟩ := bwc4 (k_x)
  obtain ⟨p1, hp1⟩ : ∃ p : BW W1, p.w = W1 := ⟨BW.start W1, rfl⟩
  rw [← hp1]
  clear hp1
  go_wp2
  go_ret
  refine ⟨_, rfl, (bw_below B1 p1).size, ?_, (bw_below B1 p1).alloc (bw_below B1 p1).size _⟩
  rw [HT.out]
  exact Bk.new _ _ _

set_option maxRecDepth 100000 in
set_option maxHeartbeats 8000000 in
theorem mesh_fits (a1 a2 a3 a4 a5 a6 a7 a8 a9 a10 a11 a12 m : Int) (w : World) (hm : I64 m) :
    Calls Try.prog 20 #[.agg #[.int .i64 a1, .int .i64 a2, .int .i64 a3, .int .i64 a4, .int .i64 a5, .int .i64 a6, .int .i64 a7, .int .i64 a8, .int .i64 a9, .int .i64 a10, .int .i64 a11, .int .i64 a12], .int .i64 m] w fun en w' => en = .returned (.bool (mFit ((a1, a2, a3), (a4, a5, a6), (a7, a8, a9), (a10, a11, a12)) m)) ∧ Below w.heap.size w w' := by
  have KR := Lib.hid (fun w => pose_Right a1 a2 a3 a4 a5 a6 a7 a8 a9 a10 a11 a12 w)
  have HF : Hid (mFit ((a1, a2, a3), (a4, a5, a6), (a7, a8, a9), (a10, a11, a12)) m = (qRight ((a1, a2, a3), (a4, a5, a6), (a7, a8, a9), (a10, a11, a12)) && (decide (0 ≤ m) && decide (m ≤ 63)))) := Lib.hid rfl
  generalize mFit ((a1, a2, a3), (a4, a5, a6), (a7, a8, a9), (a10, a11, a12)) m = F at *
  generalize qRight ((a1, a2, a3), (a4, a5, a6), (a7, a8, a9), (a10, a11, a12)) = R at *
  obtain ⟨m1, m2⟩ := hm
  have ways : R = false ∨ (R = true ∧ decide (0 ≤ m) = false) ∨ (R = true ∧ decide (0 ≤ m) = true ∧ decide (m ≤ 63) = false) ∨ (R = true ∧ decide (0 ≤ m) = true ∧ decide (m ≤ 63) = true) := by
    cases R <;> cases decide (0 ≤ m) <;> cases decide (m ≤ 63) <;> simp
  rcases ways with rfl | ⟨rfl, t1⟩ | ⟨rfl, t1, t2⟩ | ⟨rfl, t1, t2⟩
  · have HE : Hid (F = false) := Lib.hid (by rw [HF.out]; rfl)
    clear HF
    go_enter Try.func20, Try.ntmps20
    go_upto_region 1 with (fail)
    obtain ⟨W1, hW1⟩ : ∃ W, W = w.alloc (.cells #[.int .i64 a1, .int .i64 a2, .int .i64 a3, .int .i64 a4, .int .i64 a5, .int .i64 a6, .int .i64 a7, .int .i64 a8, .int .i64 a9, .int .i64 a10, .int .i64 a11, .int .i64 a12] 31) := ⟨_, rfl⟩
    obtain ⟨k_p, B1⟩ := st1 hW1
    rw [← hW1]
    clear hW1
    obtain ⟨c_p_0, c_p_1, c_p_2, c_p_3, c_p_4, c_p_5, c_p_6, c_p_7, c_p_8, c_p_9, c_p_10, c_p_11⟩ := bwc12 (k_p)
    obtain ⟨p1, hp1⟩ : ∃ p : BW W1, p.w = W1 := ⟨BW.start W1, rfl⟩
    rw [← hp1]
    clear hp1
    go_wp2_with (go_at_call 35; (with_reducible refine (bw_call KR.out _).mono ?_); rintro e w' ⟨rfl, q, rfl⟩)
    go_ret
    exact ⟨by rw [HE.out]; rfl, bw_below B1 q⟩
  · have HE : Hid (F = false) := Lib.hid (by rw [HF.out]; rw [t1]; rfl)
    clear HF
    go_enter Try.func20, Try.ntmps20
    go_upto_region 1 with (fail)
    obtain ⟨W1, hW1⟩ : ∃ W, W = w.alloc (.cells #[.int .i64 a1, .int .i64 a2, .int .i64 a3, .int .i64 a4, .int .i64 a5, .int .i64 a6, .int .i64 a7, .int .i64 a8, .int .i64 a9, .int .i64 a10, .int .i64 a11, .int .i64 a12] 31) := ⟨_, rfl⟩
    obtain ⟨k_p, B1⟩ := st1 hW1
    rw [← hW1]
    clear hW1
    obtain ⟨c_p_0, c_p_1, c_p_2, c_p_3, c_p_4, c_p_5, c_p_6, c_p_7, c_p_8, c_p_9, c_p_10, c_p_11⟩ := bwc12 (k_p)
    obtain ⟨p1, hp1⟩ : ∃ p : BW W1, p.w = W1 := ⟨BW.start W1, rfl⟩
    rw [← hp1]
    clear hp1
    go_wp2_with (go_at_call 35; (with_reducible refine (bw_call KR.out _).mono ?_); rintro e w' ⟨rfl, q, rfl⟩)
    go_ret
    exact ⟨by rw [HE.out]; rfl, bw_below B1 q⟩
  · have t3 : decide (m < 64) = false := by rw [← t2]; exact decide_eq_decide.2 ⟨fun h => by omega, fun h => by omega⟩
    have HE : Hid (F = false) := Lib.hid (by rw [HF.out]; rw [t1, t2]; rfl)
    clear HF
    go_enter Try.func20, Try.ntmps20
    go_upto_region 1 with (fail)
    obtain ⟨W1, hW1⟩ : ∃ W, W = w.alloc (.cells #[.int .i64 a1, .int .i64 a2, .int .i64 a3, .int .i64 a4, .int .i64 a5, .int .i64 a6, .int .i64 a7, .int .i64 a8, .int .i64 a9, .int .i64 a10, .int .i64 a11, .int .i64 a12] 31) := ⟨_, rfl⟩
    obtain ⟨k_p, B1⟩ := st1 hW1
    rw [← hW1]
    clear hW1
    obtain ⟨c_p_0, c_p_1, c_p_2, c_p_3, c_p_4, c_p_5, c_p_6, c_p_7, c_p_8, c_p_9, c_p_10, c_p_11⟩ := bwc12 (k_p)
    obtain ⟨p1, hp1⟩ : ∃ p : BW W1, p.w = W1 := ⟨BW.start W1, rfl⟩
    rw [← hp1]
    clear hp1
    go_wp2_with (go_at_call 35; (with_reducible refine (bw_call KR.out _).mono ?_); rintro e w' ⟨rfl, q, rfl⟩)
    go_ret
    exact ⟨by rw [HE.out]; rfl, bw_below B1 q⟩
  · have t3 : decide (m < 64) = true := by rw [← t2]; exact decide_eq_decide.2 ⟨fun h => by omega, fun h => by omega⟩
    have HE : Hid (F = true) := Lib.hid (by rw [HF.out]; rw [t1, t2]; rfl)
    clear HF
    go_enter Try.func20, Try.ntmps20
    go_upto_region 1 with (fail)
    obtain ⟨W1, hW1⟩ : ∃ W, W = w.alloc (.cells #[.int .i64 a1, .int .i64 a2, .int .i64 a3, .int .i64 a4, .int .i64 a5, .int .i64 a6, .int .i64 a7, .int .i64 a8, .int .i64 a9, .int .i64 a10, .int .i64 a11, .int .i64 a12] 31) := ⟨_, rfl⟩
    obtain ⟨k_p, B1⟩ := st1 hW1
    rw [← hW1]
    clear hW1
    obtain ⟨c_p_0, c_p_1, c_p_2, c_p_3, c_p_4, c_p_5, c_p_6, c_p_7, c_p_8, c_p_9, c_p_10, c_p_11⟩ := bwc12 (k_p)
    obtain ⟨p1, hp1⟩ : ∃ p : BW W1, p.w = W1 := ⟨BW.start W1, rfl⟩
    rw [← hp1]
    clear hp1
    go_wp2_with (go_at_call 35; (with_reducible refine (bw_call KR.out _).mono ?_); rintro e w' ⟨rfl, q, rfl⟩)
    go_ret
    exact ⟨by rw [HE.out]; rfl, bw_below B1 q⟩

end
end Go.Proofs.Ytneacfhoinaeeaa
