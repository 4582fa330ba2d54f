/- The walk of the statement MeshTells: any cube, grid and cone, and whether things are closed, are the document's. -/
import Derived.Test.YtneacfhoinaeeaaMa47
import Derived.Test.YtneacfhoinaeeaaMa39
import Derived.Test.YtneacfhoinaeeaaMa40
import Derived.Test.YtneacfhoinaeeaaMa41
import Derived.Test.YtneacfhoinaeeaaMa46


namespace Go.Proofs.Ytneacfhoinaeeaa
section

open Go.RowKit Go.Proofs.Sky

set_option linter.unusedVariables false

set_option linter.unusedSimpArgs false

theorem mesh_len (p : P4) (m : Int) (V : Nat → T3) (N : Nat) (tr : List Tg) : (mMesh p m V N tr).1.length ≤ tr.length := by
  unfold mMesh
  split
  · exact placed_len _ _ _ _
  · simp

theorem mCube_len (p : P4) (m : Int) : (mCube p m).1.length ≤ 1000000 := Nat.le_trans (mesh_len _ _ _ _ _) (by decide)

theorem mGrid_len (n : Int) (p : P4) (m : Int) : (mGrid n p m).1.length ≤ 1000000 := by
  unfold mGrid
  split
  · rename_i h
    refine Nat.le_trans (mesh_len _ _ _ _ _) ?_
    rw [grid_len]
    have h1 : n.toNat ≤ 8 := by omega
    exact Nat.le_trans (Nat.mul_le_mul h1 (Nat.mul_le_mul h1 (Nat.le_refl 2))) (by decide)
  · simp

theorem mCone_len (n : Int) (p : P4) (m : Int) : (mCone n p m).1.length ≤ 1000000 := by
  unfold mCone
  split
  · rename_i h
    refine Nat.le_trans (mesh_len _ _ _ _ _) ?_
    rw [cone_len]
    omega
  · simp

theorem prims_sll {w : World} {a : Option Addr} {n cap : Nat} {P : Nat → Pr} (h : Prims w (.slice a n cap) n P) : Sll w (.slice a n cap) 12 pcells ((List.range n).map P) ∧ ∀ p ∈ (List.range n).map P, p.I := by
  obtain ⟨⟨a', cap', e, hm, hS⟩, hI⟩ := h
  cases e
  have hl : ((List.range n).map P).length = n := by simp
  refine ⟨⟨a, cap, by rw [hl], by rw [hl]; exact hm, ?_⟩, fun p hp => ?_⟩
  · rcases hS with h0 | ⟨b, off, rfl, hb, hc⟩
    · left; rw [hl]; exact h0
    · refine .inr ⟨b, off, rfl, hb, fun i hi j hj => ?_⟩
      have hi' : i < n := by rw [hl] at hi; exact hi
      have e : ((List.range n).map P)[i] = P i := by simp
      rw [hc i hi' j hj, e]
  · obtain ⟨i, hi, rfl⟩ := List.mem_map.1 hp
    exact hI i (List.mem_range.1 hi)

set_option maxRecDepth 100000 in
set_option maxHeartbeats 8000000 in
theorem law_MeshTells_many (n a1 a2 a3 a4 a5 a6 a7 a8 a9 a10 a11 a12 m : Int) (lp : Option Addr) (len lc : Nat) (P : Nat → Pr) (w : World) (hm : I64 m) (hs : Prims w (.slice lp len lc) len P) (h : 16 < len) :
    Calls Try.prog 3 #[.int .i64 n, .agg #[.int .i64 a1, .int .i64 a2, .int .i64 a3, .int .i64 a4, .int .i64 a5, .int .i64 a6, .int .i64 a7, .int .i64 a8, .int .i64 a9, .int .i64 a10, .int .i64 a11, .int .i64 a12], .int .i64 m, .slice lp len lc] w fun en w' => en = .returned (.bool true) ∧ Below w.heap.size w w' := by
  have KW := Lib.hid (fun w => awake19 w)
  have t1 : decide (16 < (len : Int)) = true := decide_eq_true (by omega)
  clear h hs
  go_enter Try.func3, Try.ntmps3
  go_upto_region 1 with (fail)
  obtain ⟨W1, hW1⟩ : ∃ W, W = w.alloc (.cells #[.int .i64 a1, .int .i64 a2, .int .i64 a3, .int .i64 a4, .int .i64 a5, .int .i64 a6, .int .i64 a7, .int .i64 a8, .int .i64 a9, .int .i64 a10, .int .i64 a11, .int .i64 a12] 25) := ⟨_, rfl⟩
  obtain ⟨k_p, B1⟩ := st1 hW1
  rw [← hW1]
  clear hW1
  obtain ⟨c_p_0, c_p_1, c_p_2, c_p_3, c_p_4, c_p_5, c_p_6, c_p_7, c_p_8, c_p_9, c_p_10, c_p_11⟩ := bwc12 (k_p)
  obtain ⟨p1, hp1⟩ : ∃ p : BW W1, p.w = W1 := ⟨BW.start W1, rfl⟩
  rw [← hp1]
  clear hp1
  go_wp2_with (first
    | (go_at_call 5; (first | (with_reducible refine (bw_call KW.out _).mono ?_)); rintro e w' ⟨rfl, q, rfl⟩))
  go_ret
  exact ⟨rfl, bw_below B1 q⟩

set_option maxRecDepth 100000 in
set_option maxHeartbeats 8000000 in
theorem law_MeshTells_few (n a1 a2 a3 a4 a5 a6 a7 a8 a9 a10 a11 a12 m : Int) (lp : Option Addr) (len lc : Nat) (P : Nat → Pr) (w : World) (hm : I64 m) (hs : Prims w (.slice lp len lc) len P) (h : ¬ 16 < len) :
    Calls Try.prog 3 #[.int .i64 n, .agg #[.int .i64 a1, .int .i64 a2, .int .i64 a3, .int .i64 a4, .int .i64 a5, .int .i64 a6, .int .i64 a7, .int .i64 a8, .int .i64 a9, .int .i64 a10, .int .i64 a11, .int .i64 a12], .int .i64 m, .slice lp len lc] w fun en w' => en = .returned (.bool true) ∧ Below w.heap.size w w' := by
  have KW := Lib.hid (fun w => awake19 w)
  have KO := Lib.hid (fun w => law19_of a1 a2 a3 a4 a5 a6 a7 a8 a9 a10 a11 a12 w)
  have t1 : decide (16 < (len : Int)) = false := decide_eq_false (by omega)
  have C1 := Lib.hid (fun w => mesh_Cube a1 a2 a3 a4 a5 a6 a7 a8 a9 a10 a11 a12 m w hm)
  have D1 := Lib.hid (fun w => ref19_Cube a1 a2 a3 a4 a5 a6 a7 a8 a9 a10 a11 a12 m w hm)
  have C2 := Lib.hid (fun w => mesh_Grid n a1 a2 a3 a4 a5 a6 a7 a8 a9 a10 a11 a12 m w hm)
  have D2 := Lib.hid (fun w => ref19_Grid n a1 a2 a3 a4 a5 a6 a7 a8 a9 a10 a11 a12 m w hm)
  have C3 := Lib.hid (fun w => mesh_Cone n a1 a2 a3 a4 a5 a6 a7 a8 a9 a10 a11 a12 m w hm)
  have D3 := Lib.hid (fun w => ref19_Cone n a1 a2 a3 a4 a5 a6 a7 a8 a9 a10 a11 a12 m w hm)
  have N1 := Lib.hid (mCube_len ((a1, a2, a3), (a4, a5, a6), (a7, a8, a9), (a10, a11, a12)) m)
  have N2 := Lib.hid (mGrid_len n ((a1, a2, a3), (a4, a5, a6), (a7, a8, a9), (a10, a11, a12)) m)
  have N3 := Lib.hid (mCone_len n ((a1, a2, a3), (a4, a5, a6), (a7, a8, a9), (a10, a11, a12)) m)
  generalize mCube ((a1, a2, a3), (a4, a5, a6), (a7, a8, a9), (a10, a11, a12)) m = R1 at *
  generalize mGrid n ((a1, a2, a3), (a4, a5, a6), (a7, a8, a9), (a10, a11, a12)) m = R2 at *
  generalize mCone n ((a1, a2, a3), (a4, a5, a6), (a7, a8, a9), (a10, a11, a12)) m = R3 at *
  have KS := Lib.hid (fun (u v : Value) (l : List Pr) X hu hv hl => law19_same u v l X hu hv hl)
  obtain ⟨hsl, hI⟩ := prims_sll hs
  have hll : ((List.range len).map P).length ≤ 1000000 := by simp; omega
  have KL := Lib.hid (fun X (hX : Below w.heap.size w X) => mesh_Closed (.slice lp len lc) _ X (hsl.below hX (Nat.le_refl _)) hI hll)
  have KM := Lib.hid (fun X (hX : Below w.heap.size w X) => ref19_Closed (.slice lp len lc) _ X (hsl.below hX (Nat.le_refl _)) hll)
  generalize mClosed ((List.range len).map P) = z at *
  clear h hs hsl hI hll hm
  go_enter Try.func3, Try.ntmps3
  go_upto_region 1 with (fail)
  obtain ⟨W1, hW1⟩ : ∃ W, W = w.alloc (.cells #[.int .i64 a1, .int .i64 a2, .int .i64 a3, .int .i64 a4, .int .i64 a5, .int .i64 a6, .int .i64 a7, .int .i64 a8, .int .i64 a9, .int .i64 a10, .int .i64 a11, .int .i64 a12] 25) := ⟨_, rfl⟩
  obtain ⟨k_p, B1⟩ := st1 hW1
  rw [← hW1]
  clear hW1
  obtain ⟨c_p_0, c_p_1, c_p_2, c_p_3, c_p_4, c_p_5, c_p_6, c_p_7, c_p_8, c_p_9, c_p_10, c_p_11⟩ := bwc12 (k_p)
  obtain ⟨p1, hp1⟩ : ∃ p : BW W1, p.w = W1 := ⟨BW.start W1, rfl⟩
  rw [← hp1]
  clear hp1
  go_upto_region 4 with (first
    | (go_at_call 7; (with_reducible refine (bw_call KO.out _).mono ?_); rintro e w' ⟨rfl, q, rfl⟩)
    | (go_at_call 6; (with_reducible refine (C1.out _).mono ?_); rintro e w' ⟨v_ha, rfl, ha, hb⟩; obtain ⟨q', rfl⟩ := bw_take hb))
  have ha : PRow q'.w w.heap.size v_ha R1.1 := owns_mono ha (bw_below B1 q).size
  obtain ⟨W2, hW2⟩ : ∃ W, W = q'.w := ⟨_, rfl⟩
  have B2 : Below w.heap.size w W2 := by rw [hW2]; exact (bw_below B1 q')
  have k_p := k_p.below q'.h
  rw [← hW2] at k_p
  rw [← hW2] at ha
  rw [← hW2]
  clear hW2
  clear B1
  clear c_p_0 c_p_1 c_p_2 c_p_3 c_p_4 c_p_5 c_p_6 c_p_7 c_p_8 c_p_9 c_p_10 c_p_11
  obtain ⟨c_p_0, c_p_1, c_p_2, c_p_3, c_p_4, c_p_5, c_p_6, c_p_7, c_p_8, c_p_9, c_p_10, c_p_11⟩ := bwc12 (k_p)
  obtain ⟨p2, hp2⟩ : ∃ p : BW W2, p.w = W2 := ⟨BW.start W2, rfl⟩
  rw [← hp2]
  clear hp2
  go_upto_region 5 with (first
    | (go_at_call 8; (with_reducible refine (D1.out _).mono ?_); rintro e w' ⟨v_hb1, rfl, hb1, hb⟩; obtain ⟨q', rfl⟩ := bw_take hb))
  have hb1 : PRow q'.w w.heap.size v_hb1 R1.1 := owns_mono hb1 (bw_below B2 p2).size
  obtain ⟨W3, hW3⟩ : ∃ W, W = q'.w := ⟨_, rfl⟩
  have B3 : Below w.heap.size w W3 := by rw [hW3]; exact (bw_below B2 q')
  have k_p := k_p.below q'.h
  rw [← hW3] at k_p
  have ha := ha.below q'.h
  rw [← hW3] at ha
  rw [← hW3] at hb1
  rw [← hW3]
  clear hW3
  clear B2
  clear c_p_0 c_p_1 c_p_2 c_p_3 c_p_4 c_p_5 c_p_6 c_p_7 c_p_8 c_p_9 c_p_10 c_p_11
  obtain ⟨c_p_0, c_p_1, c_p_2, c_p_3, c_p_4, c_p_5, c_p_6, c_p_7, c_p_8, c_p_9, c_p_10, c_p_11⟩ := bwc12 (k_p)
  obtain ⟨p3, hp3⟩ : ∃ p : BW W3, p.w = W3 := ⟨BW.start W3, rfl⟩
  rw [← hp3]
  clear hp3
  go_upto_region 6 with (first
    | (go_at_call 7; (with_reducible refine (bw_call KO.out _).mono ?_); rintro e w' ⟨rfl, q, rfl⟩)
    | (go_at_call 9; (with_reducible refine (C2.out _).mono ?_); rintro e w' ⟨v_hc, rfl, hc, hb⟩; obtain ⟨q', rfl⟩ := bw_take hb))
  have hc : PRow q'.w w.heap.size v_hc R2.1 := owns_mono hc (bw_below B3 q).size
  obtain ⟨W4, hW4⟩ : ∃ W, W = q'.w := ⟨_, rfl⟩
  have B4 : Below w.heap.size w W4 := by rw [hW4]; exact (bw_below B3 q')
  have k_p := k_p.below q'.h
  rw [← hW4] at k_p
  have ha := ha.below q'.h
  rw [← hW4] at ha
  have hb1 := hb1.below q'.h
  rw [← hW4] at hb1
  rw [← hW4] at hc
  rw [← hW4]
  clear hW4
  clear B3
  clear c_p_0 c_p_1 c_p_2 c_p_3 c_p_4 c_p_5 c_p_6 c_p_7 c_p_8 c_p_9 c_p_10 c_p_11
  obtain ⟨c_p_0, c_p_1, c_p_2, c_p_3, c_p_4, c_p_5, c_p_6, c_p_7, c_p_8, c_p_9, c_p_10, c_p_11⟩ := bwc12 (k_p)
  obtain ⟨p4, hp4⟩ : ∃ p : BW W4, p.w = W4 := ⟨BW.start W4, rfl⟩
  rw [← hp4]
  clear hp4
  go_upto_region 7 with (first
    | (go_at_call 10; (with_reducible refine (D2.out _).mono ?_); rintro e w' ⟨v_hd, rfl, hd, hb⟩; obtain ⟨q', rfl⟩ := bw_take hb))
  have hd : PRow q'.w w.heap.size v_hd R2.1 := owns_mono hd (bw_below B4 p4).size
  obtain ⟨W5, hW5⟩ : ∃ W, W = q'.w := ⟨_, rfl⟩
  have B5 : Below w.heap.size w W5 := by rw [hW5]; exact (bw_below B4 q')
  have k_p := k_p.below q'.h
  rw [← hW5] at k_p
  have ha := ha.below q'.h
  rw [← hW5] at ha
  have hb1 := hb1.below q'.h
  rw [← hW5] at hb1
  have hc := hc.below q'.h
  rw [← hW5] at hc
  rw [← hW5] at hd
  rw [← hW5]
  clear hW5
  clear B4
  clear c_p_0 c_p_1 c_p_2 c_p_3 c_p_4 c_p_5 c_p_6 c_p_7 c_p_8 c_p_9 c_p_10 c_p_11
  obtain ⟨c_p_0, c_p_1, c_p_2, c_p_3, c_p_4, c_p_5, c_p_6, c_p_7, c_p_8, c_p_9, c_p_10, c_p_11⟩ := bwc12 (k_p)
  obtain ⟨p5, hp5⟩ : ∃ p : BW W5, p.w = W5 := ⟨BW.start W5, rfl⟩
  rw [← hp5]
  clear hp5
  go_upto_region 8 with (first
    | (go_at_call 7; (with_reducible refine (bw_call KO.out _).mono ?_); rintro e w' ⟨rfl, q, rfl⟩)
    | (go_at_call 11; (with_reducible refine (C3.out _).mono ?_); rintro e w' ⟨v_he, rfl, he, hb⟩; obtain ⟨q', rfl⟩ := bw_take hb))
  have he : PRow q'.w w.heap.size v_he R3.1 := owns_mono he (bw_below B5 q).size
  obtain ⟨W6, hW6⟩ : ∃ W, W = q'.w := ⟨_, rfl⟩
  have B6 : Below w.heap.size w W6 := by rw [hW6]; exact (bw_below B5 q')
  have k_p := k_p.below q'.h
  rw [← hW6] at k_p
  have ha := ha.below q'.h
  rw [← hW6] at ha
  have hb1 := hb1.below q'.h
  rw [← hW6] at hb1
  have hc := hc.below q'.h
  rw [← hW6] at hc
  have hd := hd.below q'.h
  rw [← hW6] at hd
  rw [← hW6] at he
  rw [← hW6]
  clear hW6
  clear B5
  clear c_p_0 c_p_1 c_p_2 c_p_3 c_p_4 c_p_5 c_p_6 c_p_7 c_p_8 c_p_9 c_p_10 c_p_11
  obtain ⟨c_p_0, c_p_1, c_p_2, c_p_3, c_p_4, c_p_5, c_p_6, c_p_7, c_p_8, c_p_9, c_p_10, c_p_11⟩ := bwc12 (k_p)
  obtain ⟨p6, hp6⟩ : ∃ p : BW W6, p.w = W6 := ⟨BW.start W6, rfl⟩
  rw [← hp6]
  clear hp6
  go_upto_region 9 with (first
    | (go_at_call 12; (with_reducible refine (D3.out _).mono ?_); rintro e w' ⟨v_hf, rfl, hf, hb⟩; obtain ⟨q', rfl⟩ := bw_take hb))
  have hf : PRow q'.w w.heap.size v_hf R3.1 := owns_mono hf (bw_below B6 p6).size
  obtain ⟨W7, hW7⟩ : ∃ W, W = q'.w := ⟨_, rfl⟩
  have B7 : Below w.heap.size w W7 := by rw [hW7]; exact (bw_below B6 q')
  have k_p := k_p.below q'.h
  rw [← hW7] at k_p
  have ha := ha.below q'.h
  rw [← hW7] at ha
  have hb1 := hb1.below q'.h
  rw [← hW7] at hb1
  have hc := hc.below q'.h
  rw [← hW7] at hc
  have hd := hd.below q'.h
  rw [← hW7] at hd
  have he := he.below q'.h
  rw [← hW7] at he
  rw [← hW7] at hf
  rw [← hW7]
  clear hW7
  clear B6
  clear c_p_0 c_p_1 c_p_2 c_p_3 c_p_4 c_p_5 c_p_6 c_p_7 c_p_8 c_p_9 c_p_10 c_p_11
  obtain ⟨c_p_0, c_p_1, c_p_2, c_p_3, c_p_4, c_p_5, c_p_6, c_p_7, c_p_8, c_p_9, c_p_10, c_p_11⟩ := bwc12 (k_p)
  obtain ⟨p7, hp7⟩ : ∃ p : BW W7, p.w = W7 := ⟨BW.start W7, rfl⟩
  rw [← hp7]
  clear hp7
  have S1 : Hid (∀ q : BW W7, Calls Try.prog 13 #[v_ha, v_hb1] q.w fun e w' => e = .returned (.bool true) ∧ Below q.w.heap.size q.w w') := Lib.hid (fun q => KS.out _ _ R1.1 _ (prow_sll (ha.below q.h) N1.out) (prow_sll (hb1.below q.h) N1.out) N1.out)
  have S2 : Hid (∀ q : BW W7, Calls Try.prog 13 #[v_hc, v_hd] q.w fun e w' => e = .returned (.bool true) ∧ Below q.w.heap.size q.w w') := Lib.hid (fun q => KS.out _ _ R2.1 _ (prow_sll (hc.below q.h) N2.out) (prow_sll (hd.below q.h) N2.out) N2.out)
  have S3 : Hid (∀ q : BW W7, Calls Try.prog 13 #[v_he, v_hf] q.w fun e w' => e = .returned (.bool true) ∧ Below q.w.heap.size q.w w') := Lib.hid (fun q => KS.out _ _ R3.1 _ (prow_sll (he.below q.h) N3.out) (prow_sll (hf.below q.h) N3.out) N3.out)
  go_wp2_with (first
    | (go_at_call 13; (first | (with_reducible refine (S1.out _).mono ?_) | (with_reducible refine (S2.out _).mono ?_) | (with_reducible refine (S3.out _).mono ?_)); rintro e w' ⟨rfl, hb⟩; obtain ⟨q, rfl⟩ := bw_take hb)
    | (go_at_call 14; (with_reducible refine (bw_callB KL.out B7 _).mono ?_); rintro e w' ⟨rfl, q, rfl⟩)
    | (go_at_call 15; (with_reducible refine (bw_callB KM.out B7 _).mono ?_); rintro e w' ⟨rfl, q, rfl⟩)
    | (go_at_call 5; (with_reducible refine (bw_call KW.out _).mono ?_); rintro e w' ⟨rfl, q, rfl⟩))
  go_ret
  exact ⟨rfl, bw_below B7 _⟩

theorem law_MeshTells (n a1 a2 a3 a4 a5 a6 a7 a8 a9 a10 a11 a12 m : Int) (lp : Option Addr) (len lc : Nat) (P : Nat → Pr) (w : World) (hm : I64 m) (hs : Prims w (.slice lp len lc) len P) :
    Calls Try.prog 3 #[.int .i64 n, .agg #[.int .i64 a1, .int .i64 a2, .int .i64 a3, .int .i64 a4, .int .i64 a5, .int .i64 a6, .int .i64 a7, .int .i64 a8, .int .i64 a9, .int .i64 a10, .int .i64 a11, .int .i64 a12], .int .i64 m, .slice lp len lc] w fun en w' => en = .returned (.bool true) ∧ Below w.heap.size w w' := by
  by_cases h : 16 < len
  · exact law_MeshTells_many n a1 a2 a3 a4 a5 a6 a7 a8 a9 a10 a11 a12 m lp len lc P w hm hs h
  · exact law_MeshTells_few n a1 a2 a3 a4 a5 a6 a7 a8 a9 a10 a11 a12 m lp len lc P w hm hs h

end
end Go.Proofs.Ytneacfhoinaeeaa
