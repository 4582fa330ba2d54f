/- Contracts of the document's own answers, layer 19: Cone. -/
import Derived.Test.YtneacfhoinaeeaaMa39
import Derived.Test.YtneacfhoinaeeaaMa36


namespace Go.Proofs.Ytneacfhoinaeeaa
section

open Go.RowKit Go.Proofs.Sky

set_option linter.unusedVariables false

set_option linter.unusedSimpArgs false

theorem cP_next (n k : Nat) : (List.range (k + 1)).flatMap (cpair n) = (List.range k).flatMap (cpair n) ++ cpair n k := by
  rw [List.range_succ, List.flatMap_append]; simp

theorem cP_len (n k : Nat) : ((List.range k).flatMap (cpair n)).length = k * 6 := by
  rw [flat_len_const _ 6 _ (fun _ _ => rfl), List.length_range]

set_option maxRecDepth 100000 in
set_option maxHeartbeats 8000000 in
theorem ref19_Cone_n1 (n a1 a2 a3 a4 a5 a6 a7 a8 a9 a10 a11 a12 m : Int) (w : World) (h : n < 3) (hR : mCone n ((a1, a2, a3), (a4, a5, a6), (a7, a8, a9), (a10, a11, a12)) m = ([], 1)) :
    Calls Try.prog 12 #[.int .i64 n, .agg #[.int .i64 a1, .int .i64 a2, .int .i64 a3, .int .i64 a4, .int .i64 a5, .int .i64 a6, .int .i64 a7, .int .i64 a8, .int .i64 a9, .int .i64 a10, .int .i64 a11, .int .i64 a12], .int .i64 m] w fun e w' => ∃ v, e = .returned (.tuple #[v, .int .i64 (mCone n ((a1, a2, a3), (a4, a5, a6), (a7, a8, a9), (a10, a11, a12)) m).2]) ∧ PRow w' w.heap.size v (mCone n ((a1, a2, a3), (a4, a5, a6), (a7, a8, a9), (a10, a11, a12)) m).1 ∧ Below w.heap.size w w' := by
  have HR := Lib.hid hR
  clear hR
  generalize mCone n ((a1, a2, a3), (a4, a5, a6), (a7, a8, a9), (a10, a11, a12)) m = R at *
  have t1 : decide (n < 3) = true := decide_eq_true h
  clear h
  go_enter Try.func12, Try.ntmps12
  go_upto_region 1 with (fail)
  obtain ⟨W1, hW1⟩ : ∃ W, W = w.alloc (.cells #[.int .i64 a1, .int .i64 a2, .int .i64 a3, .int .i64 a4, .int .i64 a5, .int .i64 a6, .int .i64 a7, .int .i64 a8, .int .i64 a9, .int .i64 a10, .int .i64 a11, .int .i64 a12] 25) := ⟨_, rfl⟩
  obtain ⟨k_p, B1⟩ := st1 hW1
  rw [← hW1]
  clear hW1
  obtain ⟨c_p_0, c_p_1, c_p_2, c_p_3, c_p_4, c_p_5, c_p_6, c_p_7, c_p_8, c_p_9, c_p_10, c_p_11⟩ := bwc12 (k_p)
  obtain ⟨p1, hp1⟩ : ∃ p : BW W1, p.w = W1 := ⟨BW.start W1, rfl⟩
  rw [← hp1]
  clear hp1
  go_wp2
  exact bodyPost_ret (v := .tuple #[.slice none 0 0, .int .i64 1]) (by simp [results, Try.results12, go_sem]) rfl ⟨_, by rw [HR.out], by rw [HR.out]; exact prow_nil _ _, bw_below B1 p1⟩

set_option maxRecDepth 100000 in
set_option maxHeartbeats 8000000 in
theorem ref19_Cone_n2 (n a1 a2 a3 a4 a5 a6 a7 a8 a9 a10 a11 a12 m : Int) (w : World) (h0 : ¬ n < 3) (h : 32 < n) (hR : mCone n ((a1, a2, a3), (a4, a5, a6), (a7, a8, a9), (a10, a11, a12)) m = ([], 1)) :
    Calls Try.prog 12 #[.int .i64 n, .agg #[.int .i64 a1, .int .i64 a2, .int .i64 a3, .int .i64 a4, .int .i64 a5, .int .i64 a6, .int .i64 a7, .int .i64 a8, .int .i64 a9, .int .i64 a10, .int .i64 a11, .int .i64 a12], .int .i64 m] w fun e w' => ∃ v, e = .returned (.tuple #[v, .int .i64 (mCone n ((a1, a2, a3), (a4, a5, a6), (a7, a8, a9), (a10, a11, a12)) m).2]) ∧ PRow w' w.heap.size v (mCone n ((a1, a2, a3), (a4, a5, a6), (a7, a8, a9), (a10, a11, a12)) m).1 ∧ Below w.heap.size w w' := by
  have HR := Lib.hid hR
  clear hR
  generalize mCone n ((a1, a2, a3), (a4, a5, a6), (a7, a8, a9), (a10, a11, a12)) m = R at *
  have t1 : decide (n < 3) = false := decide_eq_false h0
  have t2 : decide (32 < n) = true := decide_eq_true h
  clear h h0
  go_enter Try.func12, Try.ntmps12
  go_upto_region 1 with (fail)
  obtain ⟨W1, hW1⟩ : ∃ W, W = w.alloc (.cells #[.int .i64 a1, .int .i64 a2, .int .i64 a3, .int .i64 a4, .int .i64 a5, .int .i64 a6, .int .i64 a7, .int .i64 a8, .int .i64 a9, .int .i64 a10, .int .i64 a11, .int .i64 a12] 25) := ⟨_, rfl⟩
  obtain ⟨k_p, B1⟩ := st1 hW1
  rw [← hW1]
  clear hW1
  obtain ⟨c_p_0, c_p_1, c_p_2, c_p_3, c_p_4, c_p_5, c_p_6, c_p_7, c_p_8, c_p_9, c_p_10, c_p_11⟩ := bwc12 (k_p)
  obtain ⟨p1, hp1⟩ : ∃ p : BW W1, p.w = W1 := ⟨BW.start W1, rfl⟩
  rw [← hp1]
  clear hp1
  go_wp2
  exact bodyPost_ret (v := .tuple #[.slice none 0 0, .int .i64 1]) (by simp [results, Try.results12, go_sem]) rfl ⟨_, by rw [HR.out], by rw [HR.out]; exact prow_nil _ _, bw_below B1 p1⟩

set_option maxRecDepth 100000 in
set_option maxHeartbeats 8000000 in
theorem ref19_Cone_n3 (n a1 a2 a3 a4 a5 a6 a7 a8 a9 a10 a11 a12 m : Int) (w : World) (h0 : ¬ n < 3) (h : ¬ 32 < n) (KF : Hid (∀ w, Calls Try.prog 23 #[.agg #[.int .i64 a1, .int .i64 a2, .int .i64 a3, .int .i64 a4, .int .i64 a5, .int .i64 a6, .int .i64 a7, .int .i64 a8, .int .i64 a9, .int .i64 a10, .int .i64 a11, .int .i64 a12], .int .i64 m] w fun en w' => en = .returned (.bool false) ∧ Below w.heap.size w w')) (hR : mCone n ((a1, a2, a3), (a4, a5, a6), (a7, a8, a9), (a10, a11, a12)) m = ([], 1)) :
    Calls Try.prog 12 #[.int .i64 n, .agg #[.int .i64 a1, .int .i64 a2, .int .i64 a3, .int .i64 a4, .int .i64 a5, .int .i64 a6, .int .i64 a7, .int .i64 a8, .int .i64 a9, .int .i64 a10, .int .i64 a11, .int .i64 a12], .int .i64 m] w fun e w' => ∃ v, e = .returned (.tuple #[v, .int .i64 (mCone n ((a1, a2, a3), (a4, a5, a6), (a7, a8, a9), (a10, a11, a12)) m).2]) ∧ PRow w' w.heap.size v (mCone n ((a1, a2, a3), (a4, a5, a6), (a7, a8, a9), (a10, a11, a12)) m).1 ∧ Below w.heap.size w w' := by
  have HR := Lib.hid hR
  clear hR
  generalize mCone n ((a1, a2, a3), (a4, a5, a6), (a7, a8, a9), (a10, a11, a12)) m = R at *
  have t1 : decide (n < 3) = false := decide_eq_false h0
  have t2 : decide (32 < n) = false := decide_eq_false h
  clear h h0
  go_enter Try.func12, Try.ntmps12
  go_upto_region 1 with (fail)
  obtain ⟨W1, hW1⟩ : ∃ W, W = w.alloc (.cells #[.int .i64 a1, .int .i64 a2, .int .i64 a3, .int .i64 a4, .int .i64 a5, .int .i64 a6, .int .i64 a7, .int .i64 a8, .int .i64 a9, .int .i64 a10, .int .i64 a11, .int .i64 a12] 25) := ⟨_, rfl⟩
  obtain ⟨k_p, B1⟩ := st1 hW1
  rw [← hW1]
  clear hW1
  obtain ⟨c_p_0, c_p_1, c_p_2, c_p_3, c_p_4, c_p_5, c_p_6, c_p_7, c_p_8, c_p_9, c_p_10, c_p_11⟩ := bwc12 (k_p)
  obtain ⟨p1, hp1⟩ : ∃ p : BW W1, p.w = W1 := ⟨BW.start W1, rfl⟩
  rw [← hp1]
  clear hp1
  go_wp2_with (first
    | (go_at_call 23; (first | (with_reducible refine (bw_call KF.out _).mono ?_)); rintro e w' ⟨rfl, q, rfl⟩))
  exact bodyPost_ret (v := .tuple #[.slice none 0 0, .int .i64 1]) (by simp [results, Try.results12, go_sem]) rfl ⟨_, by rw [HR.out], by rw [HR.out]; exact prow_nil _ _, bw_below B1 q⟩

set_option maxRecDepth 100000 in
set_option maxHeartbeats 8000000 in
theorem ref19_Cone_yes (n : Nat) (a1 a2 a3 a4 a5 a6 a7 a8 a9 a10 a11 a12 m : Int) (w : World) (h0 : 3 ≤ n) (hn : n ≤ 32) (hm : I64 m) (hfit : mFit ((a1, a2, a3), (a4, a5, a6), (a7, a8, a9), (a10, a11, a12)) m = true) (hR : mCone (n : Int) ((a1, a2, a3), (a4, a5, a6), (a7, a8, a9), (a10, a11, a12)) m = mPut (fun i => pPut ((a1, a2, a3), (a4, a5, a6), (a7, a8, a9), (a10, a11, a12)) (coneV n i)) (coneT n) m) :
    Calls Try.prog 12 #[.int .i64 (n : Int), .agg #[.int .i64 a1, .int .i64 a2, .int .i64 a3, .int .i64 a4, .int .i64 a5, .int .i64 a6, .int .i64 a7, .int .i64 a8, .int .i64 a9, .int .i64 a10, .int .i64 a11, .int .i64 a12], .int .i64 m] w fun e w' => ∃ v, e = .returned (.tuple #[v, .int .i64 (mCone (n : Int) ((a1, a2, a3), (a4, a5, a6), (a7, a8, a9), (a10, a11, a12)) m).2]) ∧ PRow w' w.heap.size v (mCone (n : Int) ((a1, a2, a3), (a4, a5, a6), (a7, a8, a9), (a10, a11, a12)) m).1 ∧ Below w.heap.size w w' := by
  have hst0 : stepN (n : Int) = n := by unfold stepN; rw [if_pos (by omega)]; omega
  have KS : Hid (∀ w, Calls Try.prog 30 #[.int .i64 (n : Int)] w fun e w' => ∃ a cap, e = .returned (.slice a n cap) ∧ SRow w' w.heap.size (.slice a n cap) n ∧ Below w.heap.size w w') := Lib.hid (fun w => (ref5_Steps (n : Int) w ⟨by omega, by omega⟩).mono (by
    rintro e w' ⟨v, rfl, hv, _, hb⟩
    rw [hst0] at hv
    obtain ⟨a, cap, rfl⟩ := owns_val19 hv
    exact ⟨a, cap, rfl, hv, hb⟩))
  clear hst0
  obtain ⟨i0, hi0, hz0, hz1, hz2⟩ := info_parts vec_info19
  have KF := Lib.hid (fun w => ref19_may a1 a2 a3 a4 a5 a6 a7 a8 a9 a10 a11 a12 m w hm)
  rw [hfit] at KF
  have hlenT : (coneT n).length ≤ 1000 := by rw [cone_len]; omega
  have KP := Lib.hid (fun B ul X hl => ref19_put a1 a2 a3 a4 a5 a6 a7 a8 a9 a10 a11 a12 m B (coneV n) (coneT n) ul X hl hlenT)
  rw [hR]
  clear hR hfit hm hlenT
  generalize mPut (fun i => pPut ((a1, a2, a3), (a4, a5, a6), (a7, a8, a9), (a10, a11, a12)) ((coneV n) i)) (coneT n) m = R at *
  have t1 : decide ((n : Int) < 3) = false := decide_eq_false (by omega)
  have t2 : decide (32 < (n : Int)) = false := decide_eq_false (by omega)
  go_enter Try.func12, Try.ntmps12
  go_upto_region 1 with (fail)
  obtain ⟨W1, hW1⟩ : ∃ W, W = w.alloc (.cells #[.int .i64 a1, .int .i64 a2, .int .i64 a3, .int .i64 a4, .int .i64 a5, .int .i64 a6, .int .i64 a7, .int .i64 a8, .int .i64 a9, .int .i64 a10, .int .i64 a11, .int .i64 a12] 25) := ⟨_, rfl⟩
  obtain ⟨k_p, B1⟩ := st1 hW1
  rw [← hW1]
  clear hW1
  obtain ⟨c_p_0, c_p_1, c_p_2, c_p_3, c_p_4, c_p_5, c_p_6, c_p_7, c_p_8, c_p_9, c_p_10, c_p_11⟩ := bwc12 (k_p)
  obtain ⟨p1, hp1⟩ : ∃ p : BW W1, p.w = W1 := ⟨BW.start W1, rfl⟩
  rw [← hp1]
  clear hp1
  go_wp2_with (first
    | (go_at_call 23; (with_reducible refine (bw_call KF.out _).mono ?_); rintro e w' ⟨rfl, q, rfl⟩)
    | (go_at_call 30; (with_reducible refine (KS.out _).mono ?_); rintro e w2 ⟨sa, sc, rfl, hsr, hb2⟩; obtain ⟨q2, rfl⟩ := bw_take hb2))
  obtain ⟨W2, hW2⟩ : ∃ W, W = q2.w := ⟨_, rfl⟩
  have k_p := k_p.below q2.h
  have B2 := (bw_below B1 q2)
  rw [← hW2] at hsr k_p B2 ⊢
  clear hW2 KF KS c_p_0 c_p_1 c_p_2 c_p_3 c_p_4 c_p_5 c_p_6 c_p_7 c_p_8 c_p_9 c_p_10 c_p_11
  go_loopw [9, 11] (fun u i wr => ∃ (k : Nat), k ≤ n ∧ i = .int .i64 k ∧ VRow wr W2.heap.size u ((List.range k).map (ringV n)) ∧ Below W2.heap.size W2 wr) (fun _ i _ => n - (intOf i).toNat)
  case atStart => exact ⟨0, by omega, rfl, vrow_nil _ _, Below.refl _ _⟩
  case round =>
    obtain ⟨k, hk, rfl, hcor, BO⟩ := hrel
    have B10 := BO
    have hlen : ((List.range k).map (ringV n)).length = k := by simp
    by_cases hlt : k < n
    · obtain ⟨gs, fs, rfl, hgs, x0, x1⟩ := steps_at hsr (by omega) hlt
      have HS := Lib.hid (ring_next n k)
      have hcs := cosI_small (turnI n k)
      have hsn := sinI_small (turnI n k)
      have D1 := Lib.hid (fun w => below_of_same (fun w => ref_Div (cosI (turnI n k) * 64) 16384 w ⟨by omega, by omega⟩ ⟨by omega, by omega⟩) w)
      have D2 := Lib.hid (fun w => below_of_same (fun w => ref_Div (sinI (turnI n k) * 64) 16384 w ⟨by omega, by omega⟩ ⟨by omega, by omega⟩) w)
      have HG : ringV n k = (dv (cosI (turnI n k) * 64) 16384, dv (sinI (turnI n k) * 64) 16384, 0) := rfl
      rw [HG] at HS
      clear HG
      generalize dv (cosI (turnI n k) * 64) 16384 = v1 at *
      generalize dv (sinI (turnI n k) * 64) 16384 = v2 at *
      generalize cosI (turnI n k) = cs at *
      generalize sinI (turnI n k) = sn at *
      obtain ⟨L, hL⟩ : ∃ L, L = (List.range k).map (ringV n) := ⟨_, rfl⟩
      rw [← hL] at hcor hlen HS
      clear hL
      obtain ⟨au, cu, rfl⟩ := owns_val19 hcor
      rw [hlen]
      have hcor : VRow wr W2.heap.size (.slice au k cu) L := by rw [hlen] at hcor; exact hcor
      have HWW : Hid (IntKind.i64.wrap (cs * 64) = cs * 64 ∧ IntKind.i64.wrap (sn * 64) = sn * 64) := Lib.hid ⟨IntWalk.i64_in _ (by omega), IntWalk.i64_in _ (by omega)⟩
      clear hcs hsn
      have c_x0 : ∀ p : BW wr, p.w.cell? ⟨gs, fs + k * 2, none⟩ = some (.int .i64 cs) := bw_cell ((B10.cell (p := ⟨gs, fs + k * 2, none⟩) hgs).trans x0)
      have c_x1 : ∀ p : BW wr, p.w.cell? ⟨gs, fs + k * 2 + 1, none⟩ = some (.int .i64 sn) := bw_cell ((B10.cell (p := ⟨gs, fs + k * 2 + 1, none⟩) hgs).trans x1)
      obtain ⟨p10, hp10⟩ : ∃ p : BW wr, p.w = wr := ⟨BW.start wr, rfl⟩
      rw [← hp10]
      clear hp10
      go_upto_region 8 with (fail)
      obtain ⟨w1, w2⟩ := HWW.out
      refine wp_region_floatV (t := 23) (zs := #[.int .i64 v1, .int .i64 v2, .int .i64 0]) 17 16 50 83 [49] (fun g => .slice (some ⟨g, 0, none⟩) 1 1) (by kernel_rfl) (by kernel_rfl) (by kernel_rfl) (by kernel_rfl) rfl rfl ?_
      apply Exists.intro
      refine ⟨?_, ?_, ?_⟩
      · intro wb' hwb'
        have d_x0 : ∀ q : BW wb', q.w.cell? ⟨gs, fs + k * 2, none⟩ = some (.int .i64 cs) := bw_cell ((hwb'.cell (p := ⟨gs, fs + k * 2, none⟩) (Nat.lt_of_lt_of_le hgs B10.size)).trans ((B10.cell (p := ⟨gs, fs + k * 2, none⟩) hgs).trans x0))
        have d_x1 : ∀ q : BW wb', q.w.cell? ⟨gs, fs + k * 2 + 1, none⟩ = some (.int .i64 sn) := bw_cell ((hwb'.cell (p := ⟨gs, fs + k * 2 + 1, none⟩) (Nat.lt_of_lt_of_le hgs B10.size)).trans ((B10.cell (p := ⟨gs, fs + k * 2 + 1, none⟩) hgs).trans x1))
        simp only [maskAt, List.take_succ_cons, List.take_zero]
        repeat (go_big_quiet_step (first
          | (go_at_call 28; (first | (with_reducible exact bw_call D1.out _) | (with_reducible exact bw_call D2.out _)))))
        refine wpQuiet_nil ?_
        exact rfl
      · intro ax wx hp
        have e49 := hp 49 (by decide)
        clear hp
        simp only [Act.put, List.setIfInBounds_toArray, List.set_cons_zero, List.set_cons_succ, List.getElem?_toArray, List.getElem?_cons_succ, List.getElem?_cons_zero] at e49
        exact ⟨by simp [Region.wanted, yielded, e49], by simp [execOp, go_sem, Act.eval, e49]⟩
      intro W11 g_nb hW hg k_nb
      have B11 : Below W2.heap.size W2 W11 := B10.trans (hW.mono B10.size)
      have o_nb : W2.heap.size ≤ g_nb := Nat.le_trans B10.size hg
      have hcor := hcor.below hW
      clear hW hg B10
      clear c_x0 c_x1
      simp only [List.drop_succ_cons, List.drop_zero, Act.put, List.setIfInBounds_toArray, List.set_cons_zero, List.set_cons_succ]
      clear w1 w2 D1 D2 x0 x1
      have hsz := B11.size
      go_wp2_with (at_builtin; refine wpList_append_at rfl _ _ 48 rfl W2.heap.size 23 i0 _ 3 24 Try.underlying48 hi0 hz0 hz1 hz2 rfl (by decide) _ k (L.flatMap vcells) rfl (by have h := hcor; unfold VRow at h; rw [hlen] at h; exact h) ⟨g_nb, 0, none⟩ 1 1 (vcells (v1, v2, 0)) rfl rfl ?g1 ?g2 ?g3 ?g4 ?g5 ?_)
      case g1 => exact cells_at19 k_nb
      case g2 => exact vcells_one _
      case g3 => unfold maxLen; omega
      case g4 => omega
      case g5 => exact hsz
      intro v' w1 hown hgrow hat
      have hb1 : Below W2.heap.size W2 w1 := B11.grown hgrow hsz (fun j ej => (World.ownsRow.lt hcor j ej).1)
      have hrow : VRow w1 W2.heap.size v' (L ++ [(v1, v2, 0)]) := by unfold VRow; rw [List.length_append, hlen, List.flatMap_append, List.flatMap_cons, List.flatMap_nil, List.append_nil]; exact hown
      clear hgrow hat hcor k_nb hown
      go_wp2
      go_roundw
      case rel => exact ⟨k + 1, by omega, by go_num, (by rw [HS.out]; exact hrow), hb1⟩
      case measure => simp [intOf]; omega
    · have hke : k = n := by omega
      rw [hke] at hcor hlen
      clear hke
      obtain ⟨ar, cr, rfl⟩ := owns_val19 hcor
      obtain ⟨gr, fr, rfl, hgr, hring⟩ := vrow_at hcor hlen (by omega) (by omega)
      rw [hlen]
      have HRING := Lib.hid hring
      have k_p := k_p.below BO
      have B3 : Below w.heap.size w wr := B2.trans (BO.mono B2.size)
      clear hcor hlen hring B10 B2 B1 hsr
      rename World => W3
      go_wp2
      go_loopw [10, 12] (fun u i wr => ∃ (k : Nat), k ≤ n ∧ i = .int .i64 k ∧ VRow wr W3.heap.size u ((List.range k).flatMap (cpair n)) ∧ Below W3.heap.size W3 wr) (fun _ i _ => n - (intOf i).toNat)
      case atStart => exact ⟨0, by omega, rfl, vrow_nil _ _, Below.refl _ _⟩
      case round =>
        obtain ⟨k2, hk2, rfl, hcor, B10⟩ := hrel
        have hlen := cP_len n k2
        by_cases hlt2 : k2 < n
        · have hnx : (k2 + 1) % n < n := Nat.mod_lt _ (by omega)
          obtain ⟨x0, x1, x2⟩ := HRING.out k2 hlt2
          obtain ⟨y0, y1, y2⟩ := HRING.out ((k2 + 1) % n) hnx
          have HS : Hid ((List.range (k2 + 1)).flatMap (cpair n) = (List.range k2).flatMap (cpair n) ++ [ringV n k2, ringV n ((k2 + 1) % n), (0, 0, 128), ringV n ((k2 + 1) % n), ringV n k2, (0, 0, 0)]) := Lib.hid (cP_next n k2)
          have htm : ((k2 : Int) + 1).tmod (n : Int) = (((k2 + 1) % n : Nat) : Int) := rfl
          generalize (k2 + 1) % n = nx at *
          generalize ringV n k2 = va at *
          generalize ringV n nx = vb at *
          obtain ⟨u1, u2, u3⟩ := va
          obtain ⟨u4, u5, u6⟩ := vb
          dsimp only at x0 x1 x2 y0 y1 y2
          obtain ⟨L, hL⟩ : ∃ L, L = (List.range k2).flatMap (cpair n) := ⟨_, rfl⟩
          rw [← hL] at hcor hlen HS
          clear hL
          obtain ⟨al, cl, rfl⟩ := owns_val19 hcor
          rw [hlen]
          have hcor : VRow wr W3.heap.size (.slice al (k2 * 6) cl) L := by rw [hlen] at hcor; exact hcor
          have n0 : ¬ (n : Int) = 0 := by omega
          have n0b : ((n : Int) == 0) = false := by rw [beq_eq_false_iff_ne]; omega
          have HTM := Lib.hid htm
          clear htm
          have HWW : Hid (IntKind.i64.wrap ((k2 : Int) + 1) = (k2 : Int) + 1) := Lib.hid (IntWalk.i64_in _ (by omega))
          have c_x0 : ∀ p : BW wr, p.w.cell? ⟨gr, fr + k2 * 3, none⟩ = some (.int .i64 u1) := bw_cell ((B10.cell (p := ⟨gr, fr + k2 * 3, none⟩) hgr).trans x0)
          have c_x1 : ∀ p : BW wr, p.w.cell? ⟨gr, fr + k2 * 3 + 1, none⟩ = some (.int .i64 u2) := bw_cell ((B10.cell (p := ⟨gr, fr + k2 * 3 + 1, none⟩) hgr).trans x1)
          have c_x2 : ∀ p : BW wr, p.w.cell? ⟨gr, fr + k2 * 3 + 2, none⟩ = some (.int .i64 u3) := bw_cell ((B10.cell (p := ⟨gr, fr + k2 * 3 + 2, none⟩) hgr).trans x2)
          have c_y0 : ∀ p : BW wr, p.w.cell? ⟨gr, fr + nx * 3, none⟩ = some (.int .i64 u4) := bw_cell ((B10.cell (p := ⟨gr, fr + nx * 3, none⟩) hgr).trans y0)
          have c_y1 : ∀ p : BW wr, p.w.cell? ⟨gr, fr + nx * 3 + 1, none⟩ = some (.int .i64 u5) := bw_cell ((B10.cell (p := ⟨gr, fr + nx * 3 + 1, none⟩) hgr).trans y1)
          have c_y2 : ∀ p : BW wr, p.w.cell? ⟨gr, fr + nx * 3 + 2, none⟩ = some (.int .i64 u6) := bw_cell ((B10.cell (p := ⟨gr, fr + nx * 3 + 2, none⟩) hgr).trans y2)
          obtain ⟨p10, hp10⟩ : ∃ p : BW wr, p.w = wr := ⟨BW.start wr, rfl⟩
          rw [← hp10]
          clear hp10
          go_upto_region 12 with (fail)
          have w1 := HWW.out
          have htm := HTM.out
          refine wp_region_floatS 83 [⟨⟨11, 13, 23, #[.int .i64 0, .int .i64 0, .int .i64 0]⟩, 13, 60, .agg #[.int .i64 u1, .int .i64 u2, .int .i64 u3], #[.int .i64 u1, .int .i64 u2, .int .i64 u3]⟩, ⟨⟨12, 14, 23, #[.int .i64 0, .int .i64 0, .int .i64 0]⟩, 14, 67, .agg #[.int .i64 u4, .int .i64 u5, .int .i64 u6], #[.int .i64 u4, .int .i64 u5, .int .i64 u6]⟩] (by kernel_rfl) (by kernel_rfl) (by kernel_rfl) (by kernel_rfl) (by kernel_rfl) (by simp [msk]) (by simp [fvs]) (by kernel_rfl) (by kernel_rfl) ?_ ?_
          · refine ⟨⟨⟨_, rfl, fun ev wx => by simp [execOp, go_sem]⟩, ⟨_, rfl, fun ax wx gx h1 h2 h3 => ?_⟩⟩, ⟨⟨_, rfl, fun ev wx => by simp [execOp, go_sem]⟩, ⟨_, rfl, fun ax wx gx h1 h2 h3 => ?_⟩⟩, trivial⟩
            · exact store_whole rfl h1 h2 h3 (by kernel_rfl) rfl (by simp [Value.oneCell'])
            · exact store_whole rfl h1 h2 h3 (by kernel_rfl) rfl (by simp [Value.oneCell'])
          apply Exists.intro
          refine ⟨?_, ?_, ?_⟩
          · intro wb' hwb'
            have d_x0 : ∀ q : BW wb', q.w.cell? ⟨gr, fr + k2 * 3, none⟩ = some (.int .i64 u1) := bw_cell ((hwb'.cell (p := ⟨gr, fr + k2 * 3, none⟩) (Nat.lt_of_lt_of_le hgr B10.size)).trans ((B10.cell (p := ⟨gr, fr + k2 * 3, none⟩) hgr).trans x0))
            have d_x1 : ∀ q : BW wb', q.w.cell? ⟨gr, fr + k2 * 3 + 1, none⟩ = some (.int .i64 u2) := bw_cell ((hwb'.cell (p := ⟨gr, fr + k2 * 3 + 1, none⟩) (Nat.lt_of_lt_of_le hgr B10.size)).trans ((B10.cell (p := ⟨gr, fr + k2 * 3 + 1, none⟩) hgr).trans x1))
            have d_x2 : ∀ q : BW wb', q.w.cell? ⟨gr, fr + k2 * 3 + 2, none⟩ = some (.int .i64 u3) := bw_cell ((hwb'.cell (p := ⟨gr, fr + k2 * 3 + 2, none⟩) (Nat.lt_of_lt_of_le hgr B10.size)).trans ((B10.cell (p := ⟨gr, fr + k2 * 3 + 2, none⟩) hgr).trans x2))
            have d_y0 : ∀ q : BW wb', q.w.cell? ⟨gr, fr + nx * 3, none⟩ = some (.int .i64 u4) := bw_cell ((hwb'.cell (p := ⟨gr, fr + nx * 3, none⟩) (Nat.lt_of_lt_of_le hgr B10.size)).trans ((B10.cell (p := ⟨gr, fr + nx * 3, none⟩) hgr).trans y0))
            have d_y1 : ∀ q : BW wb', q.w.cell? ⟨gr, fr + nx * 3 + 1, none⟩ = some (.int .i64 u5) := bw_cell ((hwb'.cell (p := ⟨gr, fr + nx * 3 + 1, none⟩) (Nat.lt_of_lt_of_le hgr B10.size)).trans ((B10.cell (p := ⟨gr, fr + nx * 3 + 1, none⟩) hgr).trans y1))
            have d_y2 : ∀ q : BW wb', q.w.cell? ⟨gr, fr + nx * 3 + 2, none⟩ = some (.int .i64 u6) := bw_cell ((hwb'.cell (p := ⟨gr, fr + nx * 3 + 2, none⟩) (Nat.lt_of_lt_of_le hgr B10.size)).trans ((B10.cell (p := ⟨gr, fr + nx * 3 + 2, none⟩) hgr).trans y2))
            simp only [msk, List.map_cons, List.map_nil, List.cons_append, List.nil_append, maskL, List.foldr_cons, List.foldr_nil, List.length_cons, List.length_nil, Nat.zero_add, Nat.reduceAdd, maskAt, List.take_succ_cons, List.take_zero]
            repeat (go_big_quiet_step (first
              | fail))
            refine wpQuiet_nil ?_
            exact rfl
          · intro v hv
            simp only [List.mem_cons, List.not_mem_nil, or_false] at hv
            rcases hv with rfl | rfl <;> rfl
          intro W11 st hW hst hne
          obtain ⟨g_a, e_a, hg_a, k_a⟩ := hst 0 _ rfl
          obtain ⟨g_b, e_b, hg_b, k_b⟩ := hst 1 _ rfl
          have B11 : Below W3.heap.size W3 W11 := B10.trans (hW.mono B10.size)
          have hcor := hcor.below hW
          simp only [fvs, List.map_cons, List.map_nil, putAll, Nat.zero_add, Nat.reduceAdd, e_a, e_b, putO, Act.put, List.setIfInBounds_toArray, List.set_cons_zero, List.set_cons_succ]
          clear hW hst hne B10 hg_a e_a hg_b e_b
          clear c_x0 c_x1 c_x2 c_y0 c_y1 c_y2
          clear w1 htm n0b x0 x1 x2 y0 y1 y2
          obtain ⟨c_a_0, c_a_1, c_a_2⟩ := bwc3 (k_a)
          obtain ⟨c_b_0, c_b_1, c_b_2⟩ := bwc3 (k_b)
          obtain ⟨p11, hp11⟩ : ∃ p : BW W11, p.w = W11 := ⟨BW.start W11, rfl⟩
          rw [← hp11]
          clear hp11
          obtain ⟨NL, hNL⟩ : ∃ NL, NL = ([(u1, u2, u3), (u4, u5, u6), (0, 0, 128), (u4, u5, u6), (u1, u2, u3), (0, 0, 0)] : List T3).flatMap vcells := ⟨_, rfl⟩
          have HNL := Lib.hid hNL
          clear hNL
          go_wp2_with (at_builtin; refine wpList_append_at rfl _ _ 48 rfl W3.heap.size 23 i0 _ 3 24 Try.underlying48 hi0 hz0 hz1 hz2 rfl (by decide) _ (k2 * 6) (L.flatMap vcells) rfl (World.ownsRow.alloc (by have h := hcor.below p11.h; unfold VRow at h; rw [hlen] at h; exact h) _) ⟨_, 0, none⟩ 6 6 NL rfl (by rw [HNL.out]; rfl) ?g1 ?g2 ?g3 ?g4 ?g5 ?_)
          case g1 => rw [HNL.out]; first | exact cells_new _ #[.int .i64 u1, .int .i64 u2, .int .i64 u3, .int .i64 u4, .int .i64 u5, .int .i64 u6, .int .i64 0, .int .i64 0, .int .i64 128, .int .i64 u4, .int .i64 u5, .int .i64 u6, .int .i64 u1, .int .i64 u2, .int .i64 u3, .int .i64 0, .int .i64 0, .int .i64 0] _ | (intro j u h; exact h)
          case g2 => rw [HNL.out]; exact flat_one19 vcells_one _
          case g3 => unfold maxLen; omega
          case g4 => omega
          case g5 => have := (bw_below B11 p11).size; simp; omega
          intro v' w1 hown hgrow hat
          have hca : World.ownsRow (p11.w.alloc (.cells #[.int .i64 u1, .int .i64 u2, .int .i64 u3, .int .i64 u4, .int .i64 u5, .int .i64 u6, .int .i64 0, .int .i64 0, .int .i64 128, .int .i64 u4, .int .i64 u5, .int .i64 u6, .int .i64 u1, .int .i64 u2, .int .i64 u3, .int .i64 0, .int .i64 0, .int .i64 0] 23)) W3.heap.size 23 3 (.slice al (k2 * 6) cl) (k2 * 6) (L.flatMap vcells) := World.ownsRow.alloc (by have h := hcor.below p11.h; unfold VRow at h; rw [hlen] at h; exact h) _
          have hb1 : Below W3.heap.size W3 w1 := ((bw_below B11 p11).alloc (bw_below B11 p11).size _).grown hgrow (by have := (bw_below B11 p11).size; simp; omega) (fun j ej => (World.ownsRow.lt hca j ej).1)
          have hrow : VRow w1 W3.heap.size v' (L ++ [(u1, u2, u3), (u4, u5, u6), (0, 0, 128), (u4, u5, u6), (u1, u2, u3), (0, 0, 0)]) := by unfold VRow; rw [List.length_append, hlen, List.flatMap_append, ← HNL.out]; exact hown
          clear hgrow hat hcor hca hown
          go_wp2
          go_roundw
          case rel => exact ⟨k2 + 1, by omega, by go_num, (by rw [HS.out]; exact hrow), hb1⟩
          case measure => simp [intOf]; omega
        · have hke2 : k2 = n := by omega
          rw [hke2] at hcor hlen
          have B1 := B3.trans (B10.mono B3.size)
          obtain ⟨al, cl, rfl⟩ := owns_val19 hcor
          have k_p := k_p.below B10
          have hcor : VRow wr w.heap.size (.slice al (n * 6) cl) ((coneT n).flatMap (cor3 (coneV n))) := by rw [← call_cor]; rw [hlen] at hcor; exact owns_mono hcor B3.size
          rw [hlen]
          clear hke2 hlen
          obtain ⟨c_p_0, c_p_1, c_p_2, c_p_3, c_p_4, c_p_5, c_p_6, c_p_7, c_p_8, c_p_9, c_p_10, c_p_11⟩ := bwc12 (k_p)
          obtain ⟨p1, hp1⟩ : ∃ p : BW wr, p.w = wr := ⟨BW.start wr, rfl⟩
          rw [← hp1]
          clear hp1
          skip
          have KP1 : Hid (∀ q : BW wr, Calls Try.prog 26 #[.slice al (n * 6) cl, .agg #[.int .i64 a1, .int .i64 a2, .int .i64 a3, .int .i64 a4, .int .i64 a5, .int .i64 a6, .int .i64 a7, .int .i64 a8, .int .i64 a9, .int .i64 a10, .int .i64 a11, .int .i64 a12], .int .i64 m] q.w fun e w' => ∃ v, e = .returned (.tuple #[v, .int .i64 R.2]) ∧ PRow w' w.heap.size v R.1 ∧ Below w.heap.size w w') := Lib.hid (fun q => (KP.out w.heap.size (.slice al (n * 6) cl) q.w (hcor.below q.h)).mono (by
            rintro e w' ⟨v, rfl, hv, hb⟩
            exact ⟨v, rfl, owns_mono hv (bw_below B1 q).size, (bw_below B1 q).trans (hb.mono (bw_below B1 q).size)⟩))
          go_wp2_with (go_at_call 26; (with_reducible refine (KP1.out _).mono ?_); rintro e w2 ⟨v, rfl, hv, hb2⟩)
          exact bodyPost_ret (v := .tuple #[v, .int .i64 R.2]) (by simp [results, Try.results12, go_sem]) rfl ⟨_, rfl, hv, hb2⟩

theorem ref19_Cone (n a1 a2 a3 a4 a5 a6 a7 a8 a9 a10 a11 a12 m : Int) (w : World) (hm : I64 m) :
    Calls Try.prog 12 #[.int .i64 n, .agg #[.int .i64 a1, .int .i64 a2, .int .i64 a3, .int .i64 a4, .int .i64 a5, .int .i64 a6, .int .i64 a7, .int .i64 a8, .int .i64 a9, .int .i64 a10, .int .i64 a11, .int .i64 a12], .int .i64 m] w fun e w' => ∃ v, e = .returned (.tuple #[v, .int .i64 (mCone n ((a1, a2, a3), (a4, a5, a6), (a7, a8, a9), (a10, a11, a12)) m).2]) ∧ PRow w' w.heap.size v (mCone n ((a1, a2, a3), (a4, a5, a6), (a7, a8, a9), (a10, a11, a12)) m).1 ∧ Below w.heap.size w w' := by
  by_cases h1 : n < 3
  · exact ref19_Cone_n1 n a1 a2 a3 a4 a5 a6 a7 a8 a9 a10 a11 a12 m w h1 (by unfold mCone; rw [if_neg (by omega)])
  by_cases h2 : 32 < n
  · exact ref19_Cone_n2 n a1 a2 a3 a4 a5 a6 a7 a8 a9 a10 a11 a12 m w h1 h2 (by unfold mCone; rw [if_neg (by omega)])
  cases h : mFit ((a1, a2, a3), (a4, a5, a6), (a7, a8, a9), (a10, a11, a12)) m with
  | false => exact ref19_Cone_n3 n a1 a2 a3 a4 a5 a6 a7 a8 a9 a10 a11 a12 m w h1 h2 (Lib.hid fun w => by rw [← h]; exact ref19_may a1 a2 a3 a4 a5 a6 a7 a8 a9 a10 a11 a12 m w hm) (by unfold mCone; rw [if_pos (by omega)]; unfold mMesh; rw [h]; rfl)
  | true =>
    obtain ⟨k, rfl⟩ := Int.eq_ofNat_of_zero_le (show 0 ≤ n by omega)
    exact ref19_Cone_yes k a1 a2 a3 a4 a5 a6 a7 a8 a9 a10 a11 a12 m w (by omega) (by omega) hm h (by rw [put_placed (cone_use k (by omega) (by omega))]; unfold mCone; rw [if_pos (by omega)]; unfold mMesh; rw [h]; rfl)

end
end Go.Proofs.Ytneacfhoinaeeaa
