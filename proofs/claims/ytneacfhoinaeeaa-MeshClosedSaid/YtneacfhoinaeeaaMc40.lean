/- Contracts of the landed mesh: the grid's frame. -/
import Derived.Test.YtneacfhoinaeeaaMc39


namespace Go.Proofs.Ytneacfhoinaeeaa
section

open Go.RowKit Go.Proofs.Sky

set_option linter.unusedVariables false

set_option linter.unusedSimpArgs false

theorem grid_at (n k i : Nat) (hi : i < n + 1) : gridV n (k * (n + 1) + i) = (lineI i n, lineI k n, 0) := by
  unfold gridV
  rw [Nat.mul_comm k, Nat.mul_add_mod, Nat.mod_eq_of_lt hi, Nat.mul_add_div (by omega), Nat.div_eq_of_lt hi, Nat.add_zero]

theorem grid_next (n M i : Nat) : (List.range (M + (i + 1))).map (gridV n) = (List.range (M + i)).map (gridV n) ++ [gridV n (M + i)] := by
  rw [show M + (i + 1) = (M + i) + 1 by omega, List.range_succ, List.map_append]; rfl

def gridR (n k : Nat) : List Tg := (List.range n).flatMap (fun i => halvesT (gridF n k i))

def gridK (n k : Nat) : List Tg := (List.range k).flatMap (gridR n)

theorem gridK_next (n k : Nat) : gridK n (k + 1) = gridK n k ++ gridR n k := by
  unfold gridK; rw [List.range_succ, List.flatMap_append]; simp

theorem gridK_len (n k : Nat) : (gridK n k).length = k * (n * 2) := by
  unfold gridK
  rw [flat_len_const _ (n * 2) _ (fun k _ => by unfold gridR; rw [flat_len_const _ 2 _ (fun i _ => rfl), List.length_range]), List.length_range]

theorem gridI_next (n k i : Nat) : (List.range (i + 1)).flatMap (fun i => halvesT (gridF n k i)) = (List.range i).flatMap (fun i => halvesT (gridF n k i)) ++ halvesT (gridF n k i) := by
  rw [List.range_succ, List.flatMap_append]; simp

theorem gridI_len (n k i : Nat) : ((List.range i).flatMap (fun i => halvesT (gridF n k i))).length = i * 2 := by
  rw [flat_len_const _ 2 _ (fun i _ => rfl), List.length_range]

set_option maxRecDepth 100000 in
set_option maxHeartbeats 8000000 in
theorem mesh_grid (n : Nat) (h0 : 1 ≤ n) (hn : n ≤ 8) (w : World) :
    Calls Try.prog 27 #[.int .i64 (n : Int)] w fun e w' => ∃ uc ut, e = .returned (.agg #[uc, ut]) ∧ VRow w' w.heap.size uc ((List.range ((n + 1) * (n + 1))).map (gridV n)) ∧ TRow w' w.heap.size ut (gridT n) ∧ Below w.heap.size w w' := by
  obtain ⟨i0, hi0, hz0, hz1, hz2⟩ := info_parts vec_info19
  obtain ⟨i1, hi1, hy0, hy1, hy2⟩ := info_parts tri_info19
  go_enter Try.func27, Try.ntmps27
  go_upto_region 2 with (fail)
  obtain ⟨W1, hW1⟩ : ∃ W, W = (w.alloc (.cells #[.slice none 0 0, .slice none 0 0] 51)).alloc (.cells #[.slice none 0 0, .slice none 0 0] 51) := ⟨_, rfl⟩
  obtain ⟨k_r, k_f, B1⟩ := st2 hW1
  rw [← hW1]
  clear hW1
  have l_f : w.heap.size < w.heap.size + 1 := by omega
  generalize w.heap.size + 1 = g_f at *
  go_wp2
  go_loopw [14] (fun i wr => ∃ (k : Nat) (uc : Value), k ≤ n + 1 ∧ i = .int .i64 k ∧ VRow wr w.heap.size uc ((List.range (k * (n + 1))).map (gridV n)) ∧ Bk wr w.heap.size 51 #[.slice none 0 0, .slice none 0 0] ∧ Bk wr g_f 51 #[uc, .slice none 0 0] ∧ Below w.heap.size w wr) (fun i _ => n + 1 - (intOf i).toNat)
  case atStart => exact ⟨0, _, by omega, rfl, (by rw [Nat.zero_mul]; exact vrow_nil _ _), k_r, k_f, B1⟩
  case round =>
    clear k_r k_f B1
    obtain ⟨k, uc, hk, rfl, hcor, k_r, k_f, BO⟩ := hrel
    obtain ⟨M, hM⟩ : ∃ M, M = k * (n + 1) := ⟨_, rfl⟩
    have hMs : (k + 1) * (n + 1) = M + (n + 1) := by rw [hM, Nat.succ_mul]
    have hMl : M ≤ 81 := by rw [hM]; exact Nat.le_trans (Nat.mul_le_mul hk (Nat.le_refl _)) (Nat.le_trans (Nat.mul_le_mul (show n + 1 ≤ 9 by omega) (show n + 1 ≤ 9 by omega)) (by decide))
    rw [← hM] at hcor
    by_cases hlt : k < n + 1
    · have HM := Lib.hid hM
      have HMS := Lib.hid hMs
      clear hM hMs
      have tk : decide ((k : Int) < (n : Int) + 1) = true := decide_eq_true (by omega)
      go_wp2
      rename World => wz
      go_loopw [18] (fun i wr => ∃ (i' : Nat) (uc : Value), i' ≤ n + 1 ∧ i = .int .i64 i' ∧ VRow wr w.heap.size uc ((List.range (M + i')).map (gridV n)) ∧ Bk wr w.heap.size 51 #[.slice none 0 0, .slice none 0 0] ∧ Bk wr g_f 51 #[uc, .slice none 0 0] ∧ Below w.heap.size w wr) (fun i _ => n + 1 - (intOf i).toNat)
      case atStart => exact ⟨0, uc, by omega, rfl, hcor, k_r, k_f, BO⟩
      case round =>
        clear hcor k_r k_f BO
        obtain ⟨i, uc, hi, rfl, hcor, k_r, k_f, BO⟩ := hrel
        have B1 := BO
        obtain ⟨au, cu, rfl⟩ := owns_val19 hcor
        have hlen : ((List.range (M + i)).map (gridV n)).length = M + i := by simp
        rw [hlen] at k_f hcor
        by_cases hlj : i < n + 1
        · have HS := Lib.hid (grid_next n M i)
          have HG : gridV n (M + i) = (lineI i n, lineI k n, 0) := by rw [HM.out]; exact grid_at n k i hlj
          rw [HG] at HS
          clear HG
          have K0 := Lib.hid (fun w => mesh_line i n (by omega) (by omega) w)
          have K1 := Lib.hid (fun w => mesh_line k n (by omega) (by omega) w)
          generalize lineI i n = v1 at *
          generalize lineI k n = v2 at *
          obtain ⟨L, hL⟩ : ∃ L, L = (List.range (M + i)).map (gridV n) := ⟨_, rfl⟩
          rw [← hL] at hcor hlen HS
          clear hL
          obtain ⟨c_r_0, c_r_1⟩ := bwc2 (k_r)
          obtain ⟨c_f_0, c_f_1⟩ := bwc2 (k_f)
          obtain ⟨p1, hp1⟩ : ∃ p : BW wr, p.w = wr := ⟨BW.start wr, rfl⟩
          rw [← hp1]
          clear hp1
          go_upto_region 9 with (fail)
          refine wp_region_floatV (t := 23) (zs := #[.int .i64 v1, .int .i64 v2, .int .i64 0]) 10 9 30 66 [29] (fun g => .slice (some ⟨g, 0, none⟩) 1 1) (by kernel_rfl) (by kernel_rfl) (by kernel_rfl) (by kernel_rfl) rfl rfl ?_
          apply Exists.intro
          refine ⟨?_, ?_, ?_⟩
          · intro wb' hwb'
            obtain ⟨d_r_0, d_r_1⟩ := bwc2 (k_r.below hwb')
            obtain ⟨d_f_0, d_f_1⟩ := bwc2 (k_f.below hwb')
            simp only [maskAt, List.take_succ_cons, List.take_zero]
            repeat (go_big_quiet_step (first
              | (go_at_call 44; (first | (with_reducible exact bw_call K0.out _) | (with_reducible exact bw_call K1.out _)))))
            refine wpQuiet_nil ?_
            exact rfl
          · intro ax wx hp
            have e29 := hp 29 (by decide)
            clear hp
            simp only [Act.put, List.setIfInBounds_toArray, List.set_cons_zero, List.set_cons_succ, List.getElem?_toArray, List.getElem?_cons_succ, List.getElem?_cons_zero] at e29
            exact ⟨by simp [Region.wanted, yielded, e29], by simp [execOp, go_sem, Act.eval, e29]⟩
          intro W2 g_nb hW hg k_nb
          have B2 : Below w.heap.size w W2 := B1.trans (hW.mono B1.size)
          have o_nb : w.heap.size ≤ g_nb := Nat.le_trans B1.size hg
          have hcor := hcor.below hW
          have l_nb : g_f < g_nb := Nat.lt_of_lt_of_le k_f.lt hg
          have k_r := k_r.below hW
          have k_f := k_f.below hW
          clear hW hg B1
          clear c_r_0 c_r_1 c_f_0 c_f_1
          simp only [List.drop_succ_cons, List.drop_zero, Act.put, List.setIfInBounds_toArray, List.set_cons_zero, List.set_cons_succ]
          clear K0 K1
          go_wp2_with (at_builtin; refine wpList_append_at rfl _ _ 48 rfl w.heap.size 23 i0 _ 3 24 Try.underlying48 hi0 hz0 hz1 hz2 rfl (by decide) _ (M + i) (L.flatMap vcells) rfl (by have h := hcor; unfold VRow at h; rw [hlen] at h; exact h) ⟨g_nb, 0, none⟩ 1 1 (vcells (v1, v2, 0)) rfl rfl ?g1 ?g2 ?g3 ?g4 ?g5 ?_)
          case g1 => exact cells_at19 k_nb
          case g2 => exact vcells_one _
          case g3 => unfold maxLen; omega
          case g4 => omega
          case g5 => exact B2.size
          intro v' w1 hown hgrow hat
          have hb1 : Below w.heap.size w w1 := B2.grown hgrow B2.size (fun j ej => (World.ownsRow.lt hcor j ej).1)
          have k_r1 := bk_grown19 hcor k_r (by decide) hgrow
          have k_f1 := bk_grown19 hcor k_f (by decide) hgrow
          have q0 := k_f1.cell (i := 0) rfl
          have q1 := k_f1.frozen 0
          have hrow : VRow w1 w.heap.size v' (L ++ [(v1, v2, 0)]) := by unfold VRow; rw [List.length_append, hlen, List.flatMap_append, List.flatMap_cons, List.flatMap_nil, List.append_nil]; exact hown
          clear hgrow hat hcor k_nb k_r k_f
          obtain ⟨av, cv, rfl⟩ := owns_val19 hown
          clear hown
          go_wp2
          go_roundw
          case rel => exact ⟨i + 1, _, by omega, by go_num, (by rw [HS.out]; exact owns_set19 hrow k_f1 (by decide) 0 _), k_r1.other (a := ⟨g_f, 0, none⟩) (by show ¬ w.heap.size = g_f; omega) _, (k_f1.set 0 _).cast (by simp), hb1.setCell (p := ⟨g_f, 0, none⟩) (by show w.heap.size ≤ g_f; omega) _⟩
          case measure => simp [intOf]; omega
        · have hie : M + i = (k + 1) * (n + 1) := by rw [HMS.out]; omega
          go_wp2
          go_roundw
          case rel => exact ⟨k + 1, _, by omega, by go_num, (by rw [← hie]; exact hcor), k_r, k_f, BO⟩
          case measure => simp [intOf]; omega
    · have hke : k = n + 1 := by omega
      obtain ⟨CC, hCC⟩ : ∃ CC, CC = (n + 1) * (n + 1) := ⟨_, rfl⟩
      have hMC : M = CC := by rw [hM, hCC, hke]
      obtain ⟨au, cu, rfl⟩ := owns_val19 hcor
      have hlen : ((List.range M).map (gridV n)).length = M := by simp
      rw [hlen, hMC] at k_f
      rw [hlen, hMC] at hcor
      have HCC := Lib.hid hCC
      have ht0 : TRow wr w.heap.size (.slice none 0 0) (gridK n 0) := trow_nil _ _
      have hcor : VRow wr w.heap.size (.slice au CC cu) ((List.range CC).map (gridV n)) := hcor
      clear hMs hMl hke hMC hM hCC hlen
      go_wp2
      go_loopw [36] (fun i wr => ∃ (k : Nat) (ut : Value), k ≤ n ∧ i = .int .i64 k ∧ VRow wr w.heap.size (.slice au CC cu) ((List.range CC).map (gridV n)) ∧ TRow wr w.heap.size ut (gridK n k) ∧ Bk wr w.heap.size 51 #[.slice none 0 0, .slice none 0 0] ∧ Bk wr g_f 51 #[.slice au CC cu, ut] ∧ Below w.heap.size w wr) (fun i _ => n - (intOf i).toNat)
      case atStart => exact ⟨0, _, by omega, rfl, hcor, ht0, k_r, k_f, BO⟩
      case round =>
        clear hcor ht0 k_r k_f BO
        obtain ⟨k2, ut, hk2, rfl, hcor, htri, k_r, k_f, BO⟩ := hrel
        by_cases hlt2 : k2 < n
        · obtain ⟨M, hM⟩ : ∃ M, M = k2 * (n + 1) := ⟨_, rfl⟩
          have hMl : M ≤ 81 := by rw [hM]; exact Nat.le_trans (Nat.mul_le_mul (Nat.le_of_lt hlt2) (Nat.le_refl _)) (Nat.le_trans (Nat.mul_le_mul (show n ≤ 8 by omega) (show n + 1 ≤ 9 by omega)) (by decide))
          have hmul : wrap64 ((k2 : Int) * ((n : Int) + 1)) = (M : Int) := by
            have e : (k2 : Int) * ((n : Int) + 1) = (M : Int) := by rw [hM, Int.natCast_mul, Int.natCast_add]; rfl
            rw [e]
            exact IntWalk.wrap64_in _ (by omega)
          have HMUL := Lib.hid hmul
          clear hmul
          obtain ⟨N0, hN0⟩ : ∃ N0, N0 = k2 * (n * 2) := ⟨_, rfl⟩
          have hNl : N0 ≤ 128 := by rw [hN0]; exact Nat.le_trans (Nat.mul_le_mul (Nat.le_of_lt hlt2) (Nat.le_refl _)) (Nat.le_trans (Nat.mul_le_mul (show n ≤ 8 by omega) (show n * 2 ≤ 16 by omega)) (by decide))
          have hlen0 : (gridK n k2).length = N0 := by rw [gridK_len, hN0]
          have HM := Lib.hid hM
          have HN0 := Lib.hid hN0
          clear hM hN0
          have HST := Lib.hid (gridK_next n k2)
          obtain ⟨T0, hT0⟩ : ∃ T0, T0 = gridK n k2 := ⟨_, rfl⟩
          rw [← hT0] at htri hlen0 HST
          clear hT0
          obtain ⟨Ig, hIg⟩ : ∃ Ig : Nat → List Tg, Ig = fun i => (List.range i).flatMap (fun i => halvesT (gridF n k2 i)) := ⟨_, rfl⟩
          have HI0 := Lib.hid (show Ig 0 = [] by rw [hIg]; rfl)
          have HIN := Lib.hid (show ∀ i, Ig (i + 1) = Ig i ++ halvesT (gridF n k2 i) by rw [hIg]; exact gridI_next n k2)
          have HIL := Lib.hid (show ∀ i, (Ig i).length = i * 2 by rw [hIg]; exact gridI_len n k2)
          have HIE := Lib.hid (show gridR n k2 = Ig n by rw [hIg]; rfl)
          clear hIg
          go_wp2
          rename World => wz
          go_loopw [40] (fun i wr => ∃ (i' : Nat) (ut : Value), i' ≤ n ∧ i = .int .i64 i' ∧ VRow wr w.heap.size (.slice au CC cu) ((List.range CC).map (gridV n)) ∧ TRow wr w.heap.size ut (T0 ++ Ig i') ∧ Bk wr w.heap.size 51 #[.slice none 0 0, .slice none 0 0] ∧ Bk wr g_f 51 #[.slice au CC cu, ut] ∧ Below w.heap.size w wr) (fun i _ => n - (intOf i).toNat)
          case atStart => exact ⟨0, ut, by omega, rfl, hcor, (by rw [HI0.out, List.append_nil]; exact htri), k_r, k_f, BO⟩
          case round =>
            clear hcor htri k_r k_f BO
            obtain ⟨i, ut, hi, rfl, hcor, htri, k_r, k_f, BO⟩ := hrel
            have B1 := BO
            obtain ⟨at_, ct, rfl⟩ := owns_val19 htri
            have hlen2 : (T0 ++ Ig i).length = N0 + i * 2 := by rw [List.length_append, hlen0, HIL.out]
            rw [hlen2] at k_f
            by_cases hlj : i < n
            · obtain ⟨F4, hF4⟩ : ∃ F4, F4 = gridF n k2 i := ⟨_, rfl⟩
              have hF : F4 = (M + i, M + i + 1, M + i + (n + 1) + 1, M + i + (n + 1)) := by rw [hF4, HM.out]; rfl
              have HS := Lib.hid (show T0 ++ Ig (i + 1) = (T0 ++ Ig i) ++ halvesT (M + i, M + i + 1, M + i + (n + 1) + 1, M + i + (n + 1)) by rw [HIN.out, ← hF4, hF, List.append_assoc])
              clear hF hF4
              have KH := Lib.hid (fun w => mesh_halves (M + i) (M + i + 1) (M + i + (n + 1) + 1) (M + i + (n + 1)) w)
              simp only [Int.natCast_add, Int.natCast_one] at KH
              obtain ⟨L, hL⟩ : ∃ L, L = T0 ++ Ig i := ⟨_, rfl⟩
              rw [← hL] at htri hlen2 HS
              clear hL
              have htri : TRow wr w.heap.size (.slice at_ L.length ct) L := htri
              rw [hlen2] at htri
              have HV : Hid (wrap64 ((M : Int) + (i : Int)) = (M : Int) + (i : Int) ∧ wrap64 ((M : Int) + (i : Int) + ((n : Int) + 1)) = (M : Int) + (i : Int) + ((n : Int) + 1) ∧ wrap64 ((M : Int) + (i : Int) + 1) = (M : Int) + (i : Int) + 1 ∧ wrap64 ((M : Int) + (i : Int) + ((n : Int) + 1) + 1) = (M : Int) + (i : Int) + ((n : Int) + 1) + 1) := Lib.hid
                ⟨IntWalk.wrap64_in _ (by omega), IntWalk.wrap64_in _ (by omega), IntWalk.wrap64_in _ (by omega), IntWalk.wrap64_in _ (by omega)⟩
              obtain ⟨c_r_0, c_r_1⟩ := bwc2 (k_r)
              obtain ⟨c_f_0, c_f_1⟩ := bwc2 (k_f)
              obtain ⟨p1, hp1⟩ : ∃ p : BW wr, p.w = wr := ⟨BW.start wr, rfl⟩
              rw [← hp1]
              clear hp1
              go_upto_region 20 with (fail)
              simp only [HMUL.out, HV.out.1, HV.out.2.1, HV.out.2.2.1, HV.out.2.2.2]
              refine wp_region_floatW (fun V v => ∃ gh, v = .slice (some ⟨gh, 0, none⟩) 2 2 ∧ w.heap.size ≤ gh ∧ Bk V gh 74 ((halvesT (M + i, M + i + 1, M + i + (n + 1) + 1, M + i + (n + 1))).flatMap tcells).toArray) 10 9 60 66 [59] (by kernel_rfl) (by kernel_rfl) (by kernel_rfl) (by kernel_rfl) rfl rfl ?_
              apply Exists.intro
              refine ⟨?_, ?_, ?_, ?_⟩
              · intro wb' hwb'
                obtain ⟨d_r_0, d_r_1⟩ := bwc2 (k_r.below hwb')
                obtain ⟨d_f_0, d_f_1⟩ := bwc2 (k_f.below hwb')
                simp only [maskAt, List.take_succ_cons, List.take_zero]
                repeat (go_big_quiet_step (first
                  | fail))
                refine wpQuiet_nil ?_
                exact rfl
              · intro ax qx hp
                have e59 := hp 59 (by decide)
                clear hp
                simp only [Act.put, List.setIfInBounds_toArray, List.set_cons_zero, List.set_cons_succ, List.getElem?_toArray, List.getElem?_cons_succ, List.getElem?_cons_zero] at e59
                refine ⟨by simp [Region.wanted, yielded, e59], 40, #[.agg #[.int .i64 ((M : Int) + (i : Int)), .int .i64 ((M : Int) + (i : Int) + 1), .int .i64 ((M : Int) + (i : Int) + ((n : Int) + 1) + 1), .int .i64 ((M : Int) + (i : Int) + ((n : Int) + 1))]], by simp [execOp, go_sem, Act.eval, e59], (KH.out qx.w).mono ?_⟩
                rintro e w' ⟨gh, rfl, hgl, hbk, hb⟩
                have hsq := (bw_below B1 qx).size
                exact ⟨_, rfl, hb, gh, rfl, by omega, hbk⟩
              · rintro V V' v ⟨gh, rfl, h1, h2⟩ hb
                exact ⟨gh, rfl, h1, h2.below hb⟩
              rintro W2 v hW ⟨gh, rfl, hgl, k_gh⟩
              have B2 : Below w.heap.size w W2 := B1.trans (hW.mono B1.size)
              have hcor := hcor.below hW
              have htri := htri.below hW
              have k_r := k_r.below hW
              have k_f := k_f.below hW
              clear hW KH B1
              clear c_r_0 c_r_1 c_f_0 c_f_1
              simp only [List.drop_succ_cons, List.drop_zero, Act.put, List.setIfInBounds_toArray, List.set_cons_zero, List.set_cons_succ]
              have hsz := B2.size
              go_wp2_with (at_builtin; refine wpList_append_at rfl _ _ 49 rfl w.heap.size 74 i1 _ 3 24 Try.underlying49 hi1 hy0 hy1 hy2 rfl (by decide) _ (N0 + i * 2) (L.flatMap tcells) rfl (by have h := htri; unfold TRow at h; rw [hlen2] at h; exact h) ⟨gh, 0, none⟩ 2 2 ((halvesT (M + i, M + i + 1, M + i + (n + 1) + 1, M + i + (n + 1))).flatMap tcells) rfl rfl ?g1 ?g2 ?g3 ?g4 ?g5 ?_)
              case g1 => exact cells_at19 k_gh
              case g2 => exact flat_one19 tcells_one _
              case g3 => unfold maxLen; omega
              case g4 => omega
              case g5 => exact hsz
              intro v' w1 hown hgrow hat
              have hb1 : Below w.heap.size w w1 := B2.grown hgrow hsz (fun j ej => (World.ownsRow.lt htri j ej).1)
              have k_r1 := bk_grown19 htri k_r (by decide) hgrow
              have k_f1 := bk_grown19 htri k_f (by decide) hgrow
              have hcor1 := owns_grown hcor hgrow (fun j hj e => (owns_types htri hcor (by decide)) j e hj)
              have q0 := k_f1.cell (i := 1) rfl
              have q1 := k_f1.frozen 1
              have hrow : TRow w1 w.heap.size v' (L ++ halvesT (M + i, M + i + 1, M + i + (n + 1) + 1, M + i + (n + 1))) := by unfold TRow; rw [List.length_append, hlen2, List.flatMap_append]; exact hown
              clear hgrow hat hcor htri k_gh k_r k_f
              obtain ⟨av, cv, rfl⟩ := owns_val19 hown
              clear hown
              go_wp2
              go_roundw
              case rel => exact ⟨i + 1, _, by omega, by go_num, owns_set19 hcor1 k_f1 (by decide) 1 _, (by rw [HS.out]; exact owns_set19 hrow k_f1 (by decide) 1 _), k_r1.other (a := ⟨g_f, 1, none⟩) (by show ¬ w.heap.size = g_f; omega) _, (k_f1.set 1 _).cast (by simp), hb1.setCell (p := ⟨g_f, 1, none⟩) (by show w.heap.size ≤ g_f; omega) _⟩
              case measure => simp [intOf]; omega
            · have hie : i = n := by omega
              have htri : TRow wr w.heap.size (.slice at_ (N0 + i * 2) ct) (gridK n (k2 + 1)) := by rw [HST.out, HIE.out, ← hie]; have h := htri; unfold TRow at h ⊢; rw [hlen2] at h ⊢; exact h
              clear hie hlen2
              go_wp2
              go_roundw
              case rel => exact ⟨k2 + 1, _, by omega, by go_num, hcor, htri, k_r, k_f, BO⟩
              case measure => simp [intOf]; omega
        · have hke2 : k2 = n := by omega
          rw [hke2] at htri
          have B1 := BO
          obtain ⟨at_, ct, rfl⟩ := owns_val19 htri
          obtain ⟨TL, hTL⟩ : ∃ TL, TL = (gridK n n).length := ⟨_, rfl⟩
          have htri : TRow wr w.heap.size (.slice at_ (gridK n n).length ct) (gridT n) := htri
          rw [← hTL] at htri k_f
          clear hke2 hTL
          have hcor : VRow wr w.heap.size (.slice au CC cu) ((List.range ((n + 1) * (n + 1))).map (gridV n)) := by rw [← HCC.out]; exact hcor
          obtain ⟨c_r_0, c_r_1⟩ := bwc2 (k_r)
          obtain ⟨f_r_0, f_r_1⟩ := bwf2 (k_r)
          obtain ⟨c_f_0, c_f_1⟩ := bwc2 (k_f)
          obtain ⟨p1, hp1⟩ : ∃ p : BW wr, p.w = wr := ⟨BW.start wr, rfl⟩
          rw [← hp1]
          clear hp1
          go_wp2
          have kq := k_r.below p1.h
          have hq1 := (hcor.below p1.h)
          have hq2 := (htri.below p1.h)
          have kr := bkp2 kq (.slice au CC cu) (.slice at_ TL ct)
          obtain ⟨rc0, rc1⟩ := rwc2 kr
          have hv1 := owns_set19 hq1 kq (by decide) 0 (.slice au CC cu)
          have hv2 := owns_set19 hv1 (kq.set 0 (.slice au CC cu)) (by decide) 1 (.slice at_ TL ct)
          have hw1 := owns_set19 hq2 kq (by decide) 0 (.slice au CC cu)
          have hw2 := owns_set19 hw1 (kq.set 0 (.slice au CC cu)) (by decide) 1 (.slice at_ TL ct)
          exact bodyPost_ret (v := .agg #[.slice au CC cu, .slice at_ TL ct]) (by simp [results, Try.results27, go_sem, rc0, rc1]) rfl ⟨_, _, rfl, hv2, hw2, blp2 (bw_below B1 p1) (by omega)⟩

end
end Go.Proofs.Ytneacfhoinaeeaa
