/- Contracts of the landed mesh: the frames. -/
import Derived.Test.YtneacfhoinaeeaaMc38


namespace Go.Proofs.Ytneacfhoinaeeaa
section

open Go.RowKit Go.Proofs.Sky

set_option linter.unusedVariables false

set_option linter.unusedSimpArgs false

theorem index_six19 (g k : Nat) (hk : k < 6) (w : World) : (Instr.indexAt 77 (.pointer (some ⟨g, 0, none⟩)) (.int .i64 (k : Int))).run Try.prog w = .ok (.pointer (some ⟨g, k * 4, none⟩)) w := by
  obtain rfl | rfl | rfl | rfl | rfl | rfl : k = 0 ∨ k = 1 ∨ k = 2 ∨ k = 3 ∨ k = 4 ∨ k = 5 := by omega
  all_goals kernel_rfl

set_option maxRecDepth 100000 in
set_option maxHeartbeats 8000000 in
theorem mesh_cube (w : World) :
    Calls Try.prog 22 #[] w fun e w' => ∃ uc ut, e = .returned (.agg #[uc, ut]) ∧ VRow w' w.heap.size uc ((List.range 8).map cubeV) ∧ TRow w' w.heap.size ut (cubeT) ∧ Below w.heap.size w w' := by
  obtain ⟨i0, hi0, hz0, hz1, hz2⟩ := info_parts vec_info19
  obtain ⟨i1, hi1, hy0, hy1, hy2⟩ := info_parts tri_info19
  obtain ⟨LA, hLA⟩ : ∃ LA : Array Value, LA = #[.int .i64 0, .int .i64 2, .int .i64 3, .int .i64 1, .int .i64 4, .int .i64 5, .int .i64 7, .int .i64 6, .int .i64 0, .int .i64 1, .int .i64 5, .int .i64 4, .int .i64 2, .int .i64 6, .int .i64 7, .int .i64 3, .int .i64 0, .int .i64 4, .int .i64 6, .int .i64 2, .int .i64 1, .int .i64 3, .int .i64 7, .int .i64 5] := ⟨_, rfl⟩
  have hi24 : Hid ((Try.prog.info? 77).map (·.size) = some LA.size) := Lib.hid (by rw [hLA]; kernel_rfl)
  have ho24 : Hid ((#[.int .i64 0, .int .i64 0, .int .i64 0, .int .i64 0, .int .i64 0, .int .i64 0, .int .i64 0, .int .i64 0, .int .i64 0, .int .i64 0, .int .i64 0, .int .i64 0, .int .i64 0, .int .i64 0, .int .i64 0, .int .i64 0, .int .i64 0, .int .i64 0, .int .i64 0, .int .i64 0, .int .i64 0, .int .i64 0, .int .i64 0, .int .i64 0] : Array Value).size = LA.size) := Lib.hid (by rw [hLA]; rfl)
  have h124 : Hid (LA.all (·.oneCell') = true) := Lib.hid (by rw [hLA]; kernel_rfl)
  have hb24 : ∀ w, (Instr.build 77 #[(0, .agg #[.int .i64 0, .int .i64 2, .int .i64 3, .int .i64 1]), (1, .agg #[.int .i64 4, .int .i64 5, .int .i64 7, .int .i64 6]), (2, .agg #[.int .i64 0, .int .i64 1, .int .i64 5, .int .i64 4]), (3, .agg #[.int .i64 2, .int .i64 6, .int .i64 7, .int .i64 3]), (4, .agg #[.int .i64 0, .int .i64 4, .int .i64 6, .int .i64 2]), (5, .agg #[.int .i64 1, .int .i64 3, .int .i64 7, .int .i64 5])]).run Try.prog w = .ok (.agg LA) w := fun _ => by rw [hLA]; kernel_rfl
  have HLA := Lib.hid hLA
  clear hLA
  go_enter Try.func22, Try.ntmps22
  go_upto_region 1 with (fail)
  obtain ⟨W1, hW1⟩ : ∃ W, W = w.alloc (.cells #[.slice none 0 0, .slice none 0 0] 51) := ⟨_, rfl⟩
  obtain ⟨k_r, B1⟩ := st1 hW1
  rw [← hW1]
  clear hW1
  obtain ⟨c_r_0, c_r_1⟩ := bwc2 (k_r)
  obtain ⟨p1, hp1⟩ : ∃ p : BW W1, p.w = W1 := ⟨BW.start W1, rfl⟩
  rw [← hp1]
  clear hp1
  repeat (first | ((with_reducible refine store_block19 (c' := LA) ?hp ?hv ?hi ?ho ?h1 ?_); (case hp => rfl); (case hv => first | rfl | (rw [HLA.out]; rfl)); (case hi => exact hi24.out); (case ho => exact ho24.out); (case h1 => exact h124.out)) | go_values | go_skip | go_guarded | go_step | go_upon)
  clear hi24 ho24 h124 hb24
  obtain ⟨W2, hW2⟩ : ∃ W, W = (p1.w.alloc (.cells LA 77)).alloc (.cells #[.slice none 0 0, .slice none 0 0] 51) := ⟨_, rfl⟩
  have B2 : Below w.heap.size w W2 := by rw [hW2]; exact (((bw_below B1 p1).alloc (bw_below B1 p1).size _).alloc (Nat.le_trans (bw_below B1 p1).size (by simp)) _)
  have l_s : w.heap.size < p1.w.heap.size := (k_r.below p1.h).lt
  have l_f : p1.w.heap.size < p1.w.heap.size + 1 := by omega
  have o_s : w.heap.size ≤ p1.w.heap.size := (bw_below B1 p1).size
  have k_r := ((k_r.below p1.h).alloc (.cells LA 77)).alloc (.cells #[.slice none 0 0, .slice none 0 0] 51)
  rw [← hW2] at k_r
  have k_s : Bk W2 p1.w.heap.size 77 LA := by rw [hW2]; exact (Bk.new _ _ _).alloc _
  have k_f : Bk W2 (p1.w.heap.size + 1) 51 #[.slice none 0 0, .slice none 0 0] := by rw [hW2]; exact Bk.new_at _ _ _ _ (by simp)
  rw [← hW2]
  clear hW2
  clear B1
  clear c_r_0 c_r_1
  generalize p1.w.heap.size + 1 = g_f at *
  generalize p1.w.heap.size = g_s at *
  go_loopw [12] (fun i wr => ∃ (k : Nat) (uc : Value), k ≤ 8 ∧ i = .int .i64 k ∧ VRow wr w.heap.size uc ((List.range k).map cubeV) ∧ Bk wr w.heap.size 51 #[.slice none 0 0, .slice none 0 0] ∧ Bk wr g_s 77 LA ∧ Bk wr g_f 51 #[uc, .slice none 0 0] ∧ Below w.heap.size w wr) (fun i _ => 8 - (intOf i).toNat)
  case atStart => exact ⟨0, _, by omega, rfl, vrow_nil _ _, k_r, k_s, k_f, B2⟩
  case round =>
    clear k_r k_s k_f B2
    obtain ⟨k, uc, hk, rfl, hcor, k_r, k_s, k_f, BO⟩ := hrel
    have B1 := BO
    obtain ⟨au, cu, rfl⟩ := owns_val19 hcor
    have hlen : ((List.range k).map cubeV).length = k := by simp
    rw [hlen] at k_f hcor
    by_cases hlt : k < 8
    · have HS := Lib.hid (show (List.range (k + 1)).map cubeV = (List.range k).map cubeV ++ [cubeV k] by rw [List.range_succ, List.map_append]; rfl)
      have K0 := Lib.hid (fun w => mesh_side0 k hlt w)
      have K1 := Lib.hid (fun w => mesh_side1 k hlt w)
      have K2 := Lib.hid (fun w => mesh_side2 k hlt w)
      obtain ⟨vk, hvk⟩ : ∃ vk, vk = cubeV k := ⟨_, rfl⟩
      rw [← hvk] at K0 K1 K2 HS
      clear hvk
      obtain ⟨v1, v2, v3⟩ := vk
      dsimp only at K0 K1 K2
      obtain ⟨L, hL⟩ : ∃ L, L = (List.range k).map cubeV := ⟨_, rfl⟩
      rw [← hL] at hcor hlen HS
      clear hL
      obtain ⟨c_r_0, c_r_1⟩ := bwc2 (k_r)
      obtain ⟨c_f_0, c_f_1⟩ := bwc2 (k_f)
      obtain ⟨p1, hp1⟩ : ∃ p : BW wr, p.w = wr := ⟨BW.start wr, rfl⟩
      rw [← hp1]
      clear hp1
      go_upto_region 6 with (fail)
      refine wp_region_floatV (t := 23) (zs := #[.int .i64 v1, .int .i64 v2, .int .i64 v3]) 10 9 24 41 [23] (fun g => .slice (some ⟨g, 0, none⟩) 1 1) (by kernel_rfl) (by kernel_rfl) (by kernel_rfl) (by kernel_rfl) rfl rfl ?_
      apply Exists.intro
      refine ⟨?_, ?_, ?_⟩
      · intro wb' hwb'
        obtain ⟨d_r_0, d_r_1⟩ := bwc2 (k_r.below hwb')
        obtain ⟨d_f_0, d_f_1⟩ := bwc2 (k_f.below hwb')
        simp only [maskAt, List.take_succ_cons, List.take_zero]
        repeat (go_big_quiet_step (first
          | (go_at_call 39; (first | (with_reducible exact bw_call K0.out _) | (with_reducible exact bw_call K1.out _) | (with_reducible exact bw_call K2.out _)))))
        refine wpQuiet_nil ?_
        exact rfl
      · intro ax wx hp
        have e23 := hp 23 (by decide)
        clear hp
        simp only [Act.put, List.setIfInBounds_toArray, List.set_cons_zero, List.set_cons_succ, List.getElem?_toArray, List.getElem?_cons_succ, List.getElem?_cons_zero] at e23
        exact ⟨by simp [Region.wanted, yielded, e23], by simp [execOp, go_sem, Act.eval, e23]⟩
      intro W2 g_nb hW hg k_nb
      have B2 : Below w.heap.size w W2 := B1.trans (hW.mono B1.size)
      have o_nb : w.heap.size ≤ g_nb := Nat.le_trans B1.size hg
      have hcor := hcor.below hW
      have l_nb : g_f < g_nb := Nat.lt_of_lt_of_le k_f.lt hg
      have k_r := k_r.below hW
      have k_s := k_s.below hW
      have k_f := k_f.below hW
      clear hW hg B1
      clear c_r_0 c_r_1 c_f_0 c_f_1
      simp only [List.drop_succ_cons, List.drop_zero, Act.put, List.setIfInBounds_toArray, List.set_cons_zero, List.set_cons_succ]
      clear K0 K1 K2
      go_wp2_with (at_builtin; refine wpList_append_at rfl _ _ 48 rfl w.heap.size 23 i0 _ 3 24 Try.underlying48 hi0 hz0 hz1 hz2 rfl (by decide) _ k (L.flatMap vcells) rfl (by have h := hcor; unfold VRow at h; rw [hlen] at h; exact h) ⟨g_nb, 0, none⟩ 1 1 (vcells (v1, v2, v3)) rfl rfl ?g1 ?g2 ?g3 ?g4 ?g5 ?_)
      case g1 => exact cells_at19 k_nb
      case g2 => exact vcells_one _
      case g3 => unfold maxLen; omega
      case g4 => omega
      case g5 => exact B2.size
      intro v' w1 hown hgrow hat
      have hb1 : Below w.heap.size w w1 := B2.grown hgrow B2.size (fun j ej => (World.ownsRow.lt hcor j ej).1)
      have k_r1 := bk_grown19 hcor k_r (by decide) hgrow
      have k_s1 := bk_grown19 hcor k_s (by decide) hgrow
      have k_f1 := bk_grown19 hcor k_f (by decide) hgrow
      have q0 := k_f1.cell (i := 0) rfl
      have q1 := k_f1.frozen 0
      have hrow : VRow w1 w.heap.size v' (L ++ [(v1, v2, v3)]) := by unfold VRow; rw [List.length_append, hlen, List.flatMap_append, List.flatMap_cons, List.flatMap_nil, List.append_nil]; exact hown
      clear hgrow hat hcor k_nb k_r k_s k_f
      obtain ⟨av, cv, rfl⟩ := owns_val19 hown
      clear hown
      go_wp2
      go_roundw
      case rel => exact ⟨k + 1, _, by omega, by go_num, (by rw [HS.out]; exact owns_set19 hrow k_f1 (by decide) 0 _), k_r1.other (a := ⟨g_f, 0, none⟩) (by show ¬ w.heap.size = g_f; omega) _, k_s1.other (a := ⟨g_f, 0, none⟩) (by show ¬ g_s = g_f; omega) _, (k_f1.set 0 _).cast (by simp), hb1.setCell (p := ⟨g_f, 0, none⟩) (by show w.heap.size ≤ g_f; omega) _⟩
      case measure => simp [intOf]; omega
    · have hk8 : k = 8 := by omega
      rw [hk8] at k_f hcor
      clear hk8 hlen
      have ht0 : TRow wr w.heap.size (.slice none 0 0) [] := trow_nil _ _
      go_wp2
      go_loopw [28] (fun i wr => ∃ (j : Nat) (ut : Value), j ≤ 6 ∧ i = .int .i64 j ∧ VRow wr w.heap.size (.slice au 8 cu) ((List.range 8).map cubeV) ∧ TRow wr w.heap.size ut ((cubeF.take j).flatMap halvesT) ∧ Bk wr w.heap.size 51 #[.slice none 0 0, .slice none 0 0] ∧ Bk wr g_s 77 LA ∧ Bk wr g_f 51 #[.slice au 8 cu, ut] ∧ Below w.heap.size w wr) (fun i _ => 6 - (intOf i).toNat)
      case atStart => exact ⟨0, _, by omega, rfl, hcor, ht0, k_r, k_s, k_f, BO⟩
      case round =>
        clear hcor ht0 k_r k_s k_f BO B1
        obtain ⟨j, ut, hj, rfl, hcor, htri, k_r, k_s, k_f, BO⟩ := hrel
        have B1 := BO
        obtain ⟨at_, ct, rfl⟩ := owns_val19 htri
        have hlen2 : ((cubeF.take j).flatMap halvesT).length = j * 2 := by rw [flat_len_const _ 2 _ (fun _ _ => rfl), List.length_take]; show min j 6 * 2 = _; omega
        rw [hlen2] at k_f
        by_cases hlt : j < 6
        · obtain ⟨f1, f2, f3, f4, hsum, l0, l1, l2, l3⟩ : ∃ f1 f2 f3 f4 : Nat, Hid ((cubeF.take (j + 1)).flatMap halvesT = (cubeF.take j).flatMap halvesT ++ halvesT (f1, f2, f3, f4)) ∧ LA[j * 4]? = some (.int .i64 (f1 : Int)) ∧ LA[j * 4 + 1]? = some (.int .i64 (f2 : Int)) ∧ LA[j * 4 + 2]? = some (.int .i64 (f3 : Int)) ∧ LA[j * 4 + 3]? = some (.int .i64 (f4 : Int)) := by
            rw [HLA.out]
            obtain rfl | rfl | rfl | rfl | rfl | rfl : j = 0 ∨ j = 1 ∨ j = 2 ∨ j = 3 ∨ j = 4 ∨ j = 5 := by omega
            · exact ⟨0, 2, 3, 1, Lib.hid rfl, rfl, rfl, rfl, rfl⟩
            · exact ⟨4, 5, 7, 6, Lib.hid rfl, rfl, rfl, rfl, rfl⟩
            · exact ⟨0, 1, 5, 4, Lib.hid rfl, rfl, rfl, rfl, rfl⟩
            · exact ⟨2, 6, 7, 3, Lib.hid rfl, rfl, rfl, rfl, rfl⟩
            · exact ⟨0, 4, 6, 2, Lib.hid rfl, rfl, rfl, rfl, rfl⟩
            · exact ⟨1, 3, 7, 5, Lib.hid rfl, rfl, rfl, rfl, rfl⟩
          obtain ⟨L, hL⟩ : ∃ L, L = (cubeF.take j).flatMap halvesT := ⟨_, rfl⟩
          rw [← hL] at htri hlen2 hsum
          clear hL
          have KH := Lib.hid (fun w => mesh_halves f1 f2 f3 f4 w)
          have hx : ∀ w, (Instr.indexAt 77 (.pointer (some ⟨g_s, 0, none⟩)) (.int .i64 (j : Int))).run Try.prog w = .ok (.pointer (some ⟨g_s, j * 4, none⟩)) w := fun w => index_six19 g_s j hlt w
          have htri : TRow wr w.heap.size (.slice at_ L.length ct) L := htri
          rw [hlen2] at htri
          obtain ⟨c_r_0, c_r_1⟩ := bwc2 (k_r)
          have c_s_0 : ∀ p : BW wr, p.w.cell? ⟨g_s, j * 4, none⟩ = some (.int .i64 (f1 : Int)) := bw_cell (k_s.cell l0)
          have c_s_1 : ∀ p : BW wr, p.w.cell? ⟨g_s, j * 4 + 1, none⟩ = some (.int .i64 (f2 : Int)) := bw_cell (k_s.cell l1)
          have c_s_2 : ∀ p : BW wr, p.w.cell? ⟨g_s, j * 4 + 2, none⟩ = some (.int .i64 (f3 : Int)) := bw_cell (k_s.cell l2)
          have c_s_3 : ∀ p : BW wr, p.w.cell? ⟨g_s, j * 4 + 3, none⟩ = some (.int .i64 (f4 : Int)) := bw_cell (k_s.cell l3)
          obtain ⟨c_f_0, c_f_1⟩ := bwc2 (k_f)
          obtain ⟨p1, hp1⟩ : ∃ p : BW wr, p.w = wr := ⟨BW.start wr, rfl⟩
          rw [← hp1]
          clear hp1
          go_upto_region 11 with (fail)
          refine wp_region_floatW (fun V v => ∃ gh, v = .slice (some ⟨gh, 0, none⟩) 2 2 ∧ w.heap.size ≤ gh ∧ Bk V gh 74 ((halvesT (f1, f2, f3, f4)).flatMap tcells).toArray) 6 5 36 41 [35] (by kernel_rfl) (by kernel_rfl) (by kernel_rfl) (by kernel_rfl) rfl rfl ?_
          apply Exists.intro
          refine ⟨?_, ?_, ?_, ?_⟩
          · intro wb' hwb'
            obtain ⟨d_r_0, d_r_1⟩ := bwc2 (k_r.below hwb')
            have d_s_0 : ∀ q : BW wb', q.w.cell? ⟨g_s, j * 4, none⟩ = some (.int .i64 (f1 : Int)) := bw_cell ((k_s.below hwb').cell l0)
            have d_s_1 : ∀ q : BW wb', q.w.cell? ⟨g_s, j * 4 + 1, none⟩ = some (.int .i64 (f2 : Int)) := bw_cell ((k_s.below hwb').cell l1)
            have d_s_2 : ∀ q : BW wb', q.w.cell? ⟨g_s, j * 4 + 2, none⟩ = some (.int .i64 (f3 : Int)) := bw_cell ((k_s.below hwb').cell l2)
            have d_s_3 : ∀ q : BW wb', q.w.cell? ⟨g_s, j * 4 + 3, none⟩ = some (.int .i64 (f4 : Int)) := bw_cell ((k_s.below hwb').cell l3)
            obtain ⟨d_f_0, d_f_1⟩ := bwc2 (k_f.below hwb')
            simp only [maskAt, List.take_succ_cons, List.take_zero]
            repeat (go_big_quiet_step (first
              | fail))
            refine wpQuiet_nil ?_
            exact rfl
          · intro ax qx hp
            have e35 := hp 35 (by decide)
            clear hp
            simp only [Act.put, List.setIfInBounds_toArray, List.set_cons_zero, List.set_cons_succ, List.getElem?_toArray, List.getElem?_cons_succ, List.getElem?_cons_zero] at e35
            refine ⟨by simp [Region.wanted, yielded, e35], 40, #[.agg #[.int .i64 (f1 : Int), .int .i64 (f2 : Int), .int .i64 (f3 : Int), .int .i64 (f4 : Int)]], by simp [execOp, go_sem, Act.eval, e35], (KH.out qx.w).mono ?_⟩
            rintro e w' ⟨gh, rfl, hgl, hbk, hb⟩
            have hsq := (bw_below B1 qx).size
            exact ⟨_, rfl, hb, gh, rfl, by omega, hbk⟩
          · rintro V V' v ⟨gh, rfl, h1, h2⟩ hb
            exact ⟨gh, rfl, h1, h2.below hb⟩
          rintro W2 v hW ⟨gh, rfl, hgl, k_gh⟩
          have B2 : Below w.heap.size w W2 := B1.trans (hW.mono B1.size)
          have hcor := hcor.below hW
          have htri := htri.below hW
          have k_r := k_r.below hW
          have k_s := k_s.below hW
          have k_f := k_f.below hW
          clear hW KH B1
          clear c_r_0 c_r_1 c_s_0 c_s_1 c_s_2 c_s_3 c_f_0 c_f_1
          simp only [List.drop_succ_cons, List.drop_zero, Act.put, List.setIfInBounds_toArray, List.set_cons_zero, List.set_cons_succ]
          have hsz := B2.size
          go_wp2_with (at_builtin; refine wpList_append_at rfl _ _ 49 rfl w.heap.size 74 i1 _ 3 24 Try.underlying49 hi1 hy0 hy1 hy2 rfl (by decide) _ (j * 2) (L.flatMap tcells) rfl (by have h := htri; unfold TRow at h; rw [hlen2] at h; exact h) ⟨gh, 0, none⟩ 2 2 ((halvesT (f1, f2, f3, f4)).flatMap tcells) rfl rfl ?g1 ?g2 ?g3 ?g4 ?g5 ?_)
          case g1 => exact cells_at19 k_gh
          case g2 => exact flat_one19 tcells_one _
          case g3 => unfold maxLen; omega
          case g4 => omega
          case g5 => exact hsz
          intro v' w1 hown hgrow hat
          have hb1 : Below w.heap.size w w1 := B2.grown hgrow hsz (fun j ej => (World.ownsRow.lt htri j ej).1)
          have k_r1 := bk_grown19 htri k_r (by decide) hgrow
          have k_s1 := bk_grown19 htri k_s (by decide) hgrow
          have k_f1 := bk_grown19 htri k_f (by decide) hgrow
          have hcor1 := owns_grown hcor hgrow (fun j hj e => (owns_types htri hcor (by decide)) j e hj)
          have q0 := k_f1.cell (i := 1) rfl
          have q1 := k_f1.frozen 1
          have hrow : TRow w1 w.heap.size v' (L ++ halvesT (f1, f2, f3, f4)) := by unfold TRow; rw [List.length_append, hlen2, List.flatMap_append]; exact hown
          clear hgrow hat hcor htri k_gh k_r k_s k_f
          obtain ⟨av, cv, rfl⟩ := owns_val19 hown
          clear hown
          go_wp2
          go_roundw
          case rel => exact ⟨j + 1, _, by omega, by go_num, owns_set19 hcor1 k_f1 (by decide) 1 _, (by rw [hsum.out]; exact owns_set19 hrow k_f1 (by decide) 1 _), k_r1.other (a := ⟨g_f, 1, none⟩) (by show ¬ w.heap.size = g_f; omega) _, k_s1.other (a := ⟨g_f, 1, none⟩) (by show ¬ g_s = g_f; omega) _, (k_f1.set 1 _).cast (by simp), hb1.setCell (p := ⟨g_f, 1, none⟩) (by show w.heap.size ≤ g_f; omega) _⟩
          case measure => simp [intOf]; omega
        · obtain rfl : j = 6 := by omega
          have htri : TRow wr w.heap.size (.slice at_ (6 * 2) ct) cubeT := htri
          obtain ⟨c_r_0, c_r_1⟩ := bwc2 (k_r)
          obtain ⟨f_r_0, f_r_1⟩ := bwf2 (k_r)
          obtain ⟨c_f_0, c_f_1⟩ := bwc2 (k_f)
          obtain ⟨p1, hp1⟩ : ∃ p : BW wr, p.w = wr := ⟨BW.start wr, rfl⟩
          rw [← hp1]
          clear hp1
          go_wp2
          have kq := k_r.below p1.h
          have hq1 := (hcor.below p1.h)
          have hq2 := (htri.below p1.h)
          have kr := bkp2 kq (.slice au 8 cu) (.slice at_ (6 * 2) ct)
          obtain ⟨rc0, rc1⟩ := rwc2 kr
          have hv1 := owns_set19 hq1 kq (by decide) 0 (.slice au 8 cu)
          have hv2 := owns_set19 hv1 (kq.set 0 (.slice au 8 cu)) (by decide) 1 (.slice at_ (6 * 2) ct)
          have hw1 := owns_set19 hq2 kq (by decide) 0 (.slice au 8 cu)
          have hw2 := owns_set19 hw1 (kq.set 0 (.slice au 8 cu)) (by decide) 1 (.slice at_ (6 * 2) ct)
          exact bodyPost_ret (v := .agg #[.slice au 8 cu, .slice at_ (6 * 2) ct]) (by simp [results, Try.results22, go_sem, rc0, rc1]) rfl ⟨_, _, rfl, hv2, hw2, blp2 (bw_below B1 p1) (by omega)⟩

end
end Go.Proofs.Ytneacfhoinaeeaa
