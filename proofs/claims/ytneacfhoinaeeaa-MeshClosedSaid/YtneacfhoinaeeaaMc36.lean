/- Contracts of package pose: Turned, Sized, Moved, Then, Put, All. -/
import Derived.Test.YtneacfhoinaeeaaMc35
import Derived.Test.YtneacfhoinaeeaaMc19
import Derived.Laws.AppendOwn


namespace Go.Proofs.Ytneacfhoinaeeaa
section

open Go.RowKit Go.Shelf Go.Proofs.Sky

set_option linter.unusedVariables false

theorem ps_sat {x : Int} (h : -9223372036854775808 ≤ x ∧ x ≤ 9223372036854775807) : sat x = x := by
  unfold sat; rw [if_neg (by omega), if_neg (by omega)]

set_option maxRecDepth 100000 in
set_option maxHeartbeats 4000000 in
theorem pose_Put_no (a1 a2 a3 a4 a5 a6 a7 a8 a9 a10 a11 a12 x y z : Int) (w : World) (h : ¬ (qRight ((a1, a2, a3), (a4, a5, a6), (a7, a8, a9), (a10, a11, a12)) = true ∧ vnear x y z = true)) :
    Calls Try.prog 53 #[.agg #[.int .i64 a1, .int .i64 a2, .int .i64 a3, .int .i64 a4, .int .i64 a5, .int .i64 a6, .int .i64 a7, .int .i64 a8, .int .i64 a9, .int .i64 a10, .int .i64 a11, .int .i64 a12], .agg #[.int .i64 x, .int .i64 y, .int .i64 z]] w fun e w' => e = .returned (.agg #[.int .i64 0, .int .i64 0, .int .i64 0]) ∧ Below w.heap.size w w' := by
  have N1 := Lib.hid (fun w => pose_Right a1 a2 a3 a4 a5 a6 a7 a8 a9 a10 a11 a12 w)
  have N2 := Lib.hid (fun w => vec_Near x y z w)
  have hc : (qRight ((a1, a2, a3), (a4, a5, a6), (a7, a8, a9), (a10, a11, a12)) = false) ∨ (qRight ((a1, a2, a3), (a4, a5, a6), (a7, a8, a9), (a10, a11, a12)) = true ∧ vnear x y z = false) := by
    cases h1 : qRight ((a1, a2, a3), (a4, a5, a6), (a7, a8, a9), (a10, a11, a12)) <;> cases h2 : vnear x y z <;> simp [h1, h2] at h ⊢
  clear h
  generalize qRight ((a1, a2, a3), (a4, a5, a6), (a7, a8, a9), (a10, a11, a12)) = n1 at *
  generalize vnear x y z = n2 at *
  go_enter Try.func53, Try.ntmps53
  go_upto_region 1 with (fail)
  obtain ⟨W1, hW1⟩ : ∃ W, W = ((w.alloc (.cells #[.int .i64 a1, .int .i64 a2, .int .i64 a3, .int .i64 a4, .int .i64 a5, .int .i64 a6, .int .i64 a7, .int .i64 a8, .int .i64 a9, .int .i64 a10, .int .i64 a11, .int .i64 a12] 31)).alloc (.cells #[.int .i64 x, .int .i64 y, .int .i64 z] 23)).alloc (.cells #[.int .i64 0, .int .i64 0, .int .i64 0] 23) := ⟨_, rfl⟩
  obtain ⟨k_p, k_v, k_r, B1⟩ := st3 hW1
  rw [← hW1]
  clear hW1
  have l_v : w.heap.size < w.heap.size + 1 := by omega
  have l_r : w.heap.size + 1 < w.heap.size + 1 + 1 := by omega
  generalize w.heap.size + 1 + 1 = g_r at *
  generalize w.heap.size + 1 = g_v at *
  obtain ⟨c_p_0, c_p_1, c_p_2, c_p_3, c_p_4, c_p_5, c_p_6, c_p_7, c_p_8, c_p_9, c_p_10, c_p_11⟩ := bwc12 (k_p)
  obtain ⟨c_v_0, c_v_1, c_v_2⟩ := bwc3 (k_v)
  obtain ⟨c_r_0, c_r_1, c_r_2⟩ := bwc3 (k_r)
  obtain ⟨f_r_0, f_r_1, f_r_2⟩ := bwf3 (k_r)
  obtain ⟨p1, hp1⟩ : ∃ p : BW W1, p.w = W1 := ⟨BW.start W1, rfl⟩
  rw [← hp1]
  clear hp1
  rcases hc with rfl | ⟨rfl, rfl⟩
  · clear k_p k_v
    go_wp2_with (first
      | (go_at_call 35; (first | (with_reducible refine (bw_call N1.out _).mono ?_)); rintro e w' ⟨rfl, q, rfl⟩)
      | (go_at_call 52; (first | (with_reducible refine (bw_call N2.out _).mono ?_)); rintro e w' ⟨rfl, q, rfl⟩))
    have kr := bkp3 (k_r.below q.h) (.int .i64 0) (.int .i64 0) (.int .i64 0)
    obtain ⟨rc0, rc1, rc2⟩ := rwc3 kr
    exact bodyPost_ret (v := .agg #[.int .i64 0, .int .i64 0, .int .i64 0]) (by simp [results, Try.results53, go_sem, rc0, rc1, rc2]) rfl ⟨rfl, blp3 (bw_below B1 q) (by omega)⟩
  · clear k_p k_v
    go_wp2_with (first
      | (go_at_call 35; (first | (with_reducible refine (bw_call N1.out _).mono ?_)); rintro e w' ⟨rfl, q, rfl⟩)
      | (go_at_call 52; (first | (with_reducible refine (bw_call N2.out _).mono ?_)); rintro e w' ⟨rfl, q, rfl⟩))
    have kr := bkp3 (k_r.below q.h) (.int .i64 0) (.int .i64 0) (.int .i64 0)
    obtain ⟨rc0, rc1, rc2⟩ := rwc3 kr
    exact bodyPost_ret (v := .agg #[.int .i64 0, .int .i64 0, .int .i64 0]) (by simp [results, Try.results53, go_sem, rc0, rc1, rc2]) rfl ⟨rfl, blp3 (bw_below B1 q) (by omega)⟩

set_option maxRecDepth 100000 in
set_option maxHeartbeats 4000000 in
theorem pose_Put_yes (a1 a2 a3 a4 a5 a6 a7 a8 a9 a10 a11 a12 x y z : Int) (w : World) (h1 : qRight ((a1, a2, a3), (a4, a5, a6), (a7, a8, a9), (a10, a11, a12)) = true) (h2 : vnear x y z = true) :
    Calls Try.prog 53 #[.agg #[.int .i64 a1, .int .i64 a2, .int .i64 a3, .int .i64 a4, .int .i64 a5, .int .i64 a6, .int .i64 a7, .int .i64 a8, .int .i64 a9, .int .i64 a10, .int .i64 a11, .int .i64 a12], .agg #[.int .i64 x, .int .i64 y, .int .i64 z]] w fun e w' => e = .returned (.agg #[.int .i64 (pRow (a1, a2, a3) (x, y, z) + a10), .int .i64 (pRow (a4, a5, a6) (x, y, z) + a11), .int .i64 (pRow (a7, a8, a9) (x, y, z) + a12)]) ∧ Below w.heap.size w w' := by
  have N1 := Lib.hid (fun w => pose_Right a1 a2 a3 a4 a5 a6 a7 a8 a9 a10 a11 a12 w)
  have N2 := Lib.hid (fun w => vec_Near x y z w)
  have R := Lib.hid (fun w => pose_parts a1 a2 a3 a4 a5 a6 a7 a8 a9 a10 a11 a12 x y z w)
  rw [h1] at N1
  rw [h2] at N2
  unfold qRight nrT at h1
  dsimp only at h1
  simp only [Bool.and_eq_true] at h1
  obtain ⟨_, _, _, hm⟩ := h1
  rw [vnear_iff] at hm
  have s0 := pRow_small (a1, a2, a3) (x, y, z)
  generalize pRow (a1, a2, a3) (x, y, z) = t0 at *
  have s1 := pRow_small (a4, a5, a6) (x, y, z)
  generalize pRow (a4, a5, a6) (x, y, z) = t1 at *
  have s2 := pRow_small (a7, a8, a9) (x, y, z)
  generalize pRow (a7, a8, a9) (x, y, z) = t2 at *
  have A := Lib.hid (fun w => vec_Add t0 t1 t2 a10 a11 a12 w (by unfold I64; omega) (by unfold I64; omega) (by unfold I64; omega) (by unfold I64; omega) (by unfold I64; omega) (by unfold I64; omega))
  rw [ps_sat (x := t0 + a10) (by omega), ps_sat (x := t1 + a11) (by omega), ps_sat (x := t2 + a12) (by omega)] at A
  generalize t0 + a10 = r0 at *
  generalize t1 + a11 = r1 at *
  generalize t2 + a12 = r2 at *
  clear h2 hm s0 s1 s2
  go_enter Try.func53, Try.ntmps53
  go_upto_region 1 with (fail)
  obtain ⟨W1, hW1⟩ : ∃ W, W = ((w.alloc (.cells #[.int .i64 a1, .int .i64 a2, .int .i64 a3, .int .i64 a4, .int .i64 a5, .int .i64 a6, .int .i64 a7, .int .i64 a8, .int .i64 a9, .int .i64 a10, .int .i64 a11, .int .i64 a12] 31)).alloc (.cells #[.int .i64 x, .int .i64 y, .int .i64 z] 23)).alloc (.cells #[.int .i64 0, .int .i64 0, .int .i64 0] 23) := ⟨_, rfl⟩
  obtain ⟨k_p, k_v, k_r, B1⟩ := st3 hW1
  rw [← hW1]
  clear hW1
  have l_v : w.heap.size < w.heap.size + 1 := by omega
  have l_r : w.heap.size + 1 < w.heap.size + 1 + 1 := by omega
  generalize w.heap.size + 1 + 1 = g_r at *
  generalize w.heap.size + 1 = g_v at *
  obtain ⟨c_p_0, c_p_1, c_p_2, c_p_3, c_p_4, c_p_5, c_p_6, c_p_7, c_p_8, c_p_9, c_p_10, c_p_11⟩ := bwc12 (k_p)
  obtain ⟨c_v_0, c_v_1, c_v_2⟩ := bwc3 (k_v)
  obtain ⟨c_r_0, c_r_1, c_r_2⟩ := bwc3 (k_r)
  obtain ⟨f_r_0, f_r_1, f_r_2⟩ := bwf3 (k_r)
  obtain ⟨p1, hp1⟩ : ∃ p : BW W1, p.w = W1 := ⟨BW.start W1, rfl⟩
  rw [← hp1]
  clear hp1
  go_upto_region 3 with (first
    | (go_at_call 35; (first | (with_reducible refine (bw_call N1.out _).mono ?_)); rintro e w' ⟨rfl, q, rfl⟩)
    | (go_at_call 52; (first | (with_reducible refine (bw_call N2.out _).mono ?_)); rintro e w' ⟨rfl, q, rfl⟩))
  refine wp_region_bw_tail 6 (by kernel_rfl) (by kernel_rfl) (by kernel_rfl) ?_
  simp only [List.take_succ_cons, List.take_zero, List.drop_succ_cons, List.drop_zero]
  repeat (go_big_quiet_step (first
    | (go_at_call 65; (first | (with_reducible exact bw_call R.out _)))
    | (go_at_call 64; (first | (with_reducible exact bw_call A.out _)))))
  refine wpQuiet_nil ?_
  intro _ hw'
  obtain ⟨q, rfl⟩ := hw'
  go_wp2
  have kr := bkp3 (k_r.below q.h) (.int .i64 r0) (.int .i64 r1) (.int .i64 r2)
  obtain ⟨rc0, rc1, rc2⟩ := rwc3 kr
  exact bodyPost_ret (v := .agg #[.int .i64 r0, .int .i64 r1, .int .i64 r2]) (by simp [results, Try.results53, go_sem, rc0, rc1, rc2]) rfl ⟨rfl, blp3 (bw_below B1 q) (by omega)⟩

theorem pose_Put (a1 a2 a3 a4 a5 a6 a7 a8 a9 a10 a11 a12 x y z : Int) (w : World) :
    Calls Try.prog 53 #[.agg #[.int .i64 a1, .int .i64 a2, .int .i64 a3, .int .i64 a4, .int .i64 a5, .int .i64 a6, .int .i64 a7, .int .i64 a8, .int .i64 a9, .int .i64 a10, .int .i64 a11, .int .i64 a12], .agg #[.int .i64 x, .int .i64 y, .int .i64 z]] w fun e w' => e = .returned (.agg #[.int .i64 (pPut ((a1, a2, a3), (a4, a5, a6), (a7, a8, a9), (a10, a11, a12)) (x, y, z)).1, .int .i64 (pPut ((a1, a2, a3), (a4, a5, a6), (a7, a8, a9), (a10, a11, a12)) (x, y, z)).2.1, .int .i64 (pPut ((a1, a2, a3), (a4, a5, a6), (a7, a8, a9), (a10, a11, a12)) (x, y, z)).2.2]) ∧ Below w.heap.size w w' := by
  unfold pPut
  by_cases h : qRight ((a1, a2, a3), (a4, a5, a6), (a7, a8, a9), (a10, a11, a12)) = true ∧ nrT (x, y, z) = true
  · rw [if_pos h]; exact pose_Put_yes a1 a2 a3 a4 a5 a6 a7 a8 a9 a10 a11 a12 x y z w h.1 h.2
  · rw [if_neg h]; exact pose_Put_no a1 a2 a3 a4 a5 a6 a7 a8 a9 a10 a11 a12 x y z w h

theorem ps_vec_info : (Try.prog.info? 23).map (fun i => (i.zero, i.size, i.bytes)) = some (some (.agg #[.int .i64 0, .int .i64 0, .int .i64 0]), 3, 24) := by kernel_rfl

set_option maxRecDepth 100000 in
set_option maxHeartbeats 4000000 in
theorem pose_All (a1 a2 a3 a4 a5 a6 a7 a8 a9 a10 a11 a12 : Int) (b off cap n : Nat) (V : Nat → T3) (w : World) (hrow : VcRow w b off n V) (hb : b < w.heap.size) (hn : n ≤ 1048576) :
    Calls Try.prog 36 #[.agg #[.int .i64 a1, .int .i64 a2, .int .i64 a3, .int .i64 a4, .int .i64 a5, .int .i64 a6, .int .i64 a7, .int .i64 a8, .int .i64 a9, .int .i64 a10, .int .i64 a11, .int .i64 a12], .slice (some ⟨b, off, none⟩) n cap] w fun r w' => ∃ v, r = .returned v ∧ w'.ownsRow w.heap.size 23 3 v n ((List.range n).flatMap (fun i => vcells (pPut ((a1, a2, a3), (a4, a5, a6), (a7, a8, a9), (a10, a11, a12)) (V i)))) ∧ Below w.heap.size w w' := by
  obtain ⟨i0, hi, hz0, hz1, hz2⟩ := info_parts ps_vec_info
  have HR := Lib.hid hrow
  clear hrow
  go_enter Try.func36, Try.ntmps36
  go_upto_region 1 with (fail)
  obtain ⟨W1, hW1⟩ : ∃ W, W = w.alloc (.cells #[.int .i64 a1, .int .i64 a2, .int .i64 a3, .int .i64 a4, .int .i64 a5, .int .i64 a6, .int .i64 a7, .int .i64 a8, .int .i64 a9, .int .i64 a10, .int .i64 a11, .int .i64 a12] 31) := ⟨_, rfl⟩
  obtain ⟨k_p, B1⟩ := st1 hW1
  rw [← hW1]
  clear hW1
  go_wp2
  go_loopw [5, 10] (fun u i wr => ∃ k : Nat, k ≤ n ∧ i = .int .i64 k ∧ wr.ownsRow (w.heap.size + 1) 23 3 u k ((List.range k).flatMap (fun i => vcells (pPut ((a1, a2, a3), (a4, a5, a6), (a7, a8, a9), (a10, a11, a12)) (V i)))) ∧ Bk wr w.heap.size 31 #[.int .i64 a1, .int .i64 a2, .int .i64 a3, .int .i64 a4, .int .i64 a5, .int .i64 a6, .int .i64 a7, .int .i64 a8, .int .i64 a9, .int .i64 a10, .int .i64 a11, .int .i64 a12] ∧ Below w.heap.size w wr) (fun _ i _ => n - (intOf i).toNat)
  case atStart => exact ⟨0, by omega, rfl, World.ownsRow_nil _ _ _ _, k_p, B1⟩
  case round =>
    clear k_p B1
    obtain ⟨k, hk, rfl, hown, k_p, BO⟩ := hrel
    by_cases hlt : k < n
    · obtain ⟨x0, x1, x2⟩ := HR.out k hlt
      replace x0 : wr.cell? ⟨b, off + k * 3, none⟩ = _ := (BO.cell (p := ⟨b, off + k * 3, none⟩) hb).trans x0
      replace x1 : wr.cell? ⟨b, off + k * 3 + 1, none⟩ = _ := (BO.cell (p := ⟨b, off + k * 3 + 1, none⟩) hb).trans x1
      replace x2 : wr.cell? ⟨b, off + k * 3 + 2, none⟩ = _ := (BO.cell (p := ⟨b, off + k * 3 + 2, none⟩) hb).trans x2
      have KP := Lib.hid (fun w => pose_Put a1 a2 a3 a4 a5 a6 a7 a8 a9 a10 a11 a12 (V k).1 (V k).2.1 (V k).2.2 w)
      have HF : Hid ((List.range (k + 1)).flatMap (fun i => vcells (pPut ((a1, a2, a3), (a4, a5, a6), (a7, a8, a9), (a10, a11, a12)) (V i))) = (List.range k).flatMap (fun i => vcells (pPut ((a1, a2, a3), (a4, a5, a6), (a7, a8, a9), (a10, a11, a12)) (V i))) ++ vcells (pPut ((a1, a2, a3), (a4, a5, a6), (a7, a8, a9), (a10, a11, a12)) (V k))) := Lib.hid (by rw [List.range_succ, List.flatMap_append]; simp)
      change Hid (∀ w, Calls Try.prog 53 #[_, .agg #[.int .i64 (V k).1, .int .i64 (V k).2.1, .int .i64 (V k).2.2]] w fun e w' => e = .returned (.agg #[.int .i64 (pPut ((a1, a2, a3), (a4, a5, a6), (a7, a8, a9), (a10, a11, a12)) (V k)).1, .int .i64 (pPut ((a1, a2, a3), (a4, a5, a6), (a7, a8, a9), (a10, a11, a12)) (V k)).2.1, .int .i64 (pPut ((a1, a2, a3), (a4, a5, a6), (a7, a8, a9), (a10, a11, a12)) (V k)).2.2]) ∧ Below w.heap.size w w') at KP
      obtain ⟨P, hP⟩ : ∃ P, P = pPut ((a1, a2, a3), (a4, a5, a6), (a7, a8, a9), (a10, a11, a12)) (V k) := ⟨_, rfl⟩
      rw [← hP] at KP HF
      clear hP
      generalize V k = vk at *
      obtain ⟨v1, v2, v3⟩ := vk
      obtain ⟨p1, p2, p3⟩ := P
      dsimp only at KP x0 x1 x2
      have HV : Hid (vcells (p1, p2, p3) = [.int .i64 p1, .int .i64 p2, .int .i64 p3]) := Lib.hid rfl
      have HOWN := Lib.hid hown
      clear hown
      have z0 : ∀ p : BW wr, p.w.cell? ⟨b, off + k * 3, none⟩ = some (.int .i64 v1) := bw_cell x0
      have z1 : ∀ p : BW wr, p.w.cell? ⟨b, off + k * 3 + 1, none⟩ = some (.int .i64 v2) := bw_cell x1
      have z2 : ∀ p : BW wr, p.w.cell? ⟨b, off + k * 3 + 2, none⟩ = some (.int .i64 v3) := bw_cell x2
      have B20 : Below wr.heap.size wr wr := Below.refl _ _
      obtain ⟨c_p_0, c_p_1, c_p_2, c_p_3, c_p_4, c_p_5, c_p_6, c_p_7, c_p_8, c_p_9, c_p_10, c_p_11⟩ := bwc12 (k_p)
      obtain ⟨p20, hp20⟩ : ∃ p : BW wr, p.w = wr := ⟨BW.start wr, rfl⟩
      rw [← hp20]
      clear hp20
      go_upto_region 5 with (fail)
      obtain ⟨W21, hW21⟩ : ∃ W, W = p20.w.alloc (.cells #[.int .i64 v1, .int .i64 v2, .int .i64 v3] 23) := ⟨_, rfl⟩
      have B21 : Below wr.heap.size wr W21 := by rw [hW21]; exact (bw_below B20 p20).alloc (bw_below B20 p20).size _
      have l_d : w.heap.size < p20.w.heap.size := (k_p.below p20.h).lt
      have o_d : wr.heap.size ≤ p20.w.heap.size := (bw_below B20 p20).size
      have k_p := bka hW21 (k_p.below p20.h)
      have k_d := bkn hW21
      rw [← hW21]
      clear hW21
      clear B20
      clear c_p_0 c_p_1 c_p_2 c_p_3 c_p_4 c_p_5 c_p_6 c_p_7 c_p_8 c_p_9 c_p_10 c_p_11
      generalize p20.w.heap.size = g_d at *
      clear z0 z1 z2
      obtain ⟨c_p_0, c_p_1, c_p_2, c_p_3, c_p_4, c_p_5, c_p_6, c_p_7, c_p_8, c_p_9, c_p_10, c_p_11⟩ := bwc12 (k_p)
      obtain ⟨c_d_0, c_d_1, c_d_2⟩ := bwc3 (k_d)
      obtain ⟨p21, hp21⟩ : ∃ p : BW W21, p.w = W21 := ⟨BW.start W21, rfl⟩
      rw [← hp21]
      clear hp21
      have HOWQ := fun q : BW W21 => owns_below HOWN.out (bw_below B21 q)
      have HBAS : ∀ q : BW W21, w.heap.size + 1 ≤ q.w.heap.size := fun q => (k_p.below q.h).lt
      go_wp2_with (first
        | (go_at_call 53; (with_reducible refine (bw_call KP.out _).mono ?_); rintro e w' ⟨rfl, q, rfl⟩; have hown := HOWQ q; have hbase := HBAS q)
        | (at_builtin; refine wpList_append_own _ rfl _ _ 48 rfl (w.heap.size + 1) 23 i0 (.agg #[.int .i64 0, .int .i64 0, .int .i64 0]) 3 24 Try.underlying48 hi hz0 hz1 hz2 rfl (by decide) _ _ _ rfl (hown.alloc _) ⟨q.w.heap.size, 0, none⟩ 1 1 [.int .i64 p1, .int .i64 p2, .int .i64 p3] rfl rfl ?g1 ?g2 ?g3 ?g4 ?g5 ?_))
      case g1 => intro j u hj; match j, hj with
        | 0, hj => cases hj; simp [Addr.add, go_sem]
        | 1, hj => cases hj; simp [Addr.add, go_sem]
        | 2, hj => cases hj; simp [Addr.add, go_sem]
      case g2 => first | exact ⟨rfl, rfl, rfl⟩ | (intro u hu; simp only [List.mem_cons, List.not_mem_nil, or_false] at hu; rcases hu with rfl | rfl | rfl <;> rfl)
      case g3 => unfold maxLen; omega
      case g4 => omega
      case g5 => first | omega | (simp; omega)
      intro v' w1 hown' hgrow hne
      have hB1 : Below w.heap.size w w1 := ((BO.trans ((bw_below B21 q).mono BO.size)).alloc (by omega) _).grown hgrow (by simp; omega) (fun j ej => by have := (hown.lt j ej).1; omega)
      have k_p1 : Bk w1 w.heap.size 31 #[.int .i64 a1, .int .i64 a2, .int .i64 a3, .int .i64 a4, .int .i64 a5, .int .i64 a6, .int .i64 a7, .int .i64 a8, .int .i64 a9, .int .i64 a10, .int .i64 a11, .int .i64 a12] := Bk.grown ((k_p.below q.h).alloc _) hgrow (fun e => by have := (hown.lt _ e.symm).1; omega)
      have HO : Hid (w1.ownsRow (w.heap.size + 1) 23 3 v' (k + 1) ((List.range (k + 1)).flatMap (fun i => vcells (pPut ((a1, a2, a3), (a4, a5, a6), (a7, a8, a9), (a10, a11, a12)) (V i))))) := Lib.hid (by rw [HF.out, HV.out]; exact hown')
      clear hown' hgrow hne hown
      go_wp2
      go_roundw
      case rel => exact ⟨k + 1, by omega, by go_num, HO.out, k_p1, hB1⟩
      case measure => simp [intOf]; omega
    · obtain rfl : k = n := by omega
      go_wp2
      go_ret
      exact ⟨_, rfl, owns_mono hown (by omega), BO⟩

end
end Go.Proofs.Ytneacfhoinaeeaa
