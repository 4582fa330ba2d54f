/- Contracts of package basis: Of, Out, In, Mirror, Facing. -/
import Derived.Test.YtijphipinjlmbaaBasisl07
namespace Go.Proofs.Ytijphipinjlmbaa
open Go.RowKit Go.Shelf Go.Proofs.Sky
set_option linter.unusedVariables false

theorem bs_dot {x y z a b c : Int} (h1 : vnear x y z = true) (h2 : vnear a b c = true) : vdot x y z a b c = x * a + y * b + z * c := by unfold vdot; rw [if_pos ⟨h1, h2⟩]

theorem bs_dot_in {x y z a b c : Int} (h1 : vnear x y z = true) (h2 : vnear a b c = true) : -3298534883328 ≤ x * a + y * b + z * c ∧ x * a + y * b + z * c ≤ 3298534883328 := by
  rw [vnear_iff] at h1 h2
  have p := near_mul (x := x) (a := a) (by omega) (by omega)
  have q := near_mul (x := y) (a := b) (by omega) (by omega)
  have r := near_mul (x := z) (a := c) (by omega) (by omega)
  omega

theorem bs_near {u1 u2 u3 v1 v2 v3 n1 n2 n3 w1 w2 w3 : Int} : allNear (u1, u2, u3) (v1, v2, v3) (n1, n2, n3) (w1, w2, w3) = true ↔ (vnear u1 u2 u3 = true ∧ vnear v1 v2 v3 = true ∧ vnear n1 n2 n3 = true) ∧ vnear w1 w2 w3 = true := by
  unfold allNear nrT
  simp [Bool.and_eq_true, and_assoc]

theorem bs_sat {x : Int} (h : -9223372036854775808 ≤ x ∧ x ≤ 9223372036854775807) : sat x = x := by
  unfold sat; rw [if_neg (by omega), if_neg (by omega)]

set_option maxRecDepth 100000 in
set_option maxHeartbeats 4000000 in
theorem basis_Out_no (u1 u2 u3 v1 v2 v3 m1 m2 m3 w1 w2 w3 : Int) (w : World) (h : ¬ allNear (u1, u2, u3) (v1, v2, v3) (m1, m2, m3) (w1, w2, w3) = true) :
    Calls Try.prog 9 #[.agg #[.int .i64 u1, .int .i64 u2, .int .i64 u3, .int .i64 v1, .int .i64 v2, .int .i64 v3, .int .i64 m1, .int .i64 m2, .int .i64 m3], .agg #[.int .i64 w1, .int .i64 w2, .int .i64 w3]] w fun e w' => e = .returned (.agg #[.int .i64 0, .int .i64 0, .int .i64 0]) ∧ Below w.heap.size w w' := by
  have N1 := Lib.hid (fun w => basis_near u1 u2 u3 v1 v2 v3 m1 m2 m3 w)
  have N2 := Lib.hid (fun w => vec_Near w1 w2 w3 w)
  have hc : (vnear u1 u2 u3 && (vnear v1 v2 v3 && vnear m1 m2 m3)) = false ∨ ((vnear u1 u2 u3 && (vnear v1 v2 v3 && vnear m1 m2 m3)) = true ∧ vnear w1 w2 w3 = false) := by
    cases hh : (vnear u1 u2 u3 && (vnear v1 v2 v3 && vnear m1 m2 m3)) with
    | false => exact .inl rfl
    | true =>
      refine .inr ⟨rfl, ?_⟩
      simp only [Bool.and_eq_true] at hh
      cases hw : vnear w1 w2 w3 with
      | false => rfl
      | true => exact absurd (bs_near.2 ⟨hh, hw⟩) h
  clear h
  generalize (vnear u1 u2 u3 && (vnear v1 v2 v3 && vnear m1 m2 m3)) = a at *
  generalize vnear w1 w2 w3 = b at *
  go_enter Try.func9, Try.ntmps9
  go_upto_region 1 with (fail)
  obtain ⟨W1, hW1⟩ : ∃ W, W = ((w.alloc (.cells #[.int .i64 u1, .int .i64 u2, .int .i64 u3, .int .i64 v1, .int .i64 v2, .int .i64 v3, .int .i64 m1, .int .i64 m2, .int .i64 m3] 26)).alloc (.cells #[.int .i64 w1, .int .i64 w2, .int .i64 w3] 23)).alloc (.cells #[.int .i64 0, .int .i64 0, .int .i64 0] 23) := ⟨_, rfl⟩
  have B1 : Below w.heap.size w W1 := by rw [hW1]; go_grown
  have k_b : Bk W1 (w.heap.size) 26 #[.int .i64 u1, .int .i64 u2, .int .i64 u3, .int .i64 v1, .int .i64 v2, .int .i64 v3, .int .i64 m1, .int .i64 m2, .int .i64 m3] := by rw [hW1]; exact ((Bk.new _ _ _).alloc _).alloc _
  have k_v : Bk W1 (w.heap.size + 1) 23 #[.int .i64 w1, .int .i64 w2, .int .i64 w3] := by rw [hW1]; exact (Bk.new_at _ _ _ _ (by simp)).alloc _
  have k_r : Bk W1 (w.heap.size + 1 + 1) 23 #[.int .i64 0, .int .i64 0, .int .i64 0] := by rw [hW1]; exact Bk.new_at _ _ _ _ (by simp)
  rw [← hW1]
  clear hW1
  have l_v : w.heap.size < w.heap.size + 1 := by omega
  have l_r : w.heap.size + 1 < w.heap.size + 1 + 1 := by omega
  generalize w.heap.size + 1 + 1 = g_r at *
  generalize w.heap.size + 1 = g_v at *
  have c_b_0 : ∀ p : BW W1, p.w.cell? ⟨w.heap.size, 0, none⟩ = some (.int .i64 u1) := bw_cell (k_b.cell rfl)
  have c_b_1 : ∀ p : BW W1, p.w.cell? ⟨w.heap.size, 1, none⟩ = some (.int .i64 u2) := bw_cell (k_b.cell rfl)
  have c_b_2 : ∀ p : BW W1, p.w.cell? ⟨w.heap.size, 2, none⟩ = some (.int .i64 u3) := bw_cell (k_b.cell rfl)
  have c_b_3 : ∀ p : BW W1, p.w.cell? ⟨w.heap.size, 3, none⟩ = some (.int .i64 v1) := bw_cell (k_b.cell rfl)
  have c_b_4 : ∀ p : BW W1, p.w.cell? ⟨w.heap.size, 4, none⟩ = some (.int .i64 v2) := bw_cell (k_b.cell rfl)
  have c_b_5 : ∀ p : BW W1, p.w.cell? ⟨w.heap.size, 5, none⟩ = some (.int .i64 v3) := bw_cell (k_b.cell rfl)
  have c_b_6 : ∀ p : BW W1, p.w.cell? ⟨w.heap.size, 6, none⟩ = some (.int .i64 m1) := bw_cell (k_b.cell rfl)
  have c_b_7 : ∀ p : BW W1, p.w.cell? ⟨w.heap.size, 7, none⟩ = some (.int .i64 m2) := bw_cell (k_b.cell rfl)
  have c_b_8 : ∀ p : BW W1, p.w.cell? ⟨w.heap.size, 8, none⟩ = some (.int .i64 m3) := bw_cell (k_b.cell rfl)
  have c_v_0 : ∀ p : BW W1, p.w.cell? ⟨g_v, 0, none⟩ = some (.int .i64 w1) := bw_cell (k_v.cell rfl)
  have c_v_1 : ∀ p : BW W1, p.w.cell? ⟨g_v, 1, none⟩ = some (.int .i64 w2) := bw_cell (k_v.cell rfl)
  have c_v_2 : ∀ p : BW W1, p.w.cell? ⟨g_v, 2, none⟩ = some (.int .i64 w3) := bw_cell (k_v.cell rfl)
  have c_r_0 : ∀ p : BW W1, p.w.cell? ⟨g_r, 0, none⟩ = some (.int .i64 0) := bw_cell (k_r.cell rfl)
  have f_r_0 : ∀ p : BW W1, p.w.frozen? ⟨g_r, 0, none⟩ = false := fun p => (k_r.below p.h).frozen 0
  have c_r_1 : ∀ p : BW W1, p.w.cell? ⟨g_r, 1, none⟩ = some (.int .i64 0) := bw_cell (k_r.cell rfl)
  have f_r_1 : ∀ p : BW W1, p.w.frozen? ⟨g_r, 1, none⟩ = false := fun p => (k_r.below p.h).frozen 1
  have c_r_2 : ∀ p : BW W1, p.w.cell? ⟨g_r, 2, none⟩ = some (.int .i64 0) := bw_cell (k_r.cell rfl)
  have f_r_2 : ∀ p : BW W1, p.w.frozen? ⟨g_r, 2, none⟩ = false := fun p => (k_r.below p.h).frozen 2
  obtain ⟨p1, hp1⟩ : ∃ p : BW W1, p.w = W1 := ⟨BW.start W1, rfl⟩
  rw [← hp1]
  clear hp1
  rcases hc with rfl | ⟨rfl, rfl⟩
  · clear k_b k_v
    go_wp2_with (first
      | (go_at_call 28; (first | (with_reducible refine (bw_call N1.out _).mono ?_)); rintro e w' ⟨rfl, q, rfl⟩)
      | (go_at_call 29; (first | (with_reducible refine (bw_call N2.out _).mono ?_)); rintro e w' ⟨rfl, q, rfl⟩))
    have kr : Bk (((q.w.setCell ⟨g_r, 0, none⟩ (.int .i64 0)).setCell ⟨g_r, 1, none⟩ (.int .i64 0)).setCell ⟨g_r, 2, none⟩ (.int .i64 0)) (g_r) 23 #[.int .i64 0, .int .i64 0, .int .i64 0] := ((((k_r.below q.h).set 0 (.int .i64 0)).set 1 (.int .i64 0)).set 2 (.int .i64 0))
    have rc0 : World.cell? (((q.w.setCell ⟨g_r, 0, none⟩ (.int .i64 0)).setCell ⟨g_r, 1, none⟩ (.int .i64 0)).setCell ⟨g_r, 2, none⟩ (.int .i64 0)) ⟨g_r, 0, none⟩ = some (.int .i64 0) := kr.cell rfl
    have rc1 : World.cell? (((q.w.setCell ⟨g_r, 0, none⟩ (.int .i64 0)).setCell ⟨g_r, 1, none⟩ (.int .i64 0)).setCell ⟨g_r, 2, none⟩ (.int .i64 0)) ⟨g_r, 1, none⟩ = some (.int .i64 0) := kr.cell rfl
    have rc2 : World.cell? (((q.w.setCell ⟨g_r, 0, none⟩ (.int .i64 0)).setCell ⟨g_r, 1, none⟩ (.int .i64 0)).setCell ⟨g_r, 2, none⟩ (.int .i64 0)) ⟨g_r, 2, none⟩ = some (.int .i64 0) := kr.cell rfl
    exact bodyPost_ret (v := .agg #[.int .i64 0, .int .i64 0, .int .i64 0]) (by simp [results, Try.results9, go_sem, rc0, rc1, rc2]) rfl ⟨rfl, ((((bw_below B1 q).setCell (p := ⟨g_r, 0, none⟩) (by show w.heap.size ≤ g_r; omega) _).setCell (p := ⟨g_r, 1, none⟩) (by show w.heap.size ≤ g_r; omega) _).setCell (p := ⟨g_r, 2, none⟩) (by show w.heap.size ≤ g_r; omega) _)⟩
  · clear k_b k_v
    go_wp2_with (first
      | (go_at_call 28; (first | (with_reducible refine (bw_call N1.out _).mono ?_)); rintro e w' ⟨rfl, q, rfl⟩)
      | (go_at_call 29; (first | (with_reducible refine (bw_call N2.out _).mono ?_)); rintro e w' ⟨rfl, q, rfl⟩))
    have kr : Bk (((q.w.setCell ⟨g_r, 0, none⟩ (.int .i64 0)).setCell ⟨g_r, 1, none⟩ (.int .i64 0)).setCell ⟨g_r, 2, none⟩ (.int .i64 0)) (g_r) 23 #[.int .i64 0, .int .i64 0, .int .i64 0] := ((((k_r.below q.h).set 0 (.int .i64 0)).set 1 (.int .i64 0)).set 2 (.int .i64 0))
    have rc0 : World.cell? (((q.w.setCell ⟨g_r, 0, none⟩ (.int .i64 0)).setCell ⟨g_r, 1, none⟩ (.int .i64 0)).setCell ⟨g_r, 2, none⟩ (.int .i64 0)) ⟨g_r, 0, none⟩ = some (.int .i64 0) := kr.cell rfl
    have rc1 : World.cell? (((q.w.setCell ⟨g_r, 0, none⟩ (.int .i64 0)).setCell ⟨g_r, 1, none⟩ (.int .i64 0)).setCell ⟨g_r, 2, none⟩ (.int .i64 0)) ⟨g_r, 1, none⟩ = some (.int .i64 0) := kr.cell rfl
    have rc2 : World.cell? (((q.w.setCell ⟨g_r, 0, none⟩ (.int .i64 0)).setCell ⟨g_r, 1, none⟩ (.int .i64 0)).setCell ⟨g_r, 2, none⟩ (.int .i64 0)) ⟨g_r, 2, none⟩ = some (.int .i64 0) := kr.cell rfl
    exact bodyPost_ret (v := .agg #[.int .i64 0, .int .i64 0, .int .i64 0]) (by simp [results, Try.results9, go_sem, rc0, rc1, rc2]) rfl ⟨rfl, ((((bw_below B1 q).setCell (p := ⟨g_r, 0, none⟩) (by show w.heap.size ≤ g_r; omega) _).setCell (p := ⟨g_r, 1, none⟩) (by show w.heap.size ≤ g_r; omega) _).setCell (p := ⟨g_r, 2, none⟩) (by show w.heap.size ≤ g_r; omega) _)⟩

set_option maxRecDepth 100000 in
set_option maxHeartbeats 4000000 in
theorem basis_In_no (u1 u2 u3 v1 v2 v3 m1 m2 m3 w1 w2 w3 : Int) (w : World) (h : ¬ allNear (u1, u2, u3) (v1, v2, v3) (m1, m2, m3) (w1, w2, w3) = true) :
    Calls Try.prog 11 #[.agg #[.int .i64 u1, .int .i64 u2, .int .i64 u3, .int .i64 v1, .int .i64 v2, .int .i64 v3, .int .i64 m1, .int .i64 m2, .int .i64 m3], .agg #[.int .i64 w1, .int .i64 w2, .int .i64 w3]] w fun e w' => e = .returned (.agg #[.int .i64 0, .int .i64 0, .int .i64 0]) ∧ Below w.heap.size w w' := by
  have N1 := Lib.hid (fun w => basis_near u1 u2 u3 v1 v2 v3 m1 m2 m3 w)
  have N2 := Lib.hid (fun w => vec_Near w1 w2 w3 w)
  have hc : (vnear u1 u2 u3 && (vnear v1 v2 v3 && vnear m1 m2 m3)) = false ∨ ((vnear u1 u2 u3 && (vnear v1 v2 v3 && vnear m1 m2 m3)) = true ∧ vnear w1 w2 w3 = false) := by
    cases hh : (vnear u1 u2 u3 && (vnear v1 v2 v3 && vnear m1 m2 m3)) with
    | false => exact .inl rfl
    | true =>
      refine .inr ⟨rfl, ?_⟩
      simp only [Bool.and_eq_true] at hh
      cases hw : vnear w1 w2 w3 with
      | false => rfl
      | true => exact absurd (bs_near.2 ⟨hh, hw⟩) h
  clear h
  generalize (vnear u1 u2 u3 && (vnear v1 v2 v3 && vnear m1 m2 m3)) = a at *
  generalize vnear w1 w2 w3 = b at *
  go_enter Try.func11, Try.ntmps11
  go_upto_region 1 with (fail)
  obtain ⟨W1, hW1⟩ : ∃ W, W = ((w.alloc (.cells #[.int .i64 u1, .int .i64 u2, .int .i64 u3, .int .i64 v1, .int .i64 v2, .int .i64 v3, .int .i64 m1, .int .i64 m2, .int .i64 m3] 26)).alloc (.cells #[.int .i64 w1, .int .i64 w2, .int .i64 w3] 23)).alloc (.cells #[.int .i64 0, .int .i64 0, .int .i64 0] 23) := ⟨_, rfl⟩
  have B1 : Below w.heap.size w W1 := by rw [hW1]; go_grown
  have k_b : Bk W1 (w.heap.size) 26 #[.int .i64 u1, .int .i64 u2, .int .i64 u3, .int .i64 v1, .int .i64 v2, .int .i64 v3, .int .i64 m1, .int .i64 m2, .int .i64 m3] := by rw [hW1]; exact ((Bk.new _ _ _).alloc _).alloc _
  have k_v : Bk W1 (w.heap.size + 1) 23 #[.int .i64 w1, .int .i64 w2, .int .i64 w3] := by rw [hW1]; exact (Bk.new_at _ _ _ _ (by simp)).alloc _
  have k_r : Bk W1 (w.heap.size + 1 + 1) 23 #[.int .i64 0, .int .i64 0, .int .i64 0] := by rw [hW1]; exact Bk.new_at _ _ _ _ (by simp)
  rw [← hW1]
  clear hW1
  have l_v : w.heap.size < w.heap.size + 1 := by omega
  have l_r : w.heap.size + 1 < w.heap.size + 1 + 1 := by omega
  generalize w.heap.size + 1 + 1 = g_r at *
  generalize w.heap.size + 1 = g_v at *
  have c_b_0 : ∀ p : BW W1, p.w.cell? ⟨w.heap.size, 0, none⟩ = some (.int .i64 u1) := bw_cell (k_b.cell rfl)
  have c_b_1 : ∀ p : BW W1, p.w.cell? ⟨w.heap.size, 1, none⟩ = some (.int .i64 u2) := bw_cell (k_b.cell rfl)
  have c_b_2 : ∀ p : BW W1, p.w.cell? ⟨w.heap.size, 2, none⟩ = some (.int .i64 u3) := bw_cell (k_b.cell rfl)
  have c_b_3 : ∀ p : BW W1, p.w.cell? ⟨w.heap.size, 3, none⟩ = some (.int .i64 v1) := bw_cell (k_b.cell rfl)
  have c_b_4 : ∀ p : BW W1, p.w.cell? ⟨w.heap.size, 4, none⟩ = some (.int .i64 v2) := bw_cell (k_b.cell rfl)
  have c_b_5 : ∀ p : BW W1, p.w.cell? ⟨w.heap.size, 5, none⟩ = some (.int .i64 v3) := bw_cell (k_b.cell rfl)
  have c_b_6 : ∀ p : BW W1, p.w.cell? ⟨w.heap.size, 6, none⟩ = some (.int .i64 m1) := bw_cell (k_b.cell rfl)
  have c_b_7 : ∀ p : BW W1, p.w.cell? ⟨w.heap.size, 7, none⟩ = some (.int .i64 m2) := bw_cell (k_b.cell rfl)
  have c_b_8 : ∀ p : BW W1, p.w.cell? ⟨w.heap.size, 8, none⟩ = some (.int .i64 m3) := bw_cell (k_b.cell rfl)
  have c_v_0 : ∀ p : BW W1, p.w.cell? ⟨g_v, 0, none⟩ = some (.int .i64 w1) := bw_cell (k_v.cell rfl)
  have c_v_1 : ∀ p : BW W1, p.w.cell? ⟨g_v, 1, none⟩ = some (.int .i64 w2) := bw_cell (k_v.cell rfl)
  have c_v_2 : ∀ p : BW W1, p.w.cell? ⟨g_v, 2, none⟩ = some (.int .i64 w3) := bw_cell (k_v.cell rfl)
  have c_r_0 : ∀ p : BW W1, p.w.cell? ⟨g_r, 0, none⟩ = some (.int .i64 0) := bw_cell (k_r.cell rfl)
  have f_r_0 : ∀ p : BW W1, p.w.frozen? ⟨g_r, 0, none⟩ = false := fun p => (k_r.below p.h).frozen 0
  have c_r_1 : ∀ p : BW W1, p.w.cell? ⟨g_r, 1, none⟩ = some (.int .i64 0) := bw_cell (k_r.cell rfl)
  have f_r_1 : ∀ p : BW W1, p.w.frozen? ⟨g_r, 1, none⟩ = false := fun p => (k_r.below p.h).frozen 1
  have c_r_2 : ∀ p : BW W1, p.w.cell? ⟨g_r, 2, none⟩ = some (.int .i64 0) := bw_cell (k_r.cell rfl)
  have f_r_2 : ∀ p : BW W1, p.w.frozen? ⟨g_r, 2, none⟩ = false := fun p => (k_r.below p.h).frozen 2
  obtain ⟨p1, hp1⟩ : ∃ p : BW W1, p.w = W1 := ⟨BW.start W1, rfl⟩
  rw [← hp1]
  clear hp1
  rcases hc with rfl | ⟨rfl, rfl⟩
  · clear k_b k_v
    go_wp2_with (first
      | (go_at_call 28; (first | (with_reducible refine (bw_call N1.out _).mono ?_)); rintro e w' ⟨rfl, q, rfl⟩)
      | (go_at_call 29; (first | (with_reducible refine (bw_call N2.out _).mono ?_)); rintro e w' ⟨rfl, q, rfl⟩))
    have kr : Bk (((q.w.setCell ⟨g_r, 0, none⟩ (.int .i64 0)).setCell ⟨g_r, 1, none⟩ (.int .i64 0)).setCell ⟨g_r, 2, none⟩ (.int .i64 0)) (g_r) 23 #[.int .i64 0, .int .i64 0, .int .i64 0] := ((((k_r.below q.h).set 0 (.int .i64 0)).set 1 (.int .i64 0)).set 2 (.int .i64 0))
    have rc0 : World.cell? (((q.w.setCell ⟨g_r, 0, none⟩ (.int .i64 0)).setCell ⟨g_r, 1, none⟩ (.int .i64 0)).setCell ⟨g_r, 2, none⟩ (.int .i64 0)) ⟨g_r, 0, none⟩ = some (.int .i64 0) := kr.cell rfl
    have rc1 : World.cell? (((q.w.setCell ⟨g_r, 0, none⟩ (.int .i64 0)).setCell ⟨g_r, 1, none⟩ (.int .i64 0)).setCell ⟨g_r, 2, none⟩ (.int .i64 0)) ⟨g_r, 1, none⟩ = some (.int .i64 0) := kr.cell rfl
    have rc2 : World.cell? (((q.w.setCell ⟨g_r, 0, none⟩ (.int .i64 0)).setCell ⟨g_r, 1, none⟩ (.int .i64 0)).setCell ⟨g_r, 2, none⟩ (.int .i64 0)) ⟨g_r, 2, none⟩ = some (.int .i64 0) := kr.cell rfl
    exact bodyPost_ret (v := .agg #[.int .i64 0, .int .i64 0, .int .i64 0]) (by simp [results, Try.results11, go_sem, rc0, rc1, rc2]) rfl ⟨rfl, ((((bw_below B1 q).setCell (p := ⟨g_r, 0, none⟩) (by show w.heap.size ≤ g_r; omega) _).setCell (p := ⟨g_r, 1, none⟩) (by show w.heap.size ≤ g_r; omega) _).setCell (p := ⟨g_r, 2, none⟩) (by show w.heap.size ≤ g_r; omega) _)⟩
  · clear k_b k_v
    go_wp2_with (first
      | (go_at_call 28; (first | (with_reducible refine (bw_call N1.out _).mono ?_)); rintro e w' ⟨rfl, q, rfl⟩)
      | (go_at_call 29; (first | (with_reducible refine (bw_call N2.out _).mono ?_)); rintro e w' ⟨rfl, q, rfl⟩))
    have kr : Bk (((q.w.setCell ⟨g_r, 0, none⟩ (.int .i64 0)).setCell ⟨g_r, 1, none⟩ (.int .i64 0)).setCell ⟨g_r, 2, none⟩ (.int .i64 0)) (g_r) 23 #[.int .i64 0, .int .i64 0, .int .i64 0] := ((((k_r.below q.h).set 0 (.int .i64 0)).set 1 (.int .i64 0)).set 2 (.int .i64 0))
    have rc0 : World.cell? (((q.w.setCell ⟨g_r, 0, none⟩ (.int .i64 0)).setCell ⟨g_r, 1, none⟩ (.int .i64 0)).setCell ⟨g_r, 2, none⟩ (.int .i64 0)) ⟨g_r, 0, none⟩ = some (.int .i64 0) := kr.cell rfl
    have rc1 : World.cell? (((q.w.setCell ⟨g_r, 0, none⟩ (.int .i64 0)).setCell ⟨g_r, 1, none⟩ (.int .i64 0)).setCell ⟨g_r, 2, none⟩ (.int .i64 0)) ⟨g_r, 1, none⟩ = some (.int .i64 0) := kr.cell rfl
    have rc2 : World.cell? (((q.w.setCell ⟨g_r, 0, none⟩ (.int .i64 0)).setCell ⟨g_r, 1, none⟩ (.int .i64 0)).setCell ⟨g_r, 2, none⟩ (.int .i64 0)) ⟨g_r, 2, none⟩ = some (.int .i64 0) := kr.cell rfl
    exact bodyPost_ret (v := .agg #[.int .i64 0, .int .i64 0, .int .i64 0]) (by simp [results, Try.results11, go_sem, rc0, rc1, rc2]) rfl ⟨rfl, ((((bw_below B1 q).setCell (p := ⟨g_r, 0, none⟩) (by show w.heap.size ≤ g_r; omega) _).setCell (p := ⟨g_r, 1, none⟩) (by show w.heap.size ≤ g_r; omega) _).setCell (p := ⟨g_r, 2, none⟩) (by show w.heap.size ≤ g_r; omega) _)⟩

set_option maxRecDepth 100000 in
set_option maxHeartbeats 4000000 in
theorem basis_Out_yes (u1 u2 u3 v1 v2 v3 m1 m2 m3 w1 w2 w3 : Int) (w : World) (h : allNear (u1, u2, u3) (v1, v2, v3) (m1, m2, m3) (w1, w2, w3) = true) :
    Calls Try.prog 9 #[.agg #[.int .i64 u1, .int .i64 u2, .int .i64 u3, .int .i64 v1, .int .i64 v2, .int .i64 v3, .int .i64 m1, .int .i64 m2, .int .i64 m3], .agg #[.int .i64 w1, .int .i64 w2, .int .i64 w3]] w fun e w' => e = .returned (.agg #[.int .i64 ((u1 * w1 + v1 * w2 + m1 * w3) / 16384), .int .i64 ((u2 * w1 + v2 * w2 + m2 * w3) / 16384), .int .i64 ((u3 * w1 + v3 * w2 + m3 * w3) / 16384)]) ∧ Below w.heap.size w w' := by
  have N1 := Lib.hid (fun w => basis_near u1 u2 u3 v1 v2 v3 m1 m2 m3 w)
  have N2 := Lib.hid (fun w => vec_Near w1 w2 w3 w)
  obtain ⟨⟨h1, h2, h3⟩, h4⟩ := bs_near.1 h
  rw [h1, h2, h3] at N1
  rw [h4] at N2
  clear h
  have D := Lib.hid (fun w => basis_directions u1 u2 u3 v1 v2 v3 m1 m2 m3 w)
  rw [vnear_iff] at h1 h2 h3 h4
  have b00 := near_mul (x := u1) (a := w1) (by omega) (by omega)
  have b01 := near_mul (x := u2) (a := w1) (by omega) (by omega)
  have b02 := near_mul (x := u3) (a := w1) (by omega) (by omega)
  have b10 := near_mul (x := v1) (a := w2) (by omega) (by omega)
  have b11 := near_mul (x := v2) (a := w2) (by omega) (by omega)
  have b12 := near_mul (x := v3) (a := w2) (by omega) (by omega)
  have b20 := near_mul (x := m1) (a := w3) (by omega) (by omega)
  have b21 := near_mul (x := m2) (a := w3) (by omega) (by omega)
  have b22 := near_mul (x := m3) (a := w3) (by omega) (by omega)
  obtain ⟨p00, e00⟩ : ∃ t, t = u1 * w1 := ⟨_, rfl⟩
  rw [← e00] at b00 ⊢
  obtain ⟨p01, e01⟩ : ∃ t, t = u2 * w1 := ⟨_, rfl⟩
  rw [← e01] at b01 ⊢
  obtain ⟨p02, e02⟩ : ∃ t, t = u3 * w1 := ⟨_, rfl⟩
  rw [← e02] at b02 ⊢
  obtain ⟨p10, e10⟩ : ∃ t, t = v1 * w2 := ⟨_, rfl⟩
  rw [← e10] at b10 ⊢
  obtain ⟨p11, e11⟩ : ∃ t, t = v2 * w2 := ⟨_, rfl⟩
  rw [← e11] at b11 ⊢
  obtain ⟨p12, e12⟩ : ∃ t, t = v3 * w2 := ⟨_, rfl⟩
  rw [← e12] at b12 ⊢
  obtain ⟨p20, e20⟩ : ∃ t, t = m1 * w3 := ⟨_, rfl⟩
  rw [← e20] at b20 ⊢
  obtain ⟨p21, e21⟩ : ∃ t, t = m2 * w3 := ⟨_, rfl⟩
  rw [← e21] at b21 ⊢
  obtain ⟨p22, e22⟩ : ∃ t, t = m3 * w3 := ⟨_, rfl⟩
  rw [← e22] at b22 ⊢
  have T0 := Lib.hid (fun w => basis_times u1 u2 u3 w1 p00 p01 p02 w e00.symm e01.symm e02.symm (by unfold I64; omega) (by unfold I64; omega) (by unfold I64; omega))
  have T1 := Lib.hid (fun w => basis_times v1 v2 v3 w2 p10 p11 p12 w e10.symm e11.symm e12.symm (by unfold I64; omega) (by unfold I64; omega) (by unfold I64; omega))
  have T2 := Lib.hid (fun w => basis_times m1 m2 m3 w3 p20 p21 p22 w e20.symm e21.symm e22.symm (by unfold I64; omega) (by unfold I64; omega) (by unfold I64; omega))
  clear h1 h2 h3 h4 e00 e01 e02 e10 e11 e12 e20 e21 e22
  have A0 := Lib.hid (fun w => vec_Add 0 0 0 p00 p01 p02 w (by unfold I64; omega) (by unfold I64; omega) (by unfold I64; omega) (by unfold I64; omega) (by unfold I64; omega) (by unfold I64; omega))
  rw [show sat (0 + p00) = p00 by rw [bs_sat (by omega)]; omega, show sat (0 + p01) = p01 by rw [bs_sat (by omega)]; omega, show sat (0 + p02) = p02 by rw [bs_sat (by omega)]; omega] at A0
  obtain ⟨s0, f0⟩ : ∃ t, t = p00 + p10 := ⟨_, rfl⟩
  rw [← f0]
  obtain ⟨s1, f1⟩ : ∃ t, t = p01 + p11 := ⟨_, rfl⟩
  rw [← f1]
  obtain ⟨s2, f2⟩ : ∃ t, t = p02 + p12 := ⟨_, rfl⟩
  rw [← f2]
  have A1 := Lib.hid (fun w => vec_Add p00 p01 p02 p10 p11 p12 w (by unfold I64; omega) (by unfold I64; omega) (by unfold I64; omega) (by unfold I64; omega) (by unfold I64; omega) (by unfold I64; omega))
  rw [show sat (p00 + p10) = s0 by rw [bs_sat (by omega)]; omega, show sat (p01 + p11) = s1 by rw [bs_sat (by omega)]; omega, show sat (p02 + p12) = s2 by rw [bs_sat (by omega)]; omega] at A1
  obtain ⟨t0, k0⟩ : ∃ t, t = s0 + p20 := ⟨_, rfl⟩
  rw [← k0]
  obtain ⟨t1, k1⟩ : ∃ t, t = s1 + p21 := ⟨_, rfl⟩
  rw [← k1]
  obtain ⟨t2, k2⟩ : ∃ t, t = s2 + p22 := ⟨_, rfl⟩
  rw [← k2]
  have A2 := Lib.hid (fun w => vec_Add s0 s1 s2 p20 p21 p22 w (by unfold I64; omega) (by unfold I64; omega) (by unfold I64; omega) (by unfold I64; omega) (by unfold I64; omega) (by unfold I64; omega))
  rw [show sat (s0 + p20) = t0 by rw [bs_sat (by omega)]; omega, show sat (s1 + p21) = t1 by rw [bs_sat (by omega)]; omega, show sat (s2 + p22) = t2 by rw [bs_sat (by omega)]; omega] at A2
  have V := Lib.hid (fun w => basis_over t0 t1 t2 16384 w (by unfold I64; omega) (by unfold I64; omega) (by unfold I64; omega) (by unfold I64; omega) (by omega))
  generalize t0 / 16384 = r1 at *
  generalize t1 / 16384 = r2 at *
  generalize t2 / 16384 = r3 at *
  clear b00 b01 b02 b10 b11 b12 b20 b21 b22 f0 f1 f2 k0 k1 k2
  have i0 : ∀ w, (Instr.index 45 (.agg #[.int .i64 u1, .int .i64 u2, .int .i64 u3, .int .i64 v1, .int .i64 v2, .int .i64 v3, .int .i64 m1, .int .i64 m2, .int .i64 m3]) (.int .i64 0)).run Try.prog w = .ok (.agg #[.int .i64 u1, .int .i64 u2, .int .i64 u3]) w := fun _ => by kernel_rfl
  have i1 : ∀ w, (Instr.index 45 (.agg #[.int .i64 u1, .int .i64 u2, .int .i64 u3, .int .i64 v1, .int .i64 v2, .int .i64 v3, .int .i64 m1, .int .i64 m2, .int .i64 m3]) (.int .i64 1)).run Try.prog w = .ok (.agg #[.int .i64 v1, .int .i64 v2, .int .i64 v3]) w := fun _ => by kernel_rfl
  have i2 : ∀ w, (Instr.index 45 (.agg #[.int .i64 u1, .int .i64 u2, .int .i64 u3, .int .i64 v1, .int .i64 v2, .int .i64 v3, .int .i64 m1, .int .i64 m2, .int .i64 m3]) (.int .i64 2)).run Try.prog w = .ok (.agg #[.int .i64 m1, .int .i64 m2, .int .i64 m3]) w := fun _ => by kernel_rfl
  go_enter Try.func9, Try.ntmps9
  go_upto_region 1 with (fail)
  obtain ⟨W1, hW1⟩ : ∃ W, W = ((w.alloc (.cells #[.int .i64 u1, .int .i64 u2, .int .i64 u3, .int .i64 v1, .int .i64 v2, .int .i64 v3, .int .i64 m1, .int .i64 m2, .int .i64 m3] 26)).alloc (.cells #[.int .i64 w1, .int .i64 w2, .int .i64 w3] 23)).alloc (.cells #[.int .i64 0, .int .i64 0, .int .i64 0] 23) := ⟨_, rfl⟩
  have B1 : Below w.heap.size w W1 := by rw [hW1]; go_grown
  have k_b : Bk W1 (w.heap.size) 26 #[.int .i64 u1, .int .i64 u2, .int .i64 u3, .int .i64 v1, .int .i64 v2, .int .i64 v3, .int .i64 m1, .int .i64 m2, .int .i64 m3] := by rw [hW1]; exact ((Bk.new _ _ _).alloc _).alloc _
  have k_v : Bk W1 (w.heap.size + 1) 23 #[.int .i64 w1, .int .i64 w2, .int .i64 w3] := by rw [hW1]; exact (Bk.new_at _ _ _ _ (by simp)).alloc _
  have k_r : Bk W1 (w.heap.size + 1 + 1) 23 #[.int .i64 0, .int .i64 0, .int .i64 0] := by rw [hW1]; exact Bk.new_at _ _ _ _ (by simp)
  rw [← hW1]
  clear hW1
  have l_v : w.heap.size < w.heap.size + 1 := by omega
  have l_r : w.heap.size + 1 < w.heap.size + 1 + 1 := by omega
  generalize w.heap.size + 1 + 1 = g_r at *
  generalize w.heap.size + 1 = g_v at *
  have c_b_0 : ∀ p : BW W1, p.w.cell? ⟨w.heap.size, 0, none⟩ = some (.int .i64 u1) := bw_cell (k_b.cell rfl)
  have c_b_1 : ∀ p : BW W1, p.w.cell? ⟨w.heap.size, 1, none⟩ = some (.int .i64 u2) := bw_cell (k_b.cell rfl)
  have c_b_2 : ∀ p : BW W1, p.w.cell? ⟨w.heap.size, 2, none⟩ = some (.int .i64 u3) := bw_cell (k_b.cell rfl)
  have c_b_3 : ∀ p : BW W1, p.w.cell? ⟨w.heap.size, 3, none⟩ = some (.int .i64 v1) := bw_cell (k_b.cell rfl)
  have c_b_4 : ∀ p : BW W1, p.w.cell? ⟨w.heap.size, 4, none⟩ = some (.int .i64 v2) := bw_cell (k_b.cell rfl)
  have c_b_5 : ∀ p : BW W1, p.w.cell? ⟨w.heap.size, 5, none⟩ = some (.int .i64 v3) := bw_cell (k_b.cell rfl)
  have c_b_6 : ∀ p : BW W1, p.w.cell? ⟨w.heap.size, 6, none⟩ = some (.int .i64 m1) := bw_cell (k_b.cell rfl)
  have c_b_7 : ∀ p : BW W1, p.w.cell? ⟨w.heap.size, 7, none⟩ = some (.int .i64 m2) := bw_cell (k_b.cell rfl)
  have c_b_8 : ∀ p : BW W1, p.w.cell? ⟨w.heap.size, 8, none⟩ = some (.int .i64 m3) := bw_cell (k_b.cell rfl)
  have c_v_0 : ∀ p : BW W1, p.w.cell? ⟨g_v, 0, none⟩ = some (.int .i64 w1) := bw_cell (k_v.cell rfl)
  have c_v_1 : ∀ p : BW W1, p.w.cell? ⟨g_v, 1, none⟩ = some (.int .i64 w2) := bw_cell (k_v.cell rfl)
  have c_v_2 : ∀ p : BW W1, p.w.cell? ⟨g_v, 2, none⟩ = some (.int .i64 w3) := bw_cell (k_v.cell rfl)
  have c_r_0 : ∀ p : BW W1, p.w.cell? ⟨g_r, 0, none⟩ = some (.int .i64 0) := bw_cell (k_r.cell rfl)
  have c_r_1 : ∀ p : BW W1, p.w.cell? ⟨g_r, 1, none⟩ = some (.int .i64 0) := bw_cell (k_r.cell rfl)
  have c_r_2 : ∀ p : BW W1, p.w.cell? ⟨g_r, 2, none⟩ = some (.int .i64 0) := bw_cell (k_r.cell rfl)
  obtain ⟨p1, hp1⟩ : ∃ p : BW W1, p.w = W1 := ⟨BW.start W1, rfl⟩
  rw [← hp1]
  clear hp1
  go_upto_region 4 with (first
    | (go_at_call 28; (first | (with_reducible refine (bw_call N1.out _).mono ?_)); rintro e w' ⟨rfl, q, rfl⟩)
    | (go_at_call 29; (first | (with_reducible refine (bw_call N2.out _).mono ?_)); rintro e w' ⟨rfl, q, rfl⟩))
  obtain ⟨W2, hW2⟩ : ∃ W, W = q.w.alloc (.cells #[.int .i64 w1, .int .i64 w2, .int .i64 w3] 44) := ⟨_, rfl⟩
  have B2 : Below w.heap.size w W2 := by rw [hW2]; exact (bw_below B1 q).alloc (bw_below B1 q).size _
  have l_l : g_r < q.w.heap.size := (k_r.below q.h).lt
  have k_b := (k_b.below q.h).alloc (.cells #[.int .i64 w1, .int .i64 w2, .int .i64 w3] 44)
  rw [← hW2] at k_b
  have k_v := (k_v.below q.h).alloc (.cells #[.int .i64 w1, .int .i64 w2, .int .i64 w3] 44)
  rw [← hW2] at k_v
  have k_r := (k_r.below q.h).alloc (.cells #[.int .i64 w1, .int .i64 w2, .int .i64 w3] 44)
  rw [← hW2] at k_r
  have k_l : Bk W2 q.w.heap.size 44 #[.int .i64 w1, .int .i64 w2, .int .i64 w3] := by rw [hW2]; exact Bk.new _ _ _
  rw [← hW2]
  clear hW2
  clear B1
  clear c_b_0 c_b_1 c_b_2 c_b_3 c_b_4 c_b_5 c_b_6 c_b_7 c_b_8 c_v_0 c_v_1 c_v_2 c_r_0 c_r_1 c_r_2
  generalize q.w.heap.size = g_l at *
  have c_b_0 : ∀ p : BW W2, p.w.cell? ⟨w.heap.size, 0, none⟩ = some (.int .i64 u1) := bw_cell (k_b.cell rfl)
  have c_b_1 : ∀ p : BW W2, p.w.cell? ⟨w.heap.size, 1, none⟩ = some (.int .i64 u2) := bw_cell (k_b.cell rfl)
  have c_b_2 : ∀ p : BW W2, p.w.cell? ⟨w.heap.size, 2, none⟩ = some (.int .i64 u3) := bw_cell (k_b.cell rfl)
  have c_b_3 : ∀ p : BW W2, p.w.cell? ⟨w.heap.size, 3, none⟩ = some (.int .i64 v1) := bw_cell (k_b.cell rfl)
  have c_b_4 : ∀ p : BW W2, p.w.cell? ⟨w.heap.size, 4, none⟩ = some (.int .i64 v2) := bw_cell (k_b.cell rfl)
  have c_b_5 : ∀ p : BW W2, p.w.cell? ⟨w.heap.size, 5, none⟩ = some (.int .i64 v3) := bw_cell (k_b.cell rfl)
  have c_b_6 : ∀ p : BW W2, p.w.cell? ⟨w.heap.size, 6, none⟩ = some (.int .i64 m1) := bw_cell (k_b.cell rfl)
  have c_b_7 : ∀ p : BW W2, p.w.cell? ⟨w.heap.size, 7, none⟩ = some (.int .i64 m2) := bw_cell (k_b.cell rfl)
  have c_b_8 : ∀ p : BW W2, p.w.cell? ⟨w.heap.size, 8, none⟩ = some (.int .i64 m3) := bw_cell (k_b.cell rfl)
  have c_v_0 : ∀ p : BW W2, p.w.cell? ⟨g_v, 0, none⟩ = some (.int .i64 w1) := bw_cell (k_v.cell rfl)
  have c_v_1 : ∀ p : BW W2, p.w.cell? ⟨g_v, 1, none⟩ = some (.int .i64 w2) := bw_cell (k_v.cell rfl)
  have c_v_2 : ∀ p : BW W2, p.w.cell? ⟨g_v, 2, none⟩ = some (.int .i64 w3) := bw_cell (k_v.cell rfl)
  have c_r_0 : ∀ p : BW W2, p.w.cell? ⟨g_r, 0, none⟩ = some (.int .i64 0) := bw_cell (k_r.cell rfl)
  have c_r_1 : ∀ p : BW W2, p.w.cell? ⟨g_r, 1, none⟩ = some (.int .i64 0) := bw_cell (k_r.cell rfl)
  have c_r_2 : ∀ p : BW W2, p.w.cell? ⟨g_r, 2, none⟩ = some (.int .i64 0) := bw_cell (k_r.cell rfl)
  have c_l_0 : ∀ p : BW W2, p.w.cell? ⟨g_l, 0, none⟩ = some (.int .i64 w1) := bw_cell (k_l.cell rfl)
  have c_l_1 : ∀ p : BW W2, p.w.cell? ⟨g_l, 1, none⟩ = some (.int .i64 w2) := bw_cell (k_l.cell rfl)
  have c_l_2 : ∀ p : BW W2, p.w.cell? ⟨g_l, 2, none⟩ = some (.int .i64 w3) := bw_cell (k_l.cell rfl)
  obtain ⟨p2, hp2⟩ : ∃ p : BW W2, p.w = W2 := ⟨BW.start W2, rfl⟩
  rw [← hp2]
  clear hp2
  go_upto_region 5 with (fail)
  obtain ⟨W3, hW3⟩ : ∃ W, W = p2.w.alloc (.cells #[.int .i64 0, .int .i64 0, .int .i64 0] 23) := ⟨_, rfl⟩
  have B3 : Below w.heap.size w W3 := by rw [hW3]; exact (bw_below B2 p2).alloc (bw_below B2 p2).size _
  have l_s : g_l < p2.w.heap.size := (k_l.below p2.h).lt
  have k_b := (k_b.below p2.h).alloc (.cells #[.int .i64 0, .int .i64 0, .int .i64 0] 23)
  rw [← hW3] at k_b
  have k_v := (k_v.below p2.h).alloc (.cells #[.int .i64 0, .int .i64 0, .int .i64 0] 23)
  rw [← hW3] at k_v
  have k_r := (k_r.below p2.h).alloc (.cells #[.int .i64 0, .int .i64 0, .int .i64 0] 23)
  rw [← hW3] at k_r
  have k_l := (k_l.below p2.h).alloc (.cells #[.int .i64 0, .int .i64 0, .int .i64 0] 23)
  rw [← hW3] at k_l
  have k_s : Bk W3 p2.w.heap.size 23 #[.int .i64 0, .int .i64 0, .int .i64 0] := by rw [hW3]; exact Bk.new _ _ _
  rw [← hW3]
  clear hW3
  clear B2
  clear c_b_0 c_b_1 c_b_2 c_b_3 c_b_4 c_b_5 c_b_6 c_b_7 c_b_8 c_v_0 c_v_1 c_v_2 c_r_0 c_r_1 c_r_2 c_l_0 c_l_1 c_l_2
  generalize p2.w.heap.size = g_s at *
  have c_b_0 : ∀ p : BW W3, p.w.cell? ⟨w.heap.size, 0, none⟩ = some (.int .i64 u1) := bw_cell (k_b.cell rfl)
  have c_b_1 : ∀ p : BW W3, p.w.cell? ⟨w.heap.size, 1, none⟩ = some (.int .i64 u2) := bw_cell (k_b.cell rfl)
  have c_b_2 : ∀ p : BW W3, p.w.cell? ⟨w.heap.size, 2, none⟩ = some (.int .i64 u3) := bw_cell (k_b.cell rfl)
  have c_b_3 : ∀ p : BW W3, p.w.cell? ⟨w.heap.size, 3, none⟩ = some (.int .i64 v1) := bw_cell (k_b.cell rfl)
  have c_b_4 : ∀ p : BW W3, p.w.cell? ⟨w.heap.size, 4, none⟩ = some (.int .i64 v2) := bw_cell (k_b.cell rfl)
  have c_b_5 : ∀ p : BW W3, p.w.cell? ⟨w.heap.size, 5, none⟩ = some (.int .i64 v3) := bw_cell (k_b.cell rfl)
  have c_b_6 : ∀ p : BW W3, p.w.cell? ⟨w.heap.size, 6, none⟩ = some (.int .i64 m1) := bw_cell (k_b.cell rfl)
  have c_b_7 : ∀ p : BW W3, p.w.cell? ⟨w.heap.size, 7, none⟩ = some (.int .i64 m2) := bw_cell (k_b.cell rfl)
  have c_b_8 : ∀ p : BW W3, p.w.cell? ⟨w.heap.size, 8, none⟩ = some (.int .i64 m3) := bw_cell (k_b.cell rfl)
  have c_v_0 : ∀ p : BW W3, p.w.cell? ⟨g_v, 0, none⟩ = some (.int .i64 w1) := bw_cell (k_v.cell rfl)
  have c_v_1 : ∀ p : BW W3, p.w.cell? ⟨g_v, 1, none⟩ = some (.int .i64 w2) := bw_cell (k_v.cell rfl)
  have c_v_2 : ∀ p : BW W3, p.w.cell? ⟨g_v, 2, none⟩ = some (.int .i64 w3) := bw_cell (k_v.cell rfl)
  have c_r_0 : ∀ p : BW W3, p.w.cell? ⟨g_r, 0, none⟩ = some (.int .i64 0) := bw_cell (k_r.cell rfl)
  have c_r_1 : ∀ p : BW W3, p.w.cell? ⟨g_r, 1, none⟩ = some (.int .i64 0) := bw_cell (k_r.cell rfl)
  have c_r_2 : ∀ p : BW W3, p.w.cell? ⟨g_r, 2, none⟩ = some (.int .i64 0) := bw_cell (k_r.cell rfl)
  have c_l_0 : ∀ p : BW W3, p.w.cell? ⟨g_l, 0, none⟩ = some (.int .i64 w1) := bw_cell (k_l.cell rfl)
  have c_l_1 : ∀ p : BW W3, p.w.cell? ⟨g_l, 1, none⟩ = some (.int .i64 w2) := bw_cell (k_l.cell rfl)
  have c_l_2 : ∀ p : BW W3, p.w.cell? ⟨g_l, 2, none⟩ = some (.int .i64 w3) := bw_cell (k_l.cell rfl)
  have c_s_0 : ∀ p : BW W3, p.w.cell? ⟨g_s, 0, none⟩ = some (.int .i64 0) := bw_cell (k_s.cell rfl)
  have c_s_1 : ∀ p : BW W3, p.w.cell? ⟨g_s, 1, none⟩ = some (.int .i64 0) := bw_cell (k_s.cell rfl)
  have c_s_2 : ∀ p : BW W3, p.w.cell? ⟨g_s, 2, none⟩ = some (.int .i64 0) := bw_cell (k_s.cell rfl)
  obtain ⟨p3, hp3⟩ : ∃ p : BW W3, p.w = W3 := ⟨BW.start W3, rfl⟩
  rw [← hp3]
  clear hp3
  go_upto_region 6 with (first
    | (go_at_call 30; (first | (with_reducible refine (bw_call D.out _).mono ?_)); rintro e w' ⟨rfl, q, rfl⟩))
  refine wp_loop_rounds 4 ?_
  rw [rounds_succ]
  go_upto_region 8 with (fail)
  obtain ⟨W4, hW4⟩ : ∃ W, W = q.w.alloc (.cells #[.int .i64 u1, .int .i64 u2, .int .i64 u3] 23) := ⟨_, rfl⟩
  have B4 : Below w.heap.size w W4 := by rw [hW4]; exact (bw_below B3 q).alloc (bw_below B3 q).size _
  have l_d0 : g_s < q.w.heap.size := (k_s.below q.h).lt
  have k_b := (k_b.below q.h).alloc (.cells #[.int .i64 u1, .int .i64 u2, .int .i64 u3] 23)
  rw [← hW4] at k_b
  have k_v := (k_v.below q.h).alloc (.cells #[.int .i64 u1, .int .i64 u2, .int .i64 u3] 23)
  rw [← hW4] at k_v
  have k_r := (k_r.below q.h).alloc (.cells #[.int .i64 u1, .int .i64 u2, .int .i64 u3] 23)
  rw [← hW4] at k_r
  have k_l := (k_l.below q.h).alloc (.cells #[.int .i64 u1, .int .i64 u2, .int .i64 u3] 23)
  rw [← hW4] at k_l
  have k_s := (k_s.below q.h).alloc (.cells #[.int .i64 u1, .int .i64 u2, .int .i64 u3] 23)
  rw [← hW4] at k_s
  have k_d0 : Bk W4 q.w.heap.size 23 #[.int .i64 u1, .int .i64 u2, .int .i64 u3] := by rw [hW4]; exact Bk.new _ _ _
  rw [← hW4]
  clear hW4
  clear B3
  clear c_b_0 c_b_1 c_b_2 c_b_3 c_b_4 c_b_5 c_b_6 c_b_7 c_b_8 c_v_0 c_v_1 c_v_2 c_r_0 c_r_1 c_r_2 c_l_0 c_l_1 c_l_2 c_s_0 c_s_1 c_s_2
  generalize q.w.heap.size = g_d0 at *
  have c_b_0 : ∀ p : BW W4, p.w.cell? ⟨w.heap.size, 0, none⟩ = some (.int .i64 u1) := bw_cell (k_b.cell rfl)
  have c_b_1 : ∀ p : BW W4, p.w.cell? ⟨w.heap.size, 1, none⟩ = some (.int .i64 u2) := bw_cell (k_b.cell rfl)
  have c_b_2 : ∀ p : BW W4, p.w.cell? ⟨w.heap.size, 2, none⟩ = some (.int .i64 u3) := bw_cell (k_b.cell rfl)
  have c_b_3 : ∀ p : BW W4, p.w.cell? ⟨w.heap.size, 3, none⟩ = some (.int .i64 v1) := bw_cell (k_b.cell rfl)
  have c_b_4 : ∀ p : BW W4, p.w.cell? ⟨w.heap.size, 4, none⟩ = some (.int .i64 v2) := bw_cell (k_b.cell rfl)
  have c_b_5 : ∀ p : BW W4, p.w.cell? ⟨w.heap.size, 5, none⟩ = some (.int .i64 v3) := bw_cell (k_b.cell rfl)
  have c_b_6 : ∀ p : BW W4, p.w.cell? ⟨w.heap.size, 6, none⟩ = some (.int .i64 m1) := bw_cell (k_b.cell rfl)
  have c_b_7 : ∀ p : BW W4, p.w.cell? ⟨w.heap.size, 7, none⟩ = some (.int .i64 m2) := bw_cell (k_b.cell rfl)
  have c_b_8 : ∀ p : BW W4, p.w.cell? ⟨w.heap.size, 8, none⟩ = some (.int .i64 m3) := bw_cell (k_b.cell rfl)
  have c_v_0 : ∀ p : BW W4, p.w.cell? ⟨g_v, 0, none⟩ = some (.int .i64 w1) := bw_cell (k_v.cell rfl)
  have c_v_1 : ∀ p : BW W4, p.w.cell? ⟨g_v, 1, none⟩ = some (.int .i64 w2) := bw_cell (k_v.cell rfl)
  have c_v_2 : ∀ p : BW W4, p.w.cell? ⟨g_v, 2, none⟩ = some (.int .i64 w3) := bw_cell (k_v.cell rfl)
  have c_r_0 : ∀ p : BW W4, p.w.cell? ⟨g_r, 0, none⟩ = some (.int .i64 0) := bw_cell (k_r.cell rfl)
  have c_r_1 : ∀ p : BW W4, p.w.cell? ⟨g_r, 1, none⟩ = some (.int .i64 0) := bw_cell (k_r.cell rfl)
  have c_r_2 : ∀ p : BW W4, p.w.cell? ⟨g_r, 2, none⟩ = some (.int .i64 0) := bw_cell (k_r.cell rfl)
  have c_l_0 : ∀ p : BW W4, p.w.cell? ⟨g_l, 0, none⟩ = some (.int .i64 w1) := bw_cell (k_l.cell rfl)
  have c_l_1 : ∀ p : BW W4, p.w.cell? ⟨g_l, 1, none⟩ = some (.int .i64 w2) := bw_cell (k_l.cell rfl)
  have c_l_2 : ∀ p : BW W4, p.w.cell? ⟨g_l, 2, none⟩ = some (.int .i64 w3) := bw_cell (k_l.cell rfl)
  have c_s_0 : ∀ p : BW W4, p.w.cell? ⟨g_s, 0, none⟩ = some (.int .i64 0) := bw_cell (k_s.cell rfl)
  have f_s_0 : ∀ p : BW W4, p.w.frozen? ⟨g_s, 0, none⟩ = false := fun p => (k_s.below p.h).frozen 0
  have c_s_1 : ∀ p : BW W4, p.w.cell? ⟨g_s, 1, none⟩ = some (.int .i64 0) := bw_cell (k_s.cell rfl)
  have f_s_1 : ∀ p : BW W4, p.w.frozen? ⟨g_s, 1, none⟩ = false := fun p => (k_s.below p.h).frozen 1
  have c_s_2 : ∀ p : BW W4, p.w.cell? ⟨g_s, 2, none⟩ = some (.int .i64 0) := bw_cell (k_s.cell rfl)
  have f_s_2 : ∀ p : BW W4, p.w.frozen? ⟨g_s, 2, none⟩ = false := fun p => (k_s.below p.h).frozen 2
  have c_d0_0 : ∀ p : BW W4, p.w.cell? ⟨g_d0, 0, none⟩ = some (.int .i64 u1) := bw_cell (k_d0.cell rfl)
  have c_d0_1 : ∀ p : BW W4, p.w.cell? ⟨g_d0, 1, none⟩ = some (.int .i64 u2) := bw_cell (k_d0.cell rfl)
  have c_d0_2 : ∀ p : BW W4, p.w.cell? ⟨g_d0, 2, none⟩ = some (.int .i64 u3) := bw_cell (k_d0.cell rfl)
  obtain ⟨p4, hp4⟩ : ∃ p : BW W4, p.w = W4 := ⟨BW.start W4, rfl⟩
  rw [← hp4]
  clear hp4
  refine wp_region_bw_tail 7 (by kernel_rfl) (by kernel_rfl) (by kernel_rfl) ?_
  simp only [List.take_succ_cons, List.take_zero, List.drop_succ_cons, List.drop_zero]
  repeat (go_big_quiet_step (first
    | (go_at_call 32; (first | (with_reducible exact bw_call T0.out _)))
    | (go_at_call 31; (first | (with_reducible exact bw_call A0.out _)))))
  refine wpQuiet_nil ?_
  intro _ hw'
  obtain ⟨q, rfl⟩ := hw'
  go_upto_region 9 with (fail)
  obtain ⟨W5, hW5⟩ : ∃ W, W = ((q.w.setCell ⟨g_s, 0, none⟩ (.int .i64 p00)).setCell ⟨g_s, 1, none⟩ (.int .i64 p01)).setCell ⟨g_s, 2, none⟩ (.int .i64 p02) := ⟨_, rfl⟩
  have B5 : Below w.heap.size w W5 := by rw [hW5]; exact ((((bw_below B4 q).setCell (p := ⟨g_s, 0, none⟩) (by show w.heap.size ≤ g_s; omega) _).setCell (p := ⟨g_s, 1, none⟩) (by show w.heap.size ≤ g_s; omega) _).setCell (p := ⟨g_s, 2, none⟩) (by show w.heap.size ≤ g_s; omega) _)
  have k_b : Bk W5 (w.heap.size) 26 #[.int .i64 u1, .int .i64 u2, .int .i64 u3, .int .i64 v1, .int .i64 v2, .int .i64 v3, .int .i64 m1, .int .i64 m2, .int .i64 m3] := by rw [hW5]; exact ((((k_b.below q.h).other (a := ⟨g_s, 0, none⟩) (by show ¬ w.heap.size = g_s; omega) (.int .i64 p00)).other (a := ⟨g_s, 1, none⟩) (by show ¬ w.heap.size = g_s; omega) (.int .i64 p01)).other (a := ⟨g_s, 2, none⟩) (by show ¬ w.heap.size = g_s; omega) (.int .i64 p02))
  have k_v : Bk W5 (g_v) 23 #[.int .i64 w1, .int .i64 w2, .int .i64 w3] := by rw [hW5]; exact ((((k_v.below q.h).other (a := ⟨g_s, 0, none⟩) (by show ¬ g_v = g_s; omega) (.int .i64 p00)).other (a := ⟨g_s, 1, none⟩) (by show ¬ g_v = g_s; omega) (.int .i64 p01)).other (a := ⟨g_s, 2, none⟩) (by show ¬ g_v = g_s; omega) (.int .i64 p02))
  have k_r : Bk W5 (g_r) 23 #[.int .i64 0, .int .i64 0, .int .i64 0] := by rw [hW5]; exact ((((k_r.below q.h).other (a := ⟨g_s, 0, none⟩) (by show ¬ g_r = g_s; omega) (.int .i64 p00)).other (a := ⟨g_s, 1, none⟩) (by show ¬ g_r = g_s; omega) (.int .i64 p01)).other (a := ⟨g_s, 2, none⟩) (by show ¬ g_r = g_s; omega) (.int .i64 p02))
  have k_l : Bk W5 (g_l) 44 #[.int .i64 w1, .int .i64 w2, .int .i64 w3] := by rw [hW5]; exact ((((k_l.below q.h).other (a := ⟨g_s, 0, none⟩) (by show ¬ g_l = g_s; omega) (.int .i64 p00)).other (a := ⟨g_s, 1, none⟩) (by show ¬ g_l = g_s; omega) (.int .i64 p01)).other (a := ⟨g_s, 2, none⟩) (by show ¬ g_l = g_s; omega) (.int .i64 p02))
  have k_s : Bk W5 (g_s) 23 #[.int .i64 p00, .int .i64 p01, .int .i64 p02] := by rw [hW5]; exact ((((k_s.below q.h).set 0 (.int .i64 p00)).set 1 (.int .i64 p01)).set 2 (.int .i64 p02))
  have k_d0 : Bk W5 (g_d0) 23 #[.int .i64 u1, .int .i64 u2, .int .i64 u3] := by rw [hW5]; exact ((((k_d0.below q.h).other (a := ⟨g_s, 0, none⟩) (by show ¬ g_d0 = g_s; omega) (.int .i64 p00)).other (a := ⟨g_s, 1, none⟩) (by show ¬ g_d0 = g_s; omega) (.int .i64 p01)).other (a := ⟨g_s, 2, none⟩) (by show ¬ g_d0 = g_s; omega) (.int .i64 p02))
  rw [← hW5]
  clear hW5
  clear B4
  clear c_b_0 c_b_1 c_b_2 c_b_3 c_b_4 c_b_5 c_b_6 c_b_7 c_b_8 c_v_0 c_v_1 c_v_2 c_r_0 c_r_1 c_r_2 c_l_0 c_l_1 c_l_2 c_s_0 f_s_0 c_s_1 f_s_1 c_s_2 f_s_2 c_d0_0 c_d0_1 c_d0_2
  have c_b_0 : ∀ p : BW W5, p.w.cell? ⟨w.heap.size, 0, none⟩ = some (.int .i64 u1) := bw_cell (k_b.cell rfl)
  have c_b_1 : ∀ p : BW W5, p.w.cell? ⟨w.heap.size, 1, none⟩ = some (.int .i64 u2) := bw_cell (k_b.cell rfl)
  have c_b_2 : ∀ p : BW W5, p.w.cell? ⟨w.heap.size, 2, none⟩ = some (.int .i64 u3) := bw_cell (k_b.cell rfl)
  have c_b_3 : ∀ p : BW W5, p.w.cell? ⟨w.heap.size, 3, none⟩ = some (.int .i64 v1) := bw_cell (k_b.cell rfl)
  have c_b_4 : ∀ p : BW W5, p.w.cell? ⟨w.heap.size, 4, none⟩ = some (.int .i64 v2) := bw_cell (k_b.cell rfl)
  have c_b_5 : ∀ p : BW W5, p.w.cell? ⟨w.heap.size, 5, none⟩ = some (.int .i64 v3) := bw_cell (k_b.cell rfl)
  have c_b_6 : ∀ p : BW W5, p.w.cell? ⟨w.heap.size, 6, none⟩ = some (.int .i64 m1) := bw_cell (k_b.cell rfl)
  have c_b_7 : ∀ p : BW W5, p.w.cell? ⟨w.heap.size, 7, none⟩ = some (.int .i64 m2) := bw_cell (k_b.cell rfl)
  have c_b_8 : ∀ p : BW W5, p.w.cell? ⟨w.heap.size, 8, none⟩ = some (.int .i64 m3) := bw_cell (k_b.cell rfl)
  have c_v_0 : ∀ p : BW W5, p.w.cell? ⟨g_v, 0, none⟩ = some (.int .i64 w1) := bw_cell (k_v.cell rfl)
  have c_v_1 : ∀ p : BW W5, p.w.cell? ⟨g_v, 1, none⟩ = some (.int .i64 w2) := bw_cell (k_v.cell rfl)
  have c_v_2 : ∀ p : BW W5, p.w.cell? ⟨g_v, 2, none⟩ = some (.int .i64 w3) := bw_cell (k_v.cell rfl)
  have c_r_0 : ∀ p : BW W5, p.w.cell? ⟨g_r, 0, none⟩ = some (.int .i64 0) := bw_cell (k_r.cell rfl)
  have c_r_1 : ∀ p : BW W5, p.w.cell? ⟨g_r, 1, none⟩ = some (.int .i64 0) := bw_cell (k_r.cell rfl)
  have c_r_2 : ∀ p : BW W5, p.w.cell? ⟨g_r, 2, none⟩ = some (.int .i64 0) := bw_cell (k_r.cell rfl)
  have c_l_0 : ∀ p : BW W5, p.w.cell? ⟨g_l, 0, none⟩ = some (.int .i64 w1) := bw_cell (k_l.cell rfl)
  have c_l_1 : ∀ p : BW W5, p.w.cell? ⟨g_l, 1, none⟩ = some (.int .i64 w2) := bw_cell (k_l.cell rfl)
  have c_l_2 : ∀ p : BW W5, p.w.cell? ⟨g_l, 2, none⟩ = some (.int .i64 w3) := bw_cell (k_l.cell rfl)
  have c_s_0 : ∀ p : BW W5, p.w.cell? ⟨g_s, 0, none⟩ = some (.int .i64 p00) := bw_cell (k_s.cell rfl)
  have c_s_1 : ∀ p : BW W5, p.w.cell? ⟨g_s, 1, none⟩ = some (.int .i64 p01) := bw_cell (k_s.cell rfl)
  have c_s_2 : ∀ p : BW W5, p.w.cell? ⟨g_s, 2, none⟩ = some (.int .i64 p02) := bw_cell (k_s.cell rfl)
  have c_d0_0 : ∀ p : BW W5, p.w.cell? ⟨g_d0, 0, none⟩ = some (.int .i64 u1) := bw_cell (k_d0.cell rfl)
  have c_d0_1 : ∀ p : BW W5, p.w.cell? ⟨g_d0, 1, none⟩ = some (.int .i64 u2) := bw_cell (k_d0.cell rfl)
  have c_d0_2 : ∀ p : BW W5, p.w.cell? ⟨g_d0, 2, none⟩ = some (.int .i64 u3) := bw_cell (k_d0.cell rfl)
  obtain ⟨p5, hp5⟩ : ∃ p : BW W5, p.w = W5 := ⟨BW.start W5, rfl⟩
  rw [← hp5]
  clear hp5
  go_wp2
  rw [rounds_succ]
  go_upto_region 8 with (fail)
  obtain ⟨W6, hW6⟩ : ∃ W, W = p5.w.alloc (.cells #[.int .i64 v1, .int .i64 v2, .int .i64 v3] 23) := ⟨_, rfl⟩
  have B6 : Below w.heap.size w W6 := by rw [hW6]; exact (bw_below B5 p5).alloc (bw_below B5 p5).size _
  have l_d1 : g_d0 < p5.w.heap.size := (k_d0.below p5.h).lt
  have k_b := (k_b.below p5.h).alloc (.cells #[.int .i64 v1, .int .i64 v2, .int .i64 v3] 23)
  rw [← hW6] at k_b
  have k_v := (k_v.below p5.h).alloc (.cells #[.int .i64 v1, .int .i64 v2, .int .i64 v3] 23)
  rw [← hW6] at k_v
  have k_r := (k_r.below p5.h).alloc (.cells #[.int .i64 v1, .int .i64 v2, .int .i64 v3] 23)
  rw [← hW6] at k_r
  have k_l := (k_l.below p5.h).alloc (.cells #[.int .i64 v1, .int .i64 v2, .int .i64 v3] 23)
  rw [← hW6] at k_l
  have k_s := (k_s.below p5.h).alloc (.cells #[.int .i64 v1, .int .i64 v2, .int .i64 v3] 23)
  rw [← hW6] at k_s
  have k_d0 := (k_d0.below p5.h).alloc (.cells #[.int .i64 v1, .int .i64 v2, .int .i64 v3] 23)
  rw [← hW6] at k_d0
  have k_d1 : Bk W6 p5.w.heap.size 23 #[.int .i64 v1, .int .i64 v2, .int .i64 v3] := by rw [hW6]; exact Bk.new _ _ _
  rw [← hW6]
  clear hW6
  clear B5
  clear c_b_0 c_b_1 c_b_2 c_b_3 c_b_4 c_b_5 c_b_6 c_b_7 c_b_8 c_v_0 c_v_1 c_v_2 c_r_0 c_r_1 c_r_2 c_l_0 c_l_1 c_l_2 c_s_0 c_s_1 c_s_2 c_d0_0 c_d0_1 c_d0_2
  generalize p5.w.heap.size = g_d1 at *
  have c_b_0 : ∀ p : BW W6, p.w.cell? ⟨w.heap.size, 0, none⟩ = some (.int .i64 u1) := bw_cell (k_b.cell rfl)
  have c_b_1 : ∀ p : BW W6, p.w.cell? ⟨w.heap.size, 1, none⟩ = some (.int .i64 u2) := bw_cell (k_b.cell rfl)
  have c_b_2 : ∀ p : BW W6, p.w.cell? ⟨w.heap.size, 2, none⟩ = some (.int .i64 u3) := bw_cell (k_b.cell rfl)
  have c_b_3 : ∀ p : BW W6, p.w.cell? ⟨w.heap.size, 3, none⟩ = some (.int .i64 v1) := bw_cell (k_b.cell rfl)
  have c_b_4 : ∀ p : BW W6, p.w.cell? ⟨w.heap.size, 4, none⟩ = some (.int .i64 v2) := bw_cell (k_b.cell rfl)
  have c_b_5 : ∀ p : BW W6, p.w.cell? ⟨w.heap.size, 5, none⟩ = some (.int .i64 v3) := bw_cell (k_b.cell rfl)
  have c_b_6 : ∀ p : BW W6, p.w.cell? ⟨w.heap.size, 6, none⟩ = some (.int .i64 m1) := bw_cell (k_b.cell rfl)
  have c_b_7 : ∀ p : BW W6, p.w.cell? ⟨w.heap.size, 7, none⟩ = some (.int .i64 m2) := bw_cell (k_b.cell rfl)
  have c_b_8 : ∀ p : BW W6, p.w.cell? ⟨w.heap.size, 8, none⟩ = some (.int .i64 m3) := bw_cell (k_b.cell rfl)
  have c_v_0 : ∀ p : BW W6, p.w.cell? ⟨g_v, 0, none⟩ = some (.int .i64 w1) := bw_cell (k_v.cell rfl)
  have c_v_1 : ∀ p : BW W6, p.w.cell? ⟨g_v, 1, none⟩ = some (.int .i64 w2) := bw_cell (k_v.cell rfl)
  have c_v_2 : ∀ p : BW W6, p.w.cell? ⟨g_v, 2, none⟩ = some (.int .i64 w3) := bw_cell (k_v.cell rfl)
  have c_r_0 : ∀ p : BW W6, p.w.cell? ⟨g_r, 0, none⟩ = some (.int .i64 0) := bw_cell (k_r.cell rfl)
  have c_r_1 : ∀ p : BW W6, p.w.cell? ⟨g_r, 1, none⟩ = some (.int .i64 0) := bw_cell (k_r.cell rfl)
  have c_r_2 : ∀ p : BW W6, p.w.cell? ⟨g_r, 2, none⟩ = some (.int .i64 0) := bw_cell (k_r.cell rfl)
  have c_l_0 : ∀ p : BW W6, p.w.cell? ⟨g_l, 0, none⟩ = some (.int .i64 w1) := bw_cell (k_l.cell rfl)
  have c_l_1 : ∀ p : BW W6, p.w.cell? ⟨g_l, 1, none⟩ = some (.int .i64 w2) := bw_cell (k_l.cell rfl)
  have c_l_2 : ∀ p : BW W6, p.w.cell? ⟨g_l, 2, none⟩ = some (.int .i64 w3) := bw_cell (k_l.cell rfl)
  have c_s_0 : ∀ p : BW W6, p.w.cell? ⟨g_s, 0, none⟩ = some (.int .i64 p00) := bw_cell (k_s.cell rfl)
  have f_s_0 : ∀ p : BW W6, p.w.frozen? ⟨g_s, 0, none⟩ = false := fun p => (k_s.below p.h).frozen 0
  have c_s_1 : ∀ p : BW W6, p.w.cell? ⟨g_s, 1, none⟩ = some (.int .i64 p01) := bw_cell (k_s.cell rfl)
  have f_s_1 : ∀ p : BW W6, p.w.frozen? ⟨g_s, 1, none⟩ = false := fun p => (k_s.below p.h).frozen 1
  have c_s_2 : ∀ p : BW W6, p.w.cell? ⟨g_s, 2, none⟩ = some (.int .i64 p02) := bw_cell (k_s.cell rfl)
  have f_s_2 : ∀ p : BW W6, p.w.frozen? ⟨g_s, 2, none⟩ = false := fun p => (k_s.below p.h).frozen 2
  have c_d0_0 : ∀ p : BW W6, p.w.cell? ⟨g_d0, 0, none⟩ = some (.int .i64 u1) := bw_cell (k_d0.cell rfl)
  have c_d0_1 : ∀ p : BW W6, p.w.cell? ⟨g_d0, 1, none⟩ = some (.int .i64 u2) := bw_cell (k_d0.cell rfl)
  have c_d0_2 : ∀ p : BW W6, p.w.cell? ⟨g_d0, 2, none⟩ = some (.int .i64 u3) := bw_cell (k_d0.cell rfl)
  have c_d1_0 : ∀ p : BW W6, p.w.cell? ⟨g_d1, 0, none⟩ = some (.int .i64 v1) := bw_cell (k_d1.cell rfl)
  have c_d1_1 : ∀ p : BW W6, p.w.cell? ⟨g_d1, 1, none⟩ = some (.int .i64 v2) := bw_cell (k_d1.cell rfl)
  have c_d1_2 : ∀ p : BW W6, p.w.cell? ⟨g_d1, 2, none⟩ = some (.int .i64 v3) := bw_cell (k_d1.cell rfl)
  obtain ⟨p6, hp6⟩ : ∃ p : BW W6, p.w = W6 := ⟨BW.start W6, rfl⟩
  rw [← hp6]
  clear hp6
  refine wp_region_bw_tail 7 (by kernel_rfl) (by kernel_rfl) (by kernel_rfl) ?_
  simp only [List.take_succ_cons, List.take_zero, List.drop_succ_cons, List.drop_zero]
  repeat (go_big_quiet_step (first
    | (go_at_call 32; (first | (with_reducible exact bw_call T1.out _)))
    | (go_at_call 31; (first | (with_reducible exact bw_call A1.out _)))))
  refine wpQuiet_nil ?_
  intro _ hw'
  obtain ⟨q, rfl⟩ := hw'
  go_upto_region 9 with (fail)
  obtain ⟨W7, hW7⟩ : ∃ W, W = ((q.w.setCell ⟨g_s, 0, none⟩ (.int .i64 s0)).setCell ⟨g_s, 1, none⟩ (.int .i64 s1)).setCell ⟨g_s, 2, none⟩ (.int .i64 s2) := ⟨_, rfl⟩
  have B7 : Below w.heap.size w W7 := by rw [hW7]; exact ((((bw_below B6 q).setCell (p := ⟨g_s, 0, none⟩) (by show w.heap.size ≤ g_s; omega) _).setCell (p := ⟨g_s, 1, none⟩) (by show w.heap.size ≤ g_s; omega) _).setCell (p := ⟨g_s, 2, none⟩) (by show w.heap.size ≤ g_s; omega) _)
  have k_b : Bk W7 (w.heap.size) 26 #[.int .i64 u1, .int .i64 u2, .int .i64 u3, .int .i64 v1, .int .i64 v2, .int .i64 v3, .int .i64 m1, .int .i64 m2, .int .i64 m3] := by rw [hW7]; exact ((((k_b.below q.h).other (a := ⟨g_s, 0, none⟩) (by show ¬ w.heap.size = g_s; omega) (.int .i64 s0)).other (a := ⟨g_s, 1, none⟩) (by show ¬ w.heap.size = g_s; omega) (.int .i64 s1)).other (a := ⟨g_s, 2, none⟩) (by show ¬ w.heap.size = g_s; omega) (.int .i64 s2))
  have k_v : Bk W7 (g_v) 23 #[.int .i64 w1, .int .i64 w2, .int .i64 w3] := by rw [hW7]; exact ((((k_v.below q.h).other (a := ⟨g_s, 0, none⟩) (by show ¬ g_v = g_s; omega) (.int .i64 s0)).other (a := ⟨g_s, 1, none⟩) (by show ¬ g_v = g_s; omega) (.int .i64 s1)).other (a := ⟨g_s, 2, none⟩) (by show ¬ g_v = g_s; omega) (.int .i64 s2))
  have k_r : Bk W7 (g_r) 23 #[.int .i64 0, .int .i64 0, .int .i64 0] := by rw [hW7]; exact ((((k_r.below q.h).other (a := ⟨g_s, 0, none⟩) (by show ¬ g_r = g_s; omega) (.int .i64 s0)).other (a := ⟨g_s, 1, none⟩) (by show ¬ g_r = g_s; omega) (.int .i64 s1)).other (a := ⟨g_s, 2, none⟩) (by show ¬ g_r = g_s; omega) (.int .i64 s2))
  have k_l : Bk W7 (g_l) 44 #[.int .i64 w1, .int .i64 w2, .int .i64 w3] := by rw [hW7]; exact ((((k_l.below q.h).other (a := ⟨g_s, 0, none⟩) (by show ¬ g_l = g_s; omega) (.int .i64 s0)).other (a := ⟨g_s, 1, none⟩) (by show ¬ g_l = g_s; omega) (.int .i64 s1)).other (a := ⟨g_s, 2, none⟩) (by show ¬ g_l = g_s; omega) (.int .i64 s2))
  have k_s : Bk W7 (g_s) 23 #[.int .i64 s0, .int .i64 s1, .int .i64 s2] := by rw [hW7]; exact ((((k_s.below q.h).set 0 (.int .i64 s0)).set 1 (.int .i64 s1)).set 2 (.int .i64 s2))
  have k_d0 : Bk W7 (g_d0) 23 #[.int .i64 u1, .int .i64 u2, .int .i64 u3] := by rw [hW7]; exact ((((k_d0.below q.h).other (a := ⟨g_s, 0, none⟩) (by show ¬ g_d0 = g_s; omega) (.int .i64 s0)).other (a := ⟨g_s, 1, none⟩) (by show ¬ g_d0 = g_s; omega) (.int .i64 s1)).other (a := ⟨g_s, 2, none⟩) (by show ¬ g_d0 = g_s; omega) (.int .i64 s2))
  have k_d1 : Bk W7 (g_d1) 23 #[.int .i64 v1, .int .i64 v2, .int .i64 v3] := by rw [hW7]; exact ((((k_d1.below q.h).other (a := ⟨g_s, 0, none⟩) (by show ¬ g_d1 = g_s; omega) (.int .i64 s0)).other (a := ⟨g_s, 1, none⟩) (by show ¬ g_d1 = g_s; omega) (.int .i64 s1)).other (a := ⟨g_s, 2, none⟩) (by show ¬ g_d1 = g_s; omega) (.int .i64 s2))
  rw [← hW7]
  clear hW7
  clear B6
  clear c_b_0 c_b_1 c_b_2 c_b_3 c_b_4 c_b_5 c_b_6 c_b_7 c_b_8 c_v_0 c_v_1 c_v_2 c_r_0 c_r_1 c_r_2 c_l_0 c_l_1 c_l_2 c_s_0 f_s_0 c_s_1 f_s_1 c_s_2 f_s_2 c_d0_0 c_d0_1 c_d0_2 c_d1_0 c_d1_1 c_d1_2
  have c_b_0 : ∀ p : BW W7, p.w.cell? ⟨w.heap.size, 0, none⟩ = some (.int .i64 u1) := bw_cell (k_b.cell rfl)
  have c_b_1 : ∀ p : BW W7, p.w.cell? ⟨w.heap.size, 1, none⟩ = some (.int .i64 u2) := bw_cell (k_b.cell rfl)
  have c_b_2 : ∀ p : BW W7, p.w.cell? ⟨w.heap.size, 2, none⟩ = some (.int .i64 u3) := bw_cell (k_b.cell rfl)
  have c_b_3 : ∀ p : BW W7, p.w.cell? ⟨w.heap.size, 3, none⟩ = some (.int .i64 v1) := bw_cell (k_b.cell rfl)
  have c_b_4 : ∀ p : BW W7, p.w.cell? ⟨w.heap.size, 4, none⟩ = some (.int .i64 v2) := bw_cell (k_b.cell rfl)
  have c_b_5 : ∀ p : BW W7, p.w.cell? ⟨w.heap.size, 5, none⟩ = some (.int .i64 v3) := bw_cell (k_b.cell rfl)
  have c_b_6 : ∀ p : BW W7, p.w.cell? ⟨w.heap.size, 6, none⟩ = some (.int .i64 m1) := bw_cell (k_b.cell rfl)
  have c_b_7 : ∀ p : BW W7, p.w.cell? ⟨w.heap.size, 7, none⟩ = some (.int .i64 m2) := bw_cell (k_b.cell rfl)
  have c_b_8 : ∀ p : BW W7, p.w.cell? ⟨w.heap.size, 8, none⟩ = some (.int .i64 m3) := bw_cell (k_b.cell rfl)
  have c_v_0 : ∀ p : BW W7, p.w.cell? ⟨g_v, 0, none⟩ = some (.int .i64 w1) := bw_cell (k_v.cell rfl)
  have c_v_1 : ∀ p : BW W7, p.w.cell? ⟨g_v, 1, none⟩ = some (.int .i64 w2) := bw_cell (k_v.cell rfl)
  have c_v_2 : ∀ p : BW W7, p.w.cell? ⟨g_v, 2, none⟩ = some (.int .i64 w3) := bw_cell (k_v.cell rfl)
  have c_r_0 : ∀ p : BW W7, p.w.cell? ⟨g_r, 0, none⟩ = some (.int .i64 0) := bw_cell (k_r.cell rfl)
  have c_r_1 : ∀ p : BW W7, p.w.cell? ⟨g_r, 1, none⟩ = some (.int .i64 0) := bw_cell (k_r.cell rfl)
  have c_r_2 : ∀ p : BW W7, p.w.cell? ⟨g_r, 2, none⟩ = some (.int .i64 0) := bw_cell (k_r.cell rfl)
  have c_l_0 : ∀ p : BW W7, p.w.cell? ⟨g_l, 0, none⟩ = some (.int .i64 w1) := bw_cell (k_l.cell rfl)
  have c_l_1 : ∀ p : BW W7, p.w.cell? ⟨g_l, 1, none⟩ = some (.int .i64 w2) := bw_cell (k_l.cell rfl)
  have c_l_2 : ∀ p : BW W7, p.w.cell? ⟨g_l, 2, none⟩ = some (.int .i64 w3) := bw_cell (k_l.cell rfl)
  have c_s_0 : ∀ p : BW W7, p.w.cell? ⟨g_s, 0, none⟩ = some (.int .i64 s0) := bw_cell (k_s.cell rfl)
  have c_s_1 : ∀ p : BW W7, p.w.cell? ⟨g_s, 1, none⟩ = some (.int .i64 s1) := bw_cell (k_s.cell rfl)
  have c_s_2 : ∀ p : BW W7, p.w.cell? ⟨g_s, 2, none⟩ = some (.int .i64 s2) := bw_cell (k_s.cell rfl)
  have c_d0_0 : ∀ p : BW W7, p.w.cell? ⟨g_d0, 0, none⟩ = some (.int .i64 u1) := bw_cell (k_d0.cell rfl)
  have c_d0_1 : ∀ p : BW W7, p.w.cell? ⟨g_d0, 1, none⟩ = some (.int .i64 u2) := bw_cell (k_d0.cell rfl)
  have c_d0_2 : ∀ p : BW W7, p.w.cell? ⟨g_d0, 2, none⟩ = some (.int .i64 u3) := bw_cell (k_d0.cell rfl)
  have c_d1_0 : ∀ p : BW W7, p.w.cell? ⟨g_d1, 0, none⟩ = some (.int .i64 v1) := bw_cell (k_d1.cell rfl)
  have c_d1_1 : ∀ p : BW W7, p.w.cell? ⟨g_d1, 1, none⟩ = some (.int .i64 v2) := bw_cell (k_d1.cell rfl)
  have c_d1_2 : ∀ p : BW W7, p.w.cell? ⟨g_d1, 2, none⟩ = some (.int .i64 v3) := bw_cell (k_d1.cell rfl)
  obtain ⟨p7, hp7⟩ : ∃ p : BW W7, p.w = W7 := ⟨BW.start W7, rfl⟩
  rw [← hp7]
  clear hp7
  go_wp2
  rw [rounds_succ]
  go_upto_region 8 with (fail)
  obtain ⟨W8, hW8⟩ : ∃ W, W = p7.w.alloc (.cells #[.int .i64 m1, .int .i64 m2, .int .i64 m3] 23) := ⟨_, rfl⟩
  have B8 : Below w.heap.size w W8 := by rw [hW8]; exact (bw_below B7 p7).alloc (bw_below B7 p7).size _
  have l_d2 : g_d1 < p7.w.heap.size := (k_d1.below p7.h).lt
  have k_b := (k_b.below p7.h).alloc (.cells #[.int .i64 m1, .int .i64 m2, .int .i64 m3] 23)
  rw [← hW8] at k_b
  have k_v := (k_v.below p7.h).alloc (.cells #[.int .i64 m1, .int .i64 m2, .int .i64 m3] 23)
  rw [← hW8] at k_v
  have k_r := (k_r.below p7.h).alloc (.cells #[.int .i64 m1, .int .i64 m2, .int .i64 m3] 23)
  rw [← hW8] at k_r
  have k_l := (k_l.below p7.h).alloc (.cells #[.int .i64 m1, .int .i64 m2, .int .i64 m3] 23)
  rw [← hW8] at k_l
  have k_s := (k_s.below p7.h).alloc (.cells #[.int .i64 m1, .int .i64 m2, .int .i64 m3] 23)
  rw [← hW8] at k_s
  have k_d0 := (k_d0.below p7.h).alloc (.cells #[.int .i64 m1, .int .i64 m2, .int .i64 m3] 23)
  rw [← hW8] at k_d0
  have k_d1 := (k_d1.below p7.h).alloc (.cells #[.int .i64 m1, .int .i64 m2, .int .i64 m3] 23)
  rw [← hW8] at k_d1
  have k_d2 : Bk W8 p7.w.heap.size 23 #[.int .i64 m1, .int .i64 m2, .int .i64 m3] := by rw [hW8]; exact Bk.new _ _ _
  rw [← hW8]
  clear hW8
  clear B7
  clear c_b_0 c_b_1 c_b_2 c_b_3 c_b_4 c_b_5 c_b_6 c_b_7 c_b_8 c_v_0 c_v_1 c_v_2 c_r_0 c_r_1 c_r_2 c_l_0 c_l_1 c_l_2 c_s_0 c_s_1 c_s_2 c_d0_0 c_d0_1 c_d0_2 c_d1_0 c_d1_1 c_d1_2
  generalize p7.w.heap.size = g_d2 at *
  have c_b_0 : ∀ p : BW W8, p.w.cell? ⟨w.heap.size, 0, none⟩ = some (.int .i64 u1) := bw_cell (k_b.cell rfl)
  have c_b_1 : ∀ p : BW W8, p.w.cell? ⟨w.heap.size, 1, none⟩ = some (.int .i64 u2) := bw_cell (k_b.cell rfl)
  have c_b_2 : ∀ p : BW W8, p.w.cell? ⟨w.heap.size, 2, none⟩ = some (.int .i64 u3) := bw_cell (k_b.cell rfl)
  have c_b_3 : ∀ p : BW W8, p.w.cell? ⟨w.heap.size, 3, none⟩ = some (.int .i64 v1) := bw_cell (k_b.cell rfl)
  have c_b_4 : ∀ p : BW W8, p.w.cell? ⟨w.heap.size, 4, none⟩ = some (.int .i64 v2) := bw_cell (k_b.cell rfl)
  have c_b_5 : ∀ p : BW W8, p.w.cell? ⟨w.heap.size, 5, none⟩ = some (.int .i64 v3) := bw_cell (k_b.cell rfl)
  have c_b_6 : ∀ p : BW W8, p.w.cell? ⟨w.heap.size, 6, none⟩ = some (.int .i64 m1) := bw_cell (k_b.cell rfl)
  have c_b_7 : ∀ p : BW W8, p.w.cell? ⟨w.heap.size, 7, none⟩ = some (.int .i64 m2) := bw_cell (k_b.cell rfl)
  have c_b_8 : ∀ p : BW W8, p.w.cell? ⟨w.heap.size, 8, none⟩ = some (.int .i64 m3) := bw_cell (k_b.cell rfl)
  have c_v_0 : ∀ p : BW W8, p.w.cell? ⟨g_v, 0, none⟩ = some (.int .i64 w1) := bw_cell (k_v.cell rfl)
  have c_v_1 : ∀ p : BW W8, p.w.cell? ⟨g_v, 1, none⟩ = some (.int .i64 w2) := bw_cell (k_v.cell rfl)
  have c_v_2 : ∀ p : BW W8, p.w.cell? ⟨g_v, 2, none⟩ = some (.int .i64 w3) := bw_cell (k_v.cell rfl)
  have c_r_0 : ∀ p : BW W8, p.w.cell? ⟨g_r, 0, none⟩ = some (.int .i64 0) := bw_cell (k_r.cell rfl)
  have c_r_1 : ∀ p : BW W8, p.w.cell? ⟨g_r, 1, none⟩ = some (.int .i64 0) := bw_cell (k_r.cell rfl)
  have c_r_2 : ∀ p : BW W8, p.w.cell? ⟨g_r, 2, none⟩ = some (.int .i64 0) := bw_cell (k_r.cell rfl)
  have c_l_0 : ∀ p : BW W8, p.w.cell? ⟨g_l, 0, none⟩ = some (.int .i64 w1) := bw_cell (k_l.cell rfl)
  have c_l_1 : ∀ p : BW W8, p.w.cell? ⟨g_l, 1, none⟩ = some (.int .i64 w2) := bw_cell (k_l.cell rfl)
  have c_l_2 : ∀ p : BW W8, p.w.cell? ⟨g_l, 2, none⟩ = some (.int .i64 w3) := bw_cell (k_l.cell rfl)
  have c_s_0 : ∀ p : BW W8, p.w.cell? ⟨g_s, 0, none⟩ = some (.int .i64 s0) := bw_cell (k_s.cell rfl)
  have f_s_0 : ∀ p : BW W8, p.w.frozen? ⟨g_s, 0, none⟩ = false := fun p => (k_s.below p.h).frozen 0
  have c_s_1 : ∀ p : BW W8, p.w.cell? ⟨g_s, 1, none⟩ = some (.int .i64 s1) := bw_cell (k_s.cell rfl)
  have f_s_1 : ∀ p : BW W8, p.w.frozen? ⟨g_s, 1, none⟩ = false := fun p => (k_s.below p.h).frozen 1
  have c_s_2 : ∀ p : BW W8, p.w.cell? ⟨g_s, 2, none⟩ = some (.int .i64 s2) := bw_cell (k_s.cell rfl)
  have f_s_2 : ∀ p : BW W8, p.w.frozen? ⟨g_s, 2, none⟩ = false := fun p => (k_s.below p.h).frozen 2
  have c_d0_0 : ∀ p : BW W8, p.w.cell? ⟨g_d0, 0, none⟩ = some (.int .i64 u1) := bw_cell (k_d0.cell rfl)
  have c_d0_1 : ∀ p : BW W8, p.w.cell? ⟨g_d0, 1, none⟩ = some (.int .i64 u2) := bw_cell (k_d0.cell rfl)
  have c_d0_2 : ∀ p : BW W8, p.w.cell? ⟨g_d0, 2, none⟩ = some (.int .i64 u3) := bw_cell (k_d0.cell rfl)
  have c_d1_0 : ∀ p : BW W8, p.w.cell? ⟨g_d1, 0, none⟩ = some (.int .i64 v1) := bw_cell (k_d1.cell rfl)
  have c_d1_1 : ∀ p : BW W8, p.w.cell? ⟨g_d1, 1, none⟩ = some (.int .i64 v2) := bw_cell (k_d1.cell rfl)
  have c_d1_2 : ∀ p : BW W8, p.w.cell? ⟨g_d1, 2, none⟩ = some (.int .i64 v3) := bw_cell (k_d1.cell rfl)
  have c_d2_0 : ∀ p : BW W8, p.w.cell? ⟨g_d2, 0, none⟩ = some (.int .i64 m1) := bw_cell (k_d2.cell rfl)
  have c_d2_1 : ∀ p : BW W8, p.w.cell? ⟨g_d2, 1, none⟩ = some (.int .i64 m2) := bw_cell (k_d2.cell rfl)
  have c_d2_2 : ∀ p : BW W8, p.w.cell? ⟨g_d2, 2, none⟩ = some (.int .i64 m3) := bw_cell (k_d2.cell rfl)
  obtain ⟨p8, hp8⟩ : ∃ p : BW W8, p.w = W8 := ⟨BW.start W8, rfl⟩
  rw [← hp8]
  clear hp8
  refine wp_region_bw_tail 7 (by kernel_rfl) (by kernel_rfl) (by kernel_rfl) ?_
  simp only [List.take_succ_cons, List.take_zero, List.drop_succ_cons, List.drop_zero]
  repeat (go_big_quiet_step (first
    | (go_at_call 32; (first | (with_reducible exact bw_call T2.out _)))
    | (go_at_call 31; (first | (with_reducible exact bw_call A2.out _)))))
  refine wpQuiet_nil ?_
  intro _ hw'
  obtain ⟨q, rfl⟩ := hw'
  go_upto_region 9 with (fail)
  obtain ⟨W9, hW9⟩ : ∃ W, W = ((q.w.setCell ⟨g_s, 0, none⟩ (.int .i64 t0)).setCell ⟨g_s, 1, none⟩ (.int .i64 t1)).setCell ⟨g_s, 2, none⟩ (.int .i64 t2) := ⟨_, rfl⟩
  have B9 : Below w.heap.size w W9 := by rw [hW9]; exact ((((bw_below B8 q).setCell (p := ⟨g_s, 0, none⟩) (by show w.heap.size ≤ g_s; omega) _).setCell (p := ⟨g_s, 1, none⟩) (by show w.heap.size ≤ g_s; omega) _).setCell (p := ⟨g_s, 2, none⟩) (by show w.heap.size ≤ g_s; omega) _)
  have k_b : Bk W9 (w.heap.size) 26 #[.int .i64 u1, .int .i64 u2, .int .i64 u3, .int .i64 v1, .int .i64 v2, .int .i64 v3, .int .i64 m1, .int .i64 m2, .int .i64 m3] := by rw [hW9]; exact ((((k_b.below q.h).other (a := ⟨g_s, 0, none⟩) (by show ¬ w.heap.size = g_s; omega) (.int .i64 t0)).other (a := ⟨g_s, 1, none⟩) (by show ¬ w.heap.size = g_s; omega) (.int .i64 t1)).other (a := ⟨g_s, 2, none⟩) (by show ¬ w.heap.size = g_s; omega) (.int .i64 t2))
  have k_v : Bk W9 (g_v) 23 #[.int .i64 w1, .int .i64 w2, .int .i64 w3] := by rw [hW9]; exact ((((k_v.below q.h).other (a := ⟨g_s, 0, none⟩) (by show ¬ g_v = g_s; omega) (.int .i64 t0)).other (a := ⟨g_s, 1, none⟩) (by show ¬ g_v = g_s; omega) (.int .i64 t1)).other (a := ⟨g_s, 2, none⟩) (by show ¬ g_v = g_s; omega) (.int .i64 t2))
  have k_r : Bk W9 (g_r) 23 #[.int .i64 0, .int .i64 0, .int .i64 0] := by rw [hW9]; exact ((((k_r.below q.h).other (a := ⟨g_s, 0, none⟩) (by show ¬ g_r = g_s; omega) (.int .i64 t0)).other (a := ⟨g_s, 1, none⟩) (by show ¬ g_r = g_s; omega) (.int .i64 t1)).other (a := ⟨g_s, 2, none⟩) (by show ¬ g_r = g_s; omega) (.int .i64 t2))
  have k_l : Bk W9 (g_l) 44 #[.int .i64 w1, .int .i64 w2, .int .i64 w3] := by rw [hW9]; exact ((((k_l.below q.h).other (a := ⟨g_s, 0, none⟩) (by show ¬ g_l = g_s; omega) (.int .i64 t0)).other (a := ⟨g_s, 1, none⟩) (by show ¬ g_l = g_s; omega) (.int .i64 t1)).other (a := ⟨g_s, 2, none⟩) (by show ¬ g_l = g_s; omega) (.int .i64 t2))
  have k_s : Bk W9 (g_s) 23 #[.int .i64 t0, .int .i64 t1, .int .i64 t2] := by rw [hW9]; exact ((((k_s.below q.h).set 0 (.int .i64 t0)).set 1 (.int .i64 t1)).set 2 (.int .i64 t2))
  have k_d0 : Bk W9 (g_d0) 23 #[.int .i64 u1, .int .i64 u2, .int .i64 u3] := by rw [hW9]; exact ((((k_d0.below q.h).other (a := ⟨g_s, 0, none⟩) (by show ¬ g_d0 = g_s; omega) (.int .i64 t0)).other (a := ⟨g_s, 1, none⟩) (by show ¬ g_d0 = g_s; omega) (.int .i64 t1)).other (a := ⟨g_s, 2, none⟩) (by show ¬ g_d0 = g_s; omega) (.int .i64 t2))
  have k_d1 : Bk W9 (g_d1) 23 #[.int .i64 v1, .int .i64 v2, .int .i64 v3] := by rw [hW9]; exact ((((k_d1.below q.h).other (a := ⟨g_s, 0, none⟩) (by show ¬ g_d1 = g_s; omega) (.int .i64 t0)).other (a := ⟨g_s, 1, none⟩) (by show ¬ g_d1 = g_s; omega) (.int .i64 t1)).other (a := ⟨g_s, 2, none⟩) (by show ¬ g_d1 = g_s; omega) (.int .i64 t2))
  have k_d2 : Bk W9 (g_d2) 23 #[.int .i64 m1, .int .i64 m2, .int .i64 m3] := by rw [hW9]; exact ((((k_d2.below q.h).other (a := ⟨g_s, 0, none⟩) (by show ¬ g_d2 = g_s; omega) (.int .i64 t0)).other (a := ⟨g_s, 1, none⟩) (by show ¬ g_d2 = g_s; omega) (.int .i64 t1)).other (a := ⟨g_s, 2, none⟩) (by show ¬ g_d2 = g_s; omega) (.int .i64 t2))
  rw [← hW9]
  clear hW9
  clear B8
  clear c_b_0 c_b_1 c_b_2 c_b_3 c_b_4 c_b_5 c_b_6 c_b_7 c_b_8 c_v_0 c_v_1 c_v_2 c_r_0 c_r_1 c_r_2 c_l_0 c_l_1 c_l_2 c_s_0 f_s_0 c_s_1 f_s_1 c_s_2 f_s_2 c_d0_0 c_d0_1 c_d0_2 c_d1_0 c_d1_1 c_d1_2 c_d2_0 c_d2_1 c_d2_2
  have c_b_0 : ∀ p : BW W9, p.w.cell? ⟨w.heap.size, 0, none⟩ = some (.int .i64 u1) := bw_cell (k_b.cell rfl)
  have c_b_1 : ∀ p : BW W9, p.w.cell? ⟨w.heap.size, 1, none⟩ = some (.int .i64 u2) := bw_cell (k_b.cell rfl)
  have c_b_2 : ∀ p : BW W9, p.w.cell? ⟨w.heap.size, 2, none⟩ = some (.int .i64 u3) := bw_cell (k_b.cell rfl)
  have c_b_3 : ∀ p : BW W9, p.w.cell? ⟨w.heap.size, 3, none⟩ = some (.int .i64 v1) := bw_cell (k_b.cell rfl)
  have c_b_4 : ∀ p : BW W9, p.w.cell? ⟨w.heap.size, 4, none⟩ = some (.int .i64 v2) := bw_cell (k_b.cell rfl)
  have c_b_5 : ∀ p : BW W9, p.w.cell? ⟨w.heap.size, 5, none⟩ = some (.int .i64 v3) := bw_cell (k_b.cell rfl)
  have c_b_6 : ∀ p : BW W9, p.w.cell? ⟨w.heap.size, 6, none⟩ = some (.int .i64 m1) := bw_cell (k_b.cell rfl)
  have c_b_7 : ∀ p : BW W9, p.w.cell? ⟨w.heap.size, 7, none⟩ = some (.int .i64 m2) := bw_cell (k_b.cell rfl)
  have c_b_8 : ∀ p : BW W9, p.w.cell? ⟨w.heap.size, 8, none⟩ = some (.int .i64 m3) := bw_cell (k_b.cell rfl)
  have c_v_0 : ∀ p : BW W9, p.w.cell? ⟨g_v, 0, none⟩ = some (.int .i64 w1) := bw_cell (k_v.cell rfl)
  have c_v_1 : ∀ p : BW W9, p.w.cell? ⟨g_v, 1, none⟩ = some (.int .i64 w2) := bw_cell (k_v.cell rfl)
  have c_v_2 : ∀ p : BW W9, p.w.cell? ⟨g_v, 2, none⟩ = some (.int .i64 w3) := bw_cell (k_v.cell rfl)
  have c_r_0 : ∀ p : BW W9, p.w.cell? ⟨g_r, 0, none⟩ = some (.int .i64 0) := bw_cell (k_r.cell rfl)
  have f_r_0 : ∀ p : BW W9, p.w.frozen? ⟨g_r, 0, none⟩ = false := fun p => (k_r.below p.h).frozen 0
  have c_r_1 : ∀ p : BW W9, p.w.cell? ⟨g_r, 1, none⟩ = some (.int .i64 0) := bw_cell (k_r.cell rfl)
  have f_r_1 : ∀ p : BW W9, p.w.frozen? ⟨g_r, 1, none⟩ = false := fun p => (k_r.below p.h).frozen 1
  have c_r_2 : ∀ p : BW W9, p.w.cell? ⟨g_r, 2, none⟩ = some (.int .i64 0) := bw_cell (k_r.cell rfl)
  have f_r_2 : ∀ p : BW W9, p.w.frozen? ⟨g_r, 2, none⟩ = false := fun p => (k_r.below p.h).frozen 2
  have c_l_0 : ∀ p : BW W9, p.w.cell? ⟨g_l, 0, none⟩ = some (.int .i64 w1) := bw_cell (k_l.cell rfl)
  have c_l_1 : ∀ p : BW W9, p.w.cell? ⟨g_l, 1, none⟩ = some (.int .i64 w2) := bw_cell (k_l.cell rfl)
  have c_l_2 : ∀ p : BW W9, p.w.cell? ⟨g_l, 2, none⟩ = some (.int .i64 w3) := bw_cell (k_l.cell rfl)
  have c_s_0 : ∀ p : BW W9, p.w.cell? ⟨g_s, 0, none⟩ = some (.int .i64 t0) := bw_cell (k_s.cell rfl)
  have c_s_1 : ∀ p : BW W9, p.w.cell? ⟨g_s, 1, none⟩ = some (.int .i64 t1) := bw_cell (k_s.cell rfl)
  have c_s_2 : ∀ p : BW W9, p.w.cell? ⟨g_s, 2, none⟩ = some (.int .i64 t2) := bw_cell (k_s.cell rfl)
  have c_d0_0 : ∀ p : BW W9, p.w.cell? ⟨g_d0, 0, none⟩ = some (.int .i64 u1) := bw_cell (k_d0.cell rfl)
  have c_d0_1 : ∀ p : BW W9, p.w.cell? ⟨g_d0, 1, none⟩ = some (.int .i64 u2) := bw_cell (k_d0.cell rfl)
  have c_d0_2 : ∀ p : BW W9, p.w.cell? ⟨g_d0, 2, none⟩ = some (.int .i64 u3) := bw_cell (k_d0.cell rfl)
  have c_d1_0 : ∀ p : BW W9, p.w.cell? ⟨g_d1, 0, none⟩ = some (.int .i64 v1) := bw_cell (k_d1.cell rfl)
  have c_d1_1 : ∀ p : BW W9, p.w.cell? ⟨g_d1, 1, none⟩ = some (.int .i64 v2) := bw_cell (k_d1.cell rfl)
  have c_d1_2 : ∀ p : BW W9, p.w.cell? ⟨g_d1, 2, none⟩ = some (.int .i64 v3) := bw_cell (k_d1.cell rfl)
  have c_d2_0 : ∀ p : BW W9, p.w.cell? ⟨g_d2, 0, none⟩ = some (.int .i64 m1) := bw_cell (k_d2.cell rfl)
  have c_d2_1 : ∀ p : BW W9, p.w.cell? ⟨g_d2, 1, none⟩ = some (.int .i64 m2) := bw_cell (k_d2.cell rfl)
  have c_d2_2 : ∀ p : BW W9, p.w.cell? ⟨g_d2, 2, none⟩ = some (.int .i64 m3) := bw_cell (k_d2.cell rfl)
  obtain ⟨p9, hp9⟩ : ∃ p : BW W9, p.w = W9 := ⟨BW.start W9, rfl⟩
  rw [← hp9]
  clear hp9
  go_wp2
  rw [rounds_succ]
  go_wp2_with (first
    | (go_at_call 33; (first | (with_reducible refine (bw_call V.out _).mono ?_)); rintro e w' ⟨rfl, q, rfl⟩))
  have kr : Bk (((q.w.setCell ⟨g_r, 0, none⟩ (.int .i64 r1)).setCell ⟨g_r, 1, none⟩ (.int .i64 r2)).setCell ⟨g_r, 2, none⟩ (.int .i64 r3)) (g_r) 23 #[.int .i64 r1, .int .i64 r2, .int .i64 r3] := ((((k_r.below q.h).set 0 (.int .i64 r1)).set 1 (.int .i64 r2)).set 2 (.int .i64 r3))
  have rc0 : World.cell? (((q.w.setCell ⟨g_r, 0, none⟩ (.int .i64 r1)).setCell ⟨g_r, 1, none⟩ (.int .i64 r2)).setCell ⟨g_r, 2, none⟩ (.int .i64 r3)) ⟨g_r, 0, none⟩ = some (.int .i64 r1) := kr.cell rfl
  have rc1 : World.cell? (((q.w.setCell ⟨g_r, 0, none⟩ (.int .i64 r1)).setCell ⟨g_r, 1, none⟩ (.int .i64 r2)).setCell ⟨g_r, 2, none⟩ (.int .i64 r3)) ⟨g_r, 1, none⟩ = some (.int .i64 r2) := kr.cell rfl
  have rc2 : World.cell? (((q.w.setCell ⟨g_r, 0, none⟩ (.int .i64 r1)).setCell ⟨g_r, 1, none⟩ (.int .i64 r2)).setCell ⟨g_r, 2, none⟩ (.int .i64 r3)) ⟨g_r, 2, none⟩ = some (.int .i64 r3) := kr.cell rfl
  exact bodyPost_ret (v := .agg #[.int .i64 r1, .int .i64 r2, .int .i64 r3]) (by simp [results, Try.results9, go_sem, rc0, rc1, rc2]) rfl ⟨rfl, ((((bw_below B9 q).setCell (p := ⟨g_r, 0, none⟩) (by show w.heap.size ≤ g_r; omega) _).setCell (p := ⟨g_r, 1, none⟩) (by show w.heap.size ≤ g_r; omega) _).setCell (p := ⟨g_r, 2, none⟩) (by show w.heap.size ≤ g_r; omega) _)⟩

set_option maxRecDepth 100000 in
set_option maxHeartbeats 4000000 in
theorem basis_In_yes (u1 u2 u3 v1 v2 v3 m1 m2 m3 w1 w2 w3 : Int) (w : World) (h : allNear (u1, u2, u3) (v1, v2, v3) (m1, m2, m3) (w1, w2, w3) = true) :
    Calls Try.prog 11 #[.agg #[.int .i64 u1, .int .i64 u2, .int .i64 u3, .int .i64 v1, .int .i64 v2, .int .i64 v3, .int .i64 m1, .int .i64 m2, .int .i64 m3], .agg #[.int .i64 w1, .int .i64 w2, .int .i64 w3]] w fun e w' => e = .returned (.agg #[.int .i64 ((w1 * u1 + w2 * u2 + w3 * u3) / 16384), .int .i64 ((w1 * v1 + w2 * v2 + w3 * v3) / 16384), .int .i64 ((w1 * m1 + w2 * m2 + w3 * m3) / 16384)]) ∧ Below w.heap.size w w' := by
  have N1 := Lib.hid (fun w => basis_near u1 u2 u3 v1 v2 v3 m1 m2 m3 w)
  have N2 := Lib.hid (fun w => vec_Near w1 w2 w3 w)
  obtain ⟨⟨h1, h2, h3⟩, h4⟩ := bs_near.1 h
  rw [h1, h2, h3] at N1
  rw [h4] at N2
  clear h
  have D := Lib.hid (fun w => basis_directions u1 u2 u3 v1 v2 v3 m1 m2 m3 w)
  have D0 := Lib.hid (fun w => vec_Dot w1 w2 w3 u1 u2 u3 w)
  rw [bs_dot h4 h1] at D0
  have i0 := bs_dot_in h4 h1
  generalize w1 * u1 + w2 * u2 + w3 * u3 = s0 at *
  have D1 := Lib.hid (fun w => vec_Dot w1 w2 w3 v1 v2 v3 w)
  rw [bs_dot h4 h2] at D1
  have i1 := bs_dot_in h4 h2
  generalize w1 * v1 + w2 * v2 + w3 * v3 = s1 at *
  have D2 := Lib.hid (fun w => vec_Dot w1 w2 w3 m1 m2 m3 w)
  rw [bs_dot h4 h3] at D2
  have i2 := bs_dot_in h4 h3
  generalize w1 * m1 + w2 * m2 + w3 * m3 = s2 at *
  have V := Lib.hid (fun w => basis_over s0 s1 s2 16384 w (by unfold I64; omega) (by unfold I64; omega) (by unfold I64; omega) (by unfold I64; omega) (by omega))
  generalize s0 / 16384 = r1 at *
  generalize s1 / 16384 = r2 at *
  generalize s2 / 16384 = r3 at *
  clear h1 h2 h3 h4 i0 i1 i2
  have i0 : ∀ w, (Instr.index 45 (.agg #[.int .i64 u1, .int .i64 u2, .int .i64 u3, .int .i64 v1, .int .i64 v2, .int .i64 v3, .int .i64 m1, .int .i64 m2, .int .i64 m3]) (.int .i64 0)).run Try.prog w = .ok (.agg #[.int .i64 u1, .int .i64 u2, .int .i64 u3]) w := fun _ => by kernel_rfl
  have i1 : ∀ w, (Instr.index 45 (.agg #[.int .i64 u1, .int .i64 u2, .int .i64 u3, .int .i64 v1, .int .i64 v2, .int .i64 v3, .int .i64 m1, .int .i64 m2, .int .i64 m3]) (.int .i64 1)).run Try.prog w = .ok (.agg #[.int .i64 v1, .int .i64 v2, .int .i64 v3]) w := fun _ => by kernel_rfl
  have i2 : ∀ w, (Instr.index 45 (.agg #[.int .i64 u1, .int .i64 u2, .int .i64 u3, .int .i64 v1, .int .i64 v2, .int .i64 v3, .int .i64 m1, .int .i64 m2, .int .i64 m3]) (.int .i64 2)).run Try.prog w = .ok (.agg #[.int .i64 m1, .int .i64 m2, .int .i64 m3]) w := fun _ => by kernel_rfl
  go_enter Try.func11, Try.ntmps11
  go_upto_region 1 with (fail)
  obtain ⟨W1, hW1⟩ : ∃ W, W = ((w.alloc (.cells #[.int .i64 u1, .int .i64 u2, .int .i64 u3, .int .i64 v1, .int .i64 v2, .int .i64 v3, .int .i64 m1, .int .i64 m2, .int .i64 m3] 26)).alloc (.cells #[.int .i64 w1, .int .i64 w2, .int .i64 w3] 23)).alloc (.cells #[.int .i64 0, .int .i64 0, .int .i64 0] 23) := ⟨_, rfl⟩
  have B1 : Below w.heap.size w W1 := by rw [hW1]; go_grown
  have k_b : Bk W1 (w.heap.size) 26 #[.int .i64 u1, .int .i64 u2, .int .i64 u3, .int .i64 v1, .int .i64 v2, .int .i64 v3, .int .i64 m1, .int .i64 m2, .int .i64 m3] := by rw [hW1]; exact ((Bk.new _ _ _).alloc _).alloc _
  have k_v : Bk W1 (w.heap.size + 1) 23 #[.int .i64 w1, .int .i64 w2, .int .i64 w3] := by rw [hW1]; exact (Bk.new_at _ _ _ _ (by simp)).alloc _
  have k_r : Bk W1 (w.heap.size + 1 + 1) 23 #[.int .i64 0, .int .i64 0, .int .i64 0] := by rw [hW1]; exact Bk.new_at _ _ _ _ (by simp)
  rw [← hW1]
  clear hW1
  have l_v : w.heap.size < w.heap.size + 1 := by omega
  have l_r : w.heap.size + 1 < w.heap.size + 1 + 1 := by omega
  generalize w.heap.size + 1 + 1 = g_r at *
  generalize w.heap.size + 1 = g_v at *
  have c_b_0 : ∀ p : BW W1, p.w.cell? ⟨w.heap.size, 0, none⟩ = some (.int .i64 u1) := bw_cell (k_b.cell rfl)
  have c_b_1 : ∀ p : BW W1, p.w.cell? ⟨w.heap.size, 1, none⟩ = some (.int .i64 u2) := bw_cell (k_b.cell rfl)
  have c_b_2 : ∀ p : BW W1, p.w.cell? ⟨w.heap.size, 2, none⟩ = some (.int .i64 u3) := bw_cell (k_b.cell rfl)
  have c_b_3 : ∀ p : BW W1, p.w.cell? ⟨w.heap.size, 3, none⟩ = some (.int .i64 v1) := bw_cell (k_b.cell rfl)
  have c_b_4 : ∀ p : BW W1, p.w.cell? ⟨w.heap.size, 4, none⟩ = some (.int .i64 v2) := bw_cell (k_b.cell rfl)
  have c_b_5 : ∀ p : BW W1, p.w.cell? ⟨w.heap.size, 5, none⟩ = some (.int .i64 v3) := bw_cell (k_b.cell rfl)
  have c_b_6 : ∀ p : BW W1, p.w.cell? ⟨w.heap.size, 6, none⟩ = some (.int .i64 m1) := bw_cell (k_b.cell rfl)
  have c_b_7 : ∀ p : BW W1, p.w.cell? ⟨w.heap.size, 7, none⟩ = some (.int .i64 m2) := bw_cell (k_b.cell rfl)
  have c_b_8 : ∀ p : BW W1, p.w.cell? ⟨w.heap.size, 8, none⟩ = some (.int .i64 m3) := bw_cell (k_b.cell rfl)
  have c_v_0 : ∀ p : BW W1, p.w.cell? ⟨g_v, 0, none⟩ = some (.int .i64 w1) := bw_cell (k_v.cell rfl)
  have c_v_1 : ∀ p : BW W1, p.w.cell? ⟨g_v, 1, none⟩ = some (.int .i64 w2) := bw_cell (k_v.cell rfl)
  have c_v_2 : ∀ p : BW W1, p.w.cell? ⟨g_v, 2, none⟩ = some (.int .i64 w3) := bw_cell (k_v.cell rfl)
  have c_r_0 : ∀ p : BW W1, p.w.cell? ⟨g_r, 0, none⟩ = some (.int .i64 0) := bw_cell (k_r.cell rfl)
  have c_r_1 : ∀ p : BW W1, p.w.cell? ⟨g_r, 1, none⟩ = some (.int .i64 0) := bw_cell (k_r.cell rfl)
  have c_r_2 : ∀ p : BW W1, p.w.cell? ⟨g_r, 2, none⟩ = some (.int .i64 0) := bw_cell (k_r.cell rfl)
  obtain ⟨p1, hp1⟩ : ∃ p : BW W1, p.w = W1 := ⟨BW.start W1, rfl⟩
  rw [← hp1]
  clear hp1
  go_upto_region 4 with (first
    | (go_at_call 28; (first | (with_reducible refine (bw_call N1.out _).mono ?_)); rintro e w' ⟨rfl, q, rfl⟩)
    | (go_at_call 29; (first | (with_reducible refine (bw_call N2.out _).mono ?_)); rintro e w' ⟨rfl, q, rfl⟩))
  obtain ⟨W2, hW2⟩ : ∃ W, W = q.w.alloc (.cells #[.int .i64 0, .int .i64 0, .int .i64 0] 44) := ⟨_, rfl⟩
  have B2 : Below w.heap.size w W2 := by rw [hW2]; exact (bw_below B1 q).alloc (bw_below B1 q).size _
  have l_l : g_r < q.w.heap.size := (k_r.below q.h).lt
  have k_b := (k_b.below q.h).alloc (.cells #[.int .i64 0, .int .i64 0, .int .i64 0] 44)
  rw [← hW2] at k_b
  have k_v := (k_v.below q.h).alloc (.cells #[.int .i64 0, .int .i64 0, .int .i64 0] 44)
  rw [← hW2] at k_v
  have k_r := (k_r.below q.h).alloc (.cells #[.int .i64 0, .int .i64 0, .int .i64 0] 44)
  rw [← hW2] at k_r
  have k_l : Bk W2 q.w.heap.size 44 #[.int .i64 0, .int .i64 0, .int .i64 0] := by rw [hW2]; exact Bk.new _ _ _
  rw [← hW2]
  clear hW2
  clear B1
  clear c_b_0 c_b_1 c_b_2 c_b_3 c_b_4 c_b_5 c_b_6 c_b_7 c_b_8 c_v_0 c_v_1 c_v_2 c_r_0 c_r_1 c_r_2
  generalize q.w.heap.size = g_l at *
  have c_b_0 : ∀ p : BW W2, p.w.cell? ⟨w.heap.size, 0, none⟩ = some (.int .i64 u1) := bw_cell (k_b.cell rfl)
  have c_b_1 : ∀ p : BW W2, p.w.cell? ⟨w.heap.size, 1, none⟩ = some (.int .i64 u2) := bw_cell (k_b.cell rfl)
  have c_b_2 : ∀ p : BW W2, p.w.cell? ⟨w.heap.size, 2, none⟩ = some (.int .i64 u3) := bw_cell (k_b.cell rfl)
  have c_b_3 : ∀ p : BW W2, p.w.cell? ⟨w.heap.size, 3, none⟩ = some (.int .i64 v1) := bw_cell (k_b.cell rfl)
  have c_b_4 : ∀ p : BW W2, p.w.cell? ⟨w.heap.size, 4, none⟩ = some (.int .i64 v2) := bw_cell (k_b.cell rfl)
  have c_b_5 : ∀ p : BW W2, p.w.cell? ⟨w.heap.size, 5, none⟩ = some (.int .i64 v3) := bw_cell (k_b.cell rfl)
  have c_b_6 : ∀ p : BW W2, p.w.cell? ⟨w.heap.size, 6, none⟩ = some (.int .i64 m1) := bw_cell (k_b.cell rfl)
  have c_b_7 : ∀ p : BW W2, p.w.cell? ⟨w.heap.size, 7, none⟩ = some (.int .i64 m2) := bw_cell (k_b.cell rfl)
  have c_b_8 : ∀ p : BW W2, p.w.cell? ⟨w.heap.size, 8, none⟩ = some (.int .i64 m3) := bw_cell (k_b.cell rfl)
  have c_v_0 : ∀ p : BW W2, p.w.cell? ⟨g_v, 0, none⟩ = some (.int .i64 w1) := bw_cell (k_v.cell rfl)
  have c_v_1 : ∀ p : BW W2, p.w.cell? ⟨g_v, 1, none⟩ = some (.int .i64 w2) := bw_cell (k_v.cell rfl)
  have c_v_2 : ∀ p : BW W2, p.w.cell? ⟨g_v, 2, none⟩ = some (.int .i64 w3) := bw_cell (k_v.cell rfl)
  have c_r_0 : ∀ p : BW W2, p.w.cell? ⟨g_r, 0, none⟩ = some (.int .i64 0) := bw_cell (k_r.cell rfl)
  have c_r_1 : ∀ p : BW W2, p.w.cell? ⟨g_r, 1, none⟩ = some (.int .i64 0) := bw_cell (k_r.cell rfl)
  have c_r_2 : ∀ p : BW W2, p.w.cell? ⟨g_r, 2, none⟩ = some (.int .i64 0) := bw_cell (k_r.cell rfl)
  have c_l_0 : ∀ p : BW W2, p.w.cell? ⟨g_l, 0, none⟩ = some (.int .i64 0) := bw_cell (k_l.cell rfl)
  have c_l_1 : ∀ p : BW W2, p.w.cell? ⟨g_l, 1, none⟩ = some (.int .i64 0) := bw_cell (k_l.cell rfl)
  have c_l_2 : ∀ p : BW W2, p.w.cell? ⟨g_l, 2, none⟩ = some (.int .i64 0) := bw_cell (k_l.cell rfl)
  obtain ⟨p2, hp2⟩ : ∃ p : BW W2, p.w = W2 := ⟨BW.start W2, rfl⟩
  rw [← hp2]
  clear hp2
  go_upto_region 5 with (first
    | (go_at_call 30; (first | (with_reducible refine (bw_call D.out _).mono ?_)); rintro e w' ⟨rfl, q, rfl⟩))
  refine wp_loop_rounds 4 ?_
  rw [rounds_succ]
  go_upto_region 7 with (fail)
  obtain ⟨W3, hW3⟩ : ∃ W, W = q.w.alloc (.cells #[.int .i64 u1, .int .i64 u2, .int .i64 u3] 23) := ⟨_, rfl⟩
  have B3 : Below w.heap.size w W3 := by rw [hW3]; exact (bw_below B2 q).alloc (bw_below B2 q).size _
  have l_d0 : g_l < q.w.heap.size := (k_l.below q.h).lt
  have k_b := (k_b.below q.h).alloc (.cells #[.int .i64 u1, .int .i64 u2, .int .i64 u3] 23)
  rw [← hW3] at k_b
  have k_v := (k_v.below q.h).alloc (.cells #[.int .i64 u1, .int .i64 u2, .int .i64 u3] 23)
  rw [← hW3] at k_v
  have k_r := (k_r.below q.h).alloc (.cells #[.int .i64 u1, .int .i64 u2, .int .i64 u3] 23)
  rw [← hW3] at k_r
  have k_l := (k_l.below q.h).alloc (.cells #[.int .i64 u1, .int .i64 u2, .int .i64 u3] 23)
  rw [← hW3] at k_l
  have k_d0 : Bk W3 q.w.heap.size 23 #[.int .i64 u1, .int .i64 u2, .int .i64 u3] := by rw [hW3]; exact Bk.new _ _ _
  rw [← hW3]
  clear hW3
  clear B2
  clear c_b_0 c_b_1 c_b_2 c_b_3 c_b_4 c_b_5 c_b_6 c_b_7 c_b_8 c_v_0 c_v_1 c_v_2 c_r_0 c_r_1 c_r_2 c_l_0 c_l_1 c_l_2
  generalize q.w.heap.size = g_d0 at *
  have c_b_0 : ∀ p : BW W3, p.w.cell? ⟨w.heap.size, 0, none⟩ = some (.int .i64 u1) := bw_cell (k_b.cell rfl)
  have c_b_1 : ∀ p : BW W3, p.w.cell? ⟨w.heap.size, 1, none⟩ = some (.int .i64 u2) := bw_cell (k_b.cell rfl)
  have c_b_2 : ∀ p : BW W3, p.w.cell? ⟨w.heap.size, 2, none⟩ = some (.int .i64 u3) := bw_cell (k_b.cell rfl)
  have c_b_3 : ∀ p : BW W3, p.w.cell? ⟨w.heap.size, 3, none⟩ = some (.int .i64 v1) := bw_cell (k_b.cell rfl)
  have c_b_4 : ∀ p : BW W3, p.w.cell? ⟨w.heap.size, 4, none⟩ = some (.int .i64 v2) := bw_cell (k_b.cell rfl)
  have c_b_5 : ∀ p : BW W3, p.w.cell? ⟨w.heap.size, 5, none⟩ = some (.int .i64 v3) := bw_cell (k_b.cell rfl)
  have c_b_6 : ∀ p : BW W3, p.w.cell? ⟨w.heap.size, 6, none⟩ = some (.int .i64 m1) := bw_cell (k_b.cell rfl)
  have c_b_7 : ∀ p : BW W3, p.w.cell? ⟨w.heap.size, 7, none⟩ = some (.int .i64 m2) := bw_cell (k_b.cell rfl)
  have c_b_8 : ∀ p : BW W3, p.w.cell? ⟨w.heap.size, 8, none⟩ = some (.int .i64 m3) := bw_cell (k_b.cell rfl)
  have c_v_0 : ∀ p : BW W3, p.w.cell? ⟨g_v, 0, none⟩ = some (.int .i64 w1) := bw_cell (k_v.cell rfl)
  have c_v_1 : ∀ p : BW W3, p.w.cell? ⟨g_v, 1, none⟩ = some (.int .i64 w2) := bw_cell (k_v.cell rfl)
  have c_v_2 : ∀ p : BW W3, p.w.cell? ⟨g_v, 2, none⟩ = some (.int .i64 w3) := bw_cell (k_v.cell rfl)
  have c_r_0 : ∀ p : BW W3, p.w.cell? ⟨g_r, 0, none⟩ = some (.int .i64 0) := bw_cell (k_r.cell rfl)
  have c_r_1 : ∀ p : BW W3, p.w.cell? ⟨g_r, 1, none⟩ = some (.int .i64 0) := bw_cell (k_r.cell rfl)
  have c_r_2 : ∀ p : BW W3, p.w.cell? ⟨g_r, 2, none⟩ = some (.int .i64 0) := bw_cell (k_r.cell rfl)
  have c_l_0 : ∀ p : BW W3, p.w.cell? ⟨g_l, 0, none⟩ = some (.int .i64 0) := bw_cell (k_l.cell rfl)
  have f_l_0 : ∀ p : BW W3, p.w.frozen? ⟨g_l, 0, none⟩ = false := fun p => (k_l.below p.h).frozen 0
  have c_l_1 : ∀ p : BW W3, p.w.cell? ⟨g_l, 1, none⟩ = some (.int .i64 0) := bw_cell (k_l.cell rfl)
  have f_l_1 : ∀ p : BW W3, p.w.frozen? ⟨g_l, 1, none⟩ = false := fun p => (k_l.below p.h).frozen 1
  have c_l_2 : ∀ p : BW W3, p.w.cell? ⟨g_l, 2, none⟩ = some (.int .i64 0) := bw_cell (k_l.cell rfl)
  have f_l_2 : ∀ p : BW W3, p.w.frozen? ⟨g_l, 2, none⟩ = false := fun p => (k_l.below p.h).frozen 2
  have c_d0_0 : ∀ p : BW W3, p.w.cell? ⟨g_d0, 0, none⟩ = some (.int .i64 u1) := bw_cell (k_d0.cell rfl)
  have c_d0_1 : ∀ p : BW W3, p.w.cell? ⟨g_d0, 1, none⟩ = some (.int .i64 u2) := bw_cell (k_d0.cell rfl)
  have c_d0_2 : ∀ p : BW W3, p.w.cell? ⟨g_d0, 2, none⟩ = some (.int .i64 u3) := bw_cell (k_d0.cell rfl)
  obtain ⟨p3, hp3⟩ : ∃ p : BW W3, p.w = W3 := ⟨BW.start W3, rfl⟩
  rw [← hp3]
  clear hp3
  go_upto_region 8 with (first
    | (go_at_call 37; (first | (with_reducible refine (bw_call D0.out _).mono ?_)); rintro e w' ⟨rfl, q, rfl⟩))
  obtain ⟨W4, hW4⟩ : ∃ W, W = q.w.setCell ⟨g_l, 0, none⟩ (.int .i64 s0) := ⟨_, rfl⟩
  have B4 : Below w.heap.size w W4 := by rw [hW4]; exact ((bw_below B3 q).setCell (p := ⟨g_l, 0, none⟩) (by show w.heap.size ≤ g_l; omega) _)
  have k_b : Bk W4 (w.heap.size) 26 #[.int .i64 u1, .int .i64 u2, .int .i64 u3, .int .i64 v1, .int .i64 v2, .int .i64 v3, .int .i64 m1, .int .i64 m2, .int .i64 m3] := by rw [hW4]; exact ((k_b.below q.h).other (a := ⟨g_l, 0, none⟩) (by show ¬ w.heap.size = g_l; omega) (.int .i64 s0))
  have k_v : Bk W4 (g_v) 23 #[.int .i64 w1, .int .i64 w2, .int .i64 w3] := by rw [hW4]; exact ((k_v.below q.h).other (a := ⟨g_l, 0, none⟩) (by show ¬ g_v = g_l; omega) (.int .i64 s0))
  have k_r : Bk W4 (g_r) 23 #[.int .i64 0, .int .i64 0, .int .i64 0] := by rw [hW4]; exact ((k_r.below q.h).other (a := ⟨g_l, 0, none⟩) (by show ¬ g_r = g_l; omega) (.int .i64 s0))
  have k_l : Bk W4 (g_l) 44 #[.int .i64 s0, .int .i64 0, .int .i64 0] := by rw [hW4]; exact ((k_l.below q.h).set 0 (.int .i64 s0)).cast (by simp)
  have k_d0 : Bk W4 (g_d0) 23 #[.int .i64 u1, .int .i64 u2, .int .i64 u3] := by rw [hW4]; exact ((k_d0.below q.h).other (a := ⟨g_l, 0, none⟩) (by show ¬ g_d0 = g_l; omega) (.int .i64 s0))
  rw [← hW4]
  clear hW4
  clear B3
  clear c_b_0 c_b_1 c_b_2 c_b_3 c_b_4 c_b_5 c_b_6 c_b_7 c_b_8 c_v_0 c_v_1 c_v_2 c_r_0 c_r_1 c_r_2 c_l_0 f_l_0 c_l_1 f_l_1 c_l_2 f_l_2 c_d0_0 c_d0_1 c_d0_2
  have c_b_0 : ∀ p : BW W4, p.w.cell? ⟨w.heap.size, 0, none⟩ = some (.int .i64 u1) := bw_cell (k_b.cell rfl)
  have c_b_1 : ∀ p : BW W4, p.w.cell? ⟨w.heap.size, 1, none⟩ = some (.int .i64 u2) := bw_cell (k_b.cell rfl)
  have c_b_2 : ∀ p : BW W4, p.w.cell? ⟨w.heap.size, 2, none⟩ = some (.int .i64 u3) := bw_cell (k_b.cell rfl)
  have c_b_3 : ∀ p : BW W4, p.w.cell? ⟨w.heap.size, 3, none⟩ = some (.int .i64 v1) := bw_cell (k_b.cell rfl)
  have c_b_4 : ∀ p : BW W4, p.w.cell? ⟨w.heap.size, 4, none⟩ = some (.int .i64 v2) := bw_cell (k_b.cell rfl)
  have c_b_5 : ∀ p : BW W4, p.w.cell? ⟨w.heap.size, 5, none⟩ = some (.int .i64 v3) := bw_cell (k_b.cell rfl)
  have c_b_6 : ∀ p : BW W4, p.w.cell? ⟨w.heap.size, 6, none⟩ = some (.int .i64 m1) := bw_cell (k_b.cell rfl)
  have c_b_7 : ∀ p : BW W4, p.w.cell? ⟨w.heap.size, 7, none⟩ = some (.int .i64 m2) := bw_cell (k_b.cell rfl)
  have c_b_8 : ∀ p : BW W4, p.w.cell? ⟨w.heap.size, 8, none⟩ = some (.int .i64 m3) := bw_cell (k_b.cell rfl)
  have c_v_0 : ∀ p : BW W4, p.w.cell? ⟨g_v, 0, none⟩ = some (.int .i64 w1) := bw_cell (k_v.cell rfl)
  have c_v_1 : ∀ p : BW W4, p.w.cell? ⟨g_v, 1, none⟩ = some (.int .i64 w2) := bw_cell (k_v.cell rfl)
  have c_v_2 : ∀ p : BW W4, p.w.cell? ⟨g_v, 2, none⟩ = some (.int .i64 w3) := bw_cell (k_v.cell rfl)
  have c_r_0 : ∀ p : BW W4, p.w.cell? ⟨g_r, 0, none⟩ = some (.int .i64 0) := bw_cell (k_r.cell rfl)
  have c_r_1 : ∀ p : BW W4, p.w.cell? ⟨g_r, 1, none⟩ = some (.int .i64 0) := bw_cell (k_r.cell rfl)
  have c_r_2 : ∀ p : BW W4, p.w.cell? ⟨g_r, 2, none⟩ = some (.int .i64 0) := bw_cell (k_r.cell rfl)
  have c_l_0 : ∀ p : BW W4, p.w.cell? ⟨g_l, 0, none⟩ = some (.int .i64 s0) := bw_cell (k_l.cell rfl)
  have c_l_1 : ∀ p : BW W4, p.w.cell? ⟨g_l, 1, none⟩ = some (.int .i64 0) := bw_cell (k_l.cell rfl)
  have c_l_2 : ∀ p : BW W4, p.w.cell? ⟨g_l, 2, none⟩ = some (.int .i64 0) := bw_cell (k_l.cell rfl)
  have c_d0_0 : ∀ p : BW W4, p.w.cell? ⟨g_d0, 0, none⟩ = some (.int .i64 u1) := bw_cell (k_d0.cell rfl)
  have c_d0_1 : ∀ p : BW W4, p.w.cell? ⟨g_d0, 1, none⟩ = some (.int .i64 u2) := bw_cell (k_d0.cell rfl)
  have c_d0_2 : ∀ p : BW W4, p.w.cell? ⟨g_d0, 2, none⟩ = some (.int .i64 u3) := bw_cell (k_d0.cell rfl)
  obtain ⟨p4, hp4⟩ : ∃ p : BW W4, p.w = W4 := ⟨BW.start W4, rfl⟩
  rw [← hp4]
  clear hp4
  go_wp2
  rw [rounds_succ]
  go_upto_region 7 with (fail)
  obtain ⟨W5, hW5⟩ : ∃ W, W = p4.w.alloc (.cells #[.int .i64 v1, .int .i64 v2, .int .i64 v3] 23) := ⟨_, rfl⟩
  have B5 : Below w.heap.size w W5 := by rw [hW5]; exact (bw_below B4 p4).alloc (bw_below B4 p4).size _
  have l_d1 : g_d0 < p4.w.heap.size := (k_d0.below p4.h).lt
  have k_b := (k_b.below p4.h).alloc (.cells #[.int .i64 v1, .int .i64 v2, .int .i64 v3] 23)
  rw [← hW5] at k_b
  have k_v := (k_v.below p4.h).alloc (.cells #[.int .i64 v1, .int .i64 v2, .int .i64 v3] 23)
  rw [← hW5] at k_v
  have k_r := (k_r.below p4.h).alloc (.cells #[.int .i64 v1, .int .i64 v2, .int .i64 v3] 23)
  rw [← hW5] at k_r
  have k_l := (k_l.below p4.h).alloc (.cells #[.int .i64 v1, .int .i64 v2, .int .i64 v3] 23)
  rw [← hW5] at k_l
  have k_d0 := (k_d0.below p4.h).alloc (.cells #[.int .i64 v1, .int .i64 v2, .int .i64 v3] 23)
  rw [← hW5] at k_d0
  have k_d1 : Bk W5 p4.w.heap.size 23 #[.int .i64 v1, .int .i64 v2, .int .i64 v3] := by rw [hW5]; exact Bk.new _ _ _
  rw [← hW5]
  clear hW5
  clear B4
  clear c_b_0 c_b_1 c_b_2 c_b_3 c_b_4 c_b_5 c_b_6 c_b_7 c_b_8 c_v_0 c_v_1 c_v_2 c_r_0 c_r_1 c_r_2 c_l_0 c_l_1 c_l_2 c_d0_0 c_d0_1 c_d0_2
  generalize p4.w.heap.size = g_d1 at *
  have c_b_0 : ∀ p : BW W5, p.w.cell? ⟨w.heap.size, 0, none⟩ = some (.int .i64 u1) := bw_cell (k_b.cell rfl)
  have c_b_1 : ∀ p : BW W5, p.w.cell? ⟨w.heap.size, 1, none⟩ = some (.int .i64 u2) := bw_cell (k_b.cell rfl)
  have c_b_2 : ∀ p : BW W5, p.w.cell? ⟨w.heap.size, 2, none⟩ = some (.int .i64 u3) := bw_cell (k_b.cell rfl)
  have c_b_3 : ∀ p : BW W5, p.w.cell? ⟨w.heap.size, 3, none⟩ = some (.int .i64 v1) := bw_cell (k_b.cell rfl)
  have c_b_4 : ∀ p : BW W5, p.w.cell? ⟨w.heap.size, 4, none⟩ = some (.int .i64 v2) := bw_cell (k_b.cell rfl)
  have c_b_5 : ∀ p : BW W5, p.w.cell? ⟨w.heap.size, 5, none⟩ = some (.int .i64 v3) := bw_cell (k_b.cell rfl)
  have c_b_6 : ∀ p : BW W5, p.w.cell? ⟨w.heap.size, 6, none⟩ = some (.int .i64 m1) := bw_cell (k_b.cell rfl)
  have c_b_7 : ∀ p : BW W5, p.w.cell? ⟨w.heap.size, 7, none⟩ = some (.int .i64 m2) := bw_cell (k_b.cell rfl)
  have c_b_8 : ∀ p : BW W5, p.w.cell? ⟨w.heap.size, 8, none⟩ = some (.int .i64 m3) := bw_cell (k_b.cell rfl)
  have c_v_0 : ∀ p : BW W5, p.w.cell? ⟨g_v, 0, none⟩ = some (.int .i64 w1) := bw_cell (k_v.cell rfl)
  have c_v_1 : ∀ p : BW W5, p.w.cell? ⟨g_v, 1, none⟩ = some (.int .i64 w2) := bw_cell (k_v.cell rfl)
  have c_v_2 : ∀ p : BW W5, p.w.cell? ⟨g_v, 2, none⟩ = some (.int .i64 w3) := bw_cell (k_v.cell rfl)
  have c_r_0 : ∀ p : BW W5, p.w.cell? ⟨g_r, 0, none⟩ = some (.int .i64 0) := bw_cell (k_r.cell rfl)
  have c_r_1 : ∀ p : BW W5, p.w.cell? ⟨g_r, 1, none⟩ = some (.int .i64 0) := bw_cell (k_r.cell rfl)
  have c_r_2 : ∀ p : BW W5, p.w.cell? ⟨g_r, 2, none⟩ = some (.int .i64 0) := bw_cell (k_r.cell rfl)
  have c_l_0 : ∀ p : BW W5, p.w.cell? ⟨g_l, 0, none⟩ = some (.int .i64 s0) := bw_cell (k_l.cell rfl)
  have f_l_0 : ∀ p : BW W5, p.w.frozen? ⟨g_l, 0, none⟩ = false := fun p => (k_l.below p.h).frozen 0
  have c_l_1 : ∀ p : BW W5, p.w.cell? ⟨g_l, 1, none⟩ = some (.int .i64 0) := bw_cell (k_l.cell rfl)
  have f_l_1 : ∀ p : BW W5, p.w.frozen? ⟨g_l, 1, none⟩ = false := fun p => (k_l.below p.h).frozen 1
  have c_l_2 : ∀ p : BW W5, p.w.cell? ⟨g_l, 2, none⟩ = some (.int .i64 0) := bw_cell (k_l.cell rfl)
  have f_l_2 : ∀ p : BW W5, p.w.frozen? ⟨g_l, 2, none⟩ = false := fun p => (k_l.below p.h).frozen 2
  have c_d0_0 : ∀ p : BW W5, p.w.cell? ⟨g_d0, 0, none⟩ = some (.int .i64 u1) := bw_cell (k_d0.cell rfl)
  have c_d0_1 : ∀ p : BW W5, p.w.cell? ⟨g_d0, 1, none⟩ = some (.int .i64 u2) := bw_cell (k_d0.cell rfl)
  have c_d0_2 : ∀ p : BW W5, p.w.cell? ⟨g_d0, 2, none⟩ = some (.int .i64 u3) := bw_cell (k_d0.cell rfl)
  have c_d1_0 : ∀ p : BW W5, p.w.cell? ⟨g_d1, 0, none⟩ = some (.int .i64 v1) := bw_cell (k_d1.cell rfl)
  have c_d1_1 : ∀ p : BW W5, p.w.cell? ⟨g_d1, 1, none⟩ = some (.int .i64 v2) := bw_cell (k_d1.cell rfl)
  have c_d1_2 : ∀ p : BW W5, p.w.cell? ⟨g_d1, 2, none⟩ = some (.int .i64 v3) := bw_cell (k_d1.cell rfl)
  obtain ⟨p5, hp5⟩ : ∃ p : BW W5, p.w = W5 := ⟨BW.start W5, rfl⟩
  rw [← hp5]
  clear hp5
  go_upto_region 8 with (first
    | (go_at_call 37; (first | (with_reducible refine (bw_call D1.out _).mono ?_)); rintro e w' ⟨rfl, q, rfl⟩))
  obtain ⟨W6, hW6⟩ : ∃ W, W = q.w.setCell ⟨g_l, 1, none⟩ (.int .i64 s1) := ⟨_, rfl⟩
  have B6 : Below w.heap.size w W6 := by rw [hW6]; exact ((bw_below B5 q).setCell (p := ⟨g_l, 1, none⟩) (by show w.heap.size ≤ g_l; omega) _)
  have k_b : Bk W6 (w.heap.size) 26 #[.int .i64 u1, .int .i64 u2, .int .i64 u3, .int .i64 v1, .int .i64 v2, .int .i64 v3, .int .i64 m1, .int .i64 m2, .int .i64 m3] := by rw [hW6]; exact ((k_b.below q.h).other (a := ⟨g_l, 1, none⟩) (by show ¬ w.heap.size = g_l; omega) (.int .i64 s1))
  have k_v : Bk W6 (g_v) 23 #[.int .i64 w1, .int .i64 w2, .int .i64 w3] := by rw [hW6]; exact ((k_v.below q.h).other (a := ⟨g_l, 1, none⟩) (by show ¬ g_v = g_l; omega) (.int .i64 s1))
  have k_r : Bk W6 (g_r) 23 #[.int .i64 0, .int .i64 0, .int .i64 0] := by rw [hW6]; exact ((k_r.below q.h).other (a := ⟨g_l, 1, none⟩) (by show ¬ g_r = g_l; omega) (.int .i64 s1))
  have k_l : Bk W6 (g_l) 44 #[.int .i64 s0, .int .i64 s1, .int .i64 0] := by rw [hW6]; exact ((k_l.below q.h).set 1 (.int .i64 s1)).cast (by simp)
  have k_d0 : Bk W6 (g_d0) 23 #[.int .i64 u1, .int .i64 u2, .int .i64 u3] := by rw [hW6]; exact ((k_d0.below q.h).other (a := ⟨g_l, 1, none⟩) (by show ¬ g_d0 = g_l; omega) (.int .i64 s1))
  have k_d1 : Bk W6 (g_d1) 23 #[.int .i64 v1, .int .i64 v2, .int .i64 v3] := by rw [hW6]; exact ((k_d1.below q.h).other (a := ⟨g_l, 1, none⟩) (by show ¬ g_d1 = g_l; omega) (.int .i64 s1))
  rw [← hW6]
  clear hW6
  clear B5
  clear c_b_0 c_b_1 c_b_2 c_b_3 c_b_4 c_b_5 c_b_6 c_b_7 c_b_8 c_v_0 c_v_1 c_v_2 c_r_0 c_r_1 c_r_2 c_l_0 f_l_0 c_l_1 f_l_1 c_l_2 f_l_2 c_d0_0 c_d0_1 c_d0_2 c_d1_0 c_d1_1 c_d1_2
  have c_b_0 : ∀ p : BW W6, p.w.cell? ⟨w.heap.size, 0, none⟩ = some (.int .i64 u1) := bw_cell (k_b.cell rfl)
  have c_b_1 : ∀ p : BW W6, p.w.cell? ⟨w.heap.size, 1, none⟩ = some (.int .i64 u2) := bw_cell (k_b.cell rfl)
  have c_b_2 : ∀ p : BW W6, p.w.cell? ⟨w.heap.size, 2, none⟩ = some (.int .i64 u3) := bw_cell (k_b.cell rfl)
  have c_b_3 : ∀ p : BW W6, p.w.cell? ⟨w.heap.size, 3, none⟩ = some (.int .i64 v1) := bw_cell (k_b.cell rfl)
  have c_b_4 : ∀ p : BW W6, p.w.cell? ⟨w.heap.size, 4, none⟩ = some (.int .i64 v2) := bw_cell (k_b.cell rfl)
  have c_b_5 : ∀ p : BW W6, p.w.cell? ⟨w.heap.size, 5, none⟩ = some (.int .i64 v3) := bw_cell (k_b.cell rfl)
  have c_b_6 : ∀ p : BW W6, p.w.cell? ⟨w.heap.size, 6, none⟩ = some (.int .i64 m1) := bw_cell (k_b.cell rfl)
  have c_b_7 : ∀ p : BW W6, p.w.cell? ⟨w.heap.size, 7, none⟩ = some (.int .i64 m2) := bw_cell (k_b.cell rfl)
  have c_b_8 : ∀ p : BW W6, p.w.cell? ⟨w.heap.size, 8, none⟩ = some (.int .i64 m3) := bw_cell (k_b.cell rfl)
  have c_v_0 : ∀ p : BW W6, p.w.cell? ⟨g_v, 0, none⟩ = some (.int .i64 w1) := bw_cell (k_v.cell rfl)
  have c_v_1 : ∀ p : BW W6, p.w.cell? ⟨g_v, 1, none⟩ = some (.int .i64 w2) := bw_cell (k_v.cell rfl)
  have c_v_2 : ∀ p : BW W6, p.w.cell? ⟨g_v, 2, none⟩ = some (.int .i64 w3) := bw_cell (k_v.cell rfl)
  have c_r_0 : ∀ p : BW W6, p.w.cell? ⟨g_r, 0, none⟩ = some (.int .i64 0) := bw_cell (k_r.cell rfl)
  have c_r_1 : ∀ p : BW W6, p.w.cell? ⟨g_r, 1, none⟩ = some (.int .i64 0) := bw_cell (k_r.cell rfl)
  have c_r_2 : ∀ p : BW W6, p.w.cell? ⟨g_r, 2, none⟩ = some (.int .i64 0) := bw_cell (k_r.cell rfl)
  have c_l_0 : ∀ p : BW W6, p.w.cell? ⟨g_l, 0, none⟩ = some (.int .i64 s0) := bw_cell (k_l.cell rfl)
  have c_l_1 : ∀ p : BW W6, p.w.cell? ⟨g_l, 1, none⟩ = some (.int .i64 s1) := bw_cell (k_l.cell rfl)
  have c_l_2 : ∀ p : BW W6, p.w.cell? ⟨g_l, 2, none⟩ = some (.int .i64 0) := bw_cell (k_l.cell rfl)
  have c_d0_0 : ∀ p : BW W6, p.w.cell? ⟨g_d0, 0, none⟩ = some (.int .i64 u1) := bw_cell (k_d0.cell rfl)
  have c_d0_1 : ∀ p : BW W6, p.w.cell? ⟨g_d0, 1, none⟩ = some (.int .i64 u2) := bw_cell (k_d0.cell rfl)
  have c_d0_2 : ∀ p : BW W6, p.w.cell? ⟨g_d0, 2, none⟩ = some (.int .i64 u3) := bw_cell (k_d0.cell rfl)
  have c_d1_0 : ∀ p : BW W6, p.w.cell? ⟨g_d1, 0, none⟩ = some (.int .i64 v1) := bw_cell (k_d1.cell rfl)
  have c_d1_1 : ∀ p : BW W6, p.w.cell? ⟨g_d1, 1, none⟩ = some (.int .i64 v2) := bw_cell (k_d1.cell rfl)
  have c_d1_2 : ∀ p : BW W6, p.w.cell? ⟨g_d1, 2, none⟩ = some (.int .i64 v3) := bw_cell (k_d1.cell rfl)
  obtain ⟨p6, hp6⟩ : ∃ p : BW W6, p.w = W6 := ⟨BW.start W6, rfl⟩
  rw [← hp6]
  clear hp6
  go_wp2
  rw [rounds_succ]
  go_upto_region 7 with (fail)
  obtain ⟨W7, hW7⟩ : ∃ W, W = p6.w.alloc (.cells #[.int .i64 m1, .int .i64 m2, .int .i64 m3] 23) := ⟨_, rfl⟩
  have B7 : Below w.heap.size w W7 := by rw [hW7]; exact (bw_below B6 p6).alloc (bw_below B6 p6).size _
  have l_d2 : g_d1 < p6.w.heap.size := (k_d1.below p6.h).lt
  have k_b := (k_b.below p6.h).alloc (.cells #[.int .i64 m1, .int .i64 m2, .int .i64 m3] 23)
  rw [← hW7] at k_b
  have k_v := (k_v.below p6.h).alloc (.cells #[.int .i64 m1, .int .i64 m2, .int .i64 m3] 23)
  rw [← hW7] at k_v
  have k_r := (k_r.below p6.h).alloc (.cells #[.int .i64 m1, .int .i64 m2, .int .i64 m3] 23)
  rw [← hW7] at k_r
  have k_l := (k_l.below p6.h).alloc (.cells #[.int .i64 m1, .int .i64 m2, .int .i64 m3] 23)
  rw [← hW7] at k_l
  have k_d0 := (k_d0.below p6.h).alloc (.cells #[.int .i64 m1, .int .i64 m2, .int .i64 m3] 23)
  rw [← hW7] at k_d0
  have k_d1 := (k_d1.below p6.h).alloc (.cells #[.int .i64 m1, .int .i64 m2, .int .i64 m3] 23)
  rw [← hW7] at k_d1
  have k_d2 : Bk W7 p6.w.heap.size 23 #[.int .i64 m1, .int .i64 m2, .int .i64 m3] := by rw [hW7]; exact Bk.new _ _ _
  rw [← hW7]
  clear hW7
  clear B6
  clear c_b_0 c_b_1 c_b_2 c_b_3 c_b_4 c_b_5 c_b_6 c_b_7 c_b_8 c_v_0 c_v_1 c_v_2 c_r_0 c_r_1 c_r_2 c_l_0 c_l_1 c_l_2 c_d0_0 c_d0_1 c_d0_2 c_d1_0 c_d1_1 c_d1_2
  generalize p6.w.heap.size = g_d2 at *
  have c_b_0 : ∀ p : BW W7, p.w.cell? ⟨w.heap.size, 0, none⟩ = some (.int .i64 u1) := bw_cell (k_b.cell rfl)
  have c_b_1 : ∀ p : BW W7, p.w.cell? ⟨w.heap.size, 1, none⟩ = some (.int .i64 u2) := bw_cell (k_b.cell rfl)
  have c_b_2 : ∀ p : BW W7, p.w.cell? ⟨w.heap.size, 2, none⟩ = some (.int .i64 u3) := bw_cell (k_b.cell rfl)
  have c_b_3 : ∀ p : BW W7, p.w.cell? ⟨w.heap.size, 3, none⟩ = some (.int .i64 v1) := bw_cell (k_b.cell rfl)
  have c_b_4 : ∀ p : BW W7, p.w.cell? ⟨w.heap.size, 4, none⟩ = some (.int .i64 v2) := bw_cell (k_b.cell rfl)
  have c_b_5 : ∀ p : BW W7, p.w.cell? ⟨w.heap.size, 5, none⟩ = some (.int .i64 v3) := bw_cell (k_b.cell rfl)
  have c_b_6 : ∀ p : BW W7, p.w.cell? ⟨w.heap.size, 6, none⟩ = some (.int .i64 m1) := bw_cell (k_b.cell rfl)
  have c_b_7 : ∀ p : BW W7, p.w.cell? ⟨w.heap.size, 7, none⟩ = some (.int .i64 m2) := bw_cell (k_b.cell rfl)
  have c_b_8 : ∀ p : BW W7, p.w.cell? ⟨w.heap.size, 8, none⟩ = some (.int .i64 m3) := bw_cell (k_b.cell rfl)
  have c_v_0 : ∀ p : BW W7, p.w.cell? ⟨g_v, 0, none⟩ = some (.int .i64 w1) := bw_cell (k_v.cell rfl)
  have c_v_1 : ∀ p : BW W7, p.w.cell? ⟨g_v, 1, none⟩ = some (.int .i64 w2) := bw_cell (k_v.cell rfl)
  have c_v_2 : ∀ p : BW W7, p.w.cell? ⟨g_v, 2, none⟩ = some (.int .i64 w3) := bw_cell (k_v.cell rfl)
  have c_r_0 : ∀ p : BW W7, p.w.cell? ⟨g_r, 0, none⟩ = some (.int .i64 0) := bw_cell (k_r.cell rfl)
  have c_r_1 : ∀ p : BW W7, p.w.cell? ⟨g_r, 1, none⟩ = some (.int .i64 0) := bw_cell (k_r.cell rfl)
  have c_r_2 : ∀ p : BW W7, p.w.cell? ⟨g_r, 2, none⟩ = some (.int .i64 0) := bw_cell (k_r.cell rfl)
  have c_l_0 : ∀ p : BW W7, p.w.cell? ⟨g_l, 0, none⟩ = some (.int .i64 s0) := bw_cell (k_l.cell rfl)
  have f_l_0 : ∀ p : BW W7, p.w.frozen? ⟨g_l, 0, none⟩ = false := fun p => (k_l.below p.h).frozen 0
  have c_l_1 : ∀ p : BW W7, p.w.cell? ⟨g_l, 1, none⟩ = some (.int .i64 s1) := bw_cell (k_l.cell rfl)
  have f_l_1 : ∀ p : BW W7, p.w.frozen? ⟨g_l, 1, none⟩ = false := fun p => (k_l.below p.h).frozen 1
  have c_l_2 : ∀ p : BW W7, p.w.cell? ⟨g_l, 2, none⟩ = some (.int .i64 0) := bw_cell (k_l.cell rfl)
  have f_l_2 : ∀ p : BW W7, p.w.frozen? ⟨g_l, 2, none⟩ = false := fun p => (k_l.below p.h).frozen 2
  have c_d0_0 : ∀ p : BW W7, p.w.cell? ⟨g_d0, 0, none⟩ = some (.int .i64 u1) := bw_cell (k_d0.cell rfl)
  have c_d0_1 : ∀ p : BW W7, p.w.cell? ⟨g_d0, 1, none⟩ = some (.int .i64 u2) := bw_cell (k_d0.cell rfl)
  have c_d0_2 : ∀ p : BW W7, p.w.cell? ⟨g_d0, 2, none⟩ = some (.int .i64 u3) := bw_cell (k_d0.cell rfl)
  have c_d1_0 : ∀ p : BW W7, p.w.cell? ⟨g_d1, 0, none⟩ = some (.int .i64 v1) := bw_cell (k_d1.cell rfl)
  have c_d1_1 : ∀ p : BW W7, p.w.cell? ⟨g_d1, 1, none⟩ = some (.int .i64 v2) := bw_cell (k_d1.cell rfl)
  have c_d1_2 : ∀ p : BW W7, p.w.cell? ⟨g_d1, 2, none⟩ = some (.int .i64 v3) := bw_cell (k_d1.cell rfl)
  have c_d2_0 : ∀ p : BW W7, p.w.cell? ⟨g_d2, 0, none⟩ = some (.int .i64 m1) := bw_cell (k_d2.cell rfl)
  have c_d2_1 : ∀ p : BW W7, p.w.cell? ⟨g_d2, 1, none⟩ = some (.int .i64 m2) := bw_cell (k_d2.cell rfl)
  have c_d2_2 : ∀ p : BW W7, p.w.cell? ⟨g_d2, 2, none⟩ = some (.int .i64 m3) := bw_cell (k_d2.cell rfl)
  obtain ⟨p7, hp7⟩ : ∃ p : BW W7, p.w = W7 := ⟨BW.start W7, rfl⟩
  rw [← hp7]
  clear hp7
  go_upto_region 8 with (first
    | (go_at_call 37; (first | (with_reducible refine (bw_call D2.out _).mono ?_)); rintro e w' ⟨rfl, q, rfl⟩))
  obtain ⟨W8, hW8⟩ : ∃ W, W = q.w.setCell ⟨g_l, 2, none⟩ (.int .i64 s2) := ⟨_, rfl⟩
  have B8 : Below w.heap.size w W8 := by rw [hW8]; exact ((bw_below B7 q).setCell (p := ⟨g_l, 2, none⟩) (by show w.heap.size ≤ g_l; omega) _)
  have k_b : Bk W8 (w.heap.size) 26 #[.int .i64 u1, .int .i64 u2, .int .i64 u3, .int .i64 v1, .int .i64 v2, .int .i64 v3, .int .i64 m1, .int .i64 m2, .int .i64 m3] := by rw [hW8]; exact ((k_b.below q.h).other (a := ⟨g_l, 2, none⟩) (by show ¬ w.heap.size = g_l; omega) (.int .i64 s2))
  have k_v : Bk W8 (g_v) 23 #[.int .i64 w1, .int .i64 w2, .int .i64 w3] := by rw [hW8]; exact ((k_v.below q.h).other (a := ⟨g_l, 2, none⟩) (by show ¬ g_v = g_l; omega) (.int .i64 s2))
  have k_r : Bk W8 (g_r) 23 #[.int .i64 0, .int .i64 0, .int .i64 0] := by rw [hW8]; exact ((k_r.below q.h).other (a := ⟨g_l, 2, none⟩) (by show ¬ g_r = g_l; omega) (.int .i64 s2))
  have k_l : Bk W8 (g_l) 44 #[.int .i64 s0, .int .i64 s1, .int .i64 s2] := by rw [hW8]; exact ((k_l.below q.h).set 2 (.int .i64 s2)).cast (by simp)
  have k_d0 : Bk W8 (g_d0) 23 #[.int .i64 u1, .int .i64 u2, .int .i64 u3] := by rw [hW8]; exact ((k_d0.below q.h).other (a := ⟨g_l, 2, none⟩) (by show ¬ g_d0 = g_l; omega) (.int .i64 s2))
  have k_d1 : Bk W8 (g_d1) 23 #[.int .i64 v1, .int .i64 v2, .int .i64 v3] := by rw [hW8]; exact ((k_d1.below q.h).other (a := ⟨g_l, 2, none⟩) (by show ¬ g_d1 = g_l; omega) (.int .i64 s2))
  have k_d2 : Bk W8 (g_d2) 23 #[.int .i64 m1, .int .i64 m2, .int .i64 m3] := by rw [hW8]; exact ((k_d2.below q.h).other (a := ⟨g_l, 2, none⟩) (by show ¬ g_d2 = g_l; omega) (.int .i64 s2))
  rw [← hW8]
  clear hW8
  clear B7
  clear c_b_0 c_b_1 c_b_2 c_b_3 c_b_4 c_b_5 c_b_6 c_b_7 c_b_8 c_v_0 c_v_1 c_v_2 c_r_0 c_r_1 c_r_2 c_l_0 f_l_0 c_l_1 f_l_1 c_l_2 f_l_2 c_d0_0 c_d0_1 c_d0_2 c_d1_0 c_d1_1 c_d1_2 c_d2_0 c_d2_1 c_d2_2
  have c_b_0 : ∀ p : BW W8, p.w.cell? ⟨w.heap.size, 0, none⟩ = some (.int .i64 u1) := bw_cell (k_b.cell rfl)
  have c_b_1 : ∀ p : BW W8, p.w.cell? ⟨w.heap.size, 1, none⟩ = some (.int .i64 u2) := bw_cell (k_b.cell rfl)
  have c_b_2 : ∀ p : BW W8, p.w.cell? ⟨w.heap.size, 2, none⟩ = some (.int .i64 u3) := bw_cell (k_b.cell rfl)
  have c_b_3 : ∀ p : BW W8, p.w.cell? ⟨w.heap.size, 3, none⟩ = some (.int .i64 v1) := bw_cell (k_b.cell rfl)
  have c_b_4 : ∀ p : BW W8, p.w.cell? ⟨w.heap.size, 4, none⟩ = some (.int .i64 v2) := bw_cell (k_b.cell rfl)
  have c_b_5 : ∀ p : BW W8, p.w.cell? ⟨w.heap.size, 5, none⟩ = some (.int .i64 v3) := bw_cell (k_b.cell rfl)
  have c_b_6 : ∀ p : BW W8, p.w.cell? ⟨w.heap.size, 6, none⟩ = some (.int .i64 m1) := bw_cell (k_b.cell rfl)
  have c_b_7 : ∀ p : BW W8, p.w.cell? ⟨w.heap.size, 7, none⟩ = some (.int .i64 m2) := bw_cell (k_b.cell rfl)
  have c_b_8 : ∀ p : BW W8, p.w.cell? ⟨w.heap.size, 8, none⟩ = some (.int .i64 m3) := bw_cell (k_b.cell rfl)
  have c_v_0 : ∀ p : BW W8, p.w.cell? ⟨g_v, 0, none⟩ = some (.int .i64 w1) := bw_cell (k_v.cell rfl)
  have c_v_1 : ∀ p : BW W8, p.w.cell? ⟨g_v, 1, none⟩ = some (.int .i64 w2) := bw_cell (k_v.cell rfl)
  have c_v_2 : ∀ p : BW W8, p.w.cell? ⟨g_v, 2, none⟩ = some (.int .i64 w3) := bw_cell (k_v.cell rfl)
  have c_r_0 : ∀ p : BW W8, p.w.cell? ⟨g_r, 0, none⟩ = some (.int .i64 0) := bw_cell (k_r.cell rfl)
  have f_r_0 : ∀ p : BW W8, p.w.frozen? ⟨g_r, 0, none⟩ = false := fun p => (k_r.below p.h).frozen 0
  have c_r_1 : ∀ p : BW W8, p.w.cell? ⟨g_r, 1, none⟩ = some (.int .i64 0) := bw_cell (k_r.cell rfl)
  have f_r_1 : ∀ p : BW W8, p.w.frozen? ⟨g_r, 1, none⟩ = false := fun p => (k_r.below p.h).frozen 1
  have c_r_2 : ∀ p : BW W8, p.w.cell? ⟨g_r, 2, none⟩ = some (.int .i64 0) := bw_cell (k_r.cell rfl)
  have f_r_2 : ∀ p : BW W8, p.w.frozen? ⟨g_r, 2, none⟩ = false := fun p => (k_r.below p.h).frozen 2
  have c_l_0 : ∀ p : BW W8, p.w.cell? ⟨g_l, 0, none⟩ = some (.int .i64 s0) := bw_cell (k_l.cell rfl)
  have c_l_1 : ∀ p : BW W8, p.w.cell? ⟨g_l, 1, none⟩ = some (.int .i64 s1) := bw_cell (k_l.cell rfl)
  have c_l_2 : ∀ p : BW W8, p.w.cell? ⟨g_l, 2, none⟩ = some (.int .i64 s2) := bw_cell (k_l.cell rfl)
  have c_d0_0 : ∀ p : BW W8, p.w.cell? ⟨g_d0, 0, none⟩ = some (.int .i64 u1) := bw_cell (k_d0.cell rfl)
  have c_d0_1 : ∀ p : BW W8, p.w.cell? ⟨g_d0, 1, none⟩ = some (.int .i64 u2) := bw_cell (k_d0.cell rfl)
  have c_d0_2 : ∀ p : BW W8, p.w.cell? ⟨g_d0, 2, none⟩ = some (.int .i64 u3) := bw_cell (k_d0.cell rfl)
  have c_d1_0 : ∀ p : BW W8, p.w.cell? ⟨g_d1, 0, none⟩ = some (.int .i64 v1) := bw_cell (k_d1.cell rfl)
  have c_d1_1 : ∀ p : BW W8, p.w.cell? ⟨g_d1, 1, none⟩ = some (.int .i64 v2) := bw_cell (k_d1.cell rfl)
  have c_d1_2 : ∀ p : BW W8, p.w.cell? ⟨g_d1, 2, none⟩ = some (.int .i64 v3) := bw_cell (k_d1.cell rfl)
  have c_d2_0 : ∀ p : BW W8, p.w.cell? ⟨g_d2, 0, none⟩ = some (.int .i64 m1) := bw_cell (k_d2.cell rfl)
  have c_d2_1 : ∀ p : BW W8, p.w.cell? ⟨g_d2, 1, none⟩ = some (.int .i64 m2) := bw_cell (k_d2.cell rfl)
  have c_d2_2 : ∀ p : BW W8, p.w.cell? ⟨g_d2, 2, none⟩ = some (.int .i64 m3) := bw_cell (k_d2.cell rfl)
  obtain ⟨p8, hp8⟩ : ∃ p : BW W8, p.w = W8 := ⟨BW.start W8, rfl⟩
  rw [← hp8]
  clear hp8
  go_wp2
  rw [rounds_succ]
  go_wp2_with (first
    | (go_at_call 33; (first | (with_reducible refine (bw_call V.out _).mono ?_)); rintro e w' ⟨rfl, q, rfl⟩))
  have kr : Bk (((q.w.setCell ⟨g_r, 0, none⟩ (.int .i64 r1)).setCell ⟨g_r, 1, none⟩ (.int .i64 r2)).setCell ⟨g_r, 2, none⟩ (.int .i64 r3)) (g_r) 23 #[.int .i64 r1, .int .i64 r2, .int .i64 r3] := ((((k_r.below q.h).set 0 (.int .i64 r1)).set 1 (.int .i64 r2)).set 2 (.int .i64 r3))
  have rc0 : World.cell? (((q.w.setCell ⟨g_r, 0, none⟩ (.int .i64 r1)).setCell ⟨g_r, 1, none⟩ (.int .i64 r2)).setCell ⟨g_r, 2, none⟩ (.int .i64 r3)) ⟨g_r, 0, none⟩ = some (.int .i64 r1) := kr.cell rfl
  have rc1 : World.cell? (((q.w.setCell ⟨g_r, 0, none⟩ (.int .i64 r1)).setCell ⟨g_r, 1, none⟩ (.int .i64 r2)).setCell ⟨g_r, 2, none⟩ (.int .i64 r3)) ⟨g_r, 1, none⟩ = some (.int .i64 r2) := kr.cell rfl
  have rc2 : World.cell? (((q.w.setCell ⟨g_r, 0, none⟩ (.int .i64 r1)).setCell ⟨g_r, 1, none⟩ (.int .i64 r2)).setCell ⟨g_r, 2, none⟩ (.int .i64 r3)) ⟨g_r, 2, none⟩ = some (.int .i64 r3) := kr.cell rfl
  exact bodyPost_ret (v := .agg #[.int .i64 r1, .int .i64 r2, .int .i64 r3]) (by simp [results, Try.results11, go_sem, rc0, rc1, rc2]) rfl ⟨rfl, ((((bw_below B8 q).setCell (p := ⟨g_r, 0, none⟩) (by show w.heap.size ≤ g_r; omega) _).setCell (p := ⟨g_r, 1, none⟩) (by show w.heap.size ≤ g_r; omega) _).setCell (p := ⟨g_r, 2, none⟩) (by show w.heap.size ≤ g_r; omega) _)⟩

theorem basis_Out (u1 u2 u3 v1 v2 v3 m1 m2 m3 w1 w2 w3 : Int) (w : World) :
    Calls Try.prog 9 #[.agg #[.int .i64 u1, .int .i64 u2, .int .i64 u3, .int .i64 v1, .int .i64 v2, .int .i64 v3, .int .i64 m1, .int .i64 m2, .int .i64 m3], .agg #[.int .i64 w1, .int .i64 w2, .int .i64 w3]] w fun e w' => e = .returned (.agg #[.int .i64 (bout (u1, u2, u3) (v1, v2, v3) (m1, m2, m3) (w1, w2, w3)).1, .int .i64 (bout (u1, u2, u3) (v1, v2, v3) (m1, m2, m3) (w1, w2, w3)).2.1, .int .i64 (bout (u1, u2, u3) (v1, v2, v3) (m1, m2, m3) (w1, w2, w3)).2.2]) ∧ Below w.heap.size w w' := by
  unfold bout
  by_cases h : allNear (u1, u2, u3) (v1, v2, v3) (m1, m2, m3) (w1, w2, w3) = true
  · rw [if_pos h]; exact basis_Out_yes u1 u2 u3 v1 v2 v3 m1 m2 m3 w1 w2 w3 w h
  · rw [if_neg h]; exact basis_Out_no u1 u2 u3 v1 v2 v3 m1 m2 m3 w1 w2 w3 w h

theorem basis_In (u1 u2 u3 v1 v2 v3 m1 m2 m3 w1 w2 w3 : Int) (w : World) :
    Calls Try.prog 11 #[.agg #[.int .i64 u1, .int .i64 u2, .int .i64 u3, .int .i64 v1, .int .i64 v2, .int .i64 v3, .int .i64 m1, .int .i64 m2, .int .i64 m3], .agg #[.int .i64 w1, .int .i64 w2, .int .i64 w3]] w fun e w' => e = .returned (.agg #[.int .i64 (bin (u1, u2, u3) (v1, v2, v3) (m1, m2, m3) (w1, w2, w3)).1, .int .i64 (bin (u1, u2, u3) (v1, v2, v3) (m1, m2, m3) (w1, w2, w3)).2.1, .int .i64 (bin (u1, u2, u3) (v1, v2, v3) (m1, m2, m3) (w1, w2, w3)).2.2]) ∧ Below w.heap.size w w' := by
  unfold bin
  by_cases h : allNear (u1, u2, u3) (v1, v2, v3) (m1, m2, m3) (w1, w2, w3) = true
  · rw [if_pos h]; exact basis_In_yes u1 u2 u3 v1 v2 v3 m1 m2 m3 w1 w2 w3 w h
  · rw [if_neg h]; exact basis_In_no u1 u2 u3 v1 v2 v3 m1 m2 m3 w1 w2 w3 w h

set_option maxRecDepth 100000 in
set_option maxHeartbeats 4000000 in
theorem basis_Mirror_no (d1 d2 d3 n1 n2 n3 : Int) (w : World) (h : ¬ (vnear d1 d2 d3 = true ∧ vnear n1 n2 n3 = true)) :
    Calls Try.prog 13 #[.agg #[.int .i64 d1, .int .i64 d2, .int .i64 d3], .agg #[.int .i64 n1, .int .i64 n2, .int .i64 n3]] w fun e w' => e = .returned (.agg #[.int .i64 0, .int .i64 0, .int .i64 0]) ∧ Below w.heap.size w w' := by
  have N1 := Lib.hid (fun w => vec_Near d1 d2 d3 w)
  have N2 := Lib.hid (fun w => vec_Near n1 n2 n3 w)
  have hc : (vnear d1 d2 d3 = false) ∨ (vnear d1 d2 d3 = true ∧ vnear n1 n2 n3 = false) := by
    cases h1 : vnear d1 d2 d3 <;> cases h2 : vnear n1 n2 n3 <;> simp [h1, h2] at h ⊢
  clear h
  generalize vnear d1 d2 d3 = na at *
  generalize vnear n1 n2 n3 = nb at *
  go_enter Try.func13, Try.ntmps13
  go_upto_region 1 with (fail)
  obtain ⟨W1, hW1⟩ : ∃ W, W = ((w.alloc (.cells #[.int .i64 d1, .int .i64 d2, .int .i64 d3] 23)).alloc (.cells #[.int .i64 n1, .int .i64 n2, .int .i64 n3] 23)).alloc (.cells #[.int .i64 0, .int .i64 0, .int .i64 0] 23) := ⟨_, rfl⟩
  have B1 : Below w.heap.size w W1 := by rw [hW1]; go_grown
  have k_a : Bk W1 (w.heap.size) 23 #[.int .i64 d1, .int .i64 d2, .int .i64 d3] := by rw [hW1]; exact ((Bk.new _ _ _).alloc _).alloc _
  have k_b : Bk W1 (w.heap.size + 1) 23 #[.int .i64 n1, .int .i64 n2, .int .i64 n3] := by rw [hW1]; exact (Bk.new_at _ _ _ _ (by simp)).alloc _
  have k_r : Bk W1 (w.heap.size + 1 + 1) 23 #[.int .i64 0, .int .i64 0, .int .i64 0] := by rw [hW1]; exact Bk.new_at _ _ _ _ (by simp)
  rw [← hW1]
  clear hW1
  have l_b : w.heap.size < w.heap.size + 1 := by omega
  have l_r : w.heap.size + 1 < w.heap.size + 1 + 1 := by omega
  generalize w.heap.size + 1 + 1 = g_r at *
  generalize w.heap.size + 1 = g_b at *
  have c_a_0 : ∀ p : BW W1, p.w.cell? ⟨w.heap.size, 0, none⟩ = some (.int .i64 d1) := bw_cell (k_a.cell rfl)
  have c_a_1 : ∀ p : BW W1, p.w.cell? ⟨w.heap.size, 1, none⟩ = some (.int .i64 d2) := bw_cell (k_a.cell rfl)
  have c_a_2 : ∀ p : BW W1, p.w.cell? ⟨w.heap.size, 2, none⟩ = some (.int .i64 d3) := bw_cell (k_a.cell rfl)
  have c_b_0 : ∀ p : BW W1, p.w.cell? ⟨g_b, 0, none⟩ = some (.int .i64 n1) := bw_cell (k_b.cell rfl)
  have c_b_1 : ∀ p : BW W1, p.w.cell? ⟨g_b, 1, none⟩ = some (.int .i64 n2) := bw_cell (k_b.cell rfl)
  have c_b_2 : ∀ p : BW W1, p.w.cell? ⟨g_b, 2, none⟩ = some (.int .i64 n3) := bw_cell (k_b.cell rfl)
  have c_r_0 : ∀ p : BW W1, p.w.cell? ⟨g_r, 0, none⟩ = some (.int .i64 0) := bw_cell (k_r.cell rfl)
  have f_r_0 : ∀ p : BW W1, p.w.frozen? ⟨g_r, 0, none⟩ = false := fun p => (k_r.below p.h).frozen 0
  have c_r_1 : ∀ p : BW W1, p.w.cell? ⟨g_r, 1, none⟩ = some (.int .i64 0) := bw_cell (k_r.cell rfl)
  have f_r_1 : ∀ p : BW W1, p.w.frozen? ⟨g_r, 1, none⟩ = false := fun p => (k_r.below p.h).frozen 1
  have c_r_2 : ∀ p : BW W1, p.w.cell? ⟨g_r, 2, none⟩ = some (.int .i64 0) := bw_cell (k_r.cell rfl)
  have f_r_2 : ∀ p : BW W1, p.w.frozen? ⟨g_r, 2, none⟩ = false := fun p => (k_r.below p.h).frozen 2
  obtain ⟨p1, hp1⟩ : ∃ p : BW W1, p.w = W1 := ⟨BW.start W1, rfl⟩
  rw [← hp1]
  clear hp1
  rcases hc with rfl | ⟨rfl, rfl⟩
  · clear k_a k_b
    go_wp2_with (first
      | (go_at_call 29; (first | (with_reducible refine (bw_call N1.out _).mono ?_) | (with_reducible refine (bw_call N2.out _).mono ?_)); rintro e w' ⟨rfl, q, rfl⟩))
    have kr : Bk (((q.w.setCell ⟨g_r, 0, none⟩ (.int .i64 0)).setCell ⟨g_r, 1, none⟩ (.int .i64 0)).setCell ⟨g_r, 2, none⟩ (.int .i64 0)) (g_r) 23 #[.int .i64 0, .int .i64 0, .int .i64 0] := ((((k_r.below q.h).set 0 (.int .i64 0)).set 1 (.int .i64 0)).set 2 (.int .i64 0))
    have rc0 : World.cell? (((q.w.setCell ⟨g_r, 0, none⟩ (.int .i64 0)).setCell ⟨g_r, 1, none⟩ (.int .i64 0)).setCell ⟨g_r, 2, none⟩ (.int .i64 0)) ⟨g_r, 0, none⟩ = some (.int .i64 0) := kr.cell rfl
    have rc1 : World.cell? (((q.w.setCell ⟨g_r, 0, none⟩ (.int .i64 0)).setCell ⟨g_r, 1, none⟩ (.int .i64 0)).setCell ⟨g_r, 2, none⟩ (.int .i64 0)) ⟨g_r, 1, none⟩ = some (.int .i64 0) := kr.cell rfl
    have rc2 : World.cell? (((q.w.setCell ⟨g_r, 0, none⟩ (.int .i64 0)).setCell ⟨g_r, 1, none⟩ (.int .i64 0)).setCell ⟨g_r, 2, none⟩ (.int .i64 0)) ⟨g_r, 2, none⟩ = some (.int .i64 0) := kr.cell rfl
    exact bodyPost_ret (v := .agg #[.int .i64 0, .int .i64 0, .int .i64 0]) (by simp [results, Try.results13, go_sem, rc0, rc1, rc2]) rfl ⟨rfl, ((((bw_below B1 q).setCell (p := ⟨g_r, 0, none⟩) (by show w.heap.size ≤ g_r; omega) _).setCell (p := ⟨g_r, 1, none⟩) (by show w.heap.size ≤ g_r; omega) _).setCell (p := ⟨g_r, 2, none⟩) (by show w.heap.size ≤ g_r; omega) _)⟩
  · clear k_a k_b
    go_wp2_with (first
      | (go_at_call 29; (first | (with_reducible refine (bw_call N1.out _).mono ?_) | (with_reducible refine (bw_call N2.out _).mono ?_)); rintro e w' ⟨rfl, q, rfl⟩))
    have kr : Bk (((q.w.setCell ⟨g_r, 0, none⟩ (.int .i64 0)).setCell ⟨g_r, 1, none⟩ (.int .i64 0)).setCell ⟨g_r, 2, none⟩ (.int .i64 0)) (g_r) 23 #[.int .i64 0, .int .i64 0, .int .i64 0] := ((((k_r.below q.h).set 0 (.int .i64 0)).set 1 (.int .i64 0)).set 2 (.int .i64 0))
    have rc0 : World.cell? (((q.w.setCell ⟨g_r, 0, none⟩ (.int .i64 0)).setCell ⟨g_r, 1, none⟩ (.int .i64 0)).setCell ⟨g_r, 2, none⟩ (.int .i64 0)) ⟨g_r, 0, none⟩ = some (.int .i64 0) := kr.cell rfl
    have rc1 : World.cell? (((q.w.setCell ⟨g_r, 0, none⟩ (.int .i64 0)).setCell ⟨g_r, 1, none⟩ (.int .i64 0)).setCell ⟨g_r, 2, none⟩ (.int .i64 0)) ⟨g_r, 1, none⟩ = some (.int .i64 0) := kr.cell rfl
    have rc2 : World.cell? (((q.w.setCell ⟨g_r, 0, none⟩ (.int .i64 0)).setCell ⟨g_r, 1, none⟩ (.int .i64 0)).setCell ⟨g_r, 2, none⟩ (.int .i64 0)) ⟨g_r, 2, none⟩ = some (.int .i64 0) := kr.cell rfl
    exact bodyPost_ret (v := .agg #[.int .i64 0, .int .i64 0, .int .i64 0]) (by simp [results, Try.results13, go_sem, rc0, rc1, rc2]) rfl ⟨rfl, ((((bw_below B1 q).setCell (p := ⟨g_r, 0, none⟩) (by show w.heap.size ≤ g_r; omega) _).setCell (p := ⟨g_r, 1, none⟩) (by show w.heap.size ≤ g_r; omega) _).setCell (p := ⟨g_r, 2, none⟩) (by show w.heap.size ≤ g_r; omega) _)⟩

set_option maxRecDepth 100000 in
set_option maxHeartbeats 4000000 in
theorem basis_Facing_no (n1 n2 n3 d1 d2 d3 : Int) (w : World) (h : ¬ (vnear d1 d2 d3 = true ∧ vnear n1 n2 n3 = true)) :
    Calls Try.prog 15 #[.agg #[.int .i64 n1, .int .i64 n2, .int .i64 n3], .agg #[.int .i64 d1, .int .i64 d2, .int .i64 d3]] w fun e w' => e = .returned (.agg #[.int .i64 0, .int .i64 0, .int .i64 0]) ∧ Below w.heap.size w w' := by
  have N1 := Lib.hid (fun w => vec_Near n1 n2 n3 w)
  have N2 := Lib.hid (fun w => vec_Near d1 d2 d3 w)
  have hc : (vnear n1 n2 n3 = false) ∨ (vnear n1 n2 n3 = true ∧ vnear d1 d2 d3 = false) := by
    cases h1 : vnear n1 n2 n3 <;> cases h2 : vnear d1 d2 d3 <;> simp [h1, h2] at h ⊢
  clear h
  generalize vnear n1 n2 n3 = na at *
  generalize vnear d1 d2 d3 = nb at *
  go_enter Try.func15, Try.ntmps15
  go_upto_region 1 with (fail)
  obtain ⟨W1, hW1⟩ : ∃ W, W = ((w.alloc (.cells #[.int .i64 n1, .int .i64 n2, .int .i64 n3] 23)).alloc (.cells #[.int .i64 d1, .int .i64 d2, .int .i64 d3] 23)).alloc (.cells #[.int .i64 0, .int .i64 0, .int .i64 0] 23) := ⟨_, rfl⟩
  have B1 : Below w.heap.size w W1 := by rw [hW1]; go_grown
  have k_a : Bk W1 (w.heap.size) 23 #[.int .i64 n1, .int .i64 n2, .int .i64 n3] := by rw [hW1]; exact ((Bk.new _ _ _).alloc _).alloc _
  have k_b : Bk W1 (w.heap.size + 1) 23 #[.int .i64 d1, .int .i64 d2, .int .i64 d3] := by rw [hW1]; exact (Bk.new_at _ _ _ _ (by simp)).alloc _
  have k_r : Bk W1 (w.heap.size + 1 + 1) 23 #[.int .i64 0, .int .i64 0, .int .i64 0] := by rw [hW1]; exact Bk.new_at _ _ _ _ (by simp)
  rw [← hW1]
  clear hW1
  have l_b : w.heap.size < w.heap.size + 1 := by omega
  have l_r : w.heap.size + 1 < w.heap.size + 1 + 1 := by omega
  generalize w.heap.size + 1 + 1 = g_r at *
  generalize w.heap.size + 1 = g_b at *
  have c_a_0 : ∀ p : BW W1, p.w.cell? ⟨w.heap.size, 0, none⟩ = some (.int .i64 n1) := bw_cell (k_a.cell rfl)
  have c_a_1 : ∀ p : BW W1, p.w.cell? ⟨w.heap.size, 1, none⟩ = some (.int .i64 n2) := bw_cell (k_a.cell rfl)
  have c_a_2 : ∀ p : BW W1, p.w.cell? ⟨w.heap.size, 2, none⟩ = some (.int .i64 n3) := bw_cell (k_a.cell rfl)
  have c_b_0 : ∀ p : BW W1, p.w.cell? ⟨g_b, 0, none⟩ = some (.int .i64 d1) := bw_cell (k_b.cell rfl)
  have c_b_1 : ∀ p : BW W1, p.w.cell? ⟨g_b, 1, none⟩ = some (.int .i64 d2) := bw_cell (k_b.cell rfl)
  have c_b_2 : ∀ p : BW W1, p.w.cell? ⟨g_b, 2, none⟩ = some (.int .i64 d3) := bw_cell (k_b.cell rfl)
  have c_r_0 : ∀ p : BW W1, p.w.cell? ⟨g_r, 0, none⟩ = some (.int .i64 0) := bw_cell (k_r.cell rfl)
  have f_r_0 : ∀ p : BW W1, p.w.frozen? ⟨g_r, 0, none⟩ = false := fun p => (k_r.below p.h).frozen 0
  have c_r_1 : ∀ p : BW W1, p.w.cell? ⟨g_r, 1, none⟩ = some (.int .i64 0) := bw_cell (k_r.cell rfl)
  have f_r_1 : ∀ p : BW W1, p.w.frozen? ⟨g_r, 1, none⟩ = false := fun p => (k_r.below p.h).frozen 1
  have c_r_2 : ∀ p : BW W1, p.w.cell? ⟨g_r, 2, none⟩ = some (.int .i64 0) := bw_cell (k_r.cell rfl)
  have f_r_2 : ∀ p : BW W1, p.w.frozen? ⟨g_r, 2, none⟩ = false := fun p => (k_r.below p.h).frozen 2
  obtain ⟨p1, hp1⟩ : ∃ p : BW W1, p.w = W1 := ⟨BW.start W1, rfl⟩
  rw [← hp1]
  clear hp1
  rcases hc with rfl | ⟨rfl, rfl⟩
  · clear k_a k_b
    go_wp2_with (first
      | (go_at_call 29; (first | (with_reducible refine (bw_call N1.out _).mono ?_) | (with_reducible refine (bw_call N2.out _).mono ?_)); rintro e w' ⟨rfl, q, rfl⟩))
    have kr : Bk (((q.w.setCell ⟨g_r, 0, none⟩ (.int .i64 0)).setCell ⟨g_r, 1, none⟩ (.int .i64 0)).setCell ⟨g_r, 2, none⟩ (.int .i64 0)) (g_r) 23 #[.int .i64 0, .int .i64 0, .int .i64 0] := ((((k_r.below q.h).set 0 (.int .i64 0)).set 1 (.int .i64 0)).set 2 (.int .i64 0))
    have rc0 : World.cell? (((q.w.setCell ⟨g_r, 0, none⟩ (.int .i64 0)).setCell ⟨g_r, 1, none⟩ (.int .i64 0)).setCell ⟨g_r, 2, none⟩ (.int .i64 0)) ⟨g_r, 0, none⟩ = some (.int .i64 0) := kr.cell rfl
    have rc1 : World.cell? (((q.w.setCell ⟨g_r, 0, none⟩ (.int .i64 0)).setCell ⟨g_r, 1, none⟩ (.int .i64 0)).setCell ⟨g_r, 2, none⟩ (.int .i64 0)) ⟨g_r, 1, none⟩ = some (.int .i64 0) := kr.cell rfl
    have rc2 : World.cell? (((q.w.setCell ⟨g_r, 0, none⟩ (.int .i64 0)).setCell ⟨g_r, 1, none⟩ (.int .i64 0)).setCell ⟨g_r, 2, none⟩ (.int .i64 0)) ⟨g_r, 2, none⟩ = some (.int .i64 0) := kr.cell rfl
    exact bodyPost_ret (v := .agg #[.int .i64 0, .int .i64 0, .int .i64 0]) (by simp [results, Try.results15, go_sem, rc0, rc1, rc2]) rfl ⟨rfl, ((((bw_below B1 q).setCell (p := ⟨g_r, 0, none⟩) (by show w.heap.size ≤ g_r; omega) _).setCell (p := ⟨g_r, 1, none⟩) (by show w.heap.size ≤ g_r; omega) _).setCell (p := ⟨g_r, 2, none⟩) (by show w.heap.size ≤ g_r; omega) _)⟩
  · clear k_a k_b
    go_wp2_with (first
      | (go_at_call 29; (first | (with_reducible refine (bw_call N1.out _).mono ?_) | (with_reducible refine (bw_call N2.out _).mono ?_)); rintro e w' ⟨rfl, q, rfl⟩))
    have kr : Bk (((q.w.setCell ⟨g_r, 0, none⟩ (.int .i64 0)).setCell ⟨g_r, 1, none⟩ (.int .i64 0)).setCell ⟨g_r, 2, none⟩ (.int .i64 0)) (g_r) 23 #[.int .i64 0, .int .i64 0, .int .i64 0] := ((((k_r.below q.h).set 0 (.int .i64 0)).set 1 (.int .i64 0)).set 2 (.int .i64 0))
    have rc0 : World.cell? (((q.w.setCell ⟨g_r, 0, none⟩ (.int .i64 0)).setCell ⟨g_r, 1, none⟩ (.int .i64 0)).setCell ⟨g_r, 2, none⟩ (.int .i64 0)) ⟨g_r, 0, none⟩ = some (.int .i64 0) := kr.cell rfl
    have rc1 : World.cell? (((q.w.setCell ⟨g_r, 0, none⟩ (.int .i64 0)).setCell ⟨g_r, 1, none⟩ (.int .i64 0)).setCell ⟨g_r, 2, none⟩ (.int .i64 0)) ⟨g_r, 1, none⟩ = some (.int .i64 0) := kr.cell rfl
    have rc2 : World.cell? (((q.w.setCell ⟨g_r, 0, none⟩ (.int .i64 0)).setCell ⟨g_r, 1, none⟩ (.int .i64 0)).setCell ⟨g_r, 2, none⟩ (.int .i64 0)) ⟨g_r, 2, none⟩ = some (.int .i64 0) := kr.cell rfl
    exact bodyPost_ret (v := .agg #[.int .i64 0, .int .i64 0, .int .i64 0]) (by simp [results, Try.results15, go_sem, rc0, rc1, rc2]) rfl ⟨rfl, ((((bw_below B1 q).setCell (p := ⟨g_r, 0, none⟩) (by show w.heap.size ≤ g_r; omega) _).setCell (p := ⟨g_r, 1, none⟩) (by show w.heap.size ≤ g_r; omega) _).setCell (p := ⟨g_r, 2, none⟩) (by show w.heap.size ≤ g_r; omega) _)⟩

set_option maxRecDepth 100000 in
set_option maxHeartbeats 4000000 in
theorem basis_Mirror_yes (d1 d2 d3 n1 n2 n3 : Int) (w : World) (h1 : vnear d1 d2 d3 = true) (h2 : vnear n1 n2 n3 = true) :
    Calls Try.prog 13 #[.agg #[.int .i64 d1, .int .i64 d2, .int .i64 d3], .agg #[.int .i64 n1, .int .i64 n2, .int .i64 n3]] w fun e w' => e = .returned (.agg #[.int .i64 (d1 - n1 * (2 * (d1 * n1 + d2 * n2 + d3 * n3)) / 268435456), .int .i64 (d2 - n2 * (2 * (d1 * n1 + d2 * n2 + d3 * n3)) / 268435456), .int .i64 (d3 - n3 * (2 * (d1 * n1 + d2 * n2 + d3 * n3)) / 268435456)]) ∧ Below w.heap.size w w' := by
  have N1 := Lib.hid (fun w => vec_Near d1 d2 d3 w)
  have N2 := Lib.hid (fun w => vec_Near n1 n2 n3 w)
  rw [h1] at N1
  rw [h2] at N2
  have D := Lib.hid (fun w => vec_Dot d1 d2 d3 n1 n2 n3 w)
  rw [bs_dot h1 h2] at D
  have i1 := bs_dot_in h1 h2
  rw [vnear_iff] at h1 h2
  generalize d1 * n1 + d2 * n2 + d3 * n3 = s at *
  obtain ⟨k, hk⟩ : ∃ k, k = 2 * s := ⟨_, rfl⟩
  have e0 : IntKind.i64.wrap k = k := by rw [i64w]; omega
  have f0 : wrap64 k = k := by unfold wrap64; omega
  have g0 : 2 * s = k := hk.symm
  rw [← hk]
  have hkb : -6597069766656 ≤ k ∧ k ≤ 6597069766656 := by omega
  clear hk i1
  have m1 := mul_in (x := n1) (a := k) (N := 1048576) (M := 6597069766656) (by omega) hkb
  obtain ⟨t1, ht1⟩ : ∃ t, t = n1 * k := ⟨_, rfl⟩
  rw [← ht1] at m1 ⊢
  have m2 := mul_in (x := n2) (a := k) (N := 1048576) (M := 6597069766656) (by omega) hkb
  obtain ⟨t2, ht2⟩ : ∃ t, t = n2 * k := ⟨_, rfl⟩
  rw [← ht2] at m2 ⊢
  have m3 := mul_in (x := n3) (a := k) (N := 1048576) (M := 6597069766656) (by omega) hkb
  obtain ⟨t3, ht3⟩ : ∃ t, t = n3 * k := ⟨_, rfl⟩
  rw [← ht3] at m3 ⊢
  have T := Lib.hid (fun w => basis_times n1 n2 n3 k t1 t2 t3 w ht1.symm ht2.symm ht3.symm (by unfold I64; omega) (by unfold I64; omega) (by unfold I64; omega))
  have V := Lib.hid (fun w => basis_over t1 t2 t3 268435456 w (by unfold I64; omega) (by unfold I64; omega) (by unfold I64; omega) (by unfold I64; omega) (by omega))
  have b1 : -6597069766656 ≤ t1 / 268435456 ∧ t1 / 268435456 ≤ 6597069766656 := by omega
  generalize t1 / 268435456 = q1 at *
  have b2 : -6597069766656 ≤ t2 / 268435456 ∧ t2 / 268435456 ≤ 6597069766656 := by omega
  generalize t2 / 268435456 = q2 at *
  have b3 : -6597069766656 ≤ t3 / 268435456 ∧ t3 / 268435456 ≤ 6597069766656 := by omega
  generalize t3 / 268435456 = q3 at *
  have S := Lib.hid (fun w => vec_Sub d1 d2 d3 q1 q2 q3 w (by unfold I64; omega) (by unfold I64; omega) (by unfold I64; omega) (by unfold I64; omega) (by unfold I64; omega) (by unfold I64; omega))
  rw [show vsub d1 q1 = d1 - q1 by unfold vsub; rw [bs_sat (x := q1 * -1) (by omega), bs_sat (by omega)]; omega, show vsub d2 q2 = d2 - q2 by unfold vsub; rw [bs_sat (x := q2 * -1) (by omega), bs_sat (by omega)]; omega, show vsub d3 q3 = d3 - q3 by unfold vsub; rw [bs_sat (x := q3 * -1) (by omega), bs_sat (by omega)]; omega] at S
  generalize d1 - q1 = r1 at *
  generalize d2 - q2 = r2 at *
  generalize d3 - q3 = r3 at *
  clear h1 h2 hkb ht1 ht2 ht3 m1 m2 m3 b1 b2 b3
  go_enter Try.func13, Try.ntmps13
  go_upto_region 1 with (fail)
  obtain ⟨W1, hW1⟩ : ∃ W, W = ((w.alloc (.cells #[.int .i64 d1, .int .i64 d2, .int .i64 d3] 23)).alloc (.cells #[.int .i64 n1, .int .i64 n2, .int .i64 n3] 23)).alloc (.cells #[.int .i64 0, .int .i64 0, .int .i64 0] 23) := ⟨_, rfl⟩
  have B1 : Below w.heap.size w W1 := by rw [hW1]; go_grown
  have k_a : Bk W1 (w.heap.size) 23 #[.int .i64 d1, .int .i64 d2, .int .i64 d3] := by rw [hW1]; exact ((Bk.new _ _ _).alloc _).alloc _
  have k_b : Bk W1 (w.heap.size + 1) 23 #[.int .i64 n1, .int .i64 n2, .int .i64 n3] := by rw [hW1]; exact (Bk.new_at _ _ _ _ (by simp)).alloc _
  have k_r : Bk W1 (w.heap.size + 1 + 1) 23 #[.int .i64 0, .int .i64 0, .int .i64 0] := by rw [hW1]; exact Bk.new_at _ _ _ _ (by simp)
  rw [← hW1]
  clear hW1
  have l_b : w.heap.size < w.heap.size + 1 := by omega
  have l_r : w.heap.size + 1 < w.heap.size + 1 + 1 := by omega
  generalize w.heap.size + 1 + 1 = g_r at *
  generalize w.heap.size + 1 = g_b at *
  have c_a_0 : ∀ p : BW W1, p.w.cell? ⟨w.heap.size, 0, none⟩ = some (.int .i64 d1) := bw_cell (k_a.cell rfl)
  have c_a_1 : ∀ p : BW W1, p.w.cell? ⟨w.heap.size, 1, none⟩ = some (.int .i64 d2) := bw_cell (k_a.cell rfl)
  have c_a_2 : ∀ p : BW W1, p.w.cell? ⟨w.heap.size, 2, none⟩ = some (.int .i64 d3) := bw_cell (k_a.cell rfl)
  have c_b_0 : ∀ p : BW W1, p.w.cell? ⟨g_b, 0, none⟩ = some (.int .i64 n1) := bw_cell (k_b.cell rfl)
  have c_b_1 : ∀ p : BW W1, p.w.cell? ⟨g_b, 1, none⟩ = some (.int .i64 n2) := bw_cell (k_b.cell rfl)
  have c_b_2 : ∀ p : BW W1, p.w.cell? ⟨g_b, 2, none⟩ = some (.int .i64 n3) := bw_cell (k_b.cell rfl)
  have c_r_0 : ∀ p : BW W1, p.w.cell? ⟨g_r, 0, none⟩ = some (.int .i64 0) := bw_cell (k_r.cell rfl)
  have c_r_1 : ∀ p : BW W1, p.w.cell? ⟨g_r, 1, none⟩ = some (.int .i64 0) := bw_cell (k_r.cell rfl)
  have c_r_2 : ∀ p : BW W1, p.w.cell? ⟨g_r, 2, none⟩ = some (.int .i64 0) := bw_cell (k_r.cell rfl)
  obtain ⟨p1, hp1⟩ : ∃ p : BW W1, p.w = W1 := ⟨BW.start W1, rfl⟩
  rw [← hp1]
  clear hp1
  go_upto_region 3 with (first
    | (go_at_call 29; (first | (with_reducible refine (bw_call N1.out _).mono ?_) | (with_reducible refine (bw_call N2.out _).mono ?_)); rintro e w' ⟨rfl, q, rfl⟩))
  refine wp_region_float (t := 23) (zs := #[.int .i64 0, .int .i64 0, .int .i64 0]) 7 6 5 25 (by kernel_rfl) (by kernel_rfl) (by kernel_rfl) (by kernel_rfl) (by kernel_rfl) rfl ?_ ?_
  · intro ev wx
    simp [execOp, go_sem]
  apply Exists.intro
  refine ⟨?_, ?_⟩
  · intro wb' hwb'
    have d_a_0 : ∀ q : BW wb', q.w.cell? ⟨w.heap.size, 0, none⟩ = some (.int .i64 d1) := bw_cell ((k_a.below hwb').cell rfl)
    have d_a_1 : ∀ q : BW wb', q.w.cell? ⟨w.heap.size, 1, none⟩ = some (.int .i64 d2) := bw_cell ((k_a.below hwb').cell rfl)
    have d_a_2 : ∀ q : BW wb', q.w.cell? ⟨w.heap.size, 2, none⟩ = some (.int .i64 d3) := bw_cell ((k_a.below hwb').cell rfl)
    have d_b_0 : ∀ q : BW wb', q.w.cell? ⟨g_b, 0, none⟩ = some (.int .i64 n1) := bw_cell ((k_b.below hwb').cell rfl)
    have d_b_1 : ∀ q : BW wb', q.w.cell? ⟨g_b, 1, none⟩ = some (.int .i64 n2) := bw_cell ((k_b.below hwb').cell rfl)
    have d_b_2 : ∀ q : BW wb', q.w.cell? ⟨g_b, 2, none⟩ = some (.int .i64 n3) := bw_cell ((k_b.below hwb').cell rfl)
    have d_r_0 : ∀ q : BW wb', q.w.cell? ⟨g_r, 0, none⟩ = some (.int .i64 0) := bw_cell ((k_r.below hwb').cell rfl)
    have d_r_1 : ∀ q : BW wb', q.w.cell? ⟨g_r, 1, none⟩ = some (.int .i64 0) := bw_cell ((k_r.below hwb').cell rfl)
    have d_r_2 : ∀ q : BW wb', q.w.cell? ⟨g_r, 2, none⟩ = some (.int .i64 0) := bw_cell ((k_r.below hwb').cell rfl)
    simp only [maskAt, List.take_succ_cons, List.take_zero]
    repeat (go_big_quiet_step (first
      | (go_at_call 37; (first | (with_reducible exact bw_call D.out _)))
      | (go_at_call 32; (first | (with_reducible exact bw_call T.out _)))))
    refine wpQuiet_nil ?_
    exact rfl
  intro W2 g_k hW hg k_k
  have B2 : Below w.heap.size w W2 := B1.trans (hW.mono B1.size)
  have l_k : g_r < g_k := Nat.lt_of_lt_of_le k_r.lt hg
  have k_a := k_a.below hW
  have k_b := k_b.below hW
  have k_r := k_r.below hW
  clear hW hg B1
  clear c_a_0 c_a_1 c_a_2 c_b_0 c_b_1 c_b_2 c_r_0 c_r_1 c_r_2
  simp only [List.drop_succ_cons, List.drop_zero, Act.put, List.setIfInBounds_toArray, List.set_cons_zero, List.set_cons_succ]
  have c_a_0 : ∀ p : BW W2, p.w.cell? ⟨w.heap.size, 0, none⟩ = some (.int .i64 d1) := bw_cell (k_a.cell rfl)
  have c_a_1 : ∀ p : BW W2, p.w.cell? ⟨w.heap.size, 1, none⟩ = some (.int .i64 d2) := bw_cell (k_a.cell rfl)
  have c_a_2 : ∀ p : BW W2, p.w.cell? ⟨w.heap.size, 2, none⟩ = some (.int .i64 d3) := bw_cell (k_a.cell rfl)
  have c_b_0 : ∀ p : BW W2, p.w.cell? ⟨g_b, 0, none⟩ = some (.int .i64 n1) := bw_cell (k_b.cell rfl)
  have c_b_1 : ∀ p : BW W2, p.w.cell? ⟨g_b, 1, none⟩ = some (.int .i64 n2) := bw_cell (k_b.cell rfl)
  have c_b_2 : ∀ p : BW W2, p.w.cell? ⟨g_b, 2, none⟩ = some (.int .i64 n3) := bw_cell (k_b.cell rfl)
  have c_r_0 : ∀ p : BW W2, p.w.cell? ⟨g_r, 0, none⟩ = some (.int .i64 0) := bw_cell (k_r.cell rfl)
  have c_r_1 : ∀ p : BW W2, p.w.cell? ⟨g_r, 1, none⟩ = some (.int .i64 0) := bw_cell (k_r.cell rfl)
  have c_r_2 : ∀ p : BW W2, p.w.cell? ⟨g_r, 2, none⟩ = some (.int .i64 0) := bw_cell (k_r.cell rfl)
  have c_k_0 : ∀ p : BW W2, p.w.cell? ⟨g_k, 0, none⟩ = some (.int .i64 0) := bw_cell (k_k.cell rfl)
  have f_k_0 : ∀ p : BW W2, p.w.frozen? ⟨g_k, 0, none⟩ = false := fun p => (k_k.below p.h).frozen 0
  have c_k_1 : ∀ p : BW W2, p.w.cell? ⟨g_k, 1, none⟩ = some (.int .i64 0) := bw_cell (k_k.cell rfl)
  have f_k_1 : ∀ p : BW W2, p.w.frozen? ⟨g_k, 1, none⟩ = false := fun p => (k_k.below p.h).frozen 1
  have c_k_2 : ∀ p : BW W2, p.w.cell? ⟨g_k, 2, none⟩ = some (.int .i64 0) := bw_cell (k_k.cell rfl)
  have f_k_2 : ∀ p : BW W2, p.w.frozen? ⟨g_k, 2, none⟩ = false := fun p => (k_k.below p.h).frozen 2
  obtain ⟨p2, hp2⟩ : ∃ p : BW W2, p.w = W2 := ⟨BW.start W2, rfl⟩
  rw [← hp2]
  clear hp2
  go_upto_region 4 with (fail)
  obtain ⟨W3, hW3⟩ : ∃ W, W = ((p2.w.setCell ⟨g_k, 0, none⟩ (.int .i64 t1)).setCell ⟨g_k, 1, none⟩ (.int .i64 t2)).setCell ⟨g_k, 2, none⟩ (.int .i64 t3) := ⟨_, rfl⟩
  have B3 : Below w.heap.size w W3 := by rw [hW3]; exact ((((bw_below B2 p2).setCell (p := ⟨g_k, 0, none⟩) (by show w.heap.size ≤ g_k; omega) _).setCell (p := ⟨g_k, 1, none⟩) (by show w.heap.size ≤ g_k; omega) _).setCell (p := ⟨g_k, 2, none⟩) (by show w.heap.size ≤ g_k; omega) _)
  have k_a : Bk W3 (w.heap.size) 23 #[.int .i64 d1, .int .i64 d2, .int .i64 d3] := by rw [hW3]; exact ((((k_a.below p2.h).other (a := ⟨g_k, 0, none⟩) (by show ¬ w.heap.size = g_k; omega) (.int .i64 t1)).other (a := ⟨g_k, 1, none⟩) (by show ¬ w.heap.size = g_k; omega) (.int .i64 t2)).other (a := ⟨g_k, 2, none⟩) (by show ¬ w.heap.size = g_k; omega) (.int .i64 t3))
  have k_b : Bk W3 (g_b) 23 #[.int .i64 n1, .int .i64 n2, .int .i64 n3] := by rw [hW3]; exact ((((k_b.below p2.h).other (a := ⟨g_k, 0, none⟩) (by show ¬ g_b = g_k; omega) (.int .i64 t1)).other (a := ⟨g_k, 1, none⟩) (by show ¬ g_b = g_k; omega) (.int .i64 t2)).other (a := ⟨g_k, 2, none⟩) (by show ¬ g_b = g_k; omega) (.int .i64 t3))
  have k_r : Bk W3 (g_r) 23 #[.int .i64 0, .int .i64 0, .int .i64 0] := by rw [hW3]; exact ((((k_r.below p2.h).other (a := ⟨g_k, 0, none⟩) (by show ¬ g_r = g_k; omega) (.int .i64 t1)).other (a := ⟨g_k, 1, none⟩) (by show ¬ g_r = g_k; omega) (.int .i64 t2)).other (a := ⟨g_k, 2, none⟩) (by show ¬ g_r = g_k; omega) (.int .i64 t3))
  have k_k : Bk W3 (g_k) 23 #[.int .i64 t1, .int .i64 t2, .int .i64 t3] := by rw [hW3]; exact ((((k_k.below p2.h).set 0 (.int .i64 t1)).set 1 (.int .i64 t2)).set 2 (.int .i64 t3))
  rw [← hW3]
  clear hW3
  clear B2
  clear c_a_0 c_a_1 c_a_2 c_b_0 c_b_1 c_b_2 c_r_0 c_r_1 c_r_2 c_k_0 f_k_0 c_k_1 f_k_1 c_k_2 f_k_2
  have c_a_0 : ∀ p : BW W3, p.w.cell? ⟨w.heap.size, 0, none⟩ = some (.int .i64 d1) := bw_cell (k_a.cell rfl)
  have c_a_1 : ∀ p : BW W3, p.w.cell? ⟨w.heap.size, 1, none⟩ = some (.int .i64 d2) := bw_cell (k_a.cell rfl)
  have c_a_2 : ∀ p : BW W3, p.w.cell? ⟨w.heap.size, 2, none⟩ = some (.int .i64 d3) := bw_cell (k_a.cell rfl)
  have c_b_0 : ∀ p : BW W3, p.w.cell? ⟨g_b, 0, none⟩ = some (.int .i64 n1) := bw_cell (k_b.cell rfl)
  have c_b_1 : ∀ p : BW W3, p.w.cell? ⟨g_b, 1, none⟩ = some (.int .i64 n2) := bw_cell (k_b.cell rfl)
  have c_b_2 : ∀ p : BW W3, p.w.cell? ⟨g_b, 2, none⟩ = some (.int .i64 n3) := bw_cell (k_b.cell rfl)
  have c_r_0 : ∀ p : BW W3, p.w.cell? ⟨g_r, 0, none⟩ = some (.int .i64 0) := bw_cell (k_r.cell rfl)
  have f_r_0 : ∀ p : BW W3, p.w.frozen? ⟨g_r, 0, none⟩ = false := fun p => (k_r.below p.h).frozen 0
  have c_r_1 : ∀ p : BW W3, p.w.cell? ⟨g_r, 1, none⟩ = some (.int .i64 0) := bw_cell (k_r.cell rfl)
  have f_r_1 : ∀ p : BW W3, p.w.frozen? ⟨g_r, 1, none⟩ = false := fun p => (k_r.below p.h).frozen 1
  have c_r_2 : ∀ p : BW W3, p.w.cell? ⟨g_r, 2, none⟩ = some (.int .i64 0) := bw_cell (k_r.cell rfl)
  have f_r_2 : ∀ p : BW W3, p.w.frozen? ⟨g_r, 2, none⟩ = false := fun p => (k_r.below p.h).frozen 2
  have c_k_0 : ∀ p : BW W3, p.w.cell? ⟨g_k, 0, none⟩ = some (.int .i64 t1) := bw_cell (k_k.cell rfl)
  have c_k_1 : ∀ p : BW W3, p.w.cell? ⟨g_k, 1, none⟩ = some (.int .i64 t2) := bw_cell (k_k.cell rfl)
  have c_k_2 : ∀ p : BW W3, p.w.cell? ⟨g_k, 2, none⟩ = some (.int .i64 t3) := bw_cell (k_k.cell rfl)
  obtain ⟨p3, hp3⟩ : ∃ p : BW W3, p.w = W3 := ⟨BW.start W3, rfl⟩
  rw [← hp3]
  clear hp3
  refine wp_region_bw_tail 4 (by kernel_rfl) (by kernel_rfl) (by kernel_rfl) ?_
  simp only [List.take_succ_cons, List.take_zero, List.drop_succ_cons, List.drop_zero]
  repeat (go_big_quiet_step (first
    | (go_at_call 33; (first | (with_reducible exact bw_call V.out _)))
    | (go_at_call 38; (first | (with_reducible exact bw_call S.out _)))))
  refine wpQuiet_nil ?_
  intro _ hw'
  obtain ⟨q, rfl⟩ := hw'
  go_wp2
  have kr : Bk (((q.w.setCell ⟨g_r, 0, none⟩ (.int .i64 r1)).setCell ⟨g_r, 1, none⟩ (.int .i64 r2)).setCell ⟨g_r, 2, none⟩ (.int .i64 r3)) (g_r) 23 #[.int .i64 r1, .int .i64 r2, .int .i64 r3] := ((((k_r.below q.h).set 0 (.int .i64 r1)).set 1 (.int .i64 r2)).set 2 (.int .i64 r3))
  have rc0 : World.cell? (((q.w.setCell ⟨g_r, 0, none⟩ (.int .i64 r1)).setCell ⟨g_r, 1, none⟩ (.int .i64 r2)).setCell ⟨g_r, 2, none⟩ (.int .i64 r3)) ⟨g_r, 0, none⟩ = some (.int .i64 r1) := kr.cell rfl
  have rc1 : World.cell? (((q.w.setCell ⟨g_r, 0, none⟩ (.int .i64 r1)).setCell ⟨g_r, 1, none⟩ (.int .i64 r2)).setCell ⟨g_r, 2, none⟩ (.int .i64 r3)) ⟨g_r, 1, none⟩ = some (.int .i64 r2) := kr.cell rfl
  have rc2 : World.cell? (((q.w.setCell ⟨g_r, 0, none⟩ (.int .i64 r1)).setCell ⟨g_r, 1, none⟩ (.int .i64 r2)).setCell ⟨g_r, 2, none⟩ (.int .i64 r3)) ⟨g_r, 2, none⟩ = some (.int .i64 r3) := kr.cell rfl
  exact bodyPost_ret (v := .agg #[.int .i64 r1, .int .i64 r2, .int .i64 r3]) (by simp [results, Try.results13, go_sem, rc0, rc1, rc2]) rfl ⟨rfl, ((((bw_below B3 q).setCell (p := ⟨g_r, 0, none⟩) (by show w.heap.size ≤ g_r; omega) _).setCell (p := ⟨g_r, 1, none⟩) (by show w.heap.size ≤ g_r; omega) _).setCell (p := ⟨g_r, 2, none⟩) (by show w.heap.size ≤ g_r; omega) _)⟩

theorem basis_Mirror (d1 d2 d3 n1 n2 n3 : Int) (w : World) :
    Calls Try.prog 13 #[.agg #[.int .i64 d1, .int .i64 d2, .int .i64 d3], .agg #[.int .i64 n1, .int .i64 n2, .int .i64 n3]] w fun e w' => e = .returned (.agg #[.int .i64 (mir (d1, d2, d3) (n1, n2, n3)).1, .int .i64 (mir (d1, d2, d3) (n1, n2, n3)).2.1, .int .i64 (mir (d1, d2, d3) (n1, n2, n3)).2.2]) ∧ Below w.heap.size w w' := by
  unfold mir
  by_cases h : nrT (d1, d2, d3) = true ∧ nrT (n1, n2, n3) = true
  · rw [if_pos h]; exact basis_Mirror_yes d1 d2 d3 n1 n2 n3 w h.1 h.2
  · rw [if_neg h]; exact basis_Mirror_no d1 d2 d3 n1 n2 n3 w h

set_option maxRecDepth 100000 in
set_option maxHeartbeats 4000000 in
theorem basis_Facing_yes (n1 n2 n3 d1 d2 d3 : Int) (w : World) (h1 : vnear d1 d2 d3 = true) (h2 : vnear n1 n2 n3 = true) :
    Calls Try.prog 15 #[.agg #[.int .i64 n1, .int .i64 n2, .int .i64 n3], .agg #[.int .i64 d1, .int .i64 d2, .int .i64 d3]] w fun e w' => e = .returned (.agg #[.int .i64 (if 0 < n1 * d1 + n2 * d2 + n3 * d3 then (-n1, -n2, -n3) else (n1, n2, n3)).1, .int .i64 (if 0 < n1 * d1 + n2 * d2 + n3 * d3 then (-n1, -n2, -n3) else (n1, n2, n3)).2.1, .int .i64 (if 0 < n1 * d1 + n2 * d2 + n3 * d3 then (-n1, -n2, -n3) else (n1, n2, n3)).2.2]) ∧ Below w.heap.size w w' := by
  have N1 := Lib.hid (fun w => vec_Near n1 n2 n3 w)
  have N2 := Lib.hid (fun w => vec_Near d1 d2 d3 w)
  rw [h1] at N2
  rw [h2] at N1
  have D := Lib.hid (fun w => vec_Dot n1 n2 n3 d1 d2 d3 w)
  rw [bs_dot h2 h1] at D
  rw [vnear_iff] at h1 h2
  generalize n1 * d1 + n2 * d2 + n3 * d3 = s at *
  have T := Lib.hid (fun w => basis_times n1 n2 n3 (-1) (-n1) (-n2) (-n3) w (by omega) (by omega) (by omega) (by unfold I64; omega) (by unfold I64; omega) (by unfold I64; omega))
  generalize hm1 : -n1 = r1 at *
  generalize hm2 : -n2 = r2 at *
  generalize hm3 : -n3 = r3 at *
  clear h1 h2 hm1 hm2 hm3
  by_cases hs : 0 < s
  · rw [if_pos hs]
    have t : decide (0 < s) = true := decide_eq_true hs
    clear hs
    go_enter Try.func15, Try.ntmps15
    go_upto_region 1 with (fail)
    obtain ⟨W1, hW1⟩ : ∃ W, W = ((w.alloc (.cells #[.int .i64 n1, .int .i64 n2, .int .i64 n3] 23)).alloc (.cells #[.int .i64 d1, .int .i64 d2, .int .i64 d3] 23)).alloc (.cells #[.int .i64 0, .int .i64 0, .int .i64 0] 23) := ⟨_, rfl⟩
    have B1 : Below w.heap.size w W1 := by rw [hW1]; go_grown
    have k_a : Bk W1 (w.heap.size) 23 #[.int .i64 n1, .int .i64 n2, .int .i64 n3] := by rw [hW1]; exact ((Bk.new _ _ _).alloc _).alloc _
    have k_b : Bk W1 (w.heap.size + 1) 23 #[.int .i64 d1, .int .i64 d2, .int .i64 d3] := by rw [hW1]; exact (Bk.new_at _ _ _ _ (by simp)).alloc _
    have k_r : Bk W1 (w.heap.size + 1 + 1) 23 #[.int .i64 0, .int .i64 0, .int .i64 0] := by rw [hW1]; exact Bk.new_at _ _ _ _ (by simp)
    rw [← hW1]
    clear hW1
    have l_b : w.heap.size < w.heap.size + 1 := by omega
    have l_r : w.heap.size + 1 < w.heap.size + 1 + 1 := by omega
    generalize w.heap.size + 1 + 1 = g_r at *
    generalize w.heap.size + 1 = g_b at *
    have c_a_0 : ∀ p : BW W1, p.w.cell? ⟨w.heap.size, 0, none⟩ = some (.int .i64 n1) := bw_cell (k_a.cell rfl)
    have c_a_1 : ∀ p : BW W1, p.w.cell? ⟨w.heap.size, 1, none⟩ = some (.int .i64 n2) := bw_cell (k_a.cell rfl)
    have c_a_2 : ∀ p : BW W1, p.w.cell? ⟨w.heap.size, 2, none⟩ = some (.int .i64 n3) := bw_cell (k_a.cell rfl)
    have c_b_0 : ∀ p : BW W1, p.w.cell? ⟨g_b, 0, none⟩ = some (.int .i64 d1) := bw_cell (k_b.cell rfl)
    have c_b_1 : ∀ p : BW W1, p.w.cell? ⟨g_b, 1, none⟩ = some (.int .i64 d2) := bw_cell (k_b.cell rfl)
    have c_b_2 : ∀ p : BW W1, p.w.cell? ⟨g_b, 2, none⟩ = some (.int .i64 d3) := bw_cell (k_b.cell rfl)
    have c_r_0 : ∀ p : BW W1, p.w.cell? ⟨g_r, 0, none⟩ = some (.int .i64 0) := bw_cell (k_r.cell rfl)
    have f_r_0 : ∀ p : BW W1, p.w.frozen? ⟨g_r, 0, none⟩ = false := fun p => (k_r.below p.h).frozen 0
    have c_r_1 : ∀ p : BW W1, p.w.cell? ⟨g_r, 1, none⟩ = some (.int .i64 0) := bw_cell (k_r.cell rfl)
    have f_r_1 : ∀ p : BW W1, p.w.frozen? ⟨g_r, 1, none⟩ = false := fun p => (k_r.below p.h).frozen 1
    have c_r_2 : ∀ p : BW W1, p.w.cell? ⟨g_r, 2, none⟩ = some (.int .i64 0) := bw_cell (k_r.cell rfl)
    have f_r_2 : ∀ p : BW W1, p.w.frozen? ⟨g_r, 2, none⟩ = false := fun p => (k_r.below p.h).frozen 2
    obtain ⟨p1, hp1⟩ : ∃ p : BW W1, p.w = W1 := ⟨BW.start W1, rfl⟩
    rw [← hp1]
    clear hp1
    go_wp2_with (first
      | (go_at_call 29; (first | (with_reducible refine (bw_call N1.out _).mono ?_) | (with_reducible refine (bw_call N2.out _).mono ?_)); rintro e w' ⟨rfl, q, rfl⟩)
      | (go_at_call 37; (first | (with_reducible refine (bw_call D.out _).mono ?_)); rintro e w' ⟨rfl, q, rfl⟩)
      | (go_at_call 32; (first | (with_reducible refine (bw_call T.out _).mono ?_)); rintro e w' ⟨rfl, q, rfl⟩))
    have kr : Bk (((q.w.setCell ⟨g_r, 0, none⟩ (.int .i64 r1)).setCell ⟨g_r, 1, none⟩ (.int .i64 r2)).setCell ⟨g_r, 2, none⟩ (.int .i64 r3)) (g_r) 23 #[.int .i64 r1, .int .i64 r2, .int .i64 r3] := ((((k_r.below q.h).set 0 (.int .i64 r1)).set 1 (.int .i64 r2)).set 2 (.int .i64 r3))
    have rc0 : World.cell? (((q.w.setCell ⟨g_r, 0, none⟩ (.int .i64 r1)).setCell ⟨g_r, 1, none⟩ (.int .i64 r2)).setCell ⟨g_r, 2, none⟩ (.int .i64 r3)) ⟨g_r, 0, none⟩ = some (.int .i64 r1) := kr.cell rfl
    have rc1 : World.cell? (((q.w.setCell ⟨g_r, 0, none⟩ (.int .i64 r1)).setCell ⟨g_r, 1, none⟩ (.int .i64 r2)).setCell ⟨g_r, 2, none⟩ (.int .i64 r3)) ⟨g_r, 1, none⟩ = some (.int .i64 r2) := kr.cell rfl
    have rc2 : World.cell? (((q.w.setCell ⟨g_r, 0, none⟩ (.int .i64 r1)).setCell ⟨g_r, 1, none⟩ (.int .i64 r2)).setCell ⟨g_r, 2, none⟩ (.int .i64 r3)) ⟨g_r, 2, none⟩ = some (.int .i64 r3) := kr.cell rfl
    exact bodyPost_ret (v := .agg #[.int .i64 r1, .int .i64 r2, .int .i64 r3]) (by simp [results, Try.results15, go_sem, rc0, rc1, rc2]) rfl ⟨rfl, ((((bw_below B1 q).setCell (p := ⟨g_r, 0, none⟩) (by show w.heap.size ≤ g_r; omega) _).setCell (p := ⟨g_r, 1, none⟩) (by show w.heap.size ≤ g_r; omega) _).setCell (p := ⟨g_r, 2, none⟩) (by show w.heap.size ≤ g_r; omega) _)⟩
  · rw [if_neg hs]
    have t : decide (0 < s) = false := decide_eq_false hs
    clear hs
    go_enter Try.func15, Try.ntmps15
    go_upto_region 1 with (fail)
    obtain ⟨W1, hW1⟩ : ∃ W, W = ((w.alloc (.cells #[.int .i64 n1, .int .i64 n2, .int .i64 n3] 23)).alloc (.cells #[.int .i64 d1, .int .i64 d2, .int .i64 d3] 23)).alloc (.cells #[.int .i64 0, .int .i64 0, .int .i64 0] 23) := ⟨_, rfl⟩
    have B1 : Below w.heap.size w W1 := by rw [hW1]; go_grown
    have k_a : Bk W1 (w.heap.size) 23 #[.int .i64 n1, .int .i64 n2, .int .i64 n3] := by rw [hW1]; exact ((Bk.new _ _ _).alloc _).alloc _
    have k_b : Bk W1 (w.heap.size + 1) 23 #[.int .i64 d1, .int .i64 d2, .int .i64 d3] := by rw [hW1]; exact (Bk.new_at _ _ _ _ (by simp)).alloc _
    have k_r : Bk W1 (w.heap.size + 1 + 1) 23 #[.int .i64 0, .int .i64 0, .int .i64 0] := by rw [hW1]; exact Bk.new_at _ _ _ _ (by simp)
    rw [← hW1]
    clear hW1
    have l_b : w.heap.size < w.heap.size + 1 := by omega
    have l_r : w.heap.size + 1 < w.heap.size + 1 + 1 := by omega
    generalize w.heap.size + 1 + 1 = g_r at *
    generalize w.heap.size + 1 = g_b at *
    have c_a_0 : ∀ p : BW W1, p.w.cell? ⟨w.heap.size, 0, none⟩ = some (.int .i64 n1) := bw_cell (k_a.cell rfl)
    have c_a_1 : ∀ p : BW W1, p.w.cell? ⟨w.heap.size, 1, none⟩ = some (.int .i64 n2) := bw_cell (k_a.cell rfl)
    have c_a_2 : ∀ p : BW W1, p.w.cell? ⟨w.heap.size, 2, none⟩ = some (.int .i64 n3) := bw_cell (k_a.cell rfl)
    have c_b_0 : ∀ p : BW W1, p.w.cell? ⟨g_b, 0, none⟩ = some (.int .i64 d1) := bw_cell (k_b.cell rfl)
    have c_b_1 : ∀ p : BW W1, p.w.cell? ⟨g_b, 1, none⟩ = some (.int .i64 d2) := bw_cell (k_b.cell rfl)
    have c_b_2 : ∀ p : BW W1, p.w.cell? ⟨g_b, 2, none⟩ = some (.int .i64 d3) := bw_cell (k_b.cell rfl)
    have c_r_0 : ∀ p : BW W1, p.w.cell? ⟨g_r, 0, none⟩ = some (.int .i64 0) := bw_cell (k_r.cell rfl)
    have f_r_0 : ∀ p : BW W1, p.w.frozen? ⟨g_r, 0, none⟩ = false := fun p => (k_r.below p.h).frozen 0
    have c_r_1 : ∀ p : BW W1, p.w.cell? ⟨g_r, 1, none⟩ = some (.int .i64 0) := bw_cell (k_r.cell rfl)
    have f_r_1 : ∀ p : BW W1, p.w.frozen? ⟨g_r, 1, none⟩ = false := fun p => (k_r.below p.h).frozen 1
    have c_r_2 : ∀ p : BW W1, p.w.cell? ⟨g_r, 2, none⟩ = some (.int .i64 0) := bw_cell (k_r.cell rfl)
    have f_r_2 : ∀ p : BW W1, p.w.frozen? ⟨g_r, 2, none⟩ = false := fun p => (k_r.below p.h).frozen 2
    obtain ⟨p1, hp1⟩ : ∃ p : BW W1, p.w = W1 := ⟨BW.start W1, rfl⟩
    rw [← hp1]
    clear hp1
    go_wp2_with (first
      | (go_at_call 29; (first | (with_reducible refine (bw_call N1.out _).mono ?_) | (with_reducible refine (bw_call N2.out _).mono ?_)); rintro e w' ⟨rfl, q, rfl⟩)
      | (go_at_call 37; (first | (with_reducible refine (bw_call D.out _).mono ?_)); rintro e w' ⟨rfl, q, rfl⟩)
      | (go_at_call 32; (first | (with_reducible refine (bw_call T.out _).mono ?_)); rintro e w' ⟨rfl, q, rfl⟩))
    have kr : Bk (((q.w.setCell ⟨g_r, 0, none⟩ (.int .i64 n1)).setCell ⟨g_r, 1, none⟩ (.int .i64 n2)).setCell ⟨g_r, 2, none⟩ (.int .i64 n3)) (g_r) 23 #[.int .i64 n1, .int .i64 n2, .int .i64 n3] := ((((k_r.below q.h).set 0 (.int .i64 n1)).set 1 (.int .i64 n2)).set 2 (.int .i64 n3))
    have rc0 : World.cell? (((q.w.setCell ⟨g_r, 0, none⟩ (.int .i64 n1)).setCell ⟨g_r, 1, none⟩ (.int .i64 n2)).setCell ⟨g_r, 2, none⟩ (.int .i64 n3)) ⟨g_r, 0, none⟩ = some (.int .i64 n1) := kr.cell rfl
    have rc1 : World.cell? (((q.w.setCell ⟨g_r, 0, none⟩ (.int .i64 n1)).setCell ⟨g_r, 1, none⟩ (.int .i64 n2)).setCell ⟨g_r, 2, none⟩ (.int .i64 n3)) ⟨g_r, 1, none⟩ = some (.int .i64 n2) := kr.cell rfl
    have rc2 : World.cell? (((q.w.setCell ⟨g_r, 0, none⟩ (.int .i64 n1)).setCell ⟨g_r, 1, none⟩ (.int .i64 n2)).setCell ⟨g_r, 2, none⟩ (.int .i64 n3)) ⟨g_r, 2, none⟩ = some (.int .i64 n3) := kr.cell rfl
    exact bodyPost_ret (v := .agg #[.int .i64 n1, .int .i64 n2, .int .i64 n3]) (by simp [results, Try.results15, go_sem, rc0, rc1, rc2]) rfl ⟨rfl, ((((bw_below B1 q).setCell (p := ⟨g_r, 0, none⟩) (by show w.heap.size ≤ g_r; omega) _).setCell (p := ⟨g_r, 1, none⟩) (by show w.heap.size ≤ g_r; omega) _).setCell (p := ⟨g_r, 2, none⟩) (by show w.heap.size ≤ g_r; omega) _)⟩

theorem basis_Facing (n1 n2 n3 d1 d2 d3 : Int) (w : World) :
    Calls Try.prog 15 #[.agg #[.int .i64 n1, .int .i64 n2, .int .i64 n3], .agg #[.int .i64 d1, .int .i64 d2, .int .i64 d3]] w fun e w' => e = .returned (.agg #[.int .i64 (fac (n1, n2, n3) (d1, d2, d3)).1, .int .i64 (fac (n1, n2, n3) (d1, d2, d3)).2.1, .int .i64 (fac (n1, n2, n3) (d1, d2, d3)).2.2]) ∧ Below w.heap.size w w' := by
  unfold fac
  by_cases h : nrT (d1, d2, d3) = true ∧ nrT (n1, n2, n3) = true
  · rw [if_pos h]; exact basis_Facing_yes n1 n2 n3 d1 d2 d3 w h.1 h.2
  · rw [if_neg h]; exact basis_Facing_no n1 n2 n3 d1 d2 d3 w h

set_option maxRecDepth 100000 in
set_option maxHeartbeats 4000000 in
theorem basis_Of_yes (x y z : Int) (w : World) (h : vuOk x y z = true) (hx : I64 x) (hy : I64 y) (hz : I64 z) :
    Calls Try.prog 6 #[.agg #[.int .i64 x, .int .i64 y, .int .i64 z]] w fun e w' => e = .returned (.tuple #[.agg #[.int .i64 (bU (vunit x y z)).1, .int .i64 (bU (vunit x y z)).2.1, .int .i64 (bU (vunit x y z)).2.2, .int .i64 (bV (vunit x y z)).1, .int .i64 (bV (vunit x y z)).2.1, .int .i64 (bV (vunit x y z)).2.2, .int .i64 (vunit x y z).1, .int .i64 (vunit x y z).2.1, .int .i64 (vunit x y z).2.2], .bool true]) ∧ Below w.heap.size w w' := by
  have U0 := Lib.hid (fun w => vec_Unit x y z w hx hy hz)
  have hD : Dir (vunit x y z) := Dir.of h
  rw [h] at U0
  obtain ⟨n, hn⟩ : ∃ n : T3, n = vunit x y z := ⟨_, rfl⟩
  rw [← hn] at U0 hD ⊢
  clear hn h hx hy hz
  have hnr : nrT n = true := hD.near
  obtain ⟨a, b, c⟩ := n
  unfold nrT at hnr
  dsimp only at hnr U0
  have L0 := Lib.hid (fun w => basis_leastAxis a b c w hnr)
  have eU : bU (a, b, c) = unT (crT (bax (a, b, c)) (a, b, c)) := rfl
  have eV : bV (a, b, c) = unT (crT (a, b, c) (bU (a, b, c))) := rfl
  generalize bU (a, b, c) = U at *
  generalize bV (a, b, c) = V at *
  generalize bax (a, b, c) = X at *
  obtain ⟨x1, x2, x3⟩ := X
  obtain ⟨u1, u2, u3⟩ := U
  obtain ⟨v1, v2, v3⟩ := V
  unfold unT crT at eU eV
  dsimp only at *
  have C1 := Lib.hid (fun w => basis_across x1 x2 x3 a b c (vcr x1 x2 x3 a b c).1 (vcr x1 x2 x3 a b c).2.1 (vcr x1 x2 x3 a b c).2.2 u1 u2 u3 w rfl eU.symm)
  have C2 := Lib.hid (fun w => basis_across a b c u1 u2 u3 (vcr a b c u1 u2 u3).1 (vcr a b c u1 u2 u3).2.1 (vcr a b c u1 u2 u3).2.2 v1 v2 v3 w rfl eV.symm)
  clear eU eV hnr hD
  go_enter Try.func6, Try.ntmps6
  go_upto_region 1 with (fail)
  obtain ⟨W1, hW1⟩ : ∃ W, W = (w.alloc (.cells #[.int .i64 x, .int .i64 y, .int .i64 z] 23)).alloc (.cells #[.int .i64 0, .int .i64 0, .int .i64 0, .int .i64 0, .int .i64 0, .int .i64 0, .int .i64 0, .int .i64 0, .int .i64 0] 26) := ⟨_, rfl⟩
  have B1 : Below w.heap.size w W1 := by rw [hW1]; go_grown
  have k_v : Bk W1 (w.heap.size) 23 #[.int .i64 x, .int .i64 y, .int .i64 z] := by rw [hW1]; exact (Bk.new _ _ _).alloc _
  have k_r : Bk W1 (w.heap.size + 1) 26 #[.int .i64 0, .int .i64 0, .int .i64 0, .int .i64 0, .int .i64 0, .int .i64 0, .int .i64 0, .int .i64 0, .int .i64 0] := by rw [hW1]; exact Bk.new_at _ _ _ _ (by simp)
  rw [← hW1]
  clear hW1
  have l_r : w.heap.size < w.heap.size + 1 := by omega
  generalize w.heap.size + 1 = g_r at *
  have c_v_0 : ∀ p : BW W1, p.w.cell? ⟨w.heap.size, 0, none⟩ = some (.int .i64 x) := bw_cell (k_v.cell rfl)
  have f_v_0 : ∀ p : BW W1, p.w.frozen? ⟨w.heap.size, 0, none⟩ = false := fun p => (k_v.below p.h).frozen 0
  have c_v_1 : ∀ p : BW W1, p.w.cell? ⟨w.heap.size, 1, none⟩ = some (.int .i64 y) := bw_cell (k_v.cell rfl)
  have f_v_1 : ∀ p : BW W1, p.w.frozen? ⟨w.heap.size, 1, none⟩ = false := fun p => (k_v.below p.h).frozen 1
  have c_v_2 : ∀ p : BW W1, p.w.cell? ⟨w.heap.size, 2, none⟩ = some (.int .i64 z) := bw_cell (k_v.cell rfl)
  have f_v_2 : ∀ p : BW W1, p.w.frozen? ⟨w.heap.size, 2, none⟩ = false := fun p => (k_v.below p.h).frozen 2
  have c_r_0 : ∀ p : BW W1, p.w.cell? ⟨g_r, 0, none⟩ = some (.int .i64 0) := bw_cell (k_r.cell rfl)
  have c_r_1 : ∀ p : BW W1, p.w.cell? ⟨g_r, 1, none⟩ = some (.int .i64 0) := bw_cell (k_r.cell rfl)
  have c_r_2 : ∀ p : BW W1, p.w.cell? ⟨g_r, 2, none⟩ = some (.int .i64 0) := bw_cell (k_r.cell rfl)
  have c_r_3 : ∀ p : BW W1, p.w.cell? ⟨g_r, 3, none⟩ = some (.int .i64 0) := bw_cell (k_r.cell rfl)
  have c_r_4 : ∀ p : BW W1, p.w.cell? ⟨g_r, 4, none⟩ = some (.int .i64 0) := bw_cell (k_r.cell rfl)
  have c_r_5 : ∀ p : BW W1, p.w.cell? ⟨g_r, 5, none⟩ = some (.int .i64 0) := bw_cell (k_r.cell rfl)
  have c_r_6 : ∀ p : BW W1, p.w.cell? ⟨g_r, 6, none⟩ = some (.int .i64 0) := bw_cell (k_r.cell rfl)
  have c_r_7 : ∀ p : BW W1, p.w.cell? ⟨g_r, 7, none⟩ = some (.int .i64 0) := bw_cell (k_r.cell rfl)
  have c_r_8 : ∀ p : BW W1, p.w.cell? ⟨g_r, 8, none⟩ = some (.int .i64 0) := bw_cell (k_r.cell rfl)
  obtain ⟨p1, hp1⟩ : ∃ p : BW W1, p.w = W1 := ⟨BW.start W1, rfl⟩
  rw [← hp1]
  clear hp1
  go_upto_region 2 with (first
    | (go_at_call 23; (first | (with_reducible refine (bw_call U0.out _).mono ?_)); rintro e w' ⟨rfl, q, rfl⟩))
  obtain ⟨W2, hW2⟩ : ∃ W, W = ((q.w.setCell ⟨w.heap.size, 0, none⟩ (.int .i64 a)).setCell ⟨w.heap.size, 1, none⟩ (.int .i64 b)).setCell ⟨w.heap.size, 2, none⟩ (.int .i64 c) := ⟨_, rfl⟩
  have B2 : Below w.heap.size w W2 := by rw [hW2]; exact ((((bw_below B1 q).setCell (p := ⟨w.heap.size, 0, none⟩) (by show w.heap.size ≤ w.heap.size; omega) _).setCell (p := ⟨w.heap.size, 1, none⟩) (by show w.heap.size ≤ w.heap.size; omega) _).setCell (p := ⟨w.heap.size, 2, none⟩) (by show w.heap.size ≤ w.heap.size; omega) _)
  have k_v : Bk W2 (w.heap.size) 23 #[.int .i64 a, .int .i64 b, .int .i64 c] := by rw [hW2]; exact ((((k_v.below q.h).set 0 (.int .i64 a)).set 1 (.int .i64 b)).set 2 (.int .i64 c))
  have k_r : Bk W2 (g_r) 26 #[.int .i64 0, .int .i64 0, .int .i64 0, .int .i64 0, .int .i64 0, .int .i64 0, .int .i64 0, .int .i64 0, .int .i64 0] := by rw [hW2]; exact ((((k_r.below q.h).other (a := ⟨w.heap.size, 0, none⟩) (by show ¬ g_r = w.heap.size; omega) (.int .i64 a)).other (a := ⟨w.heap.size, 1, none⟩) (by show ¬ g_r = w.heap.size; omega) (.int .i64 b)).other (a := ⟨w.heap.size, 2, none⟩) (by show ¬ g_r = w.heap.size; omega) (.int .i64 c))
  rw [← hW2]
  clear hW2
  clear B1
  clear c_v_0 f_v_0 c_v_1 f_v_1 c_v_2 f_v_2 c_r_0 c_r_1 c_r_2 c_r_3 c_r_4 c_r_5 c_r_6 c_r_7 c_r_8
  have c_v_0 : ∀ p : BW W2, p.w.cell? ⟨w.heap.size, 0, none⟩ = some (.int .i64 a) := bw_cell (k_v.cell rfl)
  have c_v_1 : ∀ p : BW W2, p.w.cell? ⟨w.heap.size, 1, none⟩ = some (.int .i64 b) := bw_cell (k_v.cell rfl)
  have c_v_2 : ∀ p : BW W2, p.w.cell? ⟨w.heap.size, 2, none⟩ = some (.int .i64 c) := bw_cell (k_v.cell rfl)
  have c_r_0 : ∀ p : BW W2, p.w.cell? ⟨g_r, 0, none⟩ = some (.int .i64 0) := bw_cell (k_r.cell rfl)
  have c_r_1 : ∀ p : BW W2, p.w.cell? ⟨g_r, 1, none⟩ = some (.int .i64 0) := bw_cell (k_r.cell rfl)
  have c_r_2 : ∀ p : BW W2, p.w.cell? ⟨g_r, 2, none⟩ = some (.int .i64 0) := bw_cell (k_r.cell rfl)
  have c_r_3 : ∀ p : BW W2, p.w.cell? ⟨g_r, 3, none⟩ = some (.int .i64 0) := bw_cell (k_r.cell rfl)
  have c_r_4 : ∀ p : BW W2, p.w.cell? ⟨g_r, 4, none⟩ = some (.int .i64 0) := bw_cell (k_r.cell rfl)
  have c_r_5 : ∀ p : BW W2, p.w.cell? ⟨g_r, 5, none⟩ = some (.int .i64 0) := bw_cell (k_r.cell rfl)
  have c_r_6 : ∀ p : BW W2, p.w.cell? ⟨g_r, 6, none⟩ = some (.int .i64 0) := bw_cell (k_r.cell rfl)
  have c_r_7 : ∀ p : BW W2, p.w.cell? ⟨g_r, 7, none⟩ = some (.int .i64 0) := bw_cell (k_r.cell rfl)
  have c_r_8 : ∀ p : BW W2, p.w.cell? ⟨g_r, 8, none⟩ = some (.int .i64 0) := bw_cell (k_r.cell rfl)
  obtain ⟨p2, hp2⟩ : ∃ p : BW W2, p.w = W2 := ⟨BW.start W2, rfl⟩
  rw [← hp2]
  clear hp2
  go_upto_region 4 with (fail)
  refine wp_region_float (t := 23) (zs := #[.int .i64 0, .int .i64 0, .int .i64 0]) 5 4 5 24 (by kernel_rfl) (by kernel_rfl) (by kernel_rfl) (by kernel_rfl) (by kernel_rfl) rfl ?_ ?_
  · intro ev wx
    simp [execOp, go_sem]
  apply Exists.intro
  refine ⟨?_, ?_⟩
  · intro wb' hwb'
    have d_v_0 : ∀ q : BW wb', q.w.cell? ⟨w.heap.size, 0, none⟩ = some (.int .i64 a) := bw_cell ((k_v.below hwb').cell rfl)
    have d_v_1 : ∀ q : BW wb', q.w.cell? ⟨w.heap.size, 1, none⟩ = some (.int .i64 b) := bw_cell ((k_v.below hwb').cell rfl)
    have d_v_2 : ∀ q : BW wb', q.w.cell? ⟨w.heap.size, 2, none⟩ = some (.int .i64 c) := bw_cell ((k_v.below hwb').cell rfl)
    have d_r_0 : ∀ q : BW wb', q.w.cell? ⟨g_r, 0, none⟩ = some (.int .i64 0) := bw_cell ((k_r.below hwb').cell rfl)
    have d_r_1 : ∀ q : BW wb', q.w.cell? ⟨g_r, 1, none⟩ = some (.int .i64 0) := bw_cell ((k_r.below hwb').cell rfl)
    have d_r_2 : ∀ q : BW wb', q.w.cell? ⟨g_r, 2, none⟩ = some (.int .i64 0) := bw_cell ((k_r.below hwb').cell rfl)
    have d_r_3 : ∀ q : BW wb', q.w.cell? ⟨g_r, 3, none⟩ = some (.int .i64 0) := bw_cell ((k_r.below hwb').cell rfl)
    have d_r_4 : ∀ q : BW wb', q.w.cell? ⟨g_r, 4, none⟩ = some (.int .i64 0) := bw_cell ((k_r.below hwb').cell rfl)
    have d_r_5 : ∀ q : BW wb', q.w.cell? ⟨g_r, 5, none⟩ = some (.int .i64 0) := bw_cell ((k_r.below hwb').cell rfl)
    have d_r_6 : ∀ q : BW wb', q.w.cell? ⟨g_r, 6, none⟩ = some (.int .i64 0) := bw_cell ((k_r.below hwb').cell rfl)
    have d_r_7 : ∀ q : BW wb', q.w.cell? ⟨g_r, 7, none⟩ = some (.int .i64 0) := bw_cell ((k_r.below hwb').cell rfl)
    have d_r_8 : ∀ q : BW wb', q.w.cell? ⟨g_r, 8, none⟩ = some (.int .i64 0) := bw_cell ((k_r.below hwb').cell rfl)
    simp only [maskAt, List.take_succ_cons, List.take_zero]
    repeat (go_big_quiet_step (first
      | (go_at_call 25; (first | (with_reducible exact bw_call L0.out _)))
      | (go_at_call 24; (first | (with_reducible exact bw_call C1.out _)))))
    refine wpQuiet_nil ?_
    exact rfl
  intro W3 g_u hW hg k_u
  have B3 : Below w.heap.size w W3 := B2.trans (hW.mono B2.size)
  have l_u : g_r < g_u := Nat.lt_of_lt_of_le k_r.lt hg
  have k_v := k_v.below hW
  have k_r := k_r.below hW
  clear hW hg B2
  clear c_v_0 c_v_1 c_v_2 c_r_0 c_r_1 c_r_2 c_r_3 c_r_4 c_r_5 c_r_6 c_r_7 c_r_8
  simp only [List.drop_succ_cons, List.drop_zero, Act.put, List.setIfInBounds_toArray, List.set_cons_zero, List.set_cons_succ]
  have c_v_0 : ∀ p : BW W3, p.w.cell? ⟨w.heap.size, 0, none⟩ = some (.int .i64 a) := bw_cell (k_v.cell rfl)
  have c_v_1 : ∀ p : BW W3, p.w.cell? ⟨w.heap.size, 1, none⟩ = some (.int .i64 b) := bw_cell (k_v.cell rfl)
  have c_v_2 : ∀ p : BW W3, p.w.cell? ⟨w.heap.size, 2, none⟩ = some (.int .i64 c) := bw_cell (k_v.cell rfl)
  have c_r_0 : ∀ p : BW W3, p.w.cell? ⟨g_r, 0, none⟩ = some (.int .i64 0) := bw_cell (k_r.cell rfl)
  have c_r_1 : ∀ p : BW W3, p.w.cell? ⟨g_r, 1, none⟩ = some (.int .i64 0) := bw_cell (k_r.cell rfl)
  have c_r_2 : ∀ p : BW W3, p.w.cell? ⟨g_r, 2, none⟩ = some (.int .i64 0) := bw_cell (k_r.cell rfl)
  have c_r_3 : ∀ p : BW W3, p.w.cell? ⟨g_r, 3, none⟩ = some (.int .i64 0) := bw_cell (k_r.cell rfl)
  have c_r_4 : ∀ p : BW W3, p.w.cell? ⟨g_r, 4, none⟩ = some (.int .i64 0) := bw_cell (k_r.cell rfl)
  have c_r_5 : ∀ p : BW W3, p.w.cell? ⟨g_r, 5, none⟩ = some (.int .i64 0) := bw_cell (k_r.cell rfl)
  have c_r_6 : ∀ p : BW W3, p.w.cell? ⟨g_r, 6, none⟩ = some (.int .i64 0) := bw_cell (k_r.cell rfl)
  have c_r_7 : ∀ p : BW W3, p.w.cell? ⟨g_r, 7, none⟩ = some (.int .i64 0) := bw_cell (k_r.cell rfl)
  have c_r_8 : ∀ p : BW W3, p.w.cell? ⟨g_r, 8, none⟩ = some (.int .i64 0) := bw_cell (k_r.cell rfl)
  have c_u_0 : ∀ p : BW W3, p.w.cell? ⟨g_u, 0, none⟩ = some (.int .i64 0) := bw_cell (k_u.cell rfl)
  have f_u_0 : ∀ p : BW W3, p.w.frozen? ⟨g_u, 0, none⟩ = false := fun p => (k_u.below p.h).frozen 0
  have c_u_1 : ∀ p : BW W3, p.w.cell? ⟨g_u, 1, none⟩ = some (.int .i64 0) := bw_cell (k_u.cell rfl)
  have f_u_1 : ∀ p : BW W3, p.w.frozen? ⟨g_u, 1, none⟩ = false := fun p => (k_u.below p.h).frozen 1
  have c_u_2 : ∀ p : BW W3, p.w.cell? ⟨g_u, 2, none⟩ = some (.int .i64 0) := bw_cell (k_u.cell rfl)
  have f_u_2 : ∀ p : BW W3, p.w.frozen? ⟨g_u, 2, none⟩ = false := fun p => (k_u.below p.h).frozen 2
  obtain ⟨p3, hp3⟩ : ∃ p : BW W3, p.w = W3 := ⟨BW.start W3, rfl⟩
  rw [← hp3]
  clear hp3
  go_upto_region 5 with (fail)
  obtain ⟨W4, hW4⟩ : ∃ W, W = ((p3.w.setCell ⟨g_u, 0, none⟩ (.int .i64 u1)).setCell ⟨g_u, 1, none⟩ (.int .i64 u2)).setCell ⟨g_u, 2, none⟩ (.int .i64 u3) := ⟨_, rfl⟩
  have B4 : Below w.heap.size w W4 := by rw [hW4]; exact ((((bw_below B3 p3).setCell (p := ⟨g_u, 0, none⟩) (by show w.heap.size ≤ g_u; omega) _).setCell (p := ⟨g_u, 1, none⟩) (by show w.heap.size ≤ g_u; omega) _).setCell (p := ⟨g_u, 2, none⟩) (by show w.heap.size ≤ g_u; omega) _)
  have k_v : Bk W4 (w.heap.size) 23 #[.int .i64 a, .int .i64 b, .int .i64 c] := by rw [hW4]; exact ((((k_v.below p3.h).other (a := ⟨g_u, 0, none⟩) (by show ¬ w.heap.size = g_u; omega) (.int .i64 u1)).other (a := ⟨g_u, 1, none⟩) (by show ¬ w.heap.size = g_u; omega) (.int .i64 u2)).other (a := ⟨g_u, 2, none⟩) (by show ¬ w.heap.size = g_u; omega) (.int .i64 u3))
  have k_r : Bk W4 (g_r) 26 #[.int .i64 0, .int .i64 0, .int .i64 0, .int .i64 0, .int .i64 0, .int .i64 0, .int .i64 0, .int .i64 0, .int .i64 0] := by rw [hW4]; exact ((((k_r.below p3.h).other (a := ⟨g_u, 0, none⟩) (by show ¬ g_r = g_u; omega) (.int .i64 u1)).other (a := ⟨g_u, 1, none⟩) (by show ¬ g_r = g_u; omega) (.int .i64 u2)).other (a := ⟨g_u, 2, none⟩) (by show ¬ g_r = g_u; omega) (.int .i64 u3))
  have k_u : Bk W4 (g_u) 23 #[.int .i64 u1, .int .i64 u2, .int .i64 u3] := by rw [hW4]; exact ((((k_u.below p3.h).set 0 (.int .i64 u1)).set 1 (.int .i64 u2)).set 2 (.int .i64 u3))
  rw [← hW4]
  clear hW4
  clear B3
  clear c_v_0 c_v_1 c_v_2 c_r_0 c_r_1 c_r_2 c_r_3 c_r_4 c_r_5 c_r_6 c_r_7 c_r_8 c_u_0 f_u_0 c_u_1 f_u_1 c_u_2 f_u_2
  have c_v_0 : ∀ p : BW W4, p.w.cell? ⟨w.heap.size, 0, none⟩ = some (.int .i64 a) := bw_cell (k_v.cell rfl)
  have c_v_1 : ∀ p : BW W4, p.w.cell? ⟨w.heap.size, 1, none⟩ = some (.int .i64 b) := bw_cell (k_v.cell rfl)
  have c_v_2 : ∀ p : BW W4, p.w.cell? ⟨w.heap.size, 2, none⟩ = some (.int .i64 c) := bw_cell (k_v.cell rfl)
  have c_r_0 : ∀ p : BW W4, p.w.cell? ⟨g_r, 0, none⟩ = some (.int .i64 0) := bw_cell (k_r.cell rfl)
  have f_r_0 : ∀ p : BW W4, p.w.frozen? ⟨g_r, 0, none⟩ = false := fun p => (k_r.below p.h).frozen 0
  have c_r_1 : ∀ p : BW W4, p.w.cell? ⟨g_r, 1, none⟩ = some (.int .i64 0) := bw_cell (k_r.cell rfl)
  have f_r_1 : ∀ p : BW W4, p.w.frozen? ⟨g_r, 1, none⟩ = false := fun p => (k_r.below p.h).frozen 1
  have c_r_2 : ∀ p : BW W4, p.w.cell? ⟨g_r, 2, none⟩ = some (.int .i64 0) := bw_cell (k_r.cell rfl)
  have f_r_2 : ∀ p : BW W4, p.w.frozen? ⟨g_r, 2, none⟩ = false := fun p => (k_r.below p.h).frozen 2
  have c_r_3 : ∀ p : BW W4, p.w.cell? ⟨g_r, 3, none⟩ = some (.int .i64 0) := bw_cell (k_r.cell rfl)
  have f_r_3 : ∀ p : BW W4, p.w.frozen? ⟨g_r, 3, none⟩ = false := fun p => (k_r.below p.h).frozen 3
  have c_r_4 : ∀ p : BW W4, p.w.cell? ⟨g_r, 4, none⟩ = some (.int .i64 0) := bw_cell (k_r.cell rfl)
  have f_r_4 : ∀ p : BW W4, p.w.frozen? ⟨g_r, 4, none⟩ = false := fun p => (k_r.below p.h).frozen 4
  have c_r_5 : ∀ p : BW W4, p.w.cell? ⟨g_r, 5, none⟩ = some (.int .i64 0) := bw_cell (k_r.cell rfl)
  have f_r_5 : ∀ p : BW W4, p.w.frozen? ⟨g_r, 5, none⟩ = false := fun p => (k_r.below p.h).frozen 5
  have c_r_6 : ∀ p : BW W4, p.w.cell? ⟨g_r, 6, none⟩ = some (.int .i64 0) := bw_cell (k_r.cell rfl)
  have f_r_6 : ∀ p : BW W4, p.w.frozen? ⟨g_r, 6, none⟩ = false := fun p => (k_r.below p.h).frozen 6
  have c_r_7 : ∀ p : BW W4, p.w.cell? ⟨g_r, 7, none⟩ = some (.int .i64 0) := bw_cell (k_r.cell rfl)
  have f_r_7 : ∀ p : BW W4, p.w.frozen? ⟨g_r, 7, none⟩ = false := fun p => (k_r.below p.h).frozen 7
  have c_r_8 : ∀ p : BW W4, p.w.cell? ⟨g_r, 8, none⟩ = some (.int .i64 0) := bw_cell (k_r.cell rfl)
  have f_r_8 : ∀ p : BW W4, p.w.frozen? ⟨g_r, 8, none⟩ = false := fun p => (k_r.below p.h).frozen 8
  have c_u_0 : ∀ p : BW W4, p.w.cell? ⟨g_u, 0, none⟩ = some (.int .i64 u1) := bw_cell (k_u.cell rfl)
  have c_u_1 : ∀ p : BW W4, p.w.cell? ⟨g_u, 1, none⟩ = some (.int .i64 u2) := bw_cell (k_u.cell rfl)
  have c_u_2 : ∀ p : BW W4, p.w.cell? ⟨g_u, 2, none⟩ = some (.int .i64 u3) := bw_cell (k_u.cell rfl)
  obtain ⟨p4, hp4⟩ : ∃ p : BW W4, p.w = W4 := ⟨BW.start W4, rfl⟩
  rw [← hp4]
  clear hp4
  refine wp_region_bw_tail 5 (by kernel_rfl) (by kernel_rfl) (by kernel_rfl) ?_
  simp only [List.take_succ_cons, List.take_zero, List.drop_succ_cons, List.drop_zero]
  repeat (go_big_quiet_step (first
    | (go_at_call 24; (first | (with_reducible exact bw_call C2.out _)))))
  refine wpQuiet_nil ?_
  intro _ hw'
  obtain ⟨q, rfl⟩ := hw'
  go_wp2
  have kr : Bk (((((((((q.w.setCell ⟨g_r, 0, none⟩ (.int .i64 u1)).setCell ⟨g_r, 1, none⟩ (.int .i64 u2)).setCell ⟨g_r, 2, none⟩ (.int .i64 u3)).setCell ⟨g_r, 3, none⟩ (.int .i64 v1)).setCell ⟨g_r, 4, none⟩ (.int .i64 v2)).setCell ⟨g_r, 5, none⟩ (.int .i64 v3)).setCell ⟨g_r, 6, none⟩ (.int .i64 a)).setCell ⟨g_r, 7, none⟩ (.int .i64 b)).setCell ⟨g_r, 8, none⟩ (.int .i64 c)) (g_r) 26 #[.int .i64 u1, .int .i64 u2, .int .i64 u3, .int .i64 v1, .int .i64 v2, .int .i64 v3, .int .i64 a, .int .i64 b, .int .i64 c] := ((((((((((k_r.below q.h).set 0 (.int .i64 u1)).set 1 (.int .i64 u2)).set 2 (.int .i64 u3)).set 3 (.int .i64 v1)).set 4 (.int .i64 v2)).set 5 (.int .i64 v3)).set 6 (.int .i64 a)).set 7 (.int .i64 b)).set 8 (.int .i64 c)).cast (by simp)
  have rc0 : World.cell? (((((((((q.w.setCell ⟨g_r, 0, none⟩ (.int .i64 u1)).setCell ⟨g_r, 1, none⟩ (.int .i64 u2)).setCell ⟨g_r, 2, none⟩ (.int .i64 u3)).setCell ⟨g_r, 3, none⟩ (.int .i64 v1)).setCell ⟨g_r, 4, none⟩ (.int .i64 v2)).setCell ⟨g_r, 5, none⟩ (.int .i64 v3)).setCell ⟨g_r, 6, none⟩ (.int .i64 a)).setCell ⟨g_r, 7, none⟩ (.int .i64 b)).setCell ⟨g_r, 8, none⟩ (.int .i64 c)) ⟨g_r, 0, none⟩ = some (.int .i64 u1) := kr.cell rfl
  have rc1 : World.cell? (((((((((q.w.setCell ⟨g_r, 0, none⟩ (.int .i64 u1)).setCell ⟨g_r, 1, none⟩ (.int .i64 u2)).setCell ⟨g_r, 2, none⟩ (.int .i64 u3)).setCell ⟨g_r, 3, none⟩ (.int .i64 v1)).setCell ⟨g_r, 4, none⟩ (.int .i64 v2)).setCell ⟨g_r, 5, none⟩ (.int .i64 v3)).setCell ⟨g_r, 6, none⟩ (.int .i64 a)).setCell ⟨g_r, 7, none⟩ (.int .i64 b)).setCell ⟨g_r, 8, none⟩ (.int .i64 c)) ⟨g_r, 1, none⟩ = some (.int .i64 u2) := kr.cell rfl
  have rc2 : World.cell? (((((((((q.w.setCell ⟨g_r, 0, none⟩ (.int .i64 u1)).setCell ⟨g_r, 1, none⟩ (.int .i64 u2)).setCell ⟨g_r, 2, none⟩ (.int .i64 u3)).setCell ⟨g_r, 3, none⟩ (.int .i64 v1)).setCell ⟨g_r, 4, none⟩ (.int .i64 v2)).setCell ⟨g_r, 5, none⟩ (.int .i64 v3)).setCell ⟨g_r, 6, none⟩ (.int .i64 a)).setCell ⟨g_r, 7, none⟩ (.int .i64 b)).setCell ⟨g_r, 8, none⟩ (.int .i64 c)) ⟨g_r, 2, none⟩ = some (.int .i64 u3) := kr.cell rfl
  have rc3 : World.cell? (((((((((q.w.setCell ⟨g_r, 0, none⟩ (.int .i64 u1)).setCell ⟨g_r, 1, none⟩ (.int .i64 u2)).setCell ⟨g_r, 2, none⟩ (.int .i64 u3)).setCell ⟨g_r, 3, none⟩ (.int .i64 v1)).setCell ⟨g_r, 4, none⟩ (.int .i64 v2)).setCell ⟨g_r, 5, none⟩ (.int .i64 v3)).setCell ⟨g_r, 6, none⟩ (.int .i64 a)).setCell ⟨g_r, 7, none⟩ (.int .i64 b)).setCell ⟨g_r, 8, none⟩ (.int .i64 c)) ⟨g_r, 3, none⟩ = some (.int .i64 v1) := kr.cell rfl
  have rc4 : World.cell? (((((((((q.w.setCell ⟨g_r, 0, none⟩ (.int .i64 u1)).setCell ⟨g_r, 1, none⟩ (.int .i64 u2)).setCell ⟨g_r, 2, none⟩ (.int .i64 u3)).setCell ⟨g_r, 3, none⟩ (.int .i64 v1)).setCell ⟨g_r, 4, none⟩ (.int .i64 v2)).setCell ⟨g_r, 5, none⟩ (.int .i64 v3)).setCell ⟨g_r, 6, none⟩ (.int .i64 a)).setCell ⟨g_r, 7, none⟩ (.int .i64 b)).setCell ⟨g_r, 8, none⟩ (.int .i64 c)) ⟨g_r, 4, none⟩ = some (.int .i64 v2) := kr.cell rfl
  have rc5 : World.cell? (((((((((q.w.setCell ⟨g_r, 0, none⟩ (.int .i64 u1)).setCell ⟨g_r, 1, none⟩ (.int .i64 u2)).setCell ⟨g_r, 2, none⟩ (.int .i64 u3)).setCell ⟨g_r, 3, none⟩ (.int .i64 v1)).setCell ⟨g_r, 4, none⟩ (.int .i64 v2)).setCell ⟨g_r, 5, none⟩ (.int .i64 v3)).setCell ⟨g_r, 6, none⟩ (.int .i64 a)).setCell ⟨g_r, 7, none⟩ (.int .i64 b)).setCell ⟨g_r, 8, none⟩ (.int .i64 c)) ⟨g_r, 5, none⟩ = some (.int .i64 v3) := kr.cell rfl
  have rc6 : World.cell? (((((((((q.w.setCell ⟨g_r, 0, none⟩ (.int .i64 u1)).setCell ⟨g_r, 1, none⟩ (.int .i64 u2)).setCell ⟨g_r, 2, none⟩ (.int .i64 u3)).setCell ⟨g_r, 3, none⟩ (.int .i64 v1)).setCell ⟨g_r, 4, none⟩ (.int .i64 v2)).setCell ⟨g_r, 5, none⟩ (.int .i64 v3)).setCell ⟨g_r, 6, none⟩ (.int .i64 a)).setCell ⟨g_r, 7, none⟩ (.int .i64 b)).setCell ⟨g_r, 8, none⟩ (.int .i64 c)) ⟨g_r, 6, none⟩ = some (.int .i64 a) := kr.cell rfl
  have rc7 : World.cell? (((((((((q.w.setCell ⟨g_r, 0, none⟩ (.int .i64 u1)).setCell ⟨g_r, 1, none⟩ (.int .i64 u2)).setCell ⟨g_r, 2, none⟩ (.int .i64 u3)).setCell ⟨g_r, 3, none⟩ (.int .i64 v1)).setCell ⟨g_r, 4, none⟩ (.int .i64 v2)).setCell ⟨g_r, 5, none⟩ (.int .i64 v3)).setCell ⟨g_r, 6, none⟩ (.int .i64 a)).setCell ⟨g_r, 7, none⟩ (.int .i64 b)).setCell ⟨g_r, 8, none⟩ (.int .i64 c)) ⟨g_r, 7, none⟩ = some (.int .i64 b) := kr.cell rfl
  have rc8 : World.cell? (((((((((q.w.setCell ⟨g_r, 0, none⟩ (.int .i64 u1)).setCell ⟨g_r, 1, none⟩ (.int .i64 u2)).setCell ⟨g_r, 2, none⟩ (.int .i64 u3)).setCell ⟨g_r, 3, none⟩ (.int .i64 v1)).setCell ⟨g_r, 4, none⟩ (.int .i64 v2)).setCell ⟨g_r, 5, none⟩ (.int .i64 v3)).setCell ⟨g_r, 6, none⟩ (.int .i64 a)).setCell ⟨g_r, 7, none⟩ (.int .i64 b)).setCell ⟨g_r, 8, none⟩ (.int .i64 c)) ⟨g_r, 8, none⟩ = some (.int .i64 c) := kr.cell rfl
  exact bodyPost_ret (v := .tuple #[.agg #[.int .i64 u1, .int .i64 u2, .int .i64 u3, .int .i64 v1, .int .i64 v2, .int .i64 v3, .int .i64 a, .int .i64 b, .int .i64 c], .bool true]) (by simp [results, Try.results6, go_sem, rc0, rc1, rc2, rc3, rc4, rc5, rc6, rc7, rc8]) rfl ⟨rfl, ((((((((((bw_below B4 q).setCell (p := ⟨g_r, 0, none⟩) (by show w.heap.size ≤ g_r; omega) _).setCell (p := ⟨g_r, 1, none⟩) (by show w.heap.size ≤ g_r; omega) _).setCell (p := ⟨g_r, 2, none⟩) (by show w.heap.size ≤ g_r; omega) _).setCell (p := ⟨g_r, 3, none⟩) (by show w.heap.size ≤ g_r; omega) _).setCell (p := ⟨g_r, 4, none⟩) (by show w.heap.size ≤ g_r; omega) _).setCell (p := ⟨g_r, 5, none⟩) (by show w.heap.size ≤ g_r; omega) _).setCell (p := ⟨g_r, 6, none⟩) (by show w.heap.size ≤ g_r; omega) _).setCell (p := ⟨g_r, 7, none⟩) (by show w.heap.size ≤ g_r; omega) _).setCell (p := ⟨g_r, 8, none⟩) (by show w.heap.size ≤ g_r; omega) _)⟩

set_option maxRecDepth 100000 in
set_option maxHeartbeats 4000000 in
theorem basis_Of_no (x y z : Int) (w : World) (h : vuOk x y z = false) (hx : I64 x) (hy : I64 y) (hz : I64 z) :
    Calls Try.prog 6 #[.agg #[.int .i64 x, .int .i64 y, .int .i64 z]] w fun e w' => e = .returned (.tuple #[.agg #[.int .i64 0, .int .i64 0, .int .i64 0, .int .i64 0, .int .i64 0, .int .i64 0, .int .i64 0, .int .i64 0, .int .i64 0], .bool false]) ∧ Below w.heap.size w w' := by
  have U0 := Lib.hid (fun w => vec_Unit x y z w hx hy hz)
  have e : vunit x y z = (0, 0, 0) := by unfold vunit; rw [h]; rfl
  rw [e, h] at U0
  clear e h hx hy hz
  go_enter Try.func6, Try.ntmps6
  go_upto_region 1 with (fail)
  obtain ⟨W1, hW1⟩ : ∃ W, W = (w.alloc (.cells #[.int .i64 x, .int .i64 y, .int .i64 z] 23)).alloc (.cells #[.int .i64 0, .int .i64 0, .int .i64 0, .int .i64 0, .int .i64 0, .int .i64 0, .int .i64 0, .int .i64 0, .int .i64 0] 26) := ⟨_, rfl⟩
  have B1 : Below w.heap.size w W1 := by rw [hW1]; go_grown
  have k_v : Bk W1 (w.heap.size) 23 #[.int .i64 x, .int .i64 y, .int .i64 z] := by rw [hW1]; exact (Bk.new _ _ _).alloc _
  have k_r : Bk W1 (w.heap.size + 1) 26 #[.int .i64 0, .int .i64 0, .int .i64 0, .int .i64 0, .int .i64 0, .int .i64 0, .int .i64 0, .int .i64 0, .int .i64 0] := by rw [hW1]; exact Bk.new_at _ _ _ _ (by simp)
  rw [← hW1]
  clear hW1
  have l_r : w.heap.size < w.heap.size + 1 := by omega
  generalize w.heap.size + 1 = g_r at *
  have c_v_0 : ∀ p : BW W1, p.w.cell? ⟨w.heap.size, 0, none⟩ = some (.int .i64 x) := bw_cell (k_v.cell rfl)
  have f_v_0 : ∀ p : BW W1, p.w.frozen? ⟨w.heap.size, 0, none⟩ = false := fun p => (k_v.below p.h).frozen 0
  have c_v_1 : ∀ p : BW W1, p.w.cell? ⟨w.heap.size, 1, none⟩ = some (.int .i64 y) := bw_cell (k_v.cell rfl)
  have f_v_1 : ∀ p : BW W1, p.w.frozen? ⟨w.heap.size, 1, none⟩ = false := fun p => (k_v.below p.h).frozen 1
  have c_v_2 : ∀ p : BW W1, p.w.cell? ⟨w.heap.size, 2, none⟩ = some (.int .i64 z) := bw_cell (k_v.cell rfl)
  have f_v_2 : ∀ p : BW W1, p.w.frozen? ⟨w.heap.size, 2, none⟩ = false := fun p => (k_v.below p.h).frozen 2
  have c_r_0 : ∀ p : BW W1, p.w.cell? ⟨g_r, 0, none⟩ = some (.int .i64 0) := bw_cell (k_r.cell rfl)
  have c_r_1 : ∀ p : BW W1, p.w.cell? ⟨g_r, 1, none⟩ = some (.int .i64 0) := bw_cell (k_r.cell rfl)
  have c_r_2 : ∀ p : BW W1, p.w.cell? ⟨g_r, 2, none⟩ = some (.int .i64 0) := bw_cell (k_r.cell rfl)
  have c_r_3 : ∀ p : BW W1, p.w.cell? ⟨g_r, 3, none⟩ = some (.int .i64 0) := bw_cell (k_r.cell rfl)
  have c_r_4 : ∀ p : BW W1, p.w.cell? ⟨g_r, 4, none⟩ = some (.int .i64 0) := bw_cell (k_r.cell rfl)
  have c_r_5 : ∀ p : BW W1, p.w.cell? ⟨g_r, 5, none⟩ = some (.int .i64 0) := bw_cell (k_r.cell rfl)
  have c_r_6 : ∀ p : BW W1, p.w.cell? ⟨g_r, 6, none⟩ = some (.int .i64 0) := bw_cell (k_r.cell rfl)
  have c_r_7 : ∀ p : BW W1, p.w.cell? ⟨g_r, 7, none⟩ = some (.int .i64 0) := bw_cell (k_r.cell rfl)
  have c_r_8 : ∀ p : BW W1, p.w.cell? ⟨g_r, 8, none⟩ = some (.int .i64 0) := bw_cell (k_r.cell rfl)
  obtain ⟨p1, hp1⟩ : ∃ p : BW W1, p.w = W1 := ⟨BW.start W1, rfl⟩
  rw [← hp1]
  clear hp1
  go_upto_region 2 with (first
    | (go_at_call 23; (first | (with_reducible refine (bw_call U0.out _).mono ?_)); rintro e w' ⟨rfl, q, rfl⟩))
  obtain ⟨W2, hW2⟩ : ∃ W, W = ((q.w.setCell ⟨w.heap.size, 0, none⟩ (.int .i64 0)).setCell ⟨w.heap.size, 1, none⟩ (.int .i64 0)).setCell ⟨w.heap.size, 2, none⟩ (.int .i64 0) := ⟨_, rfl⟩
  have B2 : Below w.heap.size w W2 := by rw [hW2]; exact ((((bw_below B1 q).setCell (p := ⟨w.heap.size, 0, none⟩) (by show w.heap.size ≤ w.heap.size; omega) _).setCell (p := ⟨w.heap.size, 1, none⟩) (by show w.heap.size ≤ w.heap.size; omega) _).setCell (p := ⟨w.heap.size, 2, none⟩) (by show w.heap.size ≤ w.heap.size; omega) _)
  have k_v : Bk W2 (w.heap.size) 23 #[.int .i64 0, .int .i64 0, .int .i64 0] := by rw [hW2]; exact ((((k_v.below q.h).set 0 (.int .i64 0)).set 1 (.int .i64 0)).set 2 (.int .i64 0))
  have k_r : Bk W2 (g_r) 26 #[.int .i64 0, .int .i64 0, .int .i64 0, .int .i64 0, .int .i64 0, .int .i64 0, .int .i64 0, .int .i64 0, .int .i64 0] := by rw [hW2]; exact ((((k_r.below q.h).other (a := ⟨w.heap.size, 0, none⟩) (by show ¬ g_r = w.heap.size; omega) (.int .i64 0)).other (a := ⟨w.heap.size, 1, none⟩) (by show ¬ g_r = w.heap.size; omega) (.int .i64 0)).other (a := ⟨w.heap.size, 2, none⟩) (by show ¬ g_r = w.heap.size; omega) (.int .i64 0))
  rw [← hW2]
  clear hW2
  clear B1
  clear c_v_0 f_v_0 c_v_1 f_v_1 c_v_2 f_v_2 c_r_0 c_r_1 c_r_2 c_r_3 c_r_4 c_r_5 c_r_6 c_r_7 c_r_8
  have c_v_0 : ∀ p : BW W2, p.w.cell? ⟨w.heap.size, 0, none⟩ = some (.int .i64 0) := bw_cell (k_v.cell rfl)
  have c_v_1 : ∀ p : BW W2, p.w.cell? ⟨w.heap.size, 1, none⟩ = some (.int .i64 0) := bw_cell (k_v.cell rfl)
  have c_v_2 : ∀ p : BW W2, p.w.cell? ⟨w.heap.size, 2, none⟩ = some (.int .i64 0) := bw_cell (k_v.cell rfl)
  have c_r_0 : ∀ p : BW W2, p.w.cell? ⟨g_r, 0, none⟩ = some (.int .i64 0) := bw_cell (k_r.cell rfl)
  have f_r_0 : ∀ p : BW W2, p.w.frozen? ⟨g_r, 0, none⟩ = false := fun p => (k_r.below p.h).frozen 0
  have c_r_1 : ∀ p : BW W2, p.w.cell? ⟨g_r, 1, none⟩ = some (.int .i64 0) := bw_cell (k_r.cell rfl)
  have f_r_1 : ∀ p : BW W2, p.w.frozen? ⟨g_r, 1, none⟩ = false := fun p => (k_r.below p.h).frozen 1
  have c_r_2 : ∀ p : BW W2, p.w.cell? ⟨g_r, 2, none⟩ = some (.int .i64 0) := bw_cell (k_r.cell rfl)
  have f_r_2 : ∀ p : BW W2, p.w.frozen? ⟨g_r, 2, none⟩ = false := fun p => (k_r.below p.h).frozen 2
  have c_r_3 : ∀ p : BW W2, p.w.cell? ⟨g_r, 3, none⟩ = some (.int .i64 0) := bw_cell (k_r.cell rfl)
  have f_r_3 : ∀ p : BW W2, p.w.frozen? ⟨g_r, 3, none⟩ = false := fun p => (k_r.below p.h).frozen 3
  have c_r_4 : ∀ p : BW W2, p.w.cell? ⟨g_r, 4, none⟩ = some (.int .i64 0) := bw_cell (k_r.cell rfl)
  have f_r_4 : ∀ p : BW W2, p.w.frozen? ⟨g_r, 4, none⟩ = false := fun p => (k_r.below p.h).frozen 4
  have c_r_5 : ∀ p : BW W2, p.w.cell? ⟨g_r, 5, none⟩ = some (.int .i64 0) := bw_cell (k_r.cell rfl)
  have f_r_5 : ∀ p : BW W2, p.w.frozen? ⟨g_r, 5, none⟩ = false := fun p => (k_r.below p.h).frozen 5
  have c_r_6 : ∀ p : BW W2, p.w.cell? ⟨g_r, 6, none⟩ = some (.int .i64 0) := bw_cell (k_r.cell rfl)
  have f_r_6 : ∀ p : BW W2, p.w.frozen? ⟨g_r, 6, none⟩ = false := fun p => (k_r.below p.h).frozen 6
  have c_r_7 : ∀ p : BW W2, p.w.cell? ⟨g_r, 7, none⟩ = some (.int .i64 0) := bw_cell (k_r.cell rfl)
  have f_r_7 : ∀ p : BW W2, p.w.frozen? ⟨g_r, 7, none⟩ = false := fun p => (k_r.below p.h).frozen 7
  have c_r_8 : ∀ p : BW W2, p.w.cell? ⟨g_r, 8, none⟩ = some (.int .i64 0) := bw_cell (k_r.cell rfl)
  have f_r_8 : ∀ p : BW W2, p.w.frozen? ⟨g_r, 8, none⟩ = false := fun p => (k_r.below p.h).frozen 8
  obtain ⟨p2, hp2⟩ : ∃ p : BW W2, p.w = W2 := ⟨BW.start W2, rfl⟩
  rw [← hp2]
  clear hp2
  go_wp2
  have kr : Bk (((((((((p2.w.setCell ⟨g_r, 0, none⟩ (.int .i64 0)).setCell ⟨g_r, 1, none⟩ (.int .i64 0)).setCell ⟨g_r, 2, none⟩ (.int .i64 0)).setCell ⟨g_r, 3, none⟩ (.int .i64 0)).setCell ⟨g_r, 4, none⟩ (.int .i64 0)).setCell ⟨g_r, 5, none⟩ (.int .i64 0)).setCell ⟨g_r, 6, none⟩ (.int .i64 0)).setCell ⟨g_r, 7, none⟩ (.int .i64 0)).setCell ⟨g_r, 8, none⟩ (.int .i64 0)) (g_r) 26 #[.int .i64 0, .int .i64 0, .int .i64 0, .int .i64 0, .int .i64 0, .int .i64 0, .int .i64 0, .int .i64 0, .int .i64 0] := ((((((((((k_r.below p2.h).set 0 (.int .i64 0)).set 1 (.int .i64 0)).set 2 (.int .i64 0)).set 3 (.int .i64 0)).set 4 (.int .i64 0)).set 5 (.int .i64 0)).set 6 (.int .i64 0)).set 7 (.int .i64 0)).set 8 (.int .i64 0)).cast (by simp)
  have rc0 : World.cell? (((((((((p2.w.setCell ⟨g_r, 0, none⟩ (.int .i64 0)).setCell ⟨g_r, 1, none⟩ (.int .i64 0)).setCell ⟨g_r, 2, none⟩ (.int .i64 0)).setCell ⟨g_r, 3, none⟩ (.int .i64 0)).setCell ⟨g_r, 4, none⟩ (.int .i64 0)).setCell ⟨g_r, 5, none⟩ (.int .i64 0)).setCell ⟨g_r, 6, none⟩ (.int .i64 0)).setCell ⟨g_r, 7, none⟩ (.int .i64 0)).setCell ⟨g_r, 8, none⟩ (.int .i64 0)) ⟨g_r, 0, none⟩ = some (.int .i64 0) := kr.cell rfl
  have rc1 : World.cell? (((((((((p2.w.setCell ⟨g_r, 0, none⟩ (.int .i64 0)).setCell ⟨g_r, 1, none⟩ (.int .i64 0)).setCell ⟨g_r, 2, none⟩ (.int .i64 0)).setCell ⟨g_r, 3, none⟩ (.int .i64 0)).setCell ⟨g_r, 4, none⟩ (.int .i64 0)).setCell ⟨g_r, 5, none⟩ (.int .i64 0)).setCell ⟨g_r, 6, none⟩ (.int .i64 0)).setCell ⟨g_r, 7, none⟩ (.int .i64 0)).setCell ⟨g_r, 8, none⟩ (.int .i64 0)) ⟨g_r, 1, none⟩ = some (.int .i64 0) := kr.cell rfl
  have rc2 : World.cell? (((((((((p2.w.setCell ⟨g_r, 0, none⟩ (.int .i64 0)).setCell ⟨g_r, 1, none⟩ (.int .i64 0)).setCell ⟨g_r, 2, none⟩ (.int .i64 0)).setCell ⟨g_r, 3, none⟩ (.int .i64 0)).setCell ⟨g_r, 4, none⟩ (.int .i64 0)).setCell ⟨g_r, 5, none⟩ (.int .i64 0)).setCell ⟨g_r, 6, none⟩ (.int .i64 0)).setCell ⟨g_r, 7, none⟩ (.int .i64 0)).setCell ⟨g_r, 8, none⟩ (.int .i64 0)) ⟨g_r, 2, none⟩ = some (.int .i64 0) := kr.cell rfl
  have rc3 : World.cell? (((((((((p2.w.setCell ⟨g_r, 0, none⟩ (.int .i64 0)).setCell ⟨g_r, 1, none⟩ (.int .i64 0)).setCell ⟨g_r, 2, none⟩ (.int .i64 0)).setCell ⟨g_r, 3, none⟩ (.int .i64 0)).setCell ⟨g_r, 4, none⟩ (.int .i64 0)).setCell ⟨g_r, 5, none⟩ (.int .i64 0)).setCell ⟨g_r, 6, none⟩ (.int .i64 0)).setCell ⟨g_r, 7, none⟩ (.int .i64 0)).setCell ⟨g_r, 8, none⟩ (.int .i64 0)) ⟨g_r, 3, none⟩ = some (.int .i64 0) := kr.cell rfl
  have rc4 : World.cell? (((((((((p2.w.setCell ⟨g_r, 0, none⟩ (.int .i64 0)).setCell ⟨g_r, 1, none⟩ (.int .i64 0)).setCell ⟨g_r, 2, none⟩ (.int .i64 0)).setCell ⟨g_r, 3, none⟩ (.int .i64 0)).setCell ⟨g_r, 4, none⟩ (.int .i64 0)).setCell ⟨g_r, 5, none⟩ (.int .i64 0)).setCell ⟨g_r, 6, none⟩ (.int .i64 0)).setCell ⟨g_r, 7, none⟩ (.int .i64 0)).setCell ⟨g_r, 8, none⟩ (.int .i64 0)) ⟨g_r, 4, none⟩ = some (.int .i64 0) := kr.cell rfl
  have rc5 : World.cell? (((((((((p2.w.setCell ⟨g_r, 0, none⟩ (.int .i64 0)).setCell ⟨g_r, 1, none⟩ (.int .i64 0)).setCell ⟨g_r, 2, none⟩ (.int .i64 0)).setCell ⟨g_r, 3, none⟩ (.int .i64 0)).setCell ⟨g_r, 4, none⟩ (.int .i64 0)).setCell ⟨g_r, 5, none⟩ (.int .i64 0)).setCell ⟨g_r, 6, none⟩ (.int .i64 0)).setCell ⟨g_r, 7, none⟩ (.int .i64 0)).setCell ⟨g_r, 8, none⟩ (.int .i64 0)) ⟨g_r, 5, none⟩ = some (.int .i64 0) := kr.cell rfl
  have rc6 : World.cell? (((((((((p2.w.setCell ⟨g_r, 0, none⟩ (.int .i64 0)).setCell ⟨g_r, 1, none⟩ (.int .i64 0)).setCell ⟨g_r, 2, none⟩ (.int .i64 0)).setCell ⟨g_r, 3, none⟩ (.int .i64 0)).setCell ⟨g_r, 4, none⟩ (.int .i64 0)).setCell ⟨g_r, 5, none⟩ (.int .i64 0)).setCell ⟨g_r, 6, none⟩ (.int .i64 0)).setCell ⟨g_r, 7, none⟩ (.int .i64 0)).setCell ⟨g_r, 8, none⟩ (.int .i64 0)) ⟨g_r, 6, none⟩ = some (.int .i64 0) := kr.cell rfl
  have rc7 : World.cell? (((((((((p2.w.setCell ⟨g_r, 0, none⟩ (.int .i64 0)).setCell ⟨g_r, 1, none⟩ (.int .i64 0)).setCell ⟨g_r, 2, none⟩ (.int .i64 0)).setCell ⟨g_r, 3, none⟩ (.int .i64 0)).setCell ⟨g_r, 4, none⟩ (.int .i64 0)).setCell ⟨g_r, 5, none⟩ (.int .i64 0)).setCell ⟨g_r, 6, none⟩ (.int .i64 0)).setCell ⟨g_r, 7, none⟩ (.int .i64 0)).setCell ⟨g_r, 8, none⟩ (.int .i64 0)) ⟨g_r, 7, none⟩ = some (.int .i64 0) := kr.cell rfl
  have rc8 : World.cell? (((((((((p2.w.setCell ⟨g_r, 0, none⟩ (.int .i64 0)).setCell ⟨g_r, 1, none⟩ (.int .i64 0)).setCell ⟨g_r, 2, none⟩ (.int .i64 0)).setCell ⟨g_r, 3, none⟩ (.int .i64 0)).setCell ⟨g_r, 4, none⟩ (.int .i64 0)).setCell ⟨g_r, 5, none⟩ (.int .i64 0)).setCell ⟨g_r, 6, none⟩ (.int .i64 0)).setCell ⟨g_r, 7, none⟩ (.int .i64 0)).setCell ⟨g_r, 8, none⟩ (.int .i64 0)) ⟨g_r, 8, none⟩ = some (.int .i64 0) := kr.cell rfl
  exact bodyPost_ret (v := .tuple #[.agg #[.int .i64 0, .int .i64 0, .int .i64 0, .int .i64 0, .int .i64 0, .int .i64 0, .int .i64 0, .int .i64 0, .int .i64 0], .bool false]) (by simp [results, Try.results6, go_sem, rc0, rc1, rc2, rc3, rc4, rc5, rc6, rc7, rc8]) rfl ⟨rfl, ((((((((((bw_below B2 p2).setCell (p := ⟨g_r, 0, none⟩) (by show w.heap.size ≤ g_r; omega) _).setCell (p := ⟨g_r, 1, none⟩) (by show w.heap.size ≤ g_r; omega) _).setCell (p := ⟨g_r, 2, none⟩) (by show w.heap.size ≤ g_r; omega) _).setCell (p := ⟨g_r, 3, none⟩) (by show w.heap.size ≤ g_r; omega) _).setCell (p := ⟨g_r, 4, none⟩) (by show w.heap.size ≤ g_r; omega) _).setCell (p := ⟨g_r, 5, none⟩) (by show w.heap.size ≤ g_r; omega) _).setCell (p := ⟨g_r, 6, none⟩) (by show w.heap.size ≤ g_r; omega) _).setCell (p := ⟨g_r, 7, none⟩) (by show w.heap.size ≤ g_r; omega) _).setCell (p := ⟨g_r, 8, none⟩) (by show w.heap.size ≤ g_r; omega) _)⟩

theorem basis_Of (x y z : Int) (w : World) (hx : I64 x) (hy : I64 y) (hz : I64 z) :
    Calls Try.prog 6 #[.agg #[.int .i64 x, .int .i64 y, .int .i64 z]] w fun e w' => e = .returned (.tuple #[.agg (bas9 (bas x y z)), .bool (vuOk x y z)]) ∧ Below w.heap.size w w' := by
  unfold bas
  cases h : vuOk x y z with
  | true => exact basis_Of_yes x y z w h hx hy hz
  | false => exact basis_Of_no x y z w h hx hy hz

end Go.Proofs.Ytijphipinjlmbaa
