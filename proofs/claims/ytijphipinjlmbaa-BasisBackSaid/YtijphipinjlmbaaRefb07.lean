/- Contracts of the document's own answers, layer 7: Out, In, Mirror, Facing. -/
import Derived.Test.YtijphipinjlmbaaRef07
import Derived.Test.YtijphipinjlmbaaEdge
namespace Go.Proofs.Ytijphipinjlmbaa
open Go.RowKit Go.Proofs.Sky
set_option linter.unusedVariables false

theorem vdot_near {x y z a b c : Int} (h1 : vnear x y z = true) (h2 : vnear a b c = true) : vdot x y z a b c = x * a + y * b + z * c := by unfold vdot; rw [if_pos ⟨h1, h2⟩]

theorem dv_at {a D : Int} (hD : 1 ≤ D) : dv a D = a / D := by unfold dv; rw [if_neg (by omega)]

theorem dot_I64 {x y z a b c : Int} (h1 : vnear x y z = true) (h2 : vnear a b c = true) : -3298534883328 ≤ x * a + y * b + z * c ∧ x * a + y * b + z * c ≤ 3298534883328 := by
  rw [vnear_iff] at h1 h2
  have p := near_mul (x := x) (a := a) (by omega) (by omega)
  have q := near_mul (x := y) (a := b) (by omega) (by omega)
  have r := near_mul (x := z) (a := c) (by omega) (by omega)
  omega

theorem allNear_iff {u1 u2 u3 v1 v2 v3 n1 n2 n3 w1 w2 w3 : Int} : allNear (u1, u2, u3) (v1, v2, v3) (n1, n2, n3) (w1, w2, w3) = true ↔ (vnear u1 u2 u3 = true ∧ vnear v1 v2 v3 = true ∧ vnear n1 n2 n3 = true) ∧ vnear w1 w2 w3 = true := by
  unfold allNear nrT
  simp [Bool.and_eq_true, and_assoc]

set_option maxRecDepth 100000 in
set_option maxHeartbeats 4000000 in
theorem ref7_Out_no (u1 u2 u3 v1 v2 v3 n1 n2 n3 w1 w2 w3 : Int) (w : World) (h : ¬ allNear (u1, u2, u3) (v1, v2, v3) (n1, n2, n3) (w1, w2, w3) = true) :
    Calls Try.prog 10 #[.agg #[.int .i64 u1, .int .i64 u2, .int .i64 u3, .int .i64 v1, .int .i64 v2, .int .i64 v3, .int .i64 n1, .int .i64 n2, .int .i64 n3], .agg #[.int .i64 w1, .int .i64 w2, .int .i64 w3]] w fun e w' => e = .returned (.agg #[.int .i64 0, .int .i64 0, .int .i64 0]) ∧ Below w.heap.size w w' := by
  have N1 := Lib.hid (fun w => ref7_Near u1 u2 u3 v1 v2 v3 n1 n2 n3 w)
  have N2 := Lib.hid (fun w => ref6_Near w1 w2 w3 w)
  have hc : (vnear u1 u2 u3 && (vnear v1 v2 v3 && vnear n1 n2 n3)) = false ∨ ((vnear u1 u2 u3 && (vnear v1 v2 v3 && vnear n1 n2 n3)) = true ∧ vnear w1 w2 w3 = false) := by
    cases hh : (vnear u1 u2 u3 && (vnear v1 v2 v3 && vnear n1 n2 n3)) with
    | false => exact .inl rfl
    | true =>
      refine .inr ⟨rfl, ?_⟩
      simp only [Bool.and_eq_true] at hh
      cases hw : vnear w1 w2 w3 with
      | false => rfl
      | true => exact absurd (allNear_iff.2 ⟨hh, hw⟩) h
  clear h
  generalize (vnear u1 u2 u3 && (vnear v1 v2 v3 && vnear n1 n2 n3)) = a at *
  generalize vnear w1 w2 w3 = b at *
  go_enter Try.func10, Try.ntmps10
  go_upto_region 1 with (fail)
  obtain ⟨W1, hW1⟩ : ∃ W, W = ((w.alloc (.cells #[.int .i64 u1, .int .i64 u2, .int .i64 u3, .int .i64 v1, .int .i64 v2, .int .i64 v3, .int .i64 n1, .int .i64 n2, .int .i64 n3] 25)).alloc (.cells #[.int .i64 w1, .int .i64 w2, .int .i64 w3] 23)).alloc (.cells #[.int .i64 0, .int .i64 0, .int .i64 0] 23) := ⟨_, rfl⟩
  have B1 : Below w.heap.size w W1 := by rw [hW1]; go_grown
  have k_b : Bk W1 (w.heap.size) 25 #[.int .i64 u1, .int .i64 u2, .int .i64 u3, .int .i64 v1, .int .i64 v2, .int .i64 v3, .int .i64 n1, .int .i64 n2, .int .i64 n3] := by rw [hW1]; exact ((Bk.new _ _ _).alloc _).alloc _
  have k_v : Bk W1 (w.heap.size + 1) 23 #[.int .i64 w1, .int .i64 w2, .int .i64 w3] := by rw [hW1]; exact (Bk.new_at _ _ _ _ (by simp)).alloc _
  have k_r : Bk W1 (w.heap.size + 1 + 1) 23 #[.int .i64 0, .int .i64 0, .int .i64 0] := by rw [hW1]; exact Bk.new_at _ _ _ _ (by simp)
  rw [← hW1]
  clear hW1
  have l_v : w.heap.size < w.heap.size + 1 := by omega
  have l_r : w.heap.size + 1 < w.heap.size + 1 + 1 := by omega
  generalize w.heap.size + 1 + 1 = g_r at *
  generalize w.heap.size + 1 = g_v at *
  have c_b_0 : ∀ p : BW W1, p.w.cell? ⟨w.heap.size, 0, none⟩ = some (.int .i64 u1) := bw_cell (k_b.cell rfl)
  have c_b_1 : ∀ p : BW W1, p.w.cell? ⟨w.heap.size, 1, none⟩ = some (.int .i64 u2) := bw_cell (k_b.cell rfl)
  have c_b_2 : ∀ p : BW W1, p.w.cell? ⟨w.heap.size, 2, none⟩ = some (.int .i64 u3) := bw_cell (k_b.cell rfl)
  have c_b_3 : ∀ p : BW W1, p.w.cell? ⟨w.heap.size, 3, none⟩ = some (.int .i64 v1) := bw_cell (k_b.cell rfl)
  have c_b_4 : ∀ p : BW W1, p.w.cell? ⟨w.heap.size, 4, none⟩ = some (.int .i64 v2) := bw_cell (k_b.cell rfl)
  have c_b_5 : ∀ p : BW W1, p.w.cell? ⟨w.heap.size, 5, none⟩ = some (.int .i64 v3) := bw_cell (k_b.cell rfl)
  have c_b_6 : ∀ p : BW W1, p.w.cell? ⟨w.heap.size, 6, none⟩ = some (.int .i64 n1) := bw_cell (k_b.cell rfl)
  have c_b_7 : ∀ p : BW W1, p.w.cell? ⟨w.heap.size, 7, none⟩ = some (.int .i64 n2) := bw_cell (k_b.cell rfl)
  have c_b_8 : ∀ p : BW W1, p.w.cell? ⟨w.heap.size, 8, none⟩ = some (.int .i64 n3) := bw_cell (k_b.cell rfl)
  have c_v_0 : ∀ p : BW W1, p.w.cell? ⟨g_v, 0, none⟩ = some (.int .i64 w1) := bw_cell (k_v.cell rfl)
  have c_v_1 : ∀ p : BW W1, p.w.cell? ⟨g_v, 1, none⟩ = some (.int .i64 w2) := bw_cell (k_v.cell rfl)
  have c_v_2 : ∀ p : BW W1, p.w.cell? ⟨g_v, 2, none⟩ = some (.int .i64 w3) := bw_cell (k_v.cell rfl)
  have c_r_0 : ∀ p : BW W1, p.w.cell? ⟨g_r, 0, none⟩ = some (.int .i64 0) := bw_cell (k_r.cell rfl)
  have f_r_0 : ∀ p : BW W1, p.w.frozen? ⟨g_r, 0, none⟩ = false := fun p => (k_r.below p.h).frozen 0
  have c_r_1 : ∀ p : BW W1, p.w.cell? ⟨g_r, 1, none⟩ = some (.int .i64 0) := bw_cell (k_r.cell rfl)
  have f_r_1 : ∀ p : BW W1, p.w.frozen? ⟨g_r, 1, none⟩ = false := fun p => (k_r.below p.h).frozen 1
  have c_r_2 : ∀ p : BW W1, p.w.cell? ⟨g_r, 2, none⟩ = some (.int .i64 0) := bw_cell (k_r.cell rfl)
  have f_r_2 : ∀ p : BW W1, p.w.frozen? ⟨g_r, 2, none⟩ = false := fun p => (k_r.below p.h).frozen 2
  obtain ⟨p1, hp1⟩ : ∃ p : BW W1, p.w = W1 := ⟨BW.start W1, rfl⟩
  rw [← hp1]
  clear hp1
  rcases hc with rfl | ⟨rfl, rfl⟩
  · clear k_b k_v
    go_wp2_with (first
      | (go_at_call 34; (first | (with_reducible refine (bw_call N1.out _).mono ?_)); rintro e w' ⟨rfl, q, rfl⟩)
      | (go_at_call 35; (first | (with_reducible refine (bw_call N2.out _).mono ?_)); rintro e w' ⟨rfl, q, rfl⟩))
    have kr : Bk (((q.w.setCell ⟨g_r, 0, none⟩ (.int .i64 0)).setCell ⟨g_r, 1, none⟩ (.int .i64 0)).setCell ⟨g_r, 2, none⟩ (.int .i64 0)) (g_r) 23 #[.int .i64 0, .int .i64 0, .int .i64 0] := ((((k_r.below q.h).set 0 (.int .i64 0)).set 1 (.int .i64 0)).set 2 (.int .i64 0))
    have rc0 : World.cell? (((q.w.setCell ⟨g_r, 0, none⟩ (.int .i64 0)).setCell ⟨g_r, 1, none⟩ (.int .i64 0)).setCell ⟨g_r, 2, none⟩ (.int .i64 0)) ⟨g_r, 0, none⟩ = some (.int .i64 0) := kr.cell rfl
    have rc1 : World.cell? (((q.w.setCell ⟨g_r, 0, none⟩ (.int .i64 0)).setCell ⟨g_r, 1, none⟩ (.int .i64 0)).setCell ⟨g_r, 2, none⟩ (.int .i64 0)) ⟨g_r, 1, none⟩ = some (.int .i64 0) := kr.cell rfl
    have rc2 : World.cell? (((q.w.setCell ⟨g_r, 0, none⟩ (.int .i64 0)).setCell ⟨g_r, 1, none⟩ (.int .i64 0)).setCell ⟨g_r, 2, none⟩ (.int .i64 0)) ⟨g_r, 2, none⟩ = some (.int .i64 0) := kr.cell rfl
    exact bodyPost_ret (v := .agg #[.int .i64 0, .int .i64 0, .int .i64 0]) (by simp [results, Try.results10, go_sem, rc0, rc1, rc2]) rfl ⟨rfl, ((((bw_below B1 q).setCell (p := ⟨g_r, 0, none⟩) (by show w.heap.size ≤ g_r; omega) _).setCell (p := ⟨g_r, 1, none⟩) (by show w.heap.size ≤ g_r; omega) _).setCell (p := ⟨g_r, 2, none⟩) (by show w.heap.size ≤ g_r; omega) _)⟩
  · clear k_b k_v
    go_wp2_with (first
      | (go_at_call 34; (first | (with_reducible refine (bw_call N1.out _).mono ?_)); rintro e w' ⟨rfl, q, rfl⟩)
      | (go_at_call 35; (first | (with_reducible refine (bw_call N2.out _).mono ?_)); rintro e w' ⟨rfl, q, rfl⟩))
    have kr : Bk (((q.w.setCell ⟨g_r, 0, none⟩ (.int .i64 0)).setCell ⟨g_r, 1, none⟩ (.int .i64 0)).setCell ⟨g_r, 2, none⟩ (.int .i64 0)) (g_r) 23 #[.int .i64 0, .int .i64 0, .int .i64 0] := ((((k_r.below q.h).set 0 (.int .i64 0)).set 1 (.int .i64 0)).set 2 (.int .i64 0))
    have rc0 : World.cell? (((q.w.setCell ⟨g_r, 0, none⟩ (.int .i64 0)).setCell ⟨g_r, 1, none⟩ (.int .i64 0)).setCell ⟨g_r, 2, none⟩ (.int .i64 0)) ⟨g_r, 0, none⟩ = some (.int .i64 0) := kr.cell rfl
    have rc1 : World.cell? (((q.w.setCell ⟨g_r, 0, none⟩ (.int .i64 0)).setCell ⟨g_r, 1, none⟩ (.int .i64 0)).setCell ⟨g_r, 2, none⟩ (.int .i64 0)) ⟨g_r, 1, none⟩ = some (.int .i64 0) := kr.cell rfl
    have rc2 : World.cell? (((q.w.setCell ⟨g_r, 0, none⟩ (.int .i64 0)).setCell ⟨g_r, 1, none⟩ (.int .i64 0)).setCell ⟨g_r, 2, none⟩ (.int .i64 0)) ⟨g_r, 2, none⟩ = some (.int .i64 0) := kr.cell rfl
    exact bodyPost_ret (v := .agg #[.int .i64 0, .int .i64 0, .int .i64 0]) (by simp [results, Try.results10, go_sem, rc0, rc1, rc2]) rfl ⟨rfl, ((((bw_below B1 q).setCell (p := ⟨g_r, 0, none⟩) (by show w.heap.size ≤ g_r; omega) _).setCell (p := ⟨g_r, 1, none⟩) (by show w.heap.size ≤ g_r; omega) _).setCell (p := ⟨g_r, 2, none⟩) (by show w.heap.size ≤ g_r; omega) _)⟩

set_option maxRecDepth 100000 in
set_option maxHeartbeats 4000000 in
theorem ref7_Out_yes (u1 u2 u3 v1 v2 v3 n1 n2 n3 w1 w2 w3 : Int) (w : World) (h : allNear (u1, u2, u3) (v1, v2, v3) (n1, n2, n3) (w1, w2, w3) = true) :
    Calls Try.prog 10 #[.agg #[.int .i64 u1, .int .i64 u2, .int .i64 u3, .int .i64 v1, .int .i64 v2, .int .i64 v3, .int .i64 n1, .int .i64 n2, .int .i64 n3], .agg #[.int .i64 w1, .int .i64 w2, .int .i64 w3]] w fun e w' => e = .returned (.agg #[.int .i64 ((u1 * w1 + v1 * w2 + n1 * w3) / 16384), .int .i64 ((u2 * w1 + v2 * w2 + n2 * w3) / 16384), .int .i64 ((u3 * w1 + v3 * w2 + n3 * w3) / 16384)]) ∧ Below w.heap.size w w' := by
  have N1 := Lib.hid (fun w => ref7_Near u1 u2 u3 v1 v2 v3 n1 n2 n3 w)
  have N2 := Lib.hid (fun w => ref6_Near w1 w2 w3 w)
  obtain ⟨⟨h1, h2, h3⟩, h4⟩ := allNear_iff.1 h
  rw [h1, h2, h3] at N1
  rw [h4] at N2
  clear h
  rw [vnear_iff] at h1 h2 h3
  have hn1 : vnear u1 v1 n1 = true := by rw [vnear_iff]; omega
  have hn2 : vnear u2 v2 n2 = true := by rw [vnear_iff]; omega
  have hn3 : vnear u3 v3 n3 = true := by rw [vnear_iff]; omega
  have D1 := Lib.hid (fun w => ref6_Dot u1 v1 n1 w1 w2 w3 w)
  rw [vdot_near hn1 h4] at D1
  have i1 := dot_I64 hn1 h4
  have D2 := Lib.hid (fun w => ref6_Dot u2 v2 n2 w1 w2 w3 w)
  rw [vdot_near hn2 h4] at D2
  have i2 := dot_I64 hn2 h4
  have D3 := Lib.hid (fun w => ref6_Dot u3 v3 n3 w1 w2 w3 w)
  rw [vdot_near hn3 h4] at D3
  have i3 := dot_I64 hn3 h4
  clear h1 h2 h3 h4 hn1 hn2 hn3
  generalize u1 * w1 + v1 * w2 + n1 * w3 = s1 at *
  have V1 := Lib.hid (fun w => below_of_same (fun w => ref_Div s1 16384 w (by unfold I64; omega) (by unfold I64; omega)) w)
  rw [dv_at (by omega)] at V1
  generalize s1 / 16384 = r1 at *
  generalize u2 * w1 + v2 * w2 + n2 * w3 = s2 at *
  have V2 := Lib.hid (fun w => below_of_same (fun w => ref_Div s2 16384 w (by unfold I64; omega) (by unfold I64; omega)) w)
  rw [dv_at (by omega)] at V2
  generalize s2 / 16384 = r2 at *
  generalize u3 * w1 + v3 * w2 + n3 * w3 = s3 at *
  have V3 := Lib.hid (fun w => below_of_same (fun w => ref_Div s3 16384 w (by unfold I64; omega) (by unfold I64; omega)) w)
  rw [dv_at (by omega)] at V3
  generalize s3 / 16384 = r3 at *
  clear i1 i2 i3
  go_enter Try.func10, Try.ntmps10
  go_upto_region 1 with (fail)
  obtain ⟨W1, hW1⟩ : ∃ W, W = ((w.alloc (.cells #[.int .i64 u1, .int .i64 u2, .int .i64 u3, .int .i64 v1, .int .i64 v2, .int .i64 v3, .int .i64 n1, .int .i64 n2, .int .i64 n3] 25)).alloc (.cells #[.int .i64 w1, .int .i64 w2, .int .i64 w3] 23)).alloc (.cells #[.int .i64 0, .int .i64 0, .int .i64 0] 23) := ⟨_, rfl⟩
  have B1 : Below w.heap.size w W1 := by rw [hW1]; go_grown
  have k_b : Bk W1 (w.heap.size) 25 #[.int .i64 u1, .int .i64 u2, .int .i64 u3, .int .i64 v1, .int .i64 v2, .int .i64 v3, .int .i64 n1, .int .i64 n2, .int .i64 n3] := by rw [hW1]; exact ((Bk.new _ _ _).alloc _).alloc _
  have k_v : Bk W1 (w.heap.size + 1) 23 #[.int .i64 w1, .int .i64 w2, .int .i64 w3] := by rw [hW1]; exact (Bk.new_at _ _ _ _ (by simp)).alloc _
  have k_r : Bk W1 (w.heap.size + 1 + 1) 23 #[.int .i64 0, .int .i64 0, .int .i64 0] := by rw [hW1]; exact Bk.new_at _ _ _ _ (by simp)
  rw [← hW1]
  clear hW1
  have l_v : w.heap.size < w.heap.size + 1 := by omega
  have l_r : w.heap.size + 1 < w.heap.size + 1 + 1 := by omega
  generalize w.heap.size + 1 + 1 = g_r at *
  generalize w.heap.size + 1 = g_v at *
  have c_b_0 : ∀ p : BW W1, p.w.cell? ⟨w.heap.size, 0, none⟩ = some (.int .i64 u1) := bw_cell (k_b.cell rfl)
  have c_b_1 : ∀ p : BW W1, p.w.cell? ⟨w.heap.size, 1, none⟩ = some (.int .i64 u2) := bw_cell (k_b.cell rfl)
  have c_b_2 : ∀ p : BW W1, p.w.cell? ⟨w.heap.size, 2, none⟩ = some (.int .i64 u3) := bw_cell (k_b.cell rfl)
  have c_b_3 : ∀ p : BW W1, p.w.cell? ⟨w.heap.size, 3, none⟩ = some (.int .i64 v1) := bw_cell (k_b.cell rfl)
  have c_b_4 : ∀ p : BW W1, p.w.cell? ⟨w.heap.size, 4, none⟩ = some (.int .i64 v2) := bw_cell (k_b.cell rfl)
  have c_b_5 : ∀ p : BW W1, p.w.cell? ⟨w.heap.size, 5, none⟩ = some (.int .i64 v3) := bw_cell (k_b.cell rfl)
  have c_b_6 : ∀ p : BW W1, p.w.cell? ⟨w.heap.size, 6, none⟩ = some (.int .i64 n1) := bw_cell (k_b.cell rfl)
  have c_b_7 : ∀ p : BW W1, p.w.cell? ⟨w.heap.size, 7, none⟩ = some (.int .i64 n2) := bw_cell (k_b.cell rfl)
  have c_b_8 : ∀ p : BW W1, p.w.cell? ⟨w.heap.size, 8, none⟩ = some (.int .i64 n3) := bw_cell (k_b.cell rfl)
  have c_v_0 : ∀ p : BW W1, p.w.cell? ⟨g_v, 0, none⟩ = some (.int .i64 w1) := bw_cell (k_v.cell rfl)
  have c_v_1 : ∀ p : BW W1, p.w.cell? ⟨g_v, 1, none⟩ = some (.int .i64 w2) := bw_cell (k_v.cell rfl)
  have c_v_2 : ∀ p : BW W1, p.w.cell? ⟨g_v, 2, none⟩ = some (.int .i64 w3) := bw_cell (k_v.cell rfl)
  have c_r_0 : ∀ p : BW W1, p.w.cell? ⟨g_r, 0, none⟩ = some (.int .i64 0) := bw_cell (k_r.cell rfl)
  have f_r_0 : ∀ p : BW W1, p.w.frozen? ⟨g_r, 0, none⟩ = false := fun p => (k_r.below p.h).frozen 0
  have c_r_1 : ∀ p : BW W1, p.w.cell? ⟨g_r, 1, none⟩ = some (.int .i64 0) := bw_cell (k_r.cell rfl)
  have f_r_1 : ∀ p : BW W1, p.w.frozen? ⟨g_r, 1, none⟩ = false := fun p => (k_r.below p.h).frozen 1
  have c_r_2 : ∀ p : BW W1, p.w.cell? ⟨g_r, 2, none⟩ = some (.int .i64 0) := bw_cell (k_r.cell rfl)
  have f_r_2 : ∀ p : BW W1, p.w.frozen? ⟨g_r, 2, none⟩ = false := fun p => (k_r.below p.h).frozen 2
  obtain ⟨p1, hp1⟩ : ∃ p : BW W1, p.w = W1 := ⟨BW.start W1, rfl⟩
  rw [← hp1]
  clear hp1
  go_wp2_with (first
    | (go_at_call 34; (first | (with_reducible refine (bw_call N1.out _).mono ?_)); rintro e w' ⟨rfl, q, rfl⟩)
    | (go_at_call 35; (first | (with_reducible refine (bw_call N2.out _).mono ?_)); rintro e w' ⟨rfl, q, rfl⟩)
    | (go_at_call 21; (first | (with_reducible refine (bw_call D1.out _).mono ?_) | (with_reducible refine (bw_call D2.out _).mono ?_) | (with_reducible refine (bw_call D3.out _).mono ?_)); rintro e w' ⟨rfl, q, rfl⟩)
    | (go_at_call 36; (first | (with_reducible refine (bw_call V1.out _).mono ?_) | (with_reducible refine (bw_call V2.out _).mono ?_) | (with_reducible refine (bw_call V3.out _).mono ?_)); rintro e w' ⟨rfl, q, rfl⟩))
  have kr : Bk (((q.w.setCell ⟨g_r, 0, none⟩ (.int .i64 r1)).setCell ⟨g_r, 1, none⟩ (.int .i64 r2)).setCell ⟨g_r, 2, none⟩ (.int .i64 r3)) (g_r) 23 #[.int .i64 r1, .int .i64 r2, .int .i64 r3] := ((((k_r.below q.h).set 0 (.int .i64 r1)).set 1 (.int .i64 r2)).set 2 (.int .i64 r3))
  have rc0 : World.cell? (((q.w.setCell ⟨g_r, 0, none⟩ (.int .i64 r1)).setCell ⟨g_r, 1, none⟩ (.int .i64 r2)).setCell ⟨g_r, 2, none⟩ (.int .i64 r3)) ⟨g_r, 0, none⟩ = some (.int .i64 r1) := kr.cell rfl
  have rc1 : World.cell? (((q.w.setCell ⟨g_r, 0, none⟩ (.int .i64 r1)).setCell ⟨g_r, 1, none⟩ (.int .i64 r2)).setCell ⟨g_r, 2, none⟩ (.int .i64 r3)) ⟨g_r, 1, none⟩ = some (.int .i64 r2) := kr.cell rfl
  have rc2 : World.cell? (((q.w.setCell ⟨g_r, 0, none⟩ (.int .i64 r1)).setCell ⟨g_r, 1, none⟩ (.int .i64 r2)).setCell ⟨g_r, 2, none⟩ (.int .i64 r3)) ⟨g_r, 2, none⟩ = some (.int .i64 r3) := kr.cell rfl
  exact bodyPost_ret (v := .agg #[.int .i64 r1, .int .i64 r2, .int .i64 r3]) (by simp [results, Try.results10, go_sem, rc0, rc1, rc2]) rfl ⟨rfl, ((((bw_below B1 q).setCell (p := ⟨g_r, 0, none⟩) (by show w.heap.size ≤ g_r; omega) _).setCell (p := ⟨g_r, 1, none⟩) (by show w.heap.size ≤ g_r; omega) _).setCell (p := ⟨g_r, 2, none⟩) (by show w.heap.size ≤ g_r; omega) _)⟩

theorem ref7_Out (u1 u2 u3 v1 v2 v3 n1 n2 n3 w1 w2 w3 : Int) (w : World) :
    Calls Try.prog 10 #[.agg #[.int .i64 u1, .int .i64 u2, .int .i64 u3, .int .i64 v1, .int .i64 v2, .int .i64 v3, .int .i64 n1, .int .i64 n2, .int .i64 n3], .agg #[.int .i64 w1, .int .i64 w2, .int .i64 w3]] w fun e w' => e = .returned (.agg #[.int .i64 (bout (u1, u2, u3) (v1, v2, v3) (n1, n2, n3) (w1, w2, w3)).1, .int .i64 (bout (u1, u2, u3) (v1, v2, v3) (n1, n2, n3) (w1, w2, w3)).2.1, .int .i64 (bout (u1, u2, u3) (v1, v2, v3) (n1, n2, n3) (w1, w2, w3)).2.2]) ∧ Below w.heap.size w w' := by
  unfold bout
  by_cases h : allNear (u1, u2, u3) (v1, v2, v3) (n1, n2, n3) (w1, w2, w3) = true
  · rw [if_pos h]; exact ref7_Out_yes u1 u2 u3 v1 v2 v3 n1 n2 n3 w1 w2 w3 w h
  · rw [if_neg h]; exact ref7_Out_no u1 u2 u3 v1 v2 v3 n1 n2 n3 w1 w2 w3 w h

set_option maxRecDepth 100000 in
set_option maxHeartbeats 4000000 in
theorem ref7_In_no (u1 u2 u3 v1 v2 v3 n1 n2 n3 w1 w2 w3 : Int) (w : World) (h : ¬ allNear (u1, u2, u3) (v1, v2, v3) (n1, n2, n3) (w1, w2, w3) = true) :
    Calls Try.prog 12 #[.agg #[.int .i64 u1, .int .i64 u2, .int .i64 u3, .int .i64 v1, .int .i64 v2, .int .i64 v3, .int .i64 n1, .int .i64 n2, .int .i64 n3], .agg #[.int .i64 w1, .int .i64 w2, .int .i64 w3]] w fun e w' => e = .returned (.agg #[.int .i64 0, .int .i64 0, .int .i64 0]) ∧ Below w.heap.size w w' := by
  have N1 := Lib.hid (fun w => ref7_Near u1 u2 u3 v1 v2 v3 n1 n2 n3 w)
  have N2 := Lib.hid (fun w => ref6_Near w1 w2 w3 w)
  have hc : (vnear u1 u2 u3 && (vnear v1 v2 v3 && vnear n1 n2 n3)) = false ∨ ((vnear u1 u2 u3 && (vnear v1 v2 v3 && vnear n1 n2 n3)) = true ∧ vnear w1 w2 w3 = false) := by
    cases hh : (vnear u1 u2 u3 && (vnear v1 v2 v3 && vnear n1 n2 n3)) with
    | false => exact .inl rfl
    | true =>
      refine .inr ⟨rfl, ?_⟩
      simp only [Bool.and_eq_true] at hh
      cases hw : vnear w1 w2 w3 with
      | false => rfl
      | true => exact absurd (allNear_iff.2 ⟨hh, hw⟩) h
  clear h
  generalize (vnear u1 u2 u3 && (vnear v1 v2 v3 && vnear n1 n2 n3)) = a at *
  generalize vnear w1 w2 w3 = b at *
  go_enter Try.func12, Try.ntmps12
  go_upto_region 1 with (fail)
  obtain ⟨W1, hW1⟩ : ∃ W, W = ((w.alloc (.cells #[.int .i64 u1, .int .i64 u2, .int .i64 u3, .int .i64 v1, .int .i64 v2, .int .i64 v3, .int .i64 n1, .int .i64 n2, .int .i64 n3] 25)).alloc (.cells #[.int .i64 w1, .int .i64 w2, .int .i64 w3] 23)).alloc (.cells #[.int .i64 0, .int .i64 0, .int .i64 0] 23) := ⟨_, rfl⟩
  have B1 : Below w.heap.size w W1 := by rw [hW1]; go_grown
  have k_b : Bk W1 (w.heap.size) 25 #[.int .i64 u1, .int .i64 u2, .int .i64 u3, .int .i64 v1, .int .i64 v2, .int .i64 v3, .int .i64 n1, .int .i64 n2, .int .i64 n3] := by rw [hW1]; exact ((Bk.new _ _ _).alloc _).alloc _
  have k_v : Bk W1 (w.heap.size + 1) 23 #[.int .i64 w1, .int .i64 w2, .int .i64 w3] := by rw [hW1]; exact (Bk.new_at _ _ _ _ (by simp)).alloc _
  have k_r : Bk W1 (w.heap.size + 1 + 1) 23 #[.int .i64 0, .int .i64 0, .int .i64 0] := by rw [hW1]; exact Bk.new_at _ _ _ _ (by simp)
  rw [← hW1]
  clear hW1
  have l_v : w.heap.size < w.heap.size + 1 := by omega
  have l_r : w.heap.size + 1 < w.heap.size + 1 + 1 := by omega
  generalize w.heap.size + 1 + 1 = g_r at *
  generalize w.heap.size + 1 = g_v at *
  have c_b_0 : ∀ p : BW W1, p.w.cell? ⟨w.heap.size, 0, none⟩ = some (.int .i64 u1) := bw_cell (k_b.cell rfl)
  have c_b_1 : ∀ p : BW W1, p.w.cell? ⟨w.heap.size, 1, none⟩ = some (.int .i64 u2) := bw_cell (k_b.cell rfl)
  have c_b_2 : ∀ p : BW W1, p.w.cell? ⟨w.heap.size, 2, none⟩ = some (.int .i64 u3) := bw_cell (k_b.cell rfl)
  have c_b_3 : ∀ p : BW W1, p.w.cell? ⟨w.heap.size, 3, none⟩ = some (.int .i64 v1) := bw_cell (k_b.cell rfl)
  have c_b_4 : ∀ p : BW W1, p.w.cell? ⟨w.heap.size, 4, none⟩ = some (.int .i64 v2) := bw_cell (k_b.cell rfl)
  have c_b_5 : ∀ p : BW W1, p.w.cell? ⟨w.heap.size, 5, none⟩ = some (.int .i64 v3) := bw_cell (k_b.cell rfl)
  have c_b_6 : ∀ p : BW W1, p.w.cell? ⟨w.heap.size, 6, none⟩ = some (.int .i64 n1) := bw_cell (k_b.cell rfl)
  have c_b_7 : ∀ p : BW W1, p.w.cell? ⟨w.heap.size, 7, none⟩ = some (.int .i64 n2) := bw_cell (k_b.cell rfl)
  have c_b_8 : ∀ p : BW W1, p.w.cell? ⟨w.heap.size, 8, none⟩ = some (.int .i64 n3) := bw_cell (k_b.cell rfl)
  have c_v_0 : ∀ p : BW W1, p.w.cell? ⟨g_v, 0, none⟩ = some (.int .i64 w1) := bw_cell (k_v.cell rfl)
  have c_v_1 : ∀ p : BW W1, p.w.cell? ⟨g_v, 1, none⟩ = some (.int .i64 w2) := bw_cell (k_v.cell rfl)
  have c_v_2 : ∀ p : BW W1, p.w.cell? ⟨g_v, 2, none⟩ = some (.int .i64 w3) := bw_cell (k_v.cell rfl)
  have c_r_0 : ∀ p : BW W1, p.w.cell? ⟨g_r, 0, none⟩ = some (.int .i64 0) := bw_cell (k_r.cell rfl)
  have f_r_0 : ∀ p : BW W1, p.w.frozen? ⟨g_r, 0, none⟩ = false := fun p => (k_r.below p.h).frozen 0
  have c_r_1 : ∀ p : BW W1, p.w.cell? ⟨g_r, 1, none⟩ = some (.int .i64 0) := bw_cell (k_r.cell rfl)
  have f_r_1 : ∀ p : BW W1, p.w.frozen? ⟨g_r, 1, none⟩ = false := fun p => (k_r.below p.h).frozen 1
  have c_r_2 : ∀ p : BW W1, p.w.cell? ⟨g_r, 2, none⟩ = some (.int .i64 0) := bw_cell (k_r.cell rfl)
  have f_r_2 : ∀ p : BW W1, p.w.frozen? ⟨g_r, 2, none⟩ = false := fun p => (k_r.below p.h).frozen 2
  obtain ⟨p1, hp1⟩ : ∃ p : BW W1, p.w = W1 := ⟨BW.start W1, rfl⟩
  rw [← hp1]
  clear hp1
  rcases hc with rfl | ⟨rfl, rfl⟩
  · clear k_b k_v
    go_wp2_with (first
      | (go_at_call 34; (first | (with_reducible refine (bw_call N1.out _).mono ?_)); rintro e w' ⟨rfl, q, rfl⟩)
      | (go_at_call 35; (first | (with_reducible refine (bw_call N2.out _).mono ?_)); rintro e w' ⟨rfl, q, rfl⟩))
    have kr : Bk (((q.w.setCell ⟨g_r, 0, none⟩ (.int .i64 0)).setCell ⟨g_r, 1, none⟩ (.int .i64 0)).setCell ⟨g_r, 2, none⟩ (.int .i64 0)) (g_r) 23 #[.int .i64 0, .int .i64 0, .int .i64 0] := ((((k_r.below q.h).set 0 (.int .i64 0)).set 1 (.int .i64 0)).set 2 (.int .i64 0))
    have rc0 : World.cell? (((q.w.setCell ⟨g_r, 0, none⟩ (.int .i64 0)).setCell ⟨g_r, 1, none⟩ (.int .i64 0)).setCell ⟨g_r, 2, none⟩ (.int .i64 0)) ⟨g_r, 0, none⟩ = some (.int .i64 0) := kr.cell rfl
    have rc1 : World.cell? (((q.w.setCell ⟨g_r, 0, none⟩ (.int .i64 0)).setCell ⟨g_r, 1, none⟩ (.int .i64 0)).setCell ⟨g_r, 2, none⟩ (.int .i64 0)) ⟨g_r, 1, none⟩ = some (.int .i64 0) := kr.cell rfl
    have rc2 : World.cell? (((q.w.setCell ⟨g_r, 0, none⟩ (.int .i64 0)).setCell ⟨g_r, 1, none⟩ (.int .i64 0)).setCell ⟨g_r, 2, none⟩ (.int .i64 0)) ⟨g_r, 2, none⟩ = some (.int .i64 0) := kr.cell rfl
    exact bodyPost_ret (v := .agg #[.int .i64 0, .int .i64 0, .int .i64 0]) (by simp [results, Try.results12, go_sem, rc0, rc1, rc2]) rfl ⟨rfl, ((((bw_below B1 q).setCell (p := ⟨g_r, 0, none⟩) (by show w.heap.size ≤ g_r; omega) _).setCell (p := ⟨g_r, 1, none⟩) (by show w.heap.size ≤ g_r; omega) _).setCell (p := ⟨g_r, 2, none⟩) (by show w.heap.size ≤ g_r; omega) _)⟩
  · clear k_b k_v
    go_wp2_with (first
      | (go_at_call 34; (first | (with_reducible refine (bw_call N1.out _).mono ?_)); rintro e w' ⟨rfl, q, rfl⟩)
      | (go_at_call 35; (first | (with_reducible refine (bw_call N2.out _).mono ?_)); rintro e w' ⟨rfl, q, rfl⟩))
    have kr : Bk (((q.w.setCell ⟨g_r, 0, none⟩ (.int .i64 0)).setCell ⟨g_r, 1, none⟩ (.int .i64 0)).setCell ⟨g_r, 2, none⟩ (.int .i64 0)) (g_r) 23 #[.int .i64 0, .int .i64 0, .int .i64 0] := ((((k_r.below q.h).set 0 (.int .i64 0)).set 1 (.int .i64 0)).set 2 (.int .i64 0))
    have rc0 : World.cell? (((q.w.setCell ⟨g_r, 0, none⟩ (.int .i64 0)).setCell ⟨g_r, 1, none⟩ (.int .i64 0)).setCell ⟨g_r, 2, none⟩ (.int .i64 0)) ⟨g_r, 0, none⟩ = some (.int .i64 0) := kr.cell rfl
    have rc1 : World.cell? (((q.w.setCell ⟨g_r, 0, none⟩ (.int .i64 0)).setCell ⟨g_r, 1, none⟩ (.int .i64 0)).setCell ⟨g_r, 2, none⟩ (.int .i64 0)) ⟨g_r, 1, none⟩ = some (.int .i64 0) := kr.cell rfl
    have rc2 : World.cell? (((q.w.setCell ⟨g_r, 0, none⟩ (.int .i64 0)).setCell ⟨g_r, 1, none⟩ (.int .i64 0)).setCell ⟨g_r, 2, none⟩ (.int .i64 0)) ⟨g_r, 2, none⟩ = some (.int .i64 0) := kr.cell rfl
    exact bodyPost_ret (v := .agg #[.int .i64 0, .int .i64 0, .int .i64 0]) (by simp [results, Try.results12, go_sem, rc0, rc1, rc2]) rfl ⟨rfl, ((((bw_below B1 q).setCell (p := ⟨g_r, 0, none⟩) (by show w.heap.size ≤ g_r; omega) _).setCell (p := ⟨g_r, 1, none⟩) (by show w.heap.size ≤ g_r; omega) _).setCell (p := ⟨g_r, 2, none⟩) (by show w.heap.size ≤ g_r; omega) _)⟩

set_option maxRecDepth 100000 in
set_option maxHeartbeats 4000000 in
theorem ref7_In_yes (u1 u2 u3 v1 v2 v3 n1 n2 n3 w1 w2 w3 : Int) (w : World) (h : allNear (u1, u2, u3) (v1, v2, v3) (n1, n2, n3) (w1, w2, w3) = true) :
    Calls Try.prog 12 #[.agg #[.int .i64 u1, .int .i64 u2, .int .i64 u3, .int .i64 v1, .int .i64 v2, .int .i64 v3, .int .i64 n1, .int .i64 n2, .int .i64 n3], .agg #[.int .i64 w1, .int .i64 w2, .int .i64 w3]] w fun e w' => e = .returned (.agg #[.int .i64 ((w1 * u1 + w2 * u2 + w3 * u3) / 16384), .int .i64 ((w1 * v1 + w2 * v2 + w3 * v3) / 16384), .int .i64 ((w1 * n1 + w2 * n2 + w3 * n3) / 16384)]) ∧ Below w.heap.size w w' := by
  have N1 := Lib.hid (fun w => ref7_Near u1 u2 u3 v1 v2 v3 n1 n2 n3 w)
  have N2 := Lib.hid (fun w => ref6_Near w1 w2 w3 w)
  obtain ⟨⟨h1, h2, h3⟩, h4⟩ := allNear_iff.1 h
  rw [h1, h2, h3] at N1
  rw [h4] at N2
  clear h
  have D1 := Lib.hid (fun w => ref6_Dot w1 w2 w3 u1 u2 u3 w)
  rw [vdot_near h4 h1] at D1
  have i1 := dot_I64 h4 h1
  have D2 := Lib.hid (fun w => ref6_Dot w1 w2 w3 v1 v2 v3 w)
  rw [vdot_near h4 h2] at D2
  have i2 := dot_I64 h4 h2
  have D3 := Lib.hid (fun w => ref6_Dot w1 w2 w3 n1 n2 n3 w)
  rw [vdot_near h4 h3] at D3
  have i3 := dot_I64 h4 h3
  clear h1 h2 h3 h4
  generalize w1 * u1 + w2 * u2 + w3 * u3 = s1 at *
  have V1 := Lib.hid (fun w => below_of_same (fun w => ref_Div s1 16384 w (by unfold I64; omega) (by unfold I64; omega)) w)
  rw [dv_at (by omega)] at V1
  generalize s1 / 16384 = r1 at *
  generalize w1 * v1 + w2 * v2 + w3 * v3 = s2 at *
  have V2 := Lib.hid (fun w => below_of_same (fun w => ref_Div s2 16384 w (by unfold I64; omega) (by unfold I64; omega)) w)
  rw [dv_at (by omega)] at V2
  generalize s2 / 16384 = r2 at *
  generalize w1 * n1 + w2 * n2 + w3 * n3 = s3 at *
  have V3 := Lib.hid (fun w => below_of_same (fun w => ref_Div s3 16384 w (by unfold I64; omega) (by unfold I64; omega)) w)
  rw [dv_at (by omega)] at V3
  generalize s3 / 16384 = r3 at *
  clear i1 i2 i3
  go_enter Try.func12, Try.ntmps12
  go_upto_region 1 with (fail)
  obtain ⟨W1, hW1⟩ : ∃ W, W = ((w.alloc (.cells #[.int .i64 u1, .int .i64 u2, .int .i64 u3, .int .i64 v1, .int .i64 v2, .int .i64 v3, .int .i64 n1, .int .i64 n2, .int .i64 n3] 25)).alloc (.cells #[.int .i64 w1, .int .i64 w2, .int .i64 w3] 23)).alloc (.cells #[.int .i64 0, .int .i64 0, .int .i64 0] 23) := ⟨_, rfl⟩
  have B1 : Below w.heap.size w W1 := by rw [hW1]; go_grown
  have k_b : Bk W1 (w.heap.size) 25 #[.int .i64 u1, .int .i64 u2, .int .i64 u3, .int .i64 v1, .int .i64 v2, .int .i64 v3, .int .i64 n1, .int .i64 n2, .int .i64 n3] := by rw [hW1]; exact ((Bk.new _ _ _).alloc _).alloc _
  have k_v : Bk W1 (w.heap.size + 1) 23 #[.int .i64 w1, .int .i64 w2, .int .i64 w3] := by rw [hW1]; exact (Bk.new_at _ _ _ _ (by simp)).alloc _
  have k_r : Bk W1 (w.heap.size + 1 + 1) 23 #[.int .i64 0, .int .i64 0, .int .i64 0] := by rw [hW1]; exact Bk.new_at _ _ _ _ (by simp)
  rw [← hW1]
  clear hW1
  have l_v : w.heap.size < w.heap.size + 1 := by omega
  have l_r : w.heap.size + 1 < w.heap.size + 1 + 1 := by omega
  generalize w.heap.size + 1 + 1 = g_r at *
  generalize w.heap.size + 1 = g_v at *
  have c_b_0 : ∀ p : BW W1, p.w.cell? ⟨w.heap.size, 0, none⟩ = some (.int .i64 u1) := bw_cell (k_b.cell rfl)
  have c_b_1 : ∀ p : BW W1, p.w.cell? ⟨w.heap.size, 1, none⟩ = some (.int .i64 u2) := bw_cell (k_b.cell rfl)
  have c_b_2 : ∀ p : BW W1, p.w.cell? ⟨w.heap.size, 2, none⟩ = some (.int .i64 u3) := bw_cell (k_b.cell rfl)
  have c_b_3 : ∀ p : BW W1, p.w.cell? ⟨w.heap.size, 3, none⟩ = some (.int .i64 v1) := bw_cell (k_b.cell rfl)
  have c_b_4 : ∀ p : BW W1, p.w.cell? ⟨w.heap.size, 4, none⟩ = some (.int .i64 v2) := bw_cell (k_b.cell rfl)
  have c_b_5 : ∀ p : BW W1, p.w.cell? ⟨w.heap.size, 5, none⟩ = some (.int .i64 v3) := bw_cell (k_b.cell rfl)
  have c_b_6 : ∀ p : BW W1, p.w.cell? ⟨w.heap.size, 6, none⟩ = some (.int .i64 n1) := bw_cell (k_b.cell rfl)
  have c_b_7 : ∀ p : BW W1, p.w.cell? ⟨w.heap.size, 7, none⟩ = some (.int .i64 n2) := bw_cell (k_b.cell rfl)
  have c_b_8 : ∀ p : BW W1, p.w.cell? ⟨w.heap.size, 8, none⟩ = some (.int .i64 n3) := bw_cell (k_b.cell rfl)
  have c_v_0 : ∀ p : BW W1, p.w.cell? ⟨g_v, 0, none⟩ = some (.int .i64 w1) := bw_cell (k_v.cell rfl)
  have c_v_1 : ∀ p : BW W1, p.w.cell? ⟨g_v, 1, none⟩ = some (.int .i64 w2) := bw_cell (k_v.cell rfl)
  have c_v_2 : ∀ p : BW W1, p.w.cell? ⟨g_v, 2, none⟩ = some (.int .i64 w3) := bw_cell (k_v.cell rfl)
  have c_r_0 : ∀ p : BW W1, p.w.cell? ⟨g_r, 0, none⟩ = some (.int .i64 0) := bw_cell (k_r.cell rfl)
  have f_r_0 : ∀ p : BW W1, p.w.frozen? ⟨g_r, 0, none⟩ = false := fun p => (k_r.below p.h).frozen 0
  have c_r_1 : ∀ p : BW W1, p.w.cell? ⟨g_r, 1, none⟩ = some (.int .i64 0) := bw_cell (k_r.cell rfl)
  have f_r_1 : ∀ p : BW W1, p.w.frozen? ⟨g_r, 1, none⟩ = false := fun p => (k_r.below p.h).frozen 1
  have c_r_2 : ∀ p : BW W1, p.w.cell? ⟨g_r, 2, none⟩ = some (.int .i64 0) := bw_cell (k_r.cell rfl)
  have f_r_2 : ∀ p : BW W1, p.w.frozen? ⟨g_r, 2, none⟩ = false := fun p => (k_r.below p.h).frozen 2
  obtain ⟨p1, hp1⟩ : ∃ p : BW W1, p.w = W1 := ⟨BW.start W1, rfl⟩
  rw [← hp1]
  clear hp1
  go_wp2_with (first
    | (go_at_call 34; (first | (with_reducible refine (bw_call N1.out _).mono ?_)); rintro e w' ⟨rfl, q, rfl⟩)
    | (go_at_call 35; (first | (with_reducible refine (bw_call N2.out _).mono ?_)); rintro e w' ⟨rfl, q, rfl⟩))
  refine wp_region_bw_tail 15 (by kernel_rfl) (by kernel_rfl) (by kernel_rfl) ?_
  simp only [List.take_succ_cons, List.take_zero, List.drop_succ_cons, List.drop_zero]
  repeat (go_big_quiet_step (first
    | (go_at_call 21; (first | (with_reducible exact bw_call D1.out _) | (with_reducible exact bw_call D2.out _) | (with_reducible exact bw_call D3.out _)))
    | (go_at_call 36; (first | (with_reducible exact bw_call V1.out _) | (with_reducible exact bw_call V2.out _) | (with_reducible exact bw_call V3.out _)))))
  refine wpQuiet_nil ?_
  intro _ hw'
  obtain ⟨q, rfl⟩ := hw'
  go_wp2
  have kr : Bk (((q.w.setCell ⟨g_r, 0, none⟩ (.int .i64 r1)).setCell ⟨g_r, 1, none⟩ (.int .i64 r2)).setCell ⟨g_r, 2, none⟩ (.int .i64 r3)) (g_r) 23 #[.int .i64 r1, .int .i64 r2, .int .i64 r3] := ((((k_r.below q.h).set 0 (.int .i64 r1)).set 1 (.int .i64 r2)).set 2 (.int .i64 r3))
  have rc0 : World.cell? (((q.w.setCell ⟨g_r, 0, none⟩ (.int .i64 r1)).setCell ⟨g_r, 1, none⟩ (.int .i64 r2)).setCell ⟨g_r, 2, none⟩ (.int .i64 r3)) ⟨g_r, 0, none⟩ = some (.int .i64 r1) := kr.cell rfl
  have rc1 : World.cell? (((q.w.setCell ⟨g_r, 0, none⟩ (.int .i64 r1)).setCell ⟨g_r, 1, none⟩ (.int .i64 r2)).setCell ⟨g_r, 2, none⟩ (.int .i64 r3)) ⟨g_r, 1, none⟩ = some (.int .i64 r2) := kr.cell rfl
  have rc2 : World.cell? (((q.w.setCell ⟨g_r, 0, none⟩ (.int .i64 r1)).setCell ⟨g_r, 1, none⟩ (.int .i64 r2)).setCell ⟨g_r, 2, none⟩ (.int .i64 r3)) ⟨g_r, 2, none⟩ = some (.int .i64 r3) := kr.cell rfl
  exact bodyPost_ret (v := .agg #[.int .i64 r1, .int .i64 r2, .int .i64 r3]) (by simp [results, Try.results12, go_sem, rc0, rc1, rc2]) rfl ⟨rfl, ((((bw_below B1 q).setCell (p := ⟨g_r, 0, none⟩) (by show w.heap.size ≤ g_r; omega) _).setCell (p := ⟨g_r, 1, none⟩) (by show w.heap.size ≤ g_r; omega) _).setCell (p := ⟨g_r, 2, none⟩) (by show w.heap.size ≤ g_r; omega) _)⟩

theorem ref7_In (u1 u2 u3 v1 v2 v3 n1 n2 n3 w1 w2 w3 : Int) (w : World) :
    Calls Try.prog 12 #[.agg #[.int .i64 u1, .int .i64 u2, .int .i64 u3, .int .i64 v1, .int .i64 v2, .int .i64 v3, .int .i64 n1, .int .i64 n2, .int .i64 n3], .agg #[.int .i64 w1, .int .i64 w2, .int .i64 w3]] w fun e w' => e = .returned (.agg #[.int .i64 (bin (u1, u2, u3) (v1, v2, v3) (n1, n2, n3) (w1, w2, w3)).1, .int .i64 (bin (u1, u2, u3) (v1, v2, v3) (n1, n2, n3) (w1, w2, w3)).2.1, .int .i64 (bin (u1, u2, u3) (v1, v2, v3) (n1, n2, n3) (w1, w2, w3)).2.2]) ∧ Below w.heap.size w w' := by
  unfold bin
  by_cases h : allNear (u1, u2, u3) (v1, v2, v3) (n1, n2, n3) (w1, w2, w3) = true
  · rw [if_pos h]; exact ref7_In_yes u1 u2 u3 v1 v2 v3 n1 n2 n3 w1 w2 w3 w h
  · rw [if_neg h]; exact ref7_In_no u1 u2 u3 v1 v2 v3 n1 n2 n3 w1 w2 w3 w h

set_option maxRecDepth 100000 in
set_option maxHeartbeats 4000000 in
theorem ref7_Of_yes (x y z : Int) (w : World) (h : vuOk x y z = true) :
    Calls Try.prog 7 #[.agg #[.int .i64 x, .int .i64 y, .int .i64 z]] w fun e w' => e = .returned (.tuple #[.agg #[.int .i64 (bU (vunit x y z)).1, .int .i64 (bU (vunit x y z)).2.1, .int .i64 (bU (vunit x y z)).2.2, .int .i64 (bV (vunit x y z)).1, .int .i64 (bV (vunit x y z)).2.1, .int .i64 (bV (vunit x y z)).2.2, .int .i64 (vunit x y z).1, .int .i64 (vunit x y z).2.1, .int .i64 (vunit x y z).2.2], .bool true]) ∧ Below w.heap.size w w' := by
  have U0 := Lib.hid (fun w => ref6_Unit x y z w)
  obtain ⟨N, hN⟩ : ∃ N : T3, N = vunit x y z := ⟨_, rfl⟩
  have hD : Dir N := by rw [hN]; exact Dir.of h
  rw [← hN, h] at U0
  have hs := hD.small.1
  obtain ⟨a, b, c⟩ := N
  unfold smT at hs
  dsimp only at hs U0
  have A0 := Lib.hid (fun w => ref7_axis a b c w hs.1 hs.2.1 hs.2.2)
  have C1 := Lib.hid (fun w => ref6_Cross (bax (a, b, c)).1 (bax (a, b, c)).2.1 (bax (a, b, c)).2.2 a b c w)
  have eU : bU (a, b, c) = vunit (vcr (bax (a, b, c)).1 (bax (a, b, c)).2.1 (bax (a, b, c)).2.2 a b c).1 (vcr (bax (a, b, c)).1 (bax (a, b, c)).2.1 (bax (a, b, c)).2.2 a b c).2.1 (vcr (bax (a, b, c)).1 (bax (a, b, c)).2.1 (bax (a, b, c)).2.2 a b c).2.2 := rfl
  have oU : vuOk (vcr (bax (a, b, c)).1 (bax (a, b, c)).2.1 (bax (a, b, c)).2.2 a b c).1 (vcr (bax (a, b, c)).1 (bax (a, b, c)).2.1 (bax (a, b, c)).2.2 a b c).2.1 (vcr (bax (a, b, c)).1 (bax (a, b, c)).2.1 (bax (a, b, c)).2.2 a b c).2.2 = true := bU_ok hD
  have oV := bV_ok hD
  have eV : bV (a, b, c) = vunit (crT (a, b, c) (bU (a, b, c))).1 (crT (a, b, c) (bU (a, b, c))).2.1 (crT (a, b, c) (bU (a, b, c))).2.2 := rfl
  obtain ⟨U, hU⟩ : ∃ U, U = bU (a, b, c) := ⟨_, rfl⟩
  obtain ⟨V, hV⟩ : ∃ V, V = bV (a, b, c) := ⟨_, rfl⟩
  rw [← hU] at eU oV eV
  rw [← hV] at eV
  have C2 := Lib.hid (fun w => ref6_Cross a b c U.1 U.2.1 U.2.2 w)
  unfold okT at oV
  unfold crT at oV eV
  generalize bax (a, b, c) = ax at *
  dsimp only at oV eV
  generalize vcr ax.1 ax.2.1 ax.2.2 a b c = p at *
  generalize vcr a b c U.1 U.2.1 U.2.2 = q at *
  have U1 := Lib.hid (fun w => ref6_Unit p.1 p.2.1 p.2.2 w)
  have U2 := Lib.hid (fun w => ref6_Unit q.1 q.2.1 q.2.2 w)
  rw [← eU, oU] at U1
  rw [← eV, oV] at U2
  clear eU eV oU oV hs hD h
  obtain ⟨p1, p2, p3⟩ := p
  obtain ⟨q1, q2, q3⟩ := q
  obtain ⟨a1, a2, a3⟩ := ax
  have HN : Hid ((a, b, c) = vunit x y z ∧ U = bU (a, b, c) ∧ V = bV (a, b, c)) := Lib.hid ⟨hN, hU, hV⟩
  rw [← hN, ← hU, ← hV]
  clear hN hU hV HN
  obtain ⟨u1, u2, u3⟩ := U
  obtain ⟨v1, v2, v3⟩ := V
  dsimp only at *
  go_enter Try.func7, Try.ntmps7
  go_upto_region 1 with (fail)
  obtain ⟨W1, hW1⟩ : ∃ W, W = (w.alloc (.cells #[.int .i64 x, .int .i64 y, .int .i64 z] 23)).alloc (.cells #[.int .i64 0, .int .i64 0, .int .i64 0, .int .i64 0, .int .i64 0, .int .i64 0, .int .i64 0, .int .i64 0, .int .i64 0] 25) := ⟨_, rfl⟩
  have B1 : Below w.heap.size w W1 := by rw [hW1]; go_grown
  have k_v : Bk W1 (w.heap.size) 23 #[.int .i64 x, .int .i64 y, .int .i64 z] := by rw [hW1]; exact (Bk.new _ _ _).alloc _
  have k_r : Bk W1 (w.heap.size + 1) 25 #[.int .i64 0, .int .i64 0, .int .i64 0, .int .i64 0, .int .i64 0, .int .i64 0, .int .i64 0, .int .i64 0, .int .i64 0] := by rw [hW1]; exact Bk.new_at _ _ _ _ (by simp)
  rw [← hW1]
  clear hW1
  have l_r : w.heap.size < w.heap.size + 1 := by omega
  generalize w.heap.size + 1 = g_r at *
  have c_v_0 : ∀ p : BW W1, p.w.cell? ⟨w.heap.size, 0, none⟩ = some (.int .i64 x) := bw_cell (k_v.cell rfl)
  have c_v_1 : ∀ p : BW W1, p.w.cell? ⟨w.heap.size, 1, none⟩ = some (.int .i64 y) := bw_cell (k_v.cell rfl)
  have c_v_2 : ∀ p : BW W1, p.w.cell? ⟨w.heap.size, 2, none⟩ = some (.int .i64 z) := bw_cell (k_v.cell rfl)
  have c_r_0 : ∀ p : BW W1, p.w.cell? ⟨g_r, 0, none⟩ = some (.int .i64 0) := bw_cell (k_r.cell rfl)
  have c_r_1 : ∀ p : BW W1, p.w.cell? ⟨g_r, 1, none⟩ = some (.int .i64 0) := bw_cell (k_r.cell rfl)
  have c_r_2 : ∀ p : BW W1, p.w.cell? ⟨g_r, 2, none⟩ = some (.int .i64 0) := bw_cell (k_r.cell rfl)
  have c_r_3 : ∀ p : BW W1, p.w.cell? ⟨g_r, 3, none⟩ = some (.int .i64 0) := bw_cell (k_r.cell rfl)
  have c_r_4 : ∀ p : BW W1, p.w.cell? ⟨g_r, 4, none⟩ = some (.int .i64 0) := bw_cell (k_r.cell rfl)
  have c_r_5 : ∀ p : BW W1, p.w.cell? ⟨g_r, 5, none⟩ = some (.int .i64 0) := bw_cell (k_r.cell rfl)
  have c_r_6 : ∀ p : BW W1, p.w.cell? ⟨g_r, 6, none⟩ = some (.int .i64 0) := bw_cell (k_r.cell rfl)
  have c_r_7 : ∀ p : BW W1, p.w.cell? ⟨g_r, 7, none⟩ = some (.int .i64 0) := bw_cell (k_r.cell rfl)
  have c_r_8 : ∀ p : BW W1, p.w.cell? ⟨g_r, 8, none⟩ = some (.int .i64 0) := bw_cell (k_r.cell rfl)
  obtain ⟨p1, hp1⟩ : ∃ p : BW W1, p.w = W1 := ⟨BW.start W1, rfl⟩
  rw [← hp1]
  clear hp1
  go_upto_region 4 with (first
    | (go_at_call 18; (first | (with_reducible refine (bw_call U0.out _).mono ?_)); rintro e w' ⟨rfl, q, rfl⟩))
  obtain ⟨W2, hW2⟩ : ∃ W, W = q.w.alloc (.cells #[.int .i64 a, .int .i64 b, .int .i64 c] 23) := ⟨_, rfl⟩
  have B2 : Below w.heap.size w W2 := by rw [hW2]; exact (bw_below B1 q).alloc (bw_below B1 q).size _
  have l_n : g_r < q.w.heap.size := (k_r.below q.h).lt
  have k_v := (k_v.below q.h).alloc (.cells #[.int .i64 a, .int .i64 b, .int .i64 c] 23)
  rw [← hW2] at k_v
  have k_r := (k_r.below q.h).alloc (.cells #[.int .i64 a, .int .i64 b, .int .i64 c] 23)
  rw [← hW2] at k_r
  have k_n : Bk W2 q.w.heap.size 23 #[.int .i64 a, .int .i64 b, .int .i64 c] := by rw [hW2]; exact Bk.new _ _ _
  rw [← hW2]
  clear hW2
  clear B1
  clear c_v_0 c_v_1 c_v_2 c_r_0 c_r_1 c_r_2 c_r_3 c_r_4 c_r_5 c_r_6 c_r_7 c_r_8
  generalize q.w.heap.size = g_n at *
  have c_v_0 : ∀ p : BW W2, p.w.cell? ⟨w.heap.size, 0, none⟩ = some (.int .i64 x) := bw_cell (k_v.cell rfl)
  have c_v_1 : ∀ p : BW W2, p.w.cell? ⟨w.heap.size, 1, none⟩ = some (.int .i64 y) := bw_cell (k_v.cell rfl)
  have c_v_2 : ∀ p : BW W2, p.w.cell? ⟨w.heap.size, 2, none⟩ = some (.int .i64 z) := bw_cell (k_v.cell rfl)
  have c_r_0 : ∀ p : BW W2, p.w.cell? ⟨g_r, 0, none⟩ = some (.int .i64 0) := bw_cell (k_r.cell rfl)
  have c_r_1 : ∀ p : BW W2, p.w.cell? ⟨g_r, 1, none⟩ = some (.int .i64 0) := bw_cell (k_r.cell rfl)
  have c_r_2 : ∀ p : BW W2, p.w.cell? ⟨g_r, 2, none⟩ = some (.int .i64 0) := bw_cell (k_r.cell rfl)
  have c_r_3 : ∀ p : BW W2, p.w.cell? ⟨g_r, 3, none⟩ = some (.int .i64 0) := bw_cell (k_r.cell rfl)
  have c_r_4 : ∀ p : BW W2, p.w.cell? ⟨g_r, 4, none⟩ = some (.int .i64 0) := bw_cell (k_r.cell rfl)
  have c_r_5 : ∀ p : BW W2, p.w.cell? ⟨g_r, 5, none⟩ = some (.int .i64 0) := bw_cell (k_r.cell rfl)
  have c_r_6 : ∀ p : BW W2, p.w.cell? ⟨g_r, 6, none⟩ = some (.int .i64 0) := bw_cell (k_r.cell rfl)
  have c_r_7 : ∀ p : BW W2, p.w.cell? ⟨g_r, 7, none⟩ = some (.int .i64 0) := bw_cell (k_r.cell rfl)
  have c_r_8 : ∀ p : BW W2, p.w.cell? ⟨g_r, 8, none⟩ = some (.int .i64 0) := bw_cell (k_r.cell rfl)
  have c_n_0 : ∀ p : BW W2, p.w.cell? ⟨g_n, 0, none⟩ = some (.int .i64 a) := bw_cell (k_n.cell rfl)
  have c_n_1 : ∀ p : BW W2, p.w.cell? ⟨g_n, 1, none⟩ = some (.int .i64 b) := bw_cell (k_n.cell rfl)
  have c_n_2 : ∀ p : BW W2, p.w.cell? ⟨g_n, 2, none⟩ = some (.int .i64 c) := bw_cell (k_n.cell rfl)
  obtain ⟨p2, hp2⟩ : ∃ p : BW W2, p.w = W2 := ⟨BW.start W2, rfl⟩
  rw [← hp2]
  clear hp2
  refine wp_region_late 7 9 25 (by kernel_rfl) (by kernel_rfl) rfl rfl rfl (fun _ _ _ _ h => h) ?_
  refine any_region_float (t := 23) (zs := #[.int .i64 0, .int .i64 0, .int .i64 0]) 9 8 6 37 (by kernel_rfl) (by kernel_rfl) (by kernel_rfl) (by kernel_rfl) rfl ?_ ?_
  · intro ev wx
    simp [execOp, go_sem]
  apply Exists.intro
  refine ⟨?_, ?_⟩
  · intro wb' hwb'
    have d_v_0 : ∀ q : BW wb', q.w.cell? ⟨w.heap.size, 0, none⟩ = some (.int .i64 x) := bw_cell ((k_v.below hwb').cell rfl)
    have d_v_1 : ∀ q : BW wb', q.w.cell? ⟨w.heap.size, 1, none⟩ = some (.int .i64 y) := bw_cell ((k_v.below hwb').cell rfl)
    have d_v_2 : ∀ q : BW wb', q.w.cell? ⟨w.heap.size, 2, none⟩ = some (.int .i64 z) := bw_cell ((k_v.below hwb').cell rfl)
    have d_r_0 : ∀ q : BW wb', q.w.cell? ⟨g_r, 0, none⟩ = some (.int .i64 0) := bw_cell ((k_r.below hwb').cell rfl)
    have d_r_1 : ∀ q : BW wb', q.w.cell? ⟨g_r, 1, none⟩ = some (.int .i64 0) := bw_cell ((k_r.below hwb').cell rfl)
    have d_r_2 : ∀ q : BW wb', q.w.cell? ⟨g_r, 2, none⟩ = some (.int .i64 0) := bw_cell ((k_r.below hwb').cell rfl)
    have d_r_3 : ∀ q : BW wb', q.w.cell? ⟨g_r, 3, none⟩ = some (.int .i64 0) := bw_cell ((k_r.below hwb').cell rfl)
    have d_r_4 : ∀ q : BW wb', q.w.cell? ⟨g_r, 4, none⟩ = some (.int .i64 0) := bw_cell ((k_r.below hwb').cell rfl)
    have d_r_5 : ∀ q : BW wb', q.w.cell? ⟨g_r, 5, none⟩ = some (.int .i64 0) := bw_cell ((k_r.below hwb').cell rfl)
    have d_r_6 : ∀ q : BW wb', q.w.cell? ⟨g_r, 6, none⟩ = some (.int .i64 0) := bw_cell ((k_r.below hwb').cell rfl)
    have d_r_7 : ∀ q : BW wb', q.w.cell? ⟨g_r, 7, none⟩ = some (.int .i64 0) := bw_cell ((k_r.below hwb').cell rfl)
    have d_r_8 : ∀ q : BW wb', q.w.cell? ⟨g_r, 8, none⟩ = some (.int .i64 0) := bw_cell ((k_r.below hwb').cell rfl)
    have d_n_0 : ∀ q : BW wb', q.w.cell? ⟨g_n, 0, none⟩ = some (.int .i64 a) := bw_cell ((k_n.below hwb').cell rfl)
    have d_n_1 : ∀ q : BW wb', q.w.cell? ⟨g_n, 1, none⟩ = some (.int .i64 b) := bw_cell ((k_n.below hwb').cell rfl)
    have d_n_2 : ∀ q : BW wb', q.w.cell? ⟨g_n, 2, none⟩ = some (.int .i64 c) := bw_cell ((k_n.below hwb').cell rfl)
    simp only [edgeAt, maskAt, List.take_succ_cons, List.take_zero]
    repeat (go_big_quiet_step (first
      | (go_at_call 27; (first | (with_reducible exact bw_call A0.out _)))
      | (go_at_call 26; (first | (with_reducible exact bw_call C1.out _)))
      | (go_at_call 18; (first | (with_reducible exact bw_call U1.out _)))))
    refine wpQuiet_nil ?_
    exact rfl
  intro W3 g_u hW hg k_u
  have B3 : Below w.heap.size w W3 := B2.trans (hW.mono B2.size)
  have l_u : g_n < g_u := Nat.lt_of_lt_of_le k_n.lt hg
  have k_v := k_v.below hW
  have k_r := k_r.below hW
  have k_n := k_n.below hW
  clear hW hg B2
  clear c_v_0 c_v_1 c_v_2 c_r_0 c_r_1 c_r_2 c_r_3 c_r_4 c_r_5 c_r_6 c_r_7 c_r_8 c_n_0 c_n_1 c_n_2
  simp only [edgeAt, List.drop_succ_cons, List.drop_zero, Act.put, List.setIfInBounds_toArray, List.set_cons_zero, List.set_cons_succ]
  have c_v_0 : ∀ p : BW W3, p.w.cell? ⟨w.heap.size, 0, none⟩ = some (.int .i64 x) := bw_cell (k_v.cell rfl)
  have c_v_1 : ∀ p : BW W3, p.w.cell? ⟨w.heap.size, 1, none⟩ = some (.int .i64 y) := bw_cell (k_v.cell rfl)
  have c_v_2 : ∀ p : BW W3, p.w.cell? ⟨w.heap.size, 2, none⟩ = some (.int .i64 z) := bw_cell (k_v.cell rfl)
  have c_r_0 : ∀ p : BW W3, p.w.cell? ⟨g_r, 0, none⟩ = some (.int .i64 0) := bw_cell (k_r.cell rfl)
  have c_r_1 : ∀ p : BW W3, p.w.cell? ⟨g_r, 1, none⟩ = some (.int .i64 0) := bw_cell (k_r.cell rfl)
  have c_r_2 : ∀ p : BW W3, p.w.cell? ⟨g_r, 2, none⟩ = some (.int .i64 0) := bw_cell (k_r.cell rfl)
  have c_r_3 : ∀ p : BW W3, p.w.cell? ⟨g_r, 3, none⟩ = some (.int .i64 0) := bw_cell (k_r.cell rfl)
  have c_r_4 : ∀ p : BW W3, p.w.cell? ⟨g_r, 4, none⟩ = some (.int .i64 0) := bw_cell (k_r.cell rfl)
  have c_r_5 : ∀ p : BW W3, p.w.cell? ⟨g_r, 5, none⟩ = some (.int .i64 0) := bw_cell (k_r.cell rfl)
  have c_r_6 : ∀ p : BW W3, p.w.cell? ⟨g_r, 6, none⟩ = some (.int .i64 0) := bw_cell (k_r.cell rfl)
  have c_r_7 : ∀ p : BW W3, p.w.cell? ⟨g_r, 7, none⟩ = some (.int .i64 0) := bw_cell (k_r.cell rfl)
  have c_r_8 : ∀ p : BW W3, p.w.cell? ⟨g_r, 8, none⟩ = some (.int .i64 0) := bw_cell (k_r.cell rfl)
  have c_n_0 : ∀ p : BW W3, p.w.cell? ⟨g_n, 0, none⟩ = some (.int .i64 a) := bw_cell (k_n.cell rfl)
  have c_n_1 : ∀ p : BW W3, p.w.cell? ⟨g_n, 1, none⟩ = some (.int .i64 b) := bw_cell (k_n.cell rfl)
  have c_n_2 : ∀ p : BW W3, p.w.cell? ⟨g_n, 2, none⟩ = some (.int .i64 c) := bw_cell (k_n.cell rfl)
  have c_u_0 : ∀ p : BW W3, p.w.cell? ⟨g_u, 0, none⟩ = some (.int .i64 0) := bw_cell (k_u.cell rfl)
  have f_u_0 : ∀ p : BW W3, p.w.frozen? ⟨g_u, 0, none⟩ = false := fun p => (k_u.below p.h).frozen 0
  have c_u_1 : ∀ p : BW W3, p.w.cell? ⟨g_u, 1, none⟩ = some (.int .i64 0) := bw_cell (k_u.cell rfl)
  have f_u_1 : ∀ p : BW W3, p.w.frozen? ⟨g_u, 1, none⟩ = false := fun p => (k_u.below p.h).frozen 1
  have c_u_2 : ∀ p : BW W3, p.w.cell? ⟨g_u, 2, none⟩ = some (.int .i64 0) := bw_cell (k_u.cell rfl)
  have f_u_2 : ∀ p : BW W3, p.w.frozen? ⟨g_u, 2, none⟩ = false := fun p => (k_u.below p.h).frozen 2
  obtain ⟨p3, hp3⟩ : ∃ p : BW W3, p.w = W3 := ⟨BW.start W3, rfl⟩
  rw [← hp3]
  clear hp3
  go_upto_region 5 with (fail)
  obtain ⟨W4, hW4⟩ : ∃ W, W = ((p3.w.setCell ⟨g_u, 0, none⟩ (.int .i64 u1)).setCell ⟨g_u, 1, none⟩ (.int .i64 u2)).setCell ⟨g_u, 2, none⟩ (.int .i64 u3) := ⟨_, rfl⟩
  have B4 : Below w.heap.size w W4 := by rw [hW4]; exact ((((bw_below B3 p3).setCell (p := ⟨g_u, 0, none⟩) (by show w.heap.size ≤ g_u; omega) _).setCell (p := ⟨g_u, 1, none⟩) (by show w.heap.size ≤ g_u; omega) _).setCell (p := ⟨g_u, 2, none⟩) (by show w.heap.size ≤ g_u; omega) _)
  have k_v : Bk W4 (w.heap.size) 23 #[.int .i64 x, .int .i64 y, .int .i64 z] := by rw [hW4]; exact ((((k_v.below p3.h).other (a := ⟨g_u, 0, none⟩) (by show ¬ w.heap.size = g_u; omega) (.int .i64 u1)).other (a := ⟨g_u, 1, none⟩) (by show ¬ w.heap.size = g_u; omega) (.int .i64 u2)).other (a := ⟨g_u, 2, none⟩) (by show ¬ w.heap.size = g_u; omega) (.int .i64 u3))
  have k_r : Bk W4 (g_r) 25 #[.int .i64 0, .int .i64 0, .int .i64 0, .int .i64 0, .int .i64 0, .int .i64 0, .int .i64 0, .int .i64 0, .int .i64 0] := by rw [hW4]; exact ((((k_r.below p3.h).other (a := ⟨g_u, 0, none⟩) (by show ¬ g_r = g_u; omega) (.int .i64 u1)).other (a := ⟨g_u, 1, none⟩) (by show ¬ g_r = g_u; omega) (.int .i64 u2)).other (a := ⟨g_u, 2, none⟩) (by show ¬ g_r = g_u; omega) (.int .i64 u3))
  have k_n : Bk W4 (g_n) 23 #[.int .i64 a, .int .i64 b, .int .i64 c] := by rw [hW4]; exact ((((k_n.below p3.h).other (a := ⟨g_u, 0, none⟩) (by show ¬ g_n = g_u; omega) (.int .i64 u1)).other (a := ⟨g_u, 1, none⟩) (by show ¬ g_n = g_u; omega) (.int .i64 u2)).other (a := ⟨g_u, 2, none⟩) (by show ¬ g_n = g_u; omega) (.int .i64 u3))
  have k_u : Bk W4 (g_u) 23 #[.int .i64 u1, .int .i64 u2, .int .i64 u3] := by rw [hW4]; exact ((((k_u.below p3.h).set 0 (.int .i64 u1)).set 1 (.int .i64 u2)).set 2 (.int .i64 u3))
  rw [← hW4]
  clear hW4
  clear B3
  clear c_v_0 c_v_1 c_v_2 c_r_0 c_r_1 c_r_2 c_r_3 c_r_4 c_r_5 c_r_6 c_r_7 c_r_8 c_n_0 c_n_1 c_n_2 c_u_0 f_u_0 c_u_1 f_u_1 c_u_2 f_u_2
  have c_v_0 : ∀ p : BW W4, p.w.cell? ⟨w.heap.size, 0, none⟩ = some (.int .i64 x) := bw_cell (k_v.cell rfl)
  have c_v_1 : ∀ p : BW W4, p.w.cell? ⟨w.heap.size, 1, none⟩ = some (.int .i64 y) := bw_cell (k_v.cell rfl)
  have c_v_2 : ∀ p : BW W4, p.w.cell? ⟨w.heap.size, 2, none⟩ = some (.int .i64 z) := bw_cell (k_v.cell rfl)
  have c_r_0 : ∀ p : BW W4, p.w.cell? ⟨g_r, 0, none⟩ = some (.int .i64 0) := bw_cell (k_r.cell rfl)
  have c_r_1 : ∀ p : BW W4, p.w.cell? ⟨g_r, 1, none⟩ = some (.int .i64 0) := bw_cell (k_r.cell rfl)
  have c_r_2 : ∀ p : BW W4, p.w.cell? ⟨g_r, 2, none⟩ = some (.int .i64 0) := bw_cell (k_r.cell rfl)
  have c_r_3 : ∀ p : BW W4, p.w.cell? ⟨g_r, 3, none⟩ = some (.int .i64 0) := bw_cell (k_r.cell rfl)
  have c_r_4 : ∀ p : BW W4, p.w.cell? ⟨g_r, 4, none⟩ = some (.int .i64 0) := bw_cell (k_r.cell rfl)
  have c_r_5 : ∀ p : BW W4, p.w.cell? ⟨g_r, 5, none⟩ = some (.int .i64 0) := bw_cell (k_r.cell rfl)
  have c_r_6 : ∀ p : BW W4, p.w.cell? ⟨g_r, 6, none⟩ = some (.int .i64 0) := bw_cell (k_r.cell rfl)
  have c_r_7 : ∀ p : BW W4, p.w.cell? ⟨g_r, 7, none⟩ = some (.int .i64 0) := bw_cell (k_r.cell rfl)
  have c_r_8 : ∀ p : BW W4, p.w.cell? ⟨g_r, 8, none⟩ = some (.int .i64 0) := bw_cell (k_r.cell rfl)
  have c_n_0 : ∀ p : BW W4, p.w.cell? ⟨g_n, 0, none⟩ = some (.int .i64 a) := bw_cell (k_n.cell rfl)
  have c_n_1 : ∀ p : BW W4, p.w.cell? ⟨g_n, 1, none⟩ = some (.int .i64 b) := bw_cell (k_n.cell rfl)
  have c_n_2 : ∀ p : BW W4, p.w.cell? ⟨g_n, 2, none⟩ = some (.int .i64 c) := bw_cell (k_n.cell rfl)
  have c_u_0 : ∀ p : BW W4, p.w.cell? ⟨g_u, 0, none⟩ = some (.int .i64 u1) := bw_cell (k_u.cell rfl)
  have c_u_1 : ∀ p : BW W4, p.w.cell? ⟨g_u, 1, none⟩ = some (.int .i64 u2) := bw_cell (k_u.cell rfl)
  have c_u_2 : ∀ p : BW W4, p.w.cell? ⟨g_u, 2, none⟩ = some (.int .i64 u3) := bw_cell (k_u.cell rfl)
  obtain ⟨p4, hp4⟩ : ∃ p : BW W4, p.w = W4 := ⟨BW.start W4, rfl⟩
  rw [← hp4]
  clear hp4
  go_upto_region 6 with (first
    | (go_at_call 26; (first | (with_reducible refine (bw_call C2.out _).mono ?_)); rintro e w' ⟨rfl, q, rfl⟩)
    | (go_at_call 18; (first | (with_reducible refine (bw_call U2.out _).mono ?_)); rintro e w' ⟨rfl, q, rfl⟩))
  obtain ⟨W5, hW5⟩ : ∃ W, W = q.w.alloc (.cells #[.int .i64 v1, .int .i64 v2, .int .i64 v3] 23) := ⟨_, rfl⟩
  have B5 : Below w.heap.size w W5 := by rw [hW5]; exact (bw_below B4 q).alloc (bw_below B4 q).size _
  have l_vv : g_u < q.w.heap.size := (k_u.below q.h).lt
  have k_v := (k_v.below q.h).alloc (.cells #[.int .i64 v1, .int .i64 v2, .int .i64 v3] 23)
  rw [← hW5] at k_v
  have k_r := (k_r.below q.h).alloc (.cells #[.int .i64 v1, .int .i64 v2, .int .i64 v3] 23)
  rw [← hW5] at k_r
  have k_n := (k_n.below q.h).alloc (.cells #[.int .i64 v1, .int .i64 v2, .int .i64 v3] 23)
  rw [← hW5] at k_n
  have k_u := (k_u.below q.h).alloc (.cells #[.int .i64 v1, .int .i64 v2, .int .i64 v3] 23)
  rw [← hW5] at k_u
  have k_vv : Bk W5 q.w.heap.size 23 #[.int .i64 v1, .int .i64 v2, .int .i64 v3] := by rw [hW5]; exact Bk.new _ _ _
  rw [← hW5]
  clear hW5
  clear B4
  clear c_v_0 c_v_1 c_v_2 c_r_0 c_r_1 c_r_2 c_r_3 c_r_4 c_r_5 c_r_6 c_r_7 c_r_8 c_n_0 c_n_1 c_n_2 c_u_0 c_u_1 c_u_2
  generalize q.w.heap.size = g_vv at *
  have c_v_0 : ∀ p : BW W5, p.w.cell? ⟨w.heap.size, 0, none⟩ = some (.int .i64 x) := bw_cell (k_v.cell rfl)
  have c_v_1 : ∀ p : BW W5, p.w.cell? ⟨w.heap.size, 1, none⟩ = some (.int .i64 y) := bw_cell (k_v.cell rfl)
  have c_v_2 : ∀ p : BW W5, p.w.cell? ⟨w.heap.size, 2, none⟩ = some (.int .i64 z) := bw_cell (k_v.cell rfl)
  have c_r_0 : ∀ p : BW W5, p.w.cell? ⟨g_r, 0, none⟩ = some (.int .i64 0) := bw_cell (k_r.cell rfl)
  have f_r_0 : ∀ p : BW W5, p.w.frozen? ⟨g_r, 0, none⟩ = false := fun p => (k_r.below p.h).frozen 0
  have c_r_1 : ∀ p : BW W5, p.w.cell? ⟨g_r, 1, none⟩ = some (.int .i64 0) := bw_cell (k_r.cell rfl)
  have f_r_1 : ∀ p : BW W5, p.w.frozen? ⟨g_r, 1, none⟩ = false := fun p => (k_r.below p.h).frozen 1
  have c_r_2 : ∀ p : BW W5, p.w.cell? ⟨g_r, 2, none⟩ = some (.int .i64 0) := bw_cell (k_r.cell rfl)
  have f_r_2 : ∀ p : BW W5, p.w.frozen? ⟨g_r, 2, none⟩ = false := fun p => (k_r.below p.h).frozen 2
  have c_r_3 : ∀ p : BW W5, p.w.cell? ⟨g_r, 3, none⟩ = some (.int .i64 0) := bw_cell (k_r.cell rfl)
  have f_r_3 : ∀ p : BW W5, p.w.frozen? ⟨g_r, 3, none⟩ = false := fun p => (k_r.below p.h).frozen 3
  have c_r_4 : ∀ p : BW W5, p.w.cell? ⟨g_r, 4, none⟩ = some (.int .i64 0) := bw_cell (k_r.cell rfl)
  have f_r_4 : ∀ p : BW W5, p.w.frozen? ⟨g_r, 4, none⟩ = false := fun p => (k_r.below p.h).frozen 4
  have c_r_5 : ∀ p : BW W5, p.w.cell? ⟨g_r, 5, none⟩ = some (.int .i64 0) := bw_cell (k_r.cell rfl)
  have f_r_5 : ∀ p : BW W5, p.w.frozen? ⟨g_r, 5, none⟩ = false := fun p => (k_r.below p.h).frozen 5
  have c_r_6 : ∀ p : BW W5, p.w.cell? ⟨g_r, 6, none⟩ = some (.int .i64 0) := bw_cell (k_r.cell rfl)
  have f_r_6 : ∀ p : BW W5, p.w.frozen? ⟨g_r, 6, none⟩ = false := fun p => (k_r.below p.h).frozen 6
  have c_r_7 : ∀ p : BW W5, p.w.cell? ⟨g_r, 7, none⟩ = some (.int .i64 0) := bw_cell (k_r.cell rfl)
  have f_r_7 : ∀ p : BW W5, p.w.frozen? ⟨g_r, 7, none⟩ = false := fun p => (k_r.below p.h).frozen 7
  have c_r_8 : ∀ p : BW W5, p.w.cell? ⟨g_r, 8, none⟩ = some (.int .i64 0) := bw_cell (k_r.cell rfl)
  have f_r_8 : ∀ p : BW W5, p.w.frozen? ⟨g_r, 8, none⟩ = false := fun p => (k_r.below p.h).frozen 8
  have c_n_0 : ∀ p : BW W5, p.w.cell? ⟨g_n, 0, none⟩ = some (.int .i64 a) := bw_cell (k_n.cell rfl)
  have c_n_1 : ∀ p : BW W5, p.w.cell? ⟨g_n, 1, none⟩ = some (.int .i64 b) := bw_cell (k_n.cell rfl)
  have c_n_2 : ∀ p : BW W5, p.w.cell? ⟨g_n, 2, none⟩ = some (.int .i64 c) := bw_cell (k_n.cell rfl)
  have c_u_0 : ∀ p : BW W5, p.w.cell? ⟨g_u, 0, none⟩ = some (.int .i64 u1) := bw_cell (k_u.cell rfl)
  have c_u_1 : ∀ p : BW W5, p.w.cell? ⟨g_u, 1, none⟩ = some (.int .i64 u2) := bw_cell (k_u.cell rfl)
  have c_u_2 : ∀ p : BW W5, p.w.cell? ⟨g_u, 2, none⟩ = some (.int .i64 u3) := bw_cell (k_u.cell rfl)
  have c_vv_0 : ∀ p : BW W5, p.w.cell? ⟨g_vv, 0, none⟩ = some (.int .i64 v1) := bw_cell (k_vv.cell rfl)
  have c_vv_1 : ∀ p : BW W5, p.w.cell? ⟨g_vv, 1, none⟩ = some (.int .i64 v2) := bw_cell (k_vv.cell rfl)
  have c_vv_2 : ∀ p : BW W5, p.w.cell? ⟨g_vv, 2, none⟩ = some (.int .i64 v3) := bw_cell (k_vv.cell rfl)
  obtain ⟨p5, hp5⟩ : ∃ p : BW W5, p.w = W5 := ⟨BW.start W5, rfl⟩
  rw [← hp5]
  clear hp5
  go_wp2
  have kr : Bk (((((((((p5.w.setCell ⟨g_r, 0, none⟩ (.int .i64 u1)).setCell ⟨g_r, 1, none⟩ (.int .i64 u2)).setCell ⟨g_r, 2, none⟩ (.int .i64 u3)).setCell ⟨g_r, 3, none⟩ (.int .i64 v1)).setCell ⟨g_r, 4, none⟩ (.int .i64 v2)).setCell ⟨g_r, 5, none⟩ (.int .i64 v3)).setCell ⟨g_r, 6, none⟩ (.int .i64 a)).setCell ⟨g_r, 7, none⟩ (.int .i64 b)).setCell ⟨g_r, 8, none⟩ (.int .i64 c)) (g_r) 25 #[.int .i64 u1, .int .i64 u2, .int .i64 u3, .int .i64 v1, .int .i64 v2, .int .i64 v3, .int .i64 a, .int .i64 b, .int .i64 c] := ((((((((((k_r.below p5.h).set 0 (.int .i64 u1)).set 1 (.int .i64 u2)).set 2 (.int .i64 u3)).set 3 (.int .i64 v1)).set 4 (.int .i64 v2)).set 5 (.int .i64 v3)).set 6 (.int .i64 a)).set 7 (.int .i64 b)).set 8 (.int .i64 c)).cast (by simp)
  have rc0 : World.cell? (((((((((p5.w.setCell ⟨g_r, 0, none⟩ (.int .i64 u1)).setCell ⟨g_r, 1, none⟩ (.int .i64 u2)).setCell ⟨g_r, 2, none⟩ (.int .i64 u3)).setCell ⟨g_r, 3, none⟩ (.int .i64 v1)).setCell ⟨g_r, 4, none⟩ (.int .i64 v2)).setCell ⟨g_r, 5, none⟩ (.int .i64 v3)).setCell ⟨g_r, 6, none⟩ (.int .i64 a)).setCell ⟨g_r, 7, none⟩ (.int .i64 b)).setCell ⟨g_r, 8, none⟩ (.int .i64 c)) ⟨g_r, 0, none⟩ = some (.int .i64 u1) := kr.cell rfl
  have rc1 : World.cell? (((((((((p5.w.setCell ⟨g_r, 0, none⟩ (.int .i64 u1)).setCell ⟨g_r, 1, none⟩ (.int .i64 u2)).setCell ⟨g_r, 2, none⟩ (.int .i64 u3)).setCell ⟨g_r, 3, none⟩ (.int .i64 v1)).setCell ⟨g_r, 4, none⟩ (.int .i64 v2)).setCell ⟨g_r, 5, none⟩ (.int .i64 v3)).setCell ⟨g_r, 6, none⟩ (.int .i64 a)).setCell ⟨g_r, 7, none⟩ (.int .i64 b)).setCell ⟨g_r, 8, none⟩ (.int .i64 c)) ⟨g_r, 1, none⟩ = some (.int .i64 u2) := kr.cell rfl
  have rc2 : World.cell? (((((((((p5.w.setCell ⟨g_r, 0, none⟩ (.int .i64 u1)).setCell ⟨g_r, 1, none⟩ (.int .i64 u2)).setCell ⟨g_r, 2, none⟩ (.int .i64 u3)).setCell ⟨g_r, 3, none⟩ (.int .i64 v1)).setCell ⟨g_r, 4, none⟩ (.int .i64 v2)).setCell ⟨g_r, 5, none⟩ (.int .i64 v3)).setCell ⟨g_r, 6, none⟩ (.int .i64 a)).setCell ⟨g_r, 7, none⟩ (.int .i64 b)).setCell ⟨g_r, 8, none⟩ (.int .i64 c)) ⟨g_r, 2, none⟩ = some (.int .i64 u3) := kr.cell rfl
  have rc3 : World.cell? (((((((((p5.w.setCell ⟨g_r, 0, none⟩ (.int .i64 u1)).setCell ⟨g_r, 1, none⟩ (.int .i64 u2)).setCell ⟨g_r, 2, none⟩ (.int .i64 u3)).setCell ⟨g_r, 3, none⟩ (.int .i64 v1)).setCell ⟨g_r, 4, none⟩ (.int .i64 v2)).setCell ⟨g_r, 5, none⟩ (.int .i64 v3)).setCell ⟨g_r, 6, none⟩ (.int .i64 a)).setCell ⟨g_r, 7, none⟩ (.int .i64 b)).setCell ⟨g_r, 8, none⟩ (.int .i64 c)) ⟨g_r, 3, none⟩ = some (.int .i64 v1) := kr.cell rfl
  have rc4 : World.cell? (((((((((p5.w.setCell ⟨g_r, 0, none⟩ (.int .i64 u1)).setCell ⟨g_r, 1, none⟩ (.int .i64 u2)).setCell ⟨g_r, 2, none⟩ (.int .i64 u3)).setCell ⟨g_r, 3, none⟩ (.int .i64 v1)).setCell ⟨g_r, 4, none⟩ (.int .i64 v2)).setCell ⟨g_r, 5, none⟩ (.int .i64 v3)).setCell ⟨g_r, 6, none⟩ (.int .i64 a)).setCell ⟨g_r, 7, none⟩ (.int .i64 b)).setCell ⟨g_r, 8, none⟩ (.int .i64 c)) ⟨g_r, 4, none⟩ = some (.int .i64 v2) := kr.cell rfl
  have rc5 : World.cell? (((((((((p5.w.setCell ⟨g_r, 0, none⟩ (.int .i64 u1)).setCell ⟨g_r, 1, none⟩ (.int .i64 u2)).setCell ⟨g_r, 2, none⟩ (.int .i64 u3)).setCell ⟨g_r, 3, none⟩ (.int .i64 v1)).setCell ⟨g_r, 4, none⟩ (.int .i64 v2)).setCell ⟨g_r, 5, none⟩ (.int .i64 v3)).setCell ⟨g_r, 6, none⟩ (.int .i64 a)).setCell ⟨g_r, 7, none⟩ (.int .i64 b)).setCell ⟨g_r, 8, none⟩ (.int .i64 c)) ⟨g_r, 5, none⟩ = some (.int .i64 v3) := kr.cell rfl
  have rc6 : World.cell? (((((((((p5.w.setCell ⟨g_r, 0, none⟩ (.int .i64 u1)).setCell ⟨g_r, 1, none⟩ (.int .i64 u2)).setCell ⟨g_r, 2, none⟩ (.int .i64 u3)).setCell ⟨g_r, 3, none⟩ (.int .i64 v1)).setCell ⟨g_r, 4, none⟩ (.int .i64 v2)).setCell ⟨g_r, 5, none⟩ (.int .i64 v3)).setCell ⟨g_r, 6, none⟩ (.int .i64 a)).setCell ⟨g_r, 7, none⟩ (.int .i64 b)).setCell ⟨g_r, 8, none⟩ (.int .i64 c)) ⟨g_r, 6, none⟩ = some (.int .i64 a) := kr.cell rfl
  have rc7 : World.cell? (((((((((p5.w.setCell ⟨g_r, 0, none⟩ (.int .i64 u1)).setCell ⟨g_r, 1, none⟩ (.int .i64 u2)).setCell ⟨g_r, 2, none⟩ (.int .i64 u3)).setCell ⟨g_r, 3, none⟩ (.int .i64 v1)).setCell ⟨g_r, 4, none⟩ (.int .i64 v2)).setCell ⟨g_r, 5, none⟩ (.int .i64 v3)).setCell ⟨g_r, 6, none⟩ (.int .i64 a)).setCell ⟨g_r, 7, none⟩ (.int .i64 b)).setCell ⟨g_r, 8, none⟩ (.int .i64 c)) ⟨g_r, 7, none⟩ = some (.int .i64 b) := kr.cell rfl
  have rc8 : World.cell? (((((((((p5.w.setCell ⟨g_r, 0, none⟩ (.int .i64 u1)).setCell ⟨g_r, 1, none⟩ (.int .i64 u2)).setCell ⟨g_r, 2, none⟩ (.int .i64 u3)).setCell ⟨g_r, 3, none⟩ (.int .i64 v1)).setCell ⟨g_r, 4, none⟩ (.int .i64 v2)).setCell ⟨g_r, 5, none⟩ (.int .i64 v3)).setCell ⟨g_r, 6, none⟩ (.int .i64 a)).setCell ⟨g_r, 7, none⟩ (.int .i64 b)).setCell ⟨g_r, 8, none⟩ (.int .i64 c)) ⟨g_r, 8, none⟩ = some (.int .i64 c) := kr.cell rfl
  exact bodyPost_ret (v := .tuple #[.agg #[.int .i64 u1, .int .i64 u2, .int .i64 u3, .int .i64 v1, .int .i64 v2, .int .i64 v3, .int .i64 a, .int .i64 b, .int .i64 c], .bool true]) (by simp [results, Try.results7, go_sem, rc0, rc1, rc2, rc3, rc4, rc5, rc6, rc7, rc8]) rfl ⟨rfl, ((((((((((bw_below B5 p5).setCell (p := ⟨g_r, 0, none⟩) (by show w.heap.size ≤ g_r; omega) _).setCell (p := ⟨g_r, 1, none⟩) (by show w.heap.size ≤ g_r; omega) _).setCell (p := ⟨g_r, 2, none⟩) (by show w.heap.size ≤ g_r; omega) _).setCell (p := ⟨g_r, 3, none⟩) (by show w.heap.size ≤ g_r; omega) _).setCell (p := ⟨g_r, 4, none⟩) (by show w.heap.size ≤ g_r; omega) _).setCell (p := ⟨g_r, 5, none⟩) (by show w.heap.size ≤ g_r; omega) _).setCell (p := ⟨g_r, 6, none⟩) (by show w.heap.size ≤ g_r; omega) _).setCell (p := ⟨g_r, 7, none⟩) (by show w.heap.size ≤ g_r; omega) _).setCell (p := ⟨g_r, 8, none⟩) (by show w.heap.size ≤ g_r; omega) _)⟩

set_option maxRecDepth 100000 in
set_option maxHeartbeats 4000000 in
theorem ref7_Of_no (x y z : Int) (w : World) (h : vuOk x y z = false) :
    Calls Try.prog 7 #[.agg #[.int .i64 x, .int .i64 y, .int .i64 z]] w fun e w' => e = .returned (.tuple #[.agg #[.int .i64 0, .int .i64 0, .int .i64 0, .int .i64 0, .int .i64 0, .int .i64 0, .int .i64 0, .int .i64 0, .int .i64 0], .bool false]) ∧ Below w.heap.size w w' := by
  have U0 := Lib.hid (fun w => ref6_Unit x y z w)
  have e : vunit x y z = (0, 0, 0) := by unfold vunit; rw [h]; rfl
  rw [e, h] at U0
  clear e h
  go_enter Try.func7, Try.ntmps7
  go_upto_region 1 with (fail)
  obtain ⟨W1, hW1⟩ : ∃ W, W = (w.alloc (.cells #[.int .i64 x, .int .i64 y, .int .i64 z] 23)).alloc (.cells #[.int .i64 0, .int .i64 0, .int .i64 0, .int .i64 0, .int .i64 0, .int .i64 0, .int .i64 0, .int .i64 0, .int .i64 0] 25) := ⟨_, rfl⟩
  have B1 : Below w.heap.size w W1 := by rw [hW1]; go_grown
  have k_v : Bk W1 (w.heap.size) 23 #[.int .i64 x, .int .i64 y, .int .i64 z] := by rw [hW1]; exact (Bk.new _ _ _).alloc _
  have k_r : Bk W1 (w.heap.size + 1) 25 #[.int .i64 0, .int .i64 0, .int .i64 0, .int .i64 0, .int .i64 0, .int .i64 0, .int .i64 0, .int .i64 0, .int .i64 0] := by rw [hW1]; exact Bk.new_at _ _ _ _ (by simp)
  rw [← hW1]
  clear hW1
  have l_r : w.heap.size < w.heap.size + 1 := by omega
  generalize w.heap.size + 1 = g_r at *
  have c_v_0 : ∀ p : BW W1, p.w.cell? ⟨w.heap.size, 0, none⟩ = some (.int .i64 x) := bw_cell (k_v.cell rfl)
  have c_v_1 : ∀ p : BW W1, p.w.cell? ⟨w.heap.size, 1, none⟩ = some (.int .i64 y) := bw_cell (k_v.cell rfl)
  have c_v_2 : ∀ p : BW W1, p.w.cell? ⟨w.heap.size, 2, none⟩ = some (.int .i64 z) := bw_cell (k_v.cell rfl)
  have c_r_0 : ∀ p : BW W1, p.w.cell? ⟨g_r, 0, none⟩ = some (.int .i64 0) := bw_cell (k_r.cell rfl)
  have c_r_1 : ∀ p : BW W1, p.w.cell? ⟨g_r, 1, none⟩ = some (.int .i64 0) := bw_cell (k_r.cell rfl)
  have c_r_2 : ∀ p : BW W1, p.w.cell? ⟨g_r, 2, none⟩ = some (.int .i64 0) := bw_cell (k_r.cell rfl)
  have c_r_3 : ∀ p : BW W1, p.w.cell? ⟨g_r, 3, none⟩ = some (.int .i64 0) := bw_cell (k_r.cell rfl)
  have c_r_4 : ∀ p : BW W1, p.w.cell? ⟨g_r, 4, none⟩ = some (.int .i64 0) := bw_cell (k_r.cell rfl)
  have c_r_5 : ∀ p : BW W1, p.w.cell? ⟨g_r, 5, none⟩ = some (.int .i64 0) := bw_cell (k_r.cell rfl)
  have c_r_6 : ∀ p : BW W1, p.w.cell? ⟨g_r, 6, none⟩ = some (.int .i64 0) := bw_cell (k_r.cell rfl)
  have c_r_7 : ∀ p : BW W1, p.w.cell? ⟨g_r, 7, none⟩ = some (.int .i64 0) := bw_cell (k_r.cell rfl)
  have c_r_8 : ∀ p : BW W1, p.w.cell? ⟨g_r, 8, none⟩ = some (.int .i64 0) := bw_cell (k_r.cell rfl)
  obtain ⟨p1, hp1⟩ : ∃ p : BW W1, p.w = W1 := ⟨BW.start W1, rfl⟩
  rw [← hp1]
  clear hp1
  go_upto_region 2 with (first
    | (go_at_call 18; (first | (with_reducible refine (bw_call U0.out _).mono ?_)); rintro e w' ⟨rfl, q, rfl⟩))
  obtain ⟨W2, hW2⟩ : ∃ W, W = q.w.alloc (.cells #[.int .i64 0, .int .i64 0, .int .i64 0] 23) := ⟨_, rfl⟩
  have B2 : Below w.heap.size w W2 := by rw [hW2]; exact (bw_below B1 q).alloc (bw_below B1 q).size _
  have l_n : g_r < q.w.heap.size := (k_r.below q.h).lt
  have k_v := (k_v.below q.h).alloc (.cells #[.int .i64 0, .int .i64 0, .int .i64 0] 23)
  rw [← hW2] at k_v
  have k_r := (k_r.below q.h).alloc (.cells #[.int .i64 0, .int .i64 0, .int .i64 0] 23)
  rw [← hW2] at k_r
  have k_n : Bk W2 q.w.heap.size 23 #[.int .i64 0, .int .i64 0, .int .i64 0] := by rw [hW2]; exact Bk.new _ _ _
  rw [← hW2]
  clear hW2
  clear B1
  clear c_v_0 c_v_1 c_v_2 c_r_0 c_r_1 c_r_2 c_r_3 c_r_4 c_r_5 c_r_6 c_r_7 c_r_8
  generalize q.w.heap.size = g_n at *
  have c_v_0 : ∀ p : BW W2, p.w.cell? ⟨w.heap.size, 0, none⟩ = some (.int .i64 x) := bw_cell (k_v.cell rfl)
  have c_v_1 : ∀ p : BW W2, p.w.cell? ⟨w.heap.size, 1, none⟩ = some (.int .i64 y) := bw_cell (k_v.cell rfl)
  have c_v_2 : ∀ p : BW W2, p.w.cell? ⟨w.heap.size, 2, none⟩ = some (.int .i64 z) := bw_cell (k_v.cell rfl)
  have c_r_0 : ∀ p : BW W2, p.w.cell? ⟨g_r, 0, none⟩ = some (.int .i64 0) := bw_cell (k_r.cell rfl)
  have f_r_0 : ∀ p : BW W2, p.w.frozen? ⟨g_r, 0, none⟩ = false := fun p => (k_r.below p.h).frozen 0
  have c_r_1 : ∀ p : BW W2, p.w.cell? ⟨g_r, 1, none⟩ = some (.int .i64 0) := bw_cell (k_r.cell rfl)
  have f_r_1 : ∀ p : BW W2, p.w.frozen? ⟨g_r, 1, none⟩ = false := fun p => (k_r.below p.h).frozen 1
  have c_r_2 : ∀ p : BW W2, p.w.cell? ⟨g_r, 2, none⟩ = some (.int .i64 0) := bw_cell (k_r.cell rfl)
  have f_r_2 : ∀ p : BW W2, p.w.frozen? ⟨g_r, 2, none⟩ = false := fun p => (k_r.below p.h).frozen 2
  have c_r_3 : ∀ p : BW W2, p.w.cell? ⟨g_r, 3, none⟩ = some (.int .i64 0) := bw_cell (k_r.cell rfl)
  have f_r_3 : ∀ p : BW W2, p.w.frozen? ⟨g_r, 3, none⟩ = false := fun p => (k_r.below p.h).frozen 3
  have c_r_4 : ∀ p : BW W2, p.w.cell? ⟨g_r, 4, none⟩ = some (.int .i64 0) := bw_cell (k_r.cell rfl)
  have f_r_4 : ∀ p : BW W2, p.w.frozen? ⟨g_r, 4, none⟩ = false := fun p => (k_r.below p.h).frozen 4
  have c_r_5 : ∀ p : BW W2, p.w.cell? ⟨g_r, 5, none⟩ = some (.int .i64 0) := bw_cell (k_r.cell rfl)
  have f_r_5 : ∀ p : BW W2, p.w.frozen? ⟨g_r, 5, none⟩ = false := fun p => (k_r.below p.h).frozen 5
  have c_r_6 : ∀ p : BW W2, p.w.cell? ⟨g_r, 6, none⟩ = some (.int .i64 0) := bw_cell (k_r.cell rfl)
  have f_r_6 : ∀ p : BW W2, p.w.frozen? ⟨g_r, 6, none⟩ = false := fun p => (k_r.below p.h).frozen 6
  have c_r_7 : ∀ p : BW W2, p.w.cell? ⟨g_r, 7, none⟩ = some (.int .i64 0) := bw_cell (k_r.cell rfl)
  have f_r_7 : ∀ p : BW W2, p.w.frozen? ⟨g_r, 7, none⟩ = false := fun p => (k_r.below p.h).frozen 7
  have c_r_8 : ∀ p : BW W2, p.w.cell? ⟨g_r, 8, none⟩ = some (.int .i64 0) := bw_cell (k_r.cell rfl)
  have f_r_8 : ∀ p : BW W2, p.w.frozen? ⟨g_r, 8, none⟩ = false := fun p => (k_r.below p.h).frozen 8
  have c_n_0 : ∀ p : BW W2, p.w.cell? ⟨g_n, 0, none⟩ = some (.int .i64 0) := bw_cell (k_n.cell rfl)
  have c_n_1 : ∀ p : BW W2, p.w.cell? ⟨g_n, 1, none⟩ = some (.int .i64 0) := bw_cell (k_n.cell rfl)
  have c_n_2 : ∀ p : BW W2, p.w.cell? ⟨g_n, 2, none⟩ = some (.int .i64 0) := bw_cell (k_n.cell rfl)
  obtain ⟨p2, hp2⟩ : ∃ p : BW W2, p.w = W2 := ⟨BW.start W2, rfl⟩
  rw [← hp2]
  clear hp2
  go_wp2
  have kr : Bk (((((((((p2.w.setCell ⟨g_r, 0, none⟩ (.int .i64 0)).setCell ⟨g_r, 1, none⟩ (.int .i64 0)).setCell ⟨g_r, 2, none⟩ (.int .i64 0)).setCell ⟨g_r, 3, none⟩ (.int .i64 0)).setCell ⟨g_r, 4, none⟩ (.int .i64 0)).setCell ⟨g_r, 5, none⟩ (.int .i64 0)).setCell ⟨g_r, 6, none⟩ (.int .i64 0)).setCell ⟨g_r, 7, none⟩ (.int .i64 0)).setCell ⟨g_r, 8, none⟩ (.int .i64 0)) (g_r) 25 #[.int .i64 0, .int .i64 0, .int .i64 0, .int .i64 0, .int .i64 0, .int .i64 0, .int .i64 0, .int .i64 0, .int .i64 0] := ((((((((((k_r.below p2.h).set 0 (.int .i64 0)).set 1 (.int .i64 0)).set 2 (.int .i64 0)).set 3 (.int .i64 0)).set 4 (.int .i64 0)).set 5 (.int .i64 0)).set 6 (.int .i64 0)).set 7 (.int .i64 0)).set 8 (.int .i64 0)).cast (by simp)
  have rc0 : World.cell? (((((((((p2.w.setCell ⟨g_r, 0, none⟩ (.int .i64 0)).setCell ⟨g_r, 1, none⟩ (.int .i64 0)).setCell ⟨g_r, 2, none⟩ (.int .i64 0)).setCell ⟨g_r, 3, none⟩ (.int .i64 0)).setCell ⟨g_r, 4, none⟩ (.int .i64 0)).setCell ⟨g_r, 5, none⟩ (.int .i64 0)).setCell ⟨g_r, 6, none⟩ (.int .i64 0)).setCell ⟨g_r, 7, none⟩ (.int .i64 0)).setCell ⟨g_r, 8, none⟩ (.int .i64 0)) ⟨g_r, 0, none⟩ = some (.int .i64 0) := kr.cell rfl
  have rc1 : World.cell? (((((((((p2.w.setCell ⟨g_r, 0, none⟩ (.int .i64 0)).setCell ⟨g_r, 1, none⟩ (.int .i64 0)).setCell ⟨g_r, 2, none⟩ (.int .i64 0)).setCell ⟨g_r, 3, none⟩ (.int .i64 0)).setCell ⟨g_r, 4, none⟩ (.int .i64 0)).setCell ⟨g_r, 5, none⟩ (.int .i64 0)).setCell ⟨g_r, 6, none⟩ (.int .i64 0)).setCell ⟨g_r, 7, none⟩ (.int .i64 0)).setCell ⟨g_r, 8, none⟩ (.int .i64 0)) ⟨g_r, 1, none⟩ = some (.int .i64 0) := kr.cell rfl
  have rc2 : World.cell? (((((((((p2.w.setCell ⟨g_r, 0, none⟩ (.int .i64 0)).setCell ⟨g_r, 1, none⟩ (.int .i64 0)).setCell ⟨g_r, 2, none⟩ (.int .i64 0)).setCell ⟨g_r, 3, none⟩ (.int .i64 0)).setCell ⟨g_r, 4, none⟩ (.int .i64 0)).setCell ⟨g_r, 5, none⟩ (.int .i64 0)).setCell ⟨g_r, 6, none⟩ (.int .i64 0)).setCell ⟨g_r, 7, none⟩ (.int .i64 0)).setCell ⟨g_r, 8, none⟩ (.int .i64 0)) ⟨g_r, 2, none⟩ = some (.int .i64 0) := kr.cell rfl
  have rc3 : World.cell? (((((((((p2.w.setCell ⟨g_r, 0, none⟩ (.int .i64 0)).setCell ⟨g_r, 1, none⟩ (.int .i64 0)).setCell ⟨g_r, 2, none⟩ (.int .i64 0)).setCell ⟨g_r, 3, none⟩ (.int .i64 0)).setCell ⟨g_r, 4, none⟩ (.int .i64 0)).setCell ⟨g_r, 5, none⟩ (.int .i64 0)).setCell ⟨g_r, 6, none⟩ (.int .i64 0)).setCell ⟨g_r, 7, none⟩ (.int .i64 0)).setCell ⟨g_r, 8, none⟩ (.int .i64 0)) ⟨g_r, 3, none⟩ = some (.int .i64 0) := kr.cell rfl
  have rc4 : World.cell? (((((((((p2.w.setCell ⟨g_r, 0, none⟩ (.int .i64 0)).setCell ⟨g_r, 1, none⟩ (.int .i64 0)).setCell ⟨g_r, 2, none⟩ (.int .i64 0)).setCell ⟨g_r, 3, none⟩ (.int .i64 0)).setCell ⟨g_r, 4, none⟩ (.int .i64 0)).setCell ⟨g_r, 5, none⟩ (.int .i64 0)).setCell ⟨g_r, 6, none⟩ (.int .i64 0)).setCell ⟨g_r, 7, none⟩ (.int .i64 0)).setCell ⟨g_r, 8, none⟩ (.int .i64 0)) ⟨g_r, 4, none⟩ = some (.int .i64 0) := kr.cell rfl
  have rc5 : World.cell? (((((((((p2.w.setCell ⟨g_r, 0, none⟩ (.int .i64 0)).setCell ⟨g_r, 1, none⟩ (.int .i64 0)).setCell ⟨g_r, 2, none⟩ (.int .i64 0)).setCell ⟨g_r, 3, none⟩ (.int .i64 0)).setCell ⟨g_r, 4, none⟩ (.int .i64 0)).setCell ⟨g_r, 5, none⟩ (.int .i64 0)).setCell ⟨g_r, 6, none⟩ (.int .i64 0)).setCell ⟨g_r, 7, none⟩ (.int .i64 0)).setCell ⟨g_r, 8, none⟩ (.int .i64 0)) ⟨g_r, 5, none⟩ = some (.int .i64 0) := kr.cell rfl
  have rc6 : World.cell? (((((((((p2.w.setCell ⟨g_r, 0, none⟩ (.int .i64 0)).setCell ⟨g_r, 1, none⟩ (.int .i64 0)).setCell ⟨g_r, 2, none⟩ (.int .i64 0)).setCell ⟨g_r, 3, none⟩ (.int .i64 0)).setCell ⟨g_r, 4, none⟩ (.int .i64 0)).setCell ⟨g_r, 5, none⟩ (.int .i64 0)).setCell ⟨g_r, 6, none⟩ (.int .i64 0)).setCell ⟨g_r, 7, none⟩ (.int .i64 0)).setCell ⟨g_r, 8, none⟩ (.int .i64 0)) ⟨g_r, 6, none⟩ = some (.int .i64 0) := kr.cell rfl
  have rc7 : World.cell? (((((((((p2.w.setCell ⟨g_r, 0, none⟩ (.int .i64 0)).setCell ⟨g_r, 1, none⟩ (.int .i64 0)).setCell ⟨g_r, 2, none⟩ (.int .i64 0)).setCell ⟨g_r, 3, none⟩ (.int .i64 0)).setCell ⟨g_r, 4, none⟩ (.int .i64 0)).setCell ⟨g_r, 5, none⟩ (.int .i64 0)).setCell ⟨g_r, 6, none⟩ (.int .i64 0)).setCell ⟨g_r, 7, none⟩ (.int .i64 0)).setCell ⟨g_r, 8, none⟩ (.int .i64 0)) ⟨g_r, 7, none⟩ = some (.int .i64 0) := kr.cell rfl
  have rc8 : World.cell? (((((((((p2.w.setCell ⟨g_r, 0, none⟩ (.int .i64 0)).setCell ⟨g_r, 1, none⟩ (.int .i64 0)).setCell ⟨g_r, 2, none⟩ (.int .i64 0)).setCell ⟨g_r, 3, none⟩ (.int .i64 0)).setCell ⟨g_r, 4, none⟩ (.int .i64 0)).setCell ⟨g_r, 5, none⟩ (.int .i64 0)).setCell ⟨g_r, 6, none⟩ (.int .i64 0)).setCell ⟨g_r, 7, none⟩ (.int .i64 0)).setCell ⟨g_r, 8, none⟩ (.int .i64 0)) ⟨g_r, 8, none⟩ = some (.int .i64 0) := kr.cell rfl
  exact bodyPost_ret (v := .tuple #[.agg #[.int .i64 0, .int .i64 0, .int .i64 0, .int .i64 0, .int .i64 0, .int .i64 0, .int .i64 0, .int .i64 0, .int .i64 0], .bool false]) (by simp [results, Try.results7, go_sem, rc0, rc1, rc2, rc3, rc4, rc5, rc6, rc7, rc8]) rfl ⟨rfl, ((((((((((bw_below B2 p2).setCell (p := ⟨g_r, 0, none⟩) (by show w.heap.size ≤ g_r; omega) _).setCell (p := ⟨g_r, 1, none⟩) (by show w.heap.size ≤ g_r; omega) _).setCell (p := ⟨g_r, 2, none⟩) (by show w.heap.size ≤ g_r; omega) _).setCell (p := ⟨g_r, 3, none⟩) (by show w.heap.size ≤ g_r; omega) _).setCell (p := ⟨g_r, 4, none⟩) (by show w.heap.size ≤ g_r; omega) _).setCell (p := ⟨g_r, 5, none⟩) (by show w.heap.size ≤ g_r; omega) _).setCell (p := ⟨g_r, 6, none⟩) (by show w.heap.size ≤ g_r; omega) _).setCell (p := ⟨g_r, 7, none⟩) (by show w.heap.size ≤ g_r; omega) _).setCell (p := ⟨g_r, 8, none⟩) (by show w.heap.size ≤ g_r; omega) _)⟩

set_option maxRecDepth 100000 in
set_option maxHeartbeats 4000000 in
theorem ref7_Mirror_no (d1 d2 d3 n1 n2 n3 : Int) (w : World) (h : ¬ (vnear d1 d2 d3 = true ∧ vnear n1 n2 n3 = true)) :
    Calls Try.prog 14 #[.agg #[.int .i64 d1, .int .i64 d2, .int .i64 d3], .agg #[.int .i64 n1, .int .i64 n2, .int .i64 n3]] w fun e w' => e = .returned (.agg #[.int .i64 0, .int .i64 0, .int .i64 0]) ∧ Below w.heap.size w w' := by
  have N1 := Lib.hid (fun w => ref6_Near d1 d2 d3 w)
  have N2 := Lib.hid (fun w => ref6_Near n1 n2 n3 w)
  have hc : (vnear d1 d2 d3 = false) ∨ (vnear d1 d2 d3 = true ∧ vnear n1 n2 n3 = false) := by
    cases h1 : vnear d1 d2 d3 <;> cases h2 : vnear n1 n2 n3 <;> simp [h1, h2] at h ⊢
  clear h
  generalize vnear d1 d2 d3 = a at *
  generalize vnear n1 n2 n3 = b at *
  go_enter Try.func14, Try.ntmps14
  go_upto_region 1 with (fail)
  obtain ⟨W1, hW1⟩ : ∃ W, W = ((w.alloc (.cells #[.int .i64 d1, .int .i64 d2, .int .i64 d3] 23)).alloc (.cells #[.int .i64 n1, .int .i64 n2, .int .i64 n3] 23)).alloc (.cells #[.int .i64 0, .int .i64 0, .int .i64 0] 23) := ⟨_, rfl⟩
  have B1 : Below w.heap.size w W1 := by rw [hW1]; go_grown
  have k_a : Bk W1 (w.heap.size) 23 #[.int .i64 d1, .int .i64 d2, .int .i64 d3] := by rw [hW1]; exact ((Bk.new _ _ _).alloc _).alloc _
  have k_b : Bk W1 (w.heap.size + 1) 23 #[.int .i64 n1, .int .i64 n2, .int .i64 n3] := by rw [hW1]; exact (Bk.new_at _ _ _ _ (by simp)).alloc _
  have k_r : Bk W1 (w.heap.size + 1 + 1) 23 #[.int .i64 0, .int .i64 0, .int .i64 0] := by rw [hW1]; exact Bk.new_at _ _ _ _ (by simp)
  rw [← hW1]
  clear hW1
  have l_b : w.heap.size < w.heap.size + 1 := by omega
  have l_r : w.heap.size + 1 < w.heap.size + 1 + 1 := by omega
  generalize w.heap.size + 1 + 1 = g_r at *
  generalize w.heap.size + 1 = g_b at *
  have c_a_0 : ∀ p : BW W1, p.w.cell? ⟨w.heap.size, 0, none⟩ = some (.int .i64 d1) := bw_cell (k_a.cell rfl)
  have c_a_1 : ∀ p : BW W1, p.w.cell? ⟨w.heap.size, 1, none⟩ = some (.int .i64 d2) := bw_cell (k_a.cell rfl)
  have c_a_2 : ∀ p : BW W1, p.w.cell? ⟨w.heap.size, 2, none⟩ = some (.int .i64 d3) := bw_cell (k_a.cell rfl)
  have c_b_0 : ∀ p : BW W1, p.w.cell? ⟨g_b, 0, none⟩ = some (.int .i64 n1) := bw_cell (k_b.cell rfl)
  have c_b_1 : ∀ p : BW W1, p.w.cell? ⟨g_b, 1, none⟩ = some (.int .i64 n2) := bw_cell (k_b.cell rfl)
  have c_b_2 : ∀ p : BW W1, p.w.cell? ⟨g_b, 2, none⟩ = some (.int .i64 n3) := bw_cell (k_b.cell rfl)
  have c_r_0 : ∀ p : BW W1, p.w.cell? ⟨g_r, 0, none⟩ = some (.int .i64 0) := bw_cell (k_r.cell rfl)
  have f_r_0 : ∀ p : BW W1, p.w.frozen? ⟨g_r, 0, none⟩ = false := fun p => (k_r.below p.h).frozen 0
  have c_r_1 : ∀ p : BW W1, p.w.cell? ⟨g_r, 1, none⟩ = some (.int .i64 0) := bw_cell (k_r.cell rfl)
  have f_r_1 : ∀ p : BW W1, p.w.frozen? ⟨g_r, 1, none⟩ = false := fun p => (k_r.below p.h).frozen 1
  have c_r_2 : ∀ p : BW W1, p.w.cell? ⟨g_r, 2, none⟩ = some (.int .i64 0) := bw_cell (k_r.cell rfl)
  have f_r_2 : ∀ p : BW W1, p.w.frozen? ⟨g_r, 2, none⟩ = false := fun p => (k_r.below p.h).frozen 2
  obtain ⟨p1, hp1⟩ : ∃ p : BW W1, p.w = W1 := ⟨BW.start W1, rfl⟩
  rw [← hp1]
  clear hp1
  rcases hc with rfl | ⟨rfl, rfl⟩
  · clear k_a k_b
    go_wp2_with (first
      | (go_at_call 35; (first | (with_reducible refine (bw_call N1.out _).mono ?_) | (with_reducible refine (bw_call N2.out _).mono ?_)); rintro e w' ⟨rfl, q, rfl⟩))
    have kr : Bk (((q.w.setCell ⟨g_r, 0, none⟩ (.int .i64 0)).setCell ⟨g_r, 1, none⟩ (.int .i64 0)).setCell ⟨g_r, 2, none⟩ (.int .i64 0)) (g_r) 23 #[.int .i64 0, .int .i64 0, .int .i64 0] := ((((k_r.below q.h).set 0 (.int .i64 0)).set 1 (.int .i64 0)).set 2 (.int .i64 0))
    have rc0 : World.cell? (((q.w.setCell ⟨g_r, 0, none⟩ (.int .i64 0)).setCell ⟨g_r, 1, none⟩ (.int .i64 0)).setCell ⟨g_r, 2, none⟩ (.int .i64 0)) ⟨g_r, 0, none⟩ = some (.int .i64 0) := kr.cell rfl
    have rc1 : World.cell? (((q.w.setCell ⟨g_r, 0, none⟩ (.int .i64 0)).setCell ⟨g_r, 1, none⟩ (.int .i64 0)).setCell ⟨g_r, 2, none⟩ (.int .i64 0)) ⟨g_r, 1, none⟩ = some (.int .i64 0) := kr.cell rfl
    have rc2 : World.cell? (((q.w.setCell ⟨g_r, 0, none⟩ (.int .i64 0)).setCell ⟨g_r, 1, none⟩ (.int .i64 0)).setCell ⟨g_r, 2, none⟩ (.int .i64 0)) ⟨g_r, 2, none⟩ = some (.int .i64 0) := kr.cell rfl
    exact bodyPost_ret (v := .agg #[.int .i64 0, .int .i64 0, .int .i64 0]) (by simp [results, Try.results14, go_sem, rc0, rc1, rc2]) rfl ⟨rfl, ((((bw_below B1 q).setCell (p := ⟨g_r, 0, none⟩) (by show w.heap.size ≤ g_r; omega) _).setCell (p := ⟨g_r, 1, none⟩) (by show w.heap.size ≤ g_r; omega) _).setCell (p := ⟨g_r, 2, none⟩) (by show w.heap.size ≤ g_r; omega) _)⟩
  · clear k_a k_b
    go_wp2_with (first
      | (go_at_call 35; (first | (with_reducible refine (bw_call N1.out _).mono ?_) | (with_reducible refine (bw_call N2.out _).mono ?_)); rintro e w' ⟨rfl, q, rfl⟩))
    have kr : Bk (((q.w.setCell ⟨g_r, 0, none⟩ (.int .i64 0)).setCell ⟨g_r, 1, none⟩ (.int .i64 0)).setCell ⟨g_r, 2, none⟩ (.int .i64 0)) (g_r) 23 #[.int .i64 0, .int .i64 0, .int .i64 0] := ((((k_r.below q.h).set 0 (.int .i64 0)).set 1 (.int .i64 0)).set 2 (.int .i64 0))
    have rc0 : World.cell? (((q.w.setCell ⟨g_r, 0, none⟩ (.int .i64 0)).setCell ⟨g_r, 1, none⟩ (.int .i64 0)).setCell ⟨g_r, 2, none⟩ (.int .i64 0)) ⟨g_r, 0, none⟩ = some (.int .i64 0) := kr.cell rfl
    have rc1 : World.cell? (((q.w.setCell ⟨g_r, 0, none⟩ (.int .i64 0)).setCell ⟨g_r, 1, none⟩ (.int .i64 0)).setCell ⟨g_r, 2, none⟩ (.int .i64 0)) ⟨g_r, 1, none⟩ = some (.int .i64 0) := kr.cell rfl
    have rc2 : World.cell? (((q.w.setCell ⟨g_r, 0, none⟩ (.int .i64 0)).setCell ⟨g_r, 1, none⟩ (.int .i64 0)).setCell ⟨g_r, 2, none⟩ (.int .i64 0)) ⟨g_r, 2, none⟩ = some (.int .i64 0) := kr.cell rfl
    exact bodyPost_ret (v := .agg #[.int .i64 0, .int .i64 0, .int .i64 0]) (by simp [results, Try.results14, go_sem, rc0, rc1, rc2]) rfl ⟨rfl, ((((bw_below B1 q).setCell (p := ⟨g_r, 0, none⟩) (by show w.heap.size ≤ g_r; omega) _).setCell (p := ⟨g_r, 1, none⟩) (by show w.heap.size ≤ g_r; omega) _).setCell (p := ⟨g_r, 2, none⟩) (by show w.heap.size ≤ g_r; omega) _)⟩

set_option maxRecDepth 100000 in
set_option maxHeartbeats 4000000 in
theorem ref7_Facing_no (n1 n2 n3 d1 d2 d3 : Int) (w : World) (h : ¬ (vnear d1 d2 d3 = true ∧ vnear n1 n2 n3 = true)) :
    Calls Try.prog 16 #[.agg #[.int .i64 n1, .int .i64 n2, .int .i64 n3], .agg #[.int .i64 d1, .int .i64 d2, .int .i64 d3]] w fun e w' => e = .returned (.agg #[.int .i64 0, .int .i64 0, .int .i64 0]) ∧ Below w.heap.size w w' := by
  have N1 := Lib.hid (fun w => ref6_Near d1 d2 d3 w)
  have N2 := Lib.hid (fun w => ref6_Near n1 n2 n3 w)
  have hc : (vnear d1 d2 d3 = false) ∨ (vnear d1 d2 d3 = true ∧ vnear n1 n2 n3 = false) := by
    cases h1 : vnear d1 d2 d3 <;> cases h2 : vnear n1 n2 n3 <;> simp [h1, h2] at h ⊢
  clear h
  generalize vnear d1 d2 d3 = a at *
  generalize vnear n1 n2 n3 = b at *
  go_enter Try.func16, Try.ntmps16
  go_upto_region 1 with (fail)
  obtain ⟨W1, hW1⟩ : ∃ W, W = ((w.alloc (.cells #[.int .i64 n1, .int .i64 n2, .int .i64 n3] 23)).alloc (.cells #[.int .i64 d1, .int .i64 d2, .int .i64 d3] 23)).alloc (.cells #[.int .i64 0, .int .i64 0, .int .i64 0] 23) := ⟨_, rfl⟩
  have B1 : Below w.heap.size w W1 := by rw [hW1]; go_grown
  have k_a : Bk W1 (w.heap.size) 23 #[.int .i64 n1, .int .i64 n2, .int .i64 n3] := by rw [hW1]; exact ((Bk.new _ _ _).alloc _).alloc _
  have k_b : Bk W1 (w.heap.size + 1) 23 #[.int .i64 d1, .int .i64 d2, .int .i64 d3] := by rw [hW1]; exact (Bk.new_at _ _ _ _ (by simp)).alloc _
  have k_r : Bk W1 (w.heap.size + 1 + 1) 23 #[.int .i64 0, .int .i64 0, .int .i64 0] := by rw [hW1]; exact Bk.new_at _ _ _ _ (by simp)
  rw [← hW1]
  clear hW1
  have l_b : w.heap.size < w.heap.size + 1 := by omega
  have l_r : w.heap.size + 1 < w.heap.size + 1 + 1 := by omega
  generalize w.heap.size + 1 + 1 = g_r at *
  generalize w.heap.size + 1 = g_b at *
  have c_a_0 : ∀ p : BW W1, p.w.cell? ⟨w.heap.size, 0, none⟩ = some (.int .i64 n1) := bw_cell (k_a.cell rfl)
  have c_a_1 : ∀ p : BW W1, p.w.cell? ⟨w.heap.size, 1, none⟩ = some (.int .i64 n2) := bw_cell (k_a.cell rfl)
  have c_a_2 : ∀ p : BW W1, p.w.cell? ⟨w.heap.size, 2, none⟩ = some (.int .i64 n3) := bw_cell (k_a.cell rfl)
  have c_b_0 : ∀ p : BW W1, p.w.cell? ⟨g_b, 0, none⟩ = some (.int .i64 d1) := bw_cell (k_b.cell rfl)
  have c_b_1 : ∀ p : BW W1, p.w.cell? ⟨g_b, 1, none⟩ = some (.int .i64 d2) := bw_cell (k_b.cell rfl)
  have c_b_2 : ∀ p : BW W1, p.w.cell? ⟨g_b, 2, none⟩ = some (.int .i64 d3) := bw_cell (k_b.cell rfl)
  have c_r_0 : ∀ p : BW W1, p.w.cell? ⟨g_r, 0, none⟩ = some (.int .i64 0) := bw_cell (k_r.cell rfl)
  have f_r_0 : ∀ p : BW W1, p.w.frozen? ⟨g_r, 0, none⟩ = false := fun p => (k_r.below p.h).frozen 0
  have c_r_1 : ∀ p : BW W1, p.w.cell? ⟨g_r, 1, none⟩ = some (.int .i64 0) := bw_cell (k_r.cell rfl)
  have f_r_1 : ∀ p : BW W1, p.w.frozen? ⟨g_r, 1, none⟩ = false := fun p => (k_r.below p.h).frozen 1
  have c_r_2 : ∀ p : BW W1, p.w.cell? ⟨g_r, 2, none⟩ = some (.int .i64 0) := bw_cell (k_r.cell rfl)
  have f_r_2 : ∀ p : BW W1, p.w.frozen? ⟨g_r, 2, none⟩ = false := fun p => (k_r.below p.h).frozen 2
  obtain ⟨p1, hp1⟩ : ∃ p : BW W1, p.w = W1 := ⟨BW.start W1, rfl⟩
  rw [← hp1]
  clear hp1
  rcases hc with rfl | ⟨rfl, rfl⟩
  · clear k_a k_b
    go_wp2_with (first
      | (go_at_call 35; (first | (with_reducible refine (bw_call N1.out _).mono ?_) | (with_reducible refine (bw_call N2.out _).mono ?_)); rintro e w' ⟨rfl, q, rfl⟩))
    have kr : Bk (((q.w.setCell ⟨g_r, 0, none⟩ (.int .i64 0)).setCell ⟨g_r, 1, none⟩ (.int .i64 0)).setCell ⟨g_r, 2, none⟩ (.int .i64 0)) (g_r) 23 #[.int .i64 0, .int .i64 0, .int .i64 0] := ((((k_r.below q.h).set 0 (.int .i64 0)).set 1 (.int .i64 0)).set 2 (.int .i64 0))
    have rc0 : World.cell? (((q.w.setCell ⟨g_r, 0, none⟩ (.int .i64 0)).setCell ⟨g_r, 1, none⟩ (.int .i64 0)).setCell ⟨g_r, 2, none⟩ (.int .i64 0)) ⟨g_r, 0, none⟩ = some (.int .i64 0) := kr.cell rfl
    have rc1 : World.cell? (((q.w.setCell ⟨g_r, 0, none⟩ (.int .i64 0)).setCell ⟨g_r, 1, none⟩ (.int .i64 0)).setCell ⟨g_r, 2, none⟩ (.int .i64 0)) ⟨g_r, 1, none⟩ = some (.int .i64 0) := kr.cell rfl
    have rc2 : World.cell? (((q.w.setCell ⟨g_r, 0, none⟩ (.int .i64 0)).setCell ⟨g_r, 1, none⟩ (.int .i64 0)).setCell ⟨g_r, 2, none⟩ (.int .i64 0)) ⟨g_r, 2, none⟩ = some (.int .i64 0) := kr.cell rfl
    exact bodyPost_ret (v := .agg #[.int .i64 0, .int .i64 0, .int .i64 0]) (by simp [results, Try.results16, go_sem, rc0, rc1, rc2]) rfl ⟨rfl, ((((bw_below B1 q).setCell (p := ⟨g_r, 0, none⟩) (by show w.heap.size ≤ g_r; omega) _).setCell (p := ⟨g_r, 1, none⟩) (by show w.heap.size ≤ g_r; omega) _).setCell (p := ⟨g_r, 2, none⟩) (by show w.heap.size ≤ g_r; omega) _)⟩
  · clear k_a k_b
    go_wp2_with (first
      | (go_at_call 35; (first | (with_reducible refine (bw_call N1.out _).mono ?_) | (with_reducible refine (bw_call N2.out _).mono ?_)); rintro e w' ⟨rfl, q, rfl⟩))
    have kr : Bk (((q.w.setCell ⟨g_r, 0, none⟩ (.int .i64 0)).setCell ⟨g_r, 1, none⟩ (.int .i64 0)).setCell ⟨g_r, 2, none⟩ (.int .i64 0)) (g_r) 23 #[.int .i64 0, .int .i64 0, .int .i64 0] := ((((k_r.below q.h).set 0 (.int .i64 0)).set 1 (.int .i64 0)).set 2 (.int .i64 0))
    have rc0 : World.cell? (((q.w.setCell ⟨g_r, 0, none⟩ (.int .i64 0)).setCell ⟨g_r, 1, none⟩ (.int .i64 0)).setCell ⟨g_r, 2, none⟩ (.int .i64 0)) ⟨g_r, 0, none⟩ = some (.int .i64 0) := kr.cell rfl
    have rc1 : World.cell? (((q.w.setCell ⟨g_r, 0, none⟩ (.int .i64 0)).setCell ⟨g_r, 1, none⟩ (.int .i64 0)).setCell ⟨g_r, 2, none⟩ (.int .i64 0)) ⟨g_r, 1, none⟩ = some (.int .i64 0) := kr.cell rfl
    have rc2 : World.cell? (((q.w.setCell ⟨g_r, 0, none⟩ (.int .i64 0)).setCell ⟨g_r, 1, none⟩ (.int .i64 0)).setCell ⟨g_r, 2, none⟩ (.int .i64 0)) ⟨g_r, 2, none⟩ = some (.int .i64 0) := kr.cell rfl
    exact bodyPost_ret (v := .agg #[.int .i64 0, .int .i64 0, .int .i64 0]) (by simp [results, Try.results16, go_sem, rc0, rc1, rc2]) rfl ⟨rfl, ((((bw_below B1 q).setCell (p := ⟨g_r, 0, none⟩) (by show w.heap.size ≤ g_r; omega) _).setCell (p := ⟨g_r, 1, none⟩) (by show w.heap.size ≤ g_r; omega) _).setCell (p := ⟨g_r, 2, none⟩) (by show w.heap.size ≤ g_r; omega) _)⟩

set_option maxRecDepth 100000 in
set_option maxHeartbeats 4000000 in
theorem ref7_Mirror_yes (d1 d2 d3 n1 n2 n3 : Int) (w : World) (h1 : vnear d1 d2 d3 = true) (h2 : vnear n1 n2 n3 = true) :
    Calls Try.prog 14 #[.agg #[.int .i64 d1, .int .i64 d2, .int .i64 d3], .agg #[.int .i64 n1, .int .i64 n2, .int .i64 n3]] w fun e w' => e = .returned (.agg #[.int .i64 (d1 - n1 * (2 * (d1 * n1 + d2 * n2 + d3 * n3)) / 268435456), .int .i64 (d2 - n2 * (2 * (d1 * n1 + d2 * n2 + d3 * n3)) / 268435456), .int .i64 (d3 - n3 * (2 * (d1 * n1 + d2 * n2 + d3 * n3)) / 268435456)]) ∧ Below w.heap.size w w' := by
  have N1 := Lib.hid (fun w => ref6_Near d1 d2 d3 w)
  have N2 := Lib.hid (fun w => ref6_Near n1 n2 n3 w)
  rw [h1] at N1
  rw [h2] at N2
  have D := Lib.hid (fun w => ref6_Dot d1 d2 d3 n1 n2 n3 w)
  rw [vdot_near h1 h2] at D
  have i1 := dot_I64 h1 h2
  rw [vnear_iff] at h1 h2
  generalize d1 * n1 + d2 * n2 + d3 * n3 = s at *
  have e0 : IntKind.i64.wrap (2 * s) = 2 * s := by rw [i64w]; omega
  have f0 : wrap64 (2 * s) = 2 * s := by unfold wrap64; omega
  obtain ⟨k, hk⟩ : ∃ k, k = 2 * s := ⟨_, rfl⟩
  have g0 : 2 * s = k := hk.symm
  rw [← hk] at e0 f0 ⊢
  have hkb : -6597069766656 ≤ k ∧ k ≤ 6597069766656 := by omega
  clear hk i1
  have m1 := mul_in (x := n1) (a := k) (N := 1048576) (M := 6597069766656) (by omega) hkb
  obtain ⟨t1, ht1⟩ : ∃ t, t = n1 * k := ⟨_, rfl⟩
  have g1 : n1 * k = t1 := ht1.symm
  rw [← ht1] at m1 ⊢
  clear ht1
  have e1 : IntKind.i64.wrap t1 = t1 := by rw [i64w]; omega
  have V1 := Lib.hid (fun w => below_of_same (fun w => ref_Div t1 268435456 w (by unfold I64; omega) (by unfold I64; omega)) w)
  rw [dv_at (by omega)] at V1
  have b1 : -6597069766656 ≤ t1 / 268435456 ∧ t1 / 268435456 ≤ 6597069766656 := by omega
  generalize t1 / 268435456 = q1 at *
  have x1 : IntKind.i64.wrap (d1 - q1) = d1 - q1 := by rw [i64w]; omega
  obtain ⟨r1, hr1⟩ : ∃ r, r = d1 - q1 := ⟨_, rfl⟩
  have y1 : d1 - q1 = r1 := hr1.symm
  rw [← hr1] at x1 ⊢
  clear hr1 m1 b1
  have m2 := mul_in (x := n2) (a := k) (N := 1048576) (M := 6597069766656) (by omega) hkb
  obtain ⟨t2, ht2⟩ : ∃ t, t = n2 * k := ⟨_, rfl⟩
  have g2 : n2 * k = t2 := ht2.symm
  rw [← ht2] at m2 ⊢
  clear ht2
  have e2 : IntKind.i64.wrap t2 = t2 := by rw [i64w]; omega
  have V2 := Lib.hid (fun w => below_of_same (fun w => ref_Div t2 268435456 w (by unfold I64; omega) (by unfold I64; omega)) w)
  rw [dv_at (by omega)] at V2
  have b2 : -6597069766656 ≤ t2 / 268435456 ∧ t2 / 268435456 ≤ 6597069766656 := by omega
  generalize t2 / 268435456 = q2 at *
  have x2 : IntKind.i64.wrap (d2 - q2) = d2 - q2 := by rw [i64w]; omega
  obtain ⟨r2, hr2⟩ : ∃ r, r = d2 - q2 := ⟨_, rfl⟩
  have y2 : d2 - q2 = r2 := hr2.symm
  rw [← hr2] at x2 ⊢
  clear hr2 m2 b2
  have m3 := mul_in (x := n3) (a := k) (N := 1048576) (M := 6597069766656) (by omega) hkb
  obtain ⟨t3, ht3⟩ : ∃ t, t = n3 * k := ⟨_, rfl⟩
  have g3 : n3 * k = t3 := ht3.symm
  rw [← ht3] at m3 ⊢
  clear ht3
  have e3 : IntKind.i64.wrap t3 = t3 := by rw [i64w]; omega
  have V3 := Lib.hid (fun w => below_of_same (fun w => ref_Div t3 268435456 w (by unfold I64; omega) (by unfold I64; omega)) w)
  rw [dv_at (by omega)] at V3
  have b3 : -6597069766656 ≤ t3 / 268435456 ∧ t3 / 268435456 ≤ 6597069766656 := by omega
  generalize t3 / 268435456 = q3 at *
  have x3 : IntKind.i64.wrap (d3 - q3) = d3 - q3 := by rw [i64w]; omega
  obtain ⟨r3, hr3⟩ : ∃ r, r = d3 - q3 := ⟨_, rfl⟩
  have y3 : d3 - q3 = r3 := hr3.symm
  rw [← hr3] at x3 ⊢
  clear hr3 m3 b3
  clear h1 h2 hkb
  go_enter Try.func14, Try.ntmps14
  go_upto_region 1 with (fail)
  obtain ⟨W1, hW1⟩ : ∃ W, W = ((w.alloc (.cells #[.int .i64 d1, .int .i64 d2, .int .i64 d3] 23)).alloc (.cells #[.int .i64 n1, .int .i64 n2, .int .i64 n3] 23)).alloc (.cells #[.int .i64 0, .int .i64 0, .int .i64 0] 23) := ⟨_, rfl⟩
  have B1 : Below w.heap.size w W1 := by rw [hW1]; go_grown
  have k_a : Bk W1 (w.heap.size) 23 #[.int .i64 d1, .int .i64 d2, .int .i64 d3] := by rw [hW1]; exact ((Bk.new _ _ _).alloc _).alloc _
  have k_b : Bk W1 (w.heap.size + 1) 23 #[.int .i64 n1, .int .i64 n2, .int .i64 n3] := by rw [hW1]; exact (Bk.new_at _ _ _ _ (by simp)).alloc _
  have k_r : Bk W1 (w.heap.size + 1 + 1) 23 #[.int .i64 0, .int .i64 0, .int .i64 0] := by rw [hW1]; exact Bk.new_at _ _ _ _ (by simp)
  rw [← hW1]
  clear hW1
  have l_b : w.heap.size < w.heap.size + 1 := by omega
  have l_r : w.heap.size + 1 < w.heap.size + 1 + 1 := by omega
  generalize w.heap.size + 1 + 1 = g_r at *
  generalize w.heap.size + 1 = g_b at *
  have c_a_0 : ∀ p : BW W1, p.w.cell? ⟨w.heap.size, 0, none⟩ = some (.int .i64 d1) := bw_cell (k_a.cell rfl)
  have c_a_1 : ∀ p : BW W1, p.w.cell? ⟨w.heap.size, 1, none⟩ = some (.int .i64 d2) := bw_cell (k_a.cell rfl)
  have c_a_2 : ∀ p : BW W1, p.w.cell? ⟨w.heap.size, 2, none⟩ = some (.int .i64 d3) := bw_cell (k_a.cell rfl)
  have c_b_0 : ∀ p : BW W1, p.w.cell? ⟨g_b, 0, none⟩ = some (.int .i64 n1) := bw_cell (k_b.cell rfl)
  have c_b_1 : ∀ p : BW W1, p.w.cell? ⟨g_b, 1, none⟩ = some (.int .i64 n2) := bw_cell (k_b.cell rfl)
  have c_b_2 : ∀ p : BW W1, p.w.cell? ⟨g_b, 2, none⟩ = some (.int .i64 n3) := bw_cell (k_b.cell rfl)
  have c_r_0 : ∀ p : BW W1, p.w.cell? ⟨g_r, 0, none⟩ = some (.int .i64 0) := bw_cell (k_r.cell rfl)
  have f_r_0 : ∀ p : BW W1, p.w.frozen? ⟨g_r, 0, none⟩ = false := fun p => (k_r.below p.h).frozen 0
  have c_r_1 : ∀ p : BW W1, p.w.cell? ⟨g_r, 1, none⟩ = some (.int .i64 0) := bw_cell (k_r.cell rfl)
  have f_r_1 : ∀ p : BW W1, p.w.frozen? ⟨g_r, 1, none⟩ = false := fun p => (k_r.below p.h).frozen 1
  have c_r_2 : ∀ p : BW W1, p.w.cell? ⟨g_r, 2, none⟩ = some (.int .i64 0) := bw_cell (k_r.cell rfl)
  have f_r_2 : ∀ p : BW W1, p.w.frozen? ⟨g_r, 2, none⟩ = false := fun p => (k_r.below p.h).frozen 2
  obtain ⟨p1, hp1⟩ : ∃ p : BW W1, p.w = W1 := ⟨BW.start W1, rfl⟩
  rw [← hp1]
  clear hp1
  go_upto_region 4 with (first
    | (go_at_call 35; (first | (with_reducible refine (bw_call N1.out _).mono ?_) | (with_reducible refine (bw_call N2.out _).mono ?_)); rintro e w' ⟨rfl, q, rfl⟩)
    | (go_at_call 21; (first | (with_reducible refine (bw_call D.out _).mono ?_)); rintro e w' ⟨rfl, q, rfl⟩))
  refine wp_region_bw_tail 24 (by kernel_rfl) (by kernel_rfl) (by kernel_rfl) ?_
  simp only [List.take_succ_cons, List.take_zero, List.drop_succ_cons, List.drop_zero]
  repeat (go_big_quiet_step (first
    | (go_at_call 36; (first | (with_reducible exact bw_call V1.out _) | (with_reducible exact bw_call V2.out _) | (with_reducible exact bw_call V3.out _)))))
  refine wpQuiet_nil ?_
  intro _ hw'
  obtain ⟨q, rfl⟩ := hw'
  go_wp2
  have kr : Bk (((q.w.setCell ⟨g_r, 0, none⟩ (.int .i64 r1)).setCell ⟨g_r, 1, none⟩ (.int .i64 r2)).setCell ⟨g_r, 2, none⟩ (.int .i64 r3)) (g_r) 23 #[.int .i64 r1, .int .i64 r2, .int .i64 r3] := ((((k_r.below q.h).set 0 (.int .i64 r1)).set 1 (.int .i64 r2)).set 2 (.int .i64 r3))
  have rc0 : World.cell? (((q.w.setCell ⟨g_r, 0, none⟩ (.int .i64 r1)).setCell ⟨g_r, 1, none⟩ (.int .i64 r2)).setCell ⟨g_r, 2, none⟩ (.int .i64 r3)) ⟨g_r, 0, none⟩ = some (.int .i64 r1) := kr.cell rfl
  have rc1 : World.cell? (((q.w.setCell ⟨g_r, 0, none⟩ (.int .i64 r1)).setCell ⟨g_r, 1, none⟩ (.int .i64 r2)).setCell ⟨g_r, 2, none⟩ (.int .i64 r3)) ⟨g_r, 1, none⟩ = some (.int .i64 r2) := kr.cell rfl
  have rc2 : World.cell? (((q.w.setCell ⟨g_r, 0, none⟩ (.int .i64 r1)).setCell ⟨g_r, 1, none⟩ (.int .i64 r2)).setCell ⟨g_r, 2, none⟩ (.int .i64 r3)) ⟨g_r, 2, none⟩ = some (.int .i64 r3) := kr.cell rfl
  exact bodyPost_ret (v := .agg #[.int .i64 r1, .int .i64 r2, .int .i64 r3]) (by simp [results, Try.results14, go_sem, rc0, rc1, rc2]) rfl ⟨rfl, ((((bw_below B1 q).setCell (p := ⟨g_r, 0, none⟩) (by show w.heap.size ≤ g_r; omega) _).setCell (p := ⟨g_r, 1, none⟩) (by show w.heap.size ≤ g_r; omega) _).setCell (p := ⟨g_r, 2, none⟩) (by show w.heap.size ≤ g_r; omega) _)⟩

theorem ref7_Mirror (d1 d2 d3 n1 n2 n3 : Int) (w : World) :
    Calls Try.prog 14 #[.agg #[.int .i64 d1, .int .i64 d2, .int .i64 d3], .agg #[.int .i64 n1, .int .i64 n2, .int .i64 n3]] w fun e w' => e = .returned (.agg #[.int .i64 (mir (d1, d2, d3) (n1, n2, n3)).1, .int .i64 (mir (d1, d2, d3) (n1, n2, n3)).2.1, .int .i64 (mir (d1, d2, d3) (n1, n2, n3)).2.2]) ∧ Below w.heap.size w w' := by
  unfold mir
  by_cases h : nrT (d1, d2, d3) = true ∧ nrT (n1, n2, n3) = true
  · rw [if_pos h]; exact ref7_Mirror_yes d1 d2 d3 n1 n2 n3 w h.1 h.2
  · rw [if_neg h]; exact ref7_Mirror_no d1 d2 d3 n1 n2 n3 w h

set_option maxRecDepth 100000 in
set_option maxHeartbeats 4000000 in
theorem ref7_Facing_yes (n1 n2 n3 d1 d2 d3 : Int) (w : World) (h1 : vnear d1 d2 d3 = true) (h2 : vnear n1 n2 n3 = true) :
    Calls Try.prog 16 #[.agg #[.int .i64 n1, .int .i64 n2, .int .i64 n3], .agg #[.int .i64 d1, .int .i64 d2, .int .i64 d3]] w fun e w' => e = .returned (.agg #[.int .i64 (if 0 < n1 * d1 + n2 * d2 + n3 * d3 then (-n1, -n2, -n3) else (n1, n2, n3)).1, .int .i64 (if 0 < n1 * d1 + n2 * d2 + n3 * d3 then (-n1, -n2, -n3) else (n1, n2, n3)).2.1, .int .i64 (if 0 < n1 * d1 + n2 * d2 + n3 * d3 then (-n1, -n2, -n3) else (n1, n2, n3)).2.2]) ∧ Below w.heap.size w w' := by
  have N1 := Lib.hid (fun w => ref6_Near d1 d2 d3 w)
  have N2 := Lib.hid (fun w => ref6_Near n1 n2 n3 w)
  rw [h1] at N1
  rw [h2] at N2
  have D := Lib.hid (fun w => ref6_Dot n1 n2 n3 d1 d2 d3 w)
  rw [vdot_near h2 h1] at D
  rw [vnear_iff] at h1 h2
  generalize n1 * d1 + n2 * d2 + n3 * d3 = s at *
  have a1 : wrap64 (-n1) = -n1 := by unfold wrap64; omega
  have a2 : wrap64 (-n2) = -n2 := by unfold wrap64; omega
  have a3 : wrap64 (-n3) = -n3 := by unfold wrap64; omega
  clear h1 h2
  by_cases hs : 0 < s
  · rw [if_pos hs]
    have t : decide (0 < s) = true := decide_eq_true hs
    clear hs
    go_enter Try.func16, Try.ntmps16
    go_upto_region 1 with (fail)
    obtain ⟨W1, hW1⟩ : ∃ W, W = ((w.alloc (.cells #[.int .i64 n1, .int .i64 n2, .int .i64 n3] 23)).alloc (.cells #[.int .i64 d1, .int .i64 d2, .int .i64 d3] 23)).alloc (.cells #[.int .i64 0, .int .i64 0, .int .i64 0] 23) := ⟨_, rfl⟩
    have B1 : Below w.heap.size w W1 := by rw [hW1]; go_grown
    have k_a : Bk W1 (w.heap.size) 23 #[.int .i64 n1, .int .i64 n2, .int .i64 n3] := by rw [hW1]; exact ((Bk.new _ _ _).alloc _).alloc _
    have k_b : Bk W1 (w.heap.size + 1) 23 #[.int .i64 d1, .int .i64 d2, .int .i64 d3] := by rw [hW1]; exact (Bk.new_at _ _ _ _ (by simp)).alloc _
    have k_r : Bk W1 (w.heap.size + 1 + 1) 23 #[.int .i64 0, .int .i64 0, .int .i64 0] := by rw [hW1]; exact Bk.new_at _ _ _ _ (by simp)
    rw [← hW1]
    clear hW1
    have l_b : w.heap.size < w.heap.size + 1 := by omega
    have l_r : w.heap.size + 1 < w.heap.size + 1 + 1 := by omega
    generalize w.heap.size + 1 + 1 = g_r at *
    generalize w.heap.size + 1 = g_b at *
    have c_a_0 : ∀ p : BW W1, p.w.cell? ⟨w.heap.size, 0, none⟩ = some (.int .i64 n1) := bw_cell (k_a.cell rfl)
    have c_a_1 : ∀ p : BW W1, p.w.cell? ⟨w.heap.size, 1, none⟩ = some (.int .i64 n2) := bw_cell (k_a.cell rfl)
    have c_a_2 : ∀ p : BW W1, p.w.cell? ⟨w.heap.size, 2, none⟩ = some (.int .i64 n3) := bw_cell (k_a.cell rfl)
    have c_b_0 : ∀ p : BW W1, p.w.cell? ⟨g_b, 0, none⟩ = some (.int .i64 d1) := bw_cell (k_b.cell rfl)
    have c_b_1 : ∀ p : BW W1, p.w.cell? ⟨g_b, 1, none⟩ = some (.int .i64 d2) := bw_cell (k_b.cell rfl)
    have c_b_2 : ∀ p : BW W1, p.w.cell? ⟨g_b, 2, none⟩ = some (.int .i64 d3) := bw_cell (k_b.cell rfl)
    have c_r_0 : ∀ p : BW W1, p.w.cell? ⟨g_r, 0, none⟩ = some (.int .i64 0) := bw_cell (k_r.cell rfl)
    have f_r_0 : ∀ p : BW W1, p.w.frozen? ⟨g_r, 0, none⟩ = false := fun p => (k_r.below p.h).frozen 0
    have c_r_1 : ∀ p : BW W1, p.w.cell? ⟨g_r, 1, none⟩ = some (.int .i64 0) := bw_cell (k_r.cell rfl)
    have f_r_1 : ∀ p : BW W1, p.w.frozen? ⟨g_r, 1, none⟩ = false := fun p => (k_r.below p.h).frozen 1
    have c_r_2 : ∀ p : BW W1, p.w.cell? ⟨g_r, 2, none⟩ = some (.int .i64 0) := bw_cell (k_r.cell rfl)
    have f_r_2 : ∀ p : BW W1, p.w.frozen? ⟨g_r, 2, none⟩ = false := fun p => (k_r.below p.h).frozen 2
    obtain ⟨p1, hp1⟩ : ∃ p : BW W1, p.w = W1 := ⟨BW.start W1, rfl⟩
    rw [← hp1]
    clear hp1
    go_wp2_with (first
      | (go_at_call 35; (first | (with_reducible refine (bw_call N1.out _).mono ?_) | (with_reducible refine (bw_call N2.out _).mono ?_)); rintro e w' ⟨rfl, q, rfl⟩)
      | (go_at_call 21; (first | (with_reducible refine (bw_call D.out _).mono ?_)); rintro e w' ⟨rfl, q, rfl⟩))
    have kr : Bk (((q.w.setCell ⟨g_r, 0, none⟩ (.int .i64 (-n1))).setCell ⟨g_r, 1, none⟩ (.int .i64 (-n2))).setCell ⟨g_r, 2, none⟩ (.int .i64 (-n3))) (g_r) 23 #[.int .i64 (-n1), .int .i64 (-n2), .int .i64 (-n3)] := ((((k_r.below q.h).set 0 (.int .i64 (-n1))).set 1 (.int .i64 (-n2))).set 2 (.int .i64 (-n3)))
    have rc0 : World.cell? (((q.w.setCell ⟨g_r, 0, none⟩ (.int .i64 (-n1))).setCell ⟨g_r, 1, none⟩ (.int .i64 (-n2))).setCell ⟨g_r, 2, none⟩ (.int .i64 (-n3))) ⟨g_r, 0, none⟩ = some (.int .i64 (-n1)) := kr.cell rfl
    have rc1 : World.cell? (((q.w.setCell ⟨g_r, 0, none⟩ (.int .i64 (-n1))).setCell ⟨g_r, 1, none⟩ (.int .i64 (-n2))).setCell ⟨g_r, 2, none⟩ (.int .i64 (-n3))) ⟨g_r, 1, none⟩ = some (.int .i64 (-n2)) := kr.cell rfl
    have rc2 : World.cell? (((q.w.setCell ⟨g_r, 0, none⟩ (.int .i64 (-n1))).setCell ⟨g_r, 1, none⟩ (.int .i64 (-n2))).setCell ⟨g_r, 2, none⟩ (.int .i64 (-n3))) ⟨g_r, 2, none⟩ = some (.int .i64 (-n3)) := kr.cell rfl
    exact bodyPost_ret (v := .agg #[.int .i64 (-n1), .int .i64 (-n2), .int .i64 (-n3)]) (by simp [results, Try.results16, go_sem, rc0, rc1, rc2]) rfl ⟨rfl, ((((bw_below B1 q).setCell (p := ⟨g_r, 0, none⟩) (by show w.heap.size ≤ g_r; omega) _).setCell (p := ⟨g_r, 1, none⟩) (by show w.heap.size ≤ g_r; omega) _).setCell (p := ⟨g_r, 2, none⟩) (by show w.heap.size ≤ g_r; omega) _)⟩
  · rw [if_neg hs]
    have t : decide (0 < s) = false := decide_eq_false hs
    clear hs
    go_enter Try.func16, Try.ntmps16
    go_upto_region 1 with (fail)
    obtain ⟨W1, hW1⟩ : ∃ W, W = ((w.alloc (.cells #[.int .i64 n1, .int .i64 n2, .int .i64 n3] 23)).alloc (.cells #[.int .i64 d1, .int .i64 d2, .int .i64 d3] 23)).alloc (.cells #[.int .i64 0, .int .i64 0, .int .i64 0] 23) := ⟨_, rfl⟩
    have B1 : Below w.heap.size w W1 := by rw [hW1]; go_grown
    have k_a : Bk W1 (w.heap.size) 23 #[.int .i64 n1, .int .i64 n2, .int .i64 n3] := by rw [hW1]; exact ((Bk.new _ _ _).alloc _).alloc _
    have k_b : Bk W1 (w.heap.size + 1) 23 #[.int .i64 d1, .int .i64 d2, .int .i64 d3] := by rw [hW1]; exact (Bk.new_at _ _ _ _ (by simp)).alloc _
    have k_r : Bk W1 (w.heap.size + 1 + 1) 23 #[.int .i64 0, .int .i64 0, .int .i64 0] := by rw [hW1]; exact Bk.new_at _ _ _ _ (by simp)
    rw [← hW1]
    clear hW1
    have l_b : w.heap.size < w.heap.size + 1 := by omega
    have l_r : w.heap.size + 1 < w.heap.size + 1 + 1 := by omega
    generalize w.heap.size + 1 + 1 = g_r at *
    generalize w.heap.size + 1 = g_b at *
    have c_a_0 : ∀ p : BW W1, p.w.cell? ⟨w.heap.size, 0, none⟩ = some (.int .i64 n1) := bw_cell (k_a.cell rfl)
    have c_a_1 : ∀ p : BW W1, p.w.cell? ⟨w.heap.size, 1, none⟩ = some (.int .i64 n2) := bw_cell (k_a.cell rfl)
    have c_a_2 : ∀ p : BW W1, p.w.cell? ⟨w.heap.size, 2, none⟩ = some (.int .i64 n3) := bw_cell (k_a.cell rfl)
    have c_b_0 : ∀ p : BW W1, p.w.cell? ⟨g_b, 0, none⟩ = some (.int .i64 d1) := bw_cell (k_b.cell rfl)
    have c_b_1 : ∀ p : BW W1, p.w.cell? ⟨g_b, 1, none⟩ = some (.int .i64 d2) := bw_cell (k_b.cell rfl)
    have c_b_2 : ∀ p : BW W1, p.w.cell? ⟨g_b, 2, none⟩ = some (.int .i64 d3) := bw_cell (k_b.cell rfl)
    have c_r_0 : ∀ p : BW W1, p.w.cell? ⟨g_r, 0, none⟩ = some (.int .i64 0) := bw_cell (k_r.cell rfl)
    have f_r_0 : ∀ p : BW W1, p.w.frozen? ⟨g_r, 0, none⟩ = false := fun p => (k_r.below p.h).frozen 0
    have c_r_1 : ∀ p : BW W1, p.w.cell? ⟨g_r, 1, none⟩ = some (.int .i64 0) := bw_cell (k_r.cell rfl)
    have f_r_1 : ∀ p : BW W1, p.w.frozen? ⟨g_r, 1, none⟩ = false := fun p => (k_r.below p.h).frozen 1
    have c_r_2 : ∀ p : BW W1, p.w.cell? ⟨g_r, 2, none⟩ = some (.int .i64 0) := bw_cell (k_r.cell rfl)
    have f_r_2 : ∀ p : BW W1, p.w.frozen? ⟨g_r, 2, none⟩ = false := fun p => (k_r.below p.h).frozen 2
    obtain ⟨p1, hp1⟩ : ∃ p : BW W1, p.w = W1 := ⟨BW.start W1, rfl⟩
    rw [← hp1]
    clear hp1
    go_wp2_with (first
      | (go_at_call 35; (first | (with_reducible refine (bw_call N1.out _).mono ?_) | (with_reducible refine (bw_call N2.out _).mono ?_)); rintro e w' ⟨rfl, q, rfl⟩)
      | (go_at_call 21; (first | (with_reducible refine (bw_call D.out _).mono ?_)); rintro e w' ⟨rfl, q, rfl⟩))
    have kr : Bk (((q.w.setCell ⟨g_r, 0, none⟩ (.int .i64 n1)).setCell ⟨g_r, 1, none⟩ (.int .i64 n2)).setCell ⟨g_r, 2, none⟩ (.int .i64 n3)) (g_r) 23 #[.int .i64 n1, .int .i64 n2, .int .i64 n3] := ((((k_r.below q.h).set 0 (.int .i64 n1)).set 1 (.int .i64 n2)).set 2 (.int .i64 n3))
    have rc0 : World.cell? (((q.w.setCell ⟨g_r, 0, none⟩ (.int .i64 n1)).setCell ⟨g_r, 1, none⟩ (.int .i64 n2)).setCell ⟨g_r, 2, none⟩ (.int .i64 n3)) ⟨g_r, 0, none⟩ = some (.int .i64 n1) := kr.cell rfl
    have rc1 : World.cell? (((q.w.setCell ⟨g_r, 0, none⟩ (.int .i64 n1)).setCell ⟨g_r, 1, none⟩ (.int .i64 n2)).setCell ⟨g_r, 2, none⟩ (.int .i64 n3)) ⟨g_r, 1, none⟩ = some (.int .i64 n2) := kr.cell rfl
    have rc2 : World.cell? (((q.w.setCell ⟨g_r, 0, none⟩ (.int .i64 n1)).setCell ⟨g_r, 1, none⟩ (.int .i64 n2)).setCell ⟨g_r, 2, none⟩ (.int .i64 n3)) ⟨g_r, 2, none⟩ = some (.int .i64 n3) := kr.cell rfl
    exact bodyPost_ret (v := .agg #[.int .i64 n1, .int .i64 n2, .int .i64 n3]) (by simp [results, Try.results16, go_sem, rc0, rc1, rc2]) rfl ⟨rfl, ((((bw_below B1 q).setCell (p := ⟨g_r, 0, none⟩) (by show w.heap.size ≤ g_r; omega) _).setCell (p := ⟨g_r, 1, none⟩) (by show w.heap.size ≤ g_r; omega) _).setCell (p := ⟨g_r, 2, none⟩) (by show w.heap.size ≤ g_r; omega) _)⟩

theorem ref7_Facing (n1 n2 n3 d1 d2 d3 : Int) (w : World) :
    Calls Try.prog 16 #[.agg #[.int .i64 n1, .int .i64 n2, .int .i64 n3], .agg #[.int .i64 d1, .int .i64 d2, .int .i64 d3]] w fun e w' => e = .returned (.agg #[.int .i64 (fac (n1, n2, n3) (d1, d2, d3)).1, .int .i64 (fac (n1, n2, n3) (d1, d2, d3)).2.1, .int .i64 (fac (n1, n2, n3) (d1, d2, d3)).2.2]) ∧ Below w.heap.size w w' := by
  unfold fac
  by_cases h : nrT (d1, d2, d3) = true ∧ nrT (n1, n2, n3) = true
  · rw [if_pos h]; exact ref7_Facing_yes n1 n2 n3 d1 d2 d3 w h.1 h.2
  · rw [if_neg h]; exact ref7_Facing_no n1 n2 n3 d1 d2 d3 w h

theorem ref7_Of (x y z : Int) (w : World) :
    Calls Try.prog 7 #[.agg #[.int .i64 x, .int .i64 y, .int .i64 z]] w fun e w' => e = .returned (.tuple #[.agg (bas9 (bas x y z)), .bool (vuOk x y z)]) ∧ Below w.heap.size w w' := by
  unfold bas
  cases h : vuOk x y z with
  | true => exact ref7_Of_yes x y z w h
  | false => exact ref7_Of_no x y z w h

end Go.Proofs.Ytijphipinjlmbaa
