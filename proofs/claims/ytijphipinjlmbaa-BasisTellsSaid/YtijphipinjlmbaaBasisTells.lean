/- The walk of the statement BasisTells. -/
import Derived.Test.YtijphipinjlmbaaAwake07
import Derived.Test.YtijphipinjlmbaaRefb07
import Derived.Deep.DeepCutAuto
namespace Go.Proofs.Ytijphipinjlmbaa
open Go.RowKit Go.Proofs.Sky
set_option linter.unusedVariables false

set_option maxRecDepth 100000 in
set_option maxHeartbeats 8000000 in
theorem law7_of (u1 u2 u3 v1 v2 v3 m1 m2 m3 : Int) (w : World) :
    Calls Try.prog 8 #[.agg #[.int .i64 u1, .int .i64 u2, .int .i64 u3, .int .i64 v1, .int .i64 v2, .int .i64 v3, .int .i64 m1, .int .i64 m2, .int .i64 m3]] w fun e w' => e = .returned (.agg #[.int .i64 u1, .int .i64 u2, .int .i64 u3, .int .i64 v1, .int .i64 v2, .int .i64 v3, .int .i64 m1, .int .i64 m2, .int .i64 m3]) ∧ Below w.heap.size w w' := by
  go_enter Try.func8, Try.ntmps8
  go_upto_region 1 with (fail)
  obtain ⟨W1, hW1⟩ : ∃ W, W = (w.alloc (.cells #[.int .i64 u1, .int .i64 u2, .int .i64 u3, .int .i64 v1, .int .i64 v2, .int .i64 v3, .int .i64 m1, .int .i64 m2, .int .i64 m3] 25)).alloc (.cells #[.int .i64 0, .int .i64 0, .int .i64 0, .int .i64 0, .int .i64 0, .int .i64 0, .int .i64 0, .int .i64 0, .int .i64 0] 26) := ⟨_, rfl⟩
  have B1 : Below w.heap.size w W1 := by rw [hW1]; go_grown
  have k_b : Bk W1 (w.heap.size) 25 #[.int .i64 u1, .int .i64 u2, .int .i64 u3, .int .i64 v1, .int .i64 v2, .int .i64 v3, .int .i64 m1, .int .i64 m2, .int .i64 m3] := by rw [hW1]; exact (Bk.new _ _ _).alloc _
  have k_r : Bk W1 (w.heap.size + 1) 26 #[.int .i64 0, .int .i64 0, .int .i64 0, .int .i64 0, .int .i64 0, .int .i64 0, .int .i64 0, .int .i64 0, .int .i64 0] := by rw [hW1]; exact Bk.new_at _ _ _ _ (by simp)
  rw [← hW1]
  clear hW1
  have l_r : w.heap.size < w.heap.size + 1 := by omega
  generalize w.heap.size + 1 = g_r at *
  have c_b_0 : ∀ p : BW W1, p.w.cell? ⟨w.heap.size, 0, none⟩ = some (.int .i64 u1) := bw_cell (k_b.cell rfl)
  have c_b_1 : ∀ p : BW W1, p.w.cell? ⟨w.heap.size, 1, none⟩ = some (.int .i64 u2) := bw_cell (k_b.cell rfl)
  have c_b_2 : ∀ p : BW W1, p.w.cell? ⟨w.heap.size, 2, none⟩ = some (.int .i64 u3) := bw_cell (k_b.cell rfl)
  have c_b_3 : ∀ p : BW W1, p.w.cell? ⟨w.heap.size, 3, none⟩ = some (.int .i64 v1) := bw_cell (k_b.cell rfl)
  have c_b_4 : ∀ p : BW W1, p.w.cell? ⟨w.heap.size, 4, none⟩ = some (.int .i64 v2) := bw_cell (k_b.cell rfl)
  have c_b_5 : ∀ p : BW W1, p.w.cell? ⟨w.heap.size, 5, none⟩ = some (.int .i64 v3) := bw_cell (k_b.cell rfl)
  have c_b_6 : ∀ p : BW W1, p.w.cell? ⟨w.heap.size, 6, none⟩ = some (.int .i64 m1) := bw_cell (k_b.cell rfl)
  have c_b_7 : ∀ p : BW W1, p.w.cell? ⟨w.heap.size, 7, none⟩ = some (.int .i64 m2) := bw_cell (k_b.cell rfl)
  have c_b_8 : ∀ p : BW W1, p.w.cell? ⟨w.heap.size, 8, none⟩ = some (.int .i64 m3) := bw_cell (k_b.cell rfl)
  have c_r_0 : ∀ p : BW W1, p.w.cell? ⟨g_r, 0, none⟩ = some (.int .i64 0) := bw_cell (k_r.cell rfl)
  have f_r_0 : ∀ p : BW W1, p.w.frozen? ⟨g_r, 0, none⟩ = false := fun p => (k_r.below p.h).frozen 0
  have c_r_1 : ∀ p : BW W1, p.w.cell? ⟨g_r, 1, none⟩ = some (.int .i64 0) := bw_cell (k_r.cell rfl)
  have f_r_1 : ∀ p : BW W1, p.w.frozen? ⟨g_r, 1, none⟩ = false := fun p => (k_r.below p.h).frozen 1
  have c_r_2 : ∀ p : BW W1, p.w.cell? ⟨g_r, 2, none⟩ = some (.int .i64 0) := bw_cell (k_r.cell rfl)
  have f_r_2 : ∀ p : BW W1, p.w.frozen? ⟨g_r, 2, none⟩ = false := fun p => (k_r.below p.h).frozen 2
  have c_r_3 : ∀ p : BW W1, p.w.cell? ⟨g_r, 3, none⟩ = some (.int .i64 0) := bw_cell (k_r.cell rfl)
  have f_r_3 : ∀ p : BW W1, p.w.frozen? ⟨g_r, 3, none⟩ = false := fun p => (k_r.below p.h).frozen 3
  have c_r_4 : ∀ p : BW W1, p.w.cell? ⟨g_r, 4, none⟩ = some (.int .i64 0) := bw_cell (k_r.cell rfl)
  have f_r_4 : ∀ p : BW W1, p.w.frozen? ⟨g_r, 4, none⟩ = false := fun p => (k_r.below p.h).frozen 4
  have c_r_5 : ∀ p : BW W1, p.w.cell? ⟨g_r, 5, none⟩ = some (.int .i64 0) := bw_cell (k_r.cell rfl)
  have f_r_5 : ∀ p : BW W1, p.w.frozen? ⟨g_r, 5, none⟩ = false := fun p => (k_r.below p.h).frozen 5
  have c_r_6 : ∀ p : BW W1, p.w.cell? ⟨g_r, 6, none⟩ = some (.int .i64 0) := bw_cell (k_r.cell rfl)
  have f_r_6 : ∀ p : BW W1, p.w.frozen? ⟨g_r, 6, none⟩ = false := fun p => (k_r.below p.h).frozen 6
  have c_r_7 : ∀ p : BW W1, p.w.cell? ⟨g_r, 7, none⟩ = some (.int .i64 0) := bw_cell (k_r.cell rfl)
  have f_r_7 : ∀ p : BW W1, p.w.frozen? ⟨g_r, 7, none⟩ = false := fun p => (k_r.below p.h).frozen 7
  have c_r_8 : ∀ p : BW W1, p.w.cell? ⟨g_r, 8, none⟩ = some (.int .i64 0) := bw_cell (k_r.cell rfl)
  have f_r_8 : ∀ p : BW W1, p.w.frozen? ⟨g_r, 8, none⟩ = false := fun p => (k_r.below p.h).frozen 8
  obtain ⟨p1, hp1⟩ : ∃ p : BW W1, p.w = W1 := ⟨BW.start W1, rfl⟩
  rw [← hp1]
  clear hp1
  go_wp2
  have kr : Bk (((((((((p1.w.setCell ⟨g_r, 0, none⟩ (.int .i64 u1)).setCell ⟨g_r, 1, none⟩ (.int .i64 u2)).setCell ⟨g_r, 2, none⟩ (.int .i64 u3)).setCell ⟨g_r, 3, none⟩ (.int .i64 v1)).setCell ⟨g_r, 4, none⟩ (.int .i64 v2)).setCell ⟨g_r, 5, none⟩ (.int .i64 v3)).setCell ⟨g_r, 6, none⟩ (.int .i64 m1)).setCell ⟨g_r, 7, none⟩ (.int .i64 m2)).setCell ⟨g_r, 8, none⟩ (.int .i64 m3)) (g_r) 26 #[.int .i64 u1, .int .i64 u2, .int .i64 u3, .int .i64 v1, .int .i64 v2, .int .i64 v3, .int .i64 m1, .int .i64 m2, .int .i64 m3] := ((((((((((k_r.below p1.h).set 0 (.int .i64 u1)).set 1 (.int .i64 u2)).set 2 (.int .i64 u3)).set 3 (.int .i64 v1)).set 4 (.int .i64 v2)).set 5 (.int .i64 v3)).set 6 (.int .i64 m1)).set 7 (.int .i64 m2)).set 8 (.int .i64 m3)).cast (by simp)
  have rc0 : World.cell? (((((((((p1.w.setCell ⟨g_r, 0, none⟩ (.int .i64 u1)).setCell ⟨g_r, 1, none⟩ (.int .i64 u2)).setCell ⟨g_r, 2, none⟩ (.int .i64 u3)).setCell ⟨g_r, 3, none⟩ (.int .i64 v1)).setCell ⟨g_r, 4, none⟩ (.int .i64 v2)).setCell ⟨g_r, 5, none⟩ (.int .i64 v3)).setCell ⟨g_r, 6, none⟩ (.int .i64 m1)).setCell ⟨g_r, 7, none⟩ (.int .i64 m2)).setCell ⟨g_r, 8, none⟩ (.int .i64 m3)) ⟨g_r, 0, none⟩ = some (.int .i64 u1) := kr.cell rfl
  have rc1 : World.cell? (((((((((p1.w.setCell ⟨g_r, 0, none⟩ (.int .i64 u1)).setCell ⟨g_r, 1, none⟩ (.int .i64 u2)).setCell ⟨g_r, 2, none⟩ (.int .i64 u3)).setCell ⟨g_r, 3, none⟩ (.int .i64 v1)).setCell ⟨g_r, 4, none⟩ (.int .i64 v2)).setCell ⟨g_r, 5, none⟩ (.int .i64 v3)).setCell ⟨g_r, 6, none⟩ (.int .i64 m1)).setCell ⟨g_r, 7, none⟩ (.int .i64 m2)).setCell ⟨g_r, 8, none⟩ (.int .i64 m3)) ⟨g_r, 1, none⟩ = some (.int .i64 u2) := kr.cell rfl
  have rc2 : World.cell? (((((((((p1.w.setCell ⟨g_r, 0, none⟩ (.int .i64 u1)).setCell ⟨g_r, 1, none⟩ (.int .i64 u2)).setCell ⟨g_r, 2, none⟩ (.int .i64 u3)).setCell ⟨g_r, 3, none⟩ (.int .i64 v1)).setCell ⟨g_r, 4, none⟩ (.int .i64 v2)).setCell ⟨g_r, 5, none⟩ (.int .i64 v3)).setCell ⟨g_r, 6, none⟩ (.int .i64 m1)).setCell ⟨g_r, 7, none⟩ (.int .i64 m2)).setCell ⟨g_r, 8, none⟩ (.int .i64 m3)) ⟨g_r, 2, none⟩ = some (.int .i64 u3) := kr.cell rfl
  have rc3 : World.cell? (((((((((p1.w.setCell ⟨g_r, 0, none⟩ (.int .i64 u1)).setCell ⟨g_r, 1, none⟩ (.int .i64 u2)).setCell ⟨g_r, 2, none⟩ (.int .i64 u3)).setCell ⟨g_r, 3, none⟩ (.int .i64 v1)).setCell ⟨g_r, 4, none⟩ (.int .i64 v2)).setCell ⟨g_r, 5, none⟩ (.int .i64 v3)).setCell ⟨g_r, 6, none⟩ (.int .i64 m1)).setCell ⟨g_r, 7, none⟩ (.int .i64 m2)).setCell ⟨g_r, 8, none⟩ (.int .i64 m3)) ⟨g_r, 3, none⟩ = some (.int .i64 v1) := kr.cell rfl
  have rc4 : World.cell? (((((((((p1.w.setCell ⟨g_r, 0, none⟩ (.int .i64 u1)).setCell ⟨g_r, 1, none⟩ (.int .i64 u2)).setCell ⟨g_r, 2, none⟩ (.int .i64 u3)).setCell ⟨g_r, 3, none⟩ (.int .i64 v1)).setCell ⟨g_r, 4, none⟩ (.int .i64 v2)).setCell ⟨g_r, 5, none⟩ (.int .i64 v3)).setCell ⟨g_r, 6, none⟩ (.int .i64 m1)).setCell ⟨g_r, 7, none⟩ (.int .i64 m2)).setCell ⟨g_r, 8, none⟩ (.int .i64 m3)) ⟨g_r, 4, none⟩ = some (.int .i64 v2) := kr.cell rfl
  have rc5 : World.cell? (((((((((p1.w.setCell ⟨g_r, 0, none⟩ (.int .i64 u1)).setCell ⟨g_r, 1, none⟩ (.int .i64 u2)).setCell ⟨g_r, 2, none⟩ (.int .i64 u3)).setCell ⟨g_r, 3, none⟩ (.int .i64 v1)).setCell ⟨g_r, 4, none⟩ (.int .i64 v2)).setCell ⟨g_r, 5, none⟩ (.int .i64 v3)).setCell ⟨g_r, 6, none⟩ (.int .i64 m1)).setCell ⟨g_r, 7, none⟩ (.int .i64 m2)).setCell ⟨g_r, 8, none⟩ (.int .i64 m3)) ⟨g_r, 5, none⟩ = some (.int .i64 v3) := kr.cell rfl
  have rc6 : World.cell? (((((((((p1.w.setCell ⟨g_r, 0, none⟩ (.int .i64 u1)).setCell ⟨g_r, 1, none⟩ (.int .i64 u2)).setCell ⟨g_r, 2, none⟩ (.int .i64 u3)).setCell ⟨g_r, 3, none⟩ (.int .i64 v1)).setCell ⟨g_r, 4, none⟩ (.int .i64 v2)).setCell ⟨g_r, 5, none⟩ (.int .i64 v3)).setCell ⟨g_r, 6, none⟩ (.int .i64 m1)).setCell ⟨g_r, 7, none⟩ (.int .i64 m2)).setCell ⟨g_r, 8, none⟩ (.int .i64 m3)) ⟨g_r, 6, none⟩ = some (.int .i64 m1) := kr.cell rfl
  have rc7 : World.cell? (((((((((p1.w.setCell ⟨g_r, 0, none⟩ (.int .i64 u1)).setCell ⟨g_r, 1, none⟩ (.int .i64 u2)).setCell ⟨g_r, 2, none⟩ (.int .i64 u3)).setCell ⟨g_r, 3, none⟩ (.int .i64 v1)).setCell ⟨g_r, 4, none⟩ (.int .i64 v2)).setCell ⟨g_r, 5, none⟩ (.int .i64 v3)).setCell ⟨g_r, 6, none⟩ (.int .i64 m1)).setCell ⟨g_r, 7, none⟩ (.int .i64 m2)).setCell ⟨g_r, 8, none⟩ (.int .i64 m3)) ⟨g_r, 7, none⟩ = some (.int .i64 m2) := kr.cell rfl
  have rc8 : World.cell? (((((((((p1.w.setCell ⟨g_r, 0, none⟩ (.int .i64 u1)).setCell ⟨g_r, 1, none⟩ (.int .i64 u2)).setCell ⟨g_r, 2, none⟩ (.int .i64 u3)).setCell ⟨g_r, 3, none⟩ (.int .i64 v1)).setCell ⟨g_r, 4, none⟩ (.int .i64 v2)).setCell ⟨g_r, 5, none⟩ (.int .i64 v3)).setCell ⟨g_r, 6, none⟩ (.int .i64 m1)).setCell ⟨g_r, 7, none⟩ (.int .i64 m2)).setCell ⟨g_r, 8, none⟩ (.int .i64 m3)) ⟨g_r, 8, none⟩ = some (.int .i64 m3) := kr.cell rfl
  exact bodyPost_ret (v := .agg #[.int .i64 u1, .int .i64 u2, .int .i64 u3, .int .i64 v1, .int .i64 v2, .int .i64 v3, .int .i64 m1, .int .i64 m2, .int .i64 m3]) (by simp [results, Try.results8, go_sem, rc0, rc1, rc2, rc3, rc4, rc5, rc6, rc7, rc8]) rfl ⟨rfl, ((((((((((bw_below B1 p1).setCell (p := ⟨g_r, 0, none⟩) (by show w.heap.size ≤ g_r; omega) _).setCell (p := ⟨g_r, 1, none⟩) (by show w.heap.size ≤ g_r; omega) _).setCell (p := ⟨g_r, 2, none⟩) (by show w.heap.size ≤ g_r; omega) _).setCell (p := ⟨g_r, 3, none⟩) (by show w.heap.size ≤ g_r; omega) _).setCell (p := ⟨g_r, 4, none⟩) (by show w.heap.size ≤ g_r; omega) _).setCell (p := ⟨g_r, 5, none⟩) (by show w.heap.size ≤ g_r; omega) _).setCell (p := ⟨g_r, 6, none⟩) (by show w.heap.size ≤ g_r; omega) _).setCell (p := ⟨g_r, 7, none⟩) (by show w.heap.size ≤ g_r; omega) _).setCell (p := ⟨g_r, 8, none⟩) (by show w.heap.size ≤ g_r; omega) _)⟩

set_option maxRecDepth 100000 in
set_option maxHeartbeats 8000000 in
theorem law_BasisTells (x y z u1 u2 u3 v1 v2 v3 m1 m2 m3 w1 w2 w3 d1 d2 d3 : Int) (w : World) (hx : I64 x) (hy : I64 y) (hz : I64 z) :
    Calls Try.prog 3 #[.agg #[.int .i64 x, .int .i64 y, .int .i64 z], .agg #[.int .i64 u1, .int .i64 u2, .int .i64 u3, .int .i64 v1, .int .i64 v2, .int .i64 v3, .int .i64 m1, .int .i64 m2, .int .i64 m3], .agg #[.int .i64 w1, .int .i64 w2, .int .i64 w3], .agg #[.int .i64 d1, .int .i64 d2, .int .i64 d3]] w fun r w' => r = .returned (.bool true) ∧ Below w.heap.size w w' := by
  have HA := Lib.hid (fun w => awake07 w)
  have O1 := Lib.hid (fun w => basis_Of x y z w hx hy hz)
  have O2 := Lib.hid (fun w => ref7_Of x y z w)
  unfold bas9 at O1 O2
  generalize bas x y z = b at *
  generalize vuOk x y z = ok at *
  obtain ⟨⟨a1, a2, a3⟩, ⟨a4, a5, a6⟩, ⟨a7, a8, a9⟩⟩ := b
  dsimp only at O1 O2
  have T1 := Lib.hid (fun w => law7_of a1 a2 a3 a4 a5 a6 a7 a8 a9 w)
  have T2 := Lib.hid (fun w => law7_of u1 u2 u3 v1 v2 v3 m1 m2 m3 w)
  have P1 := Lib.hid (fun w => basis_Out u1 u2 u3 v1 v2 v3 m1 m2 m3 w1 w2 w3 w)
  have P2 := Lib.hid (fun w => ref7_Out u1 u2 u3 v1 v2 v3 m1 m2 m3 w1 w2 w3 w)
  generalize bout (u1, u2, u3) (v1, v2, v3) (m1, m2, m3) (w1, w2, w3) = c at *
  have Q1 := Lib.hid (fun w => basis_In u1 u2 u3 v1 v2 v3 m1 m2 m3 w1 w2 w3 w)
  have Q2 := Lib.hid (fun w => ref7_In u1 u2 u3 v1 v2 v3 m1 m2 m3 w1 w2 w3 w)
  generalize bin (u1, u2, u3) (v1, v2, v3) (m1, m2, m3) (w1, w2, w3) = d at *
  have M1 := Lib.hid (fun w => basis_Mirror d1 d2 d3 w1 w2 w3 w)
  have M2 := Lib.hid (fun w => ref7_Mirror d1 d2 d3 w1 w2 w3 w)
  generalize mir (d1, d2, d3) (w1, w2, w3) = e at *
  have F1 := Lib.hid (fun w => basis_Facing x y z d1 d2 d3 w)
  have F2 := Lib.hid (fun w => ref7_Facing x y z d1 d2 d3 w)
  generalize fac (x, y, z) (d1, d2, d3) = f at *
  obtain ⟨c1, c2, c3⟩ := c
  obtain ⟨e1, e2, e3⟩ := d
  obtain ⟨f1, f2, f3⟩ := e
  obtain ⟨g1, g2, g3⟩ := f
  dsimp only at *
  clear hx hy hz
  go_enter Try.func3, Try.ntmps3
  go_upto_region 1 with (fail)
  obtain ⟨W1, hW1⟩ : ∃ W, W = (((w.alloc (.cells #[.int .i64 x, .int .i64 y, .int .i64 z] 23)).alloc (.cells #[.int .i64 u1, .int .i64 u2, .int .i64 u3, .int .i64 v1, .int .i64 v2, .int .i64 v3, .int .i64 m1, .int .i64 m2, .int .i64 m3] 25)).alloc (.cells #[.int .i64 w1, .int .i64 w2, .int .i64 w3] 23)).alloc (.cells #[.int .i64 d1, .int .i64 d2, .int .i64 d3] 23) := ⟨_, rfl⟩
  have B1 : Below w.heap.size w W1 := by rw [hW1]; go_grown
  have k_n : Bk W1 (w.heap.size) 23 #[.int .i64 x, .int .i64 y, .int .i64 z] := by rw [hW1]; exact (((Bk.new _ _ _).alloc _).alloc _).alloc _
  have k_b : Bk W1 (w.heap.size + 1) 25 #[.int .i64 u1, .int .i64 u2, .int .i64 u3, .int .i64 v1, .int .i64 v2, .int .i64 v3, .int .i64 m1, .int .i64 m2, .int .i64 m3] := by rw [hW1]; exact ((Bk.new_at _ _ _ _ (by simp)).alloc _).alloc _
  have k_v : Bk W1 (w.heap.size + 1 + 1) 23 #[.int .i64 w1, .int .i64 w2, .int .i64 w3] := by rw [hW1]; exact (Bk.new_at _ _ _ _ (by simp)).alloc _
  have k_d : Bk W1 (w.heap.size + 1 + 1 + 1) 23 #[.int .i64 d1, .int .i64 d2, .int .i64 d3] := by rw [hW1]; exact Bk.new_at _ _ _ _ (by simp)
  rw [← hW1]
  clear hW1
  have l_b : w.heap.size < w.heap.size + 1 := by omega
  have l_v : w.heap.size + 1 < w.heap.size + 1 + 1 := by omega
  have l_d : w.heap.size + 1 + 1 < w.heap.size + 1 + 1 + 1 := by omega
  generalize w.heap.size + 1 + 1 + 1 = g_d at *
  generalize w.heap.size + 1 + 1 = g_v at *
  generalize w.heap.size + 1 = g_b at *
  have c_n_0 : ∀ p : BW W1, p.w.cell? ⟨w.heap.size, 0, none⟩ = some (.int .i64 x) := bw_cell (k_n.cell rfl)
  have c_n_1 : ∀ p : BW W1, p.w.cell? ⟨w.heap.size, 1, none⟩ = some (.int .i64 y) := bw_cell (k_n.cell rfl)
  have c_n_2 : ∀ p : BW W1, p.w.cell? ⟨w.heap.size, 2, none⟩ = some (.int .i64 z) := bw_cell (k_n.cell rfl)
  have c_b_0 : ∀ p : BW W1, p.w.cell? ⟨g_b, 0, none⟩ = some (.int .i64 u1) := bw_cell (k_b.cell rfl)
  have c_b_1 : ∀ p : BW W1, p.w.cell? ⟨g_b, 1, none⟩ = some (.int .i64 u2) := bw_cell (k_b.cell rfl)
  have c_b_2 : ∀ p : BW W1, p.w.cell? ⟨g_b, 2, none⟩ = some (.int .i64 u3) := bw_cell (k_b.cell rfl)
  have c_b_3 : ∀ p : BW W1, p.w.cell? ⟨g_b, 3, none⟩ = some (.int .i64 v1) := bw_cell (k_b.cell rfl)
  have c_b_4 : ∀ p : BW W1, p.w.cell? ⟨g_b, 4, none⟩ = some (.int .i64 v2) := bw_cell (k_b.cell rfl)
  have c_b_5 : ∀ p : BW W1, p.w.cell? ⟨g_b, 5, none⟩ = some (.int .i64 v3) := bw_cell (k_b.cell rfl)
  have c_b_6 : ∀ p : BW W1, p.w.cell? ⟨g_b, 6, none⟩ = some (.int .i64 m1) := bw_cell (k_b.cell rfl)
  have c_b_7 : ∀ p : BW W1, p.w.cell? ⟨g_b, 7, none⟩ = some (.int .i64 m2) := bw_cell (k_b.cell rfl)
  have c_b_8 : ∀ p : BW W1, p.w.cell? ⟨g_b, 8, none⟩ = some (.int .i64 m3) := bw_cell (k_b.cell rfl)
  have c_v_0 : ∀ p : BW W1, p.w.cell? ⟨g_v, 0, none⟩ = some (.int .i64 w1) := bw_cell (k_v.cell rfl)
  have c_v_1 : ∀ p : BW W1, p.w.cell? ⟨g_v, 1, none⟩ = some (.int .i64 w2) := bw_cell (k_v.cell rfl)
  have c_v_2 : ∀ p : BW W1, p.w.cell? ⟨g_v, 2, none⟩ = some (.int .i64 w3) := bw_cell (k_v.cell rfl)
  have c_d_0 : ∀ p : BW W1, p.w.cell? ⟨g_d, 0, none⟩ = some (.int .i64 d1) := bw_cell (k_d.cell rfl)
  have c_d_1 : ∀ p : BW W1, p.w.cell? ⟨g_d, 1, none⟩ = some (.int .i64 d2) := bw_cell (k_d.cell rfl)
  have c_d_2 : ∀ p : BW W1, p.w.cell? ⟨g_d, 2, none⟩ = some (.int .i64 d3) := bw_cell (k_d.cell rfl)
  obtain ⟨p1, hp1⟩ : ∃ p : BW W1, p.w = W1 := ⟨BW.start W1, rfl⟩
  rw [← hp1]
  clear hp1
  go_upto_region 2 with (first
    | (go_at_call 6; (first | (with_reducible refine (bw_call O1.out _).mono ?_)); rintro e w' ⟨rfl, q, rfl⟩))
  obtain ⟨W2, hW2⟩ : ∃ W, W = q.w.alloc (.cells #[.int .i64 a1, .int .i64 a2, .int .i64 a3, .int .i64 a4, .int .i64 a5, .int .i64 a6, .int .i64 a7, .int .i64 a8, .int .i64 a9] 26) := ⟨_, rfl⟩
  have B2 : Below w.heap.size w W2 := by rw [hW2]; exact (bw_below B1 q).alloc (bw_below B1 q).size _
  have l_x : g_d < q.w.heap.size := (k_d.below q.h).lt
  have k_n := (k_n.below q.h).alloc (.cells #[.int .i64 a1, .int .i64 a2, .int .i64 a3, .int .i64 a4, .int .i64 a5, .int .i64 a6, .int .i64 a7, .int .i64 a8, .int .i64 a9] 26)
  rw [← hW2] at k_n
  have k_b := (k_b.below q.h).alloc (.cells #[.int .i64 a1, .int .i64 a2, .int .i64 a3, .int .i64 a4, .int .i64 a5, .int .i64 a6, .int .i64 a7, .int .i64 a8, .int .i64 a9] 26)
  rw [← hW2] at k_b
  have k_v := (k_v.below q.h).alloc (.cells #[.int .i64 a1, .int .i64 a2, .int .i64 a3, .int .i64 a4, .int .i64 a5, .int .i64 a6, .int .i64 a7, .int .i64 a8, .int .i64 a9] 26)
  rw [← hW2] at k_v
  have k_d := (k_d.below q.h).alloc (.cells #[.int .i64 a1, .int .i64 a2, .int .i64 a3, .int .i64 a4, .int .i64 a5, .int .i64 a6, .int .i64 a7, .int .i64 a8, .int .i64 a9] 26)
  rw [← hW2] at k_d
  have k_x : Bk W2 q.w.heap.size 26 #[.int .i64 a1, .int .i64 a2, .int .i64 a3, .int .i64 a4, .int .i64 a5, .int .i64 a6, .int .i64 a7, .int .i64 a8, .int .i64 a9] := by rw [hW2]; exact Bk.new _ _ _
  rw [← hW2]
  clear hW2
  clear B1
  clear c_n_0 c_n_1 c_n_2 c_b_0 c_b_1 c_b_2 c_b_3 c_b_4 c_b_5 c_b_6 c_b_7 c_b_8 c_v_0 c_v_1 c_v_2 c_d_0 c_d_1 c_d_2
  generalize q.w.heap.size = g_x at *
  have c_n_0 : ∀ p : BW W2, p.w.cell? ⟨w.heap.size, 0, none⟩ = some (.int .i64 x) := bw_cell (k_n.cell rfl)
  have c_n_1 : ∀ p : BW W2, p.w.cell? ⟨w.heap.size, 1, none⟩ = some (.int .i64 y) := bw_cell (k_n.cell rfl)
  have c_n_2 : ∀ p : BW W2, p.w.cell? ⟨w.heap.size, 2, none⟩ = some (.int .i64 z) := bw_cell (k_n.cell rfl)
  have c_b_0 : ∀ p : BW W2, p.w.cell? ⟨g_b, 0, none⟩ = some (.int .i64 u1) := bw_cell (k_b.cell rfl)
  have c_b_1 : ∀ p : BW W2, p.w.cell? ⟨g_b, 1, none⟩ = some (.int .i64 u2) := bw_cell (k_b.cell rfl)
  have c_b_2 : ∀ p : BW W2, p.w.cell? ⟨g_b, 2, none⟩ = some (.int .i64 u3) := bw_cell (k_b.cell rfl)
  have c_b_3 : ∀ p : BW W2, p.w.cell? ⟨g_b, 3, none⟩ = some (.int .i64 v1) := bw_cell (k_b.cell rfl)
  have c_b_4 : ∀ p : BW W2, p.w.cell? ⟨g_b, 4, none⟩ = some (.int .i64 v2) := bw_cell (k_b.cell rfl)
  have c_b_5 : ∀ p : BW W2, p.w.cell? ⟨g_b, 5, none⟩ = some (.int .i64 v3) := bw_cell (k_b.cell rfl)
  have c_b_6 : ∀ p : BW W2, p.w.cell? ⟨g_b, 6, none⟩ = some (.int .i64 m1) := bw_cell (k_b.cell rfl)
  have c_b_7 : ∀ p : BW W2, p.w.cell? ⟨g_b, 7, none⟩ = some (.int .i64 m2) := bw_cell (k_b.cell rfl)
  have c_b_8 : ∀ p : BW W2, p.w.cell? ⟨g_b, 8, none⟩ = some (.int .i64 m3) := bw_cell (k_b.cell rfl)
  have c_v_0 : ∀ p : BW W2, p.w.cell? ⟨g_v, 0, none⟩ = some (.int .i64 w1) := bw_cell (k_v.cell rfl)
  have c_v_1 : ∀ p : BW W2, p.w.cell? ⟨g_v, 1, none⟩ = some (.int .i64 w2) := bw_cell (k_v.cell rfl)
  have c_v_2 : ∀ p : BW W2, p.w.cell? ⟨g_v, 2, none⟩ = some (.int .i64 w3) := bw_cell (k_v.cell rfl)
  have c_d_0 : ∀ p : BW W2, p.w.cell? ⟨g_d, 0, none⟩ = some (.int .i64 d1) := bw_cell (k_d.cell rfl)
  have c_d_1 : ∀ p : BW W2, p.w.cell? ⟨g_d, 1, none⟩ = some (.int .i64 d2) := bw_cell (k_d.cell rfl)
  have c_d_2 : ∀ p : BW W2, p.w.cell? ⟨g_d, 2, none⟩ = some (.int .i64 d3) := bw_cell (k_d.cell rfl)
  have c_x_0 : ∀ p : BW W2, p.w.cell? ⟨g_x, 0, none⟩ = some (.int .i64 a1) := bw_cell (k_x.cell rfl)
  have c_x_1 : ∀ p : BW W2, p.w.cell? ⟨g_x, 1, none⟩ = some (.int .i64 a2) := bw_cell (k_x.cell rfl)
  have c_x_2 : ∀ p : BW W2, p.w.cell? ⟨g_x, 2, none⟩ = some (.int .i64 a3) := bw_cell (k_x.cell rfl)
  have c_x_3 : ∀ p : BW W2, p.w.cell? ⟨g_x, 3, none⟩ = some (.int .i64 a4) := bw_cell (k_x.cell rfl)
  have c_x_4 : ∀ p : BW W2, p.w.cell? ⟨g_x, 4, none⟩ = some (.int .i64 a5) := bw_cell (k_x.cell rfl)
  have c_x_5 : ∀ p : BW W2, p.w.cell? ⟨g_x, 5, none⟩ = some (.int .i64 a6) := bw_cell (k_x.cell rfl)
  have c_x_6 : ∀ p : BW W2, p.w.cell? ⟨g_x, 6, none⟩ = some (.int .i64 a7) := bw_cell (k_x.cell rfl)
  have c_x_7 : ∀ p : BW W2, p.w.cell? ⟨g_x, 7, none⟩ = some (.int .i64 a8) := bw_cell (k_x.cell rfl)
  have c_x_8 : ∀ p : BW W2, p.w.cell? ⟨g_x, 8, none⟩ = some (.int .i64 a9) := bw_cell (k_x.cell rfl)
  obtain ⟨p2, hp2⟩ : ∃ p : BW W2, p.w = W2 := ⟨BW.start W2, rfl⟩
  rw [← hp2]
  clear hp2
  go_upto_region 3 with (first
    | (go_at_call 7; (first | (with_reducible refine (bw_call O2.out _).mono ?_)); rintro e w' ⟨rfl, q, rfl⟩))
  obtain ⟨W3, hW3⟩ : ∃ W, W = q.w.alloc (.cells #[.int .i64 a1, .int .i64 a2, .int .i64 a3, .int .i64 a4, .int .i64 a5, .int .i64 a6, .int .i64 a7, .int .i64 a8, .int .i64 a9] 25) := ⟨_, rfl⟩
  have B3 : Below w.heap.size w W3 := by rw [hW3]; exact (bw_below B2 q).alloc (bw_below B2 q).size _
  have l_y : g_x < q.w.heap.size := (k_x.below q.h).lt
  have k_n := (k_n.below q.h).alloc (.cells #[.int .i64 a1, .int .i64 a2, .int .i64 a3, .int .i64 a4, .int .i64 a5, .int .i64 a6, .int .i64 a7, .int .i64 a8, .int .i64 a9] 25)
  rw [← hW3] at k_n
  have k_b := (k_b.below q.h).alloc (.cells #[.int .i64 a1, .int .i64 a2, .int .i64 a3, .int .i64 a4, .int .i64 a5, .int .i64 a6, .int .i64 a7, .int .i64 a8, .int .i64 a9] 25)
  rw [← hW3] at k_b
  have k_v := (k_v.below q.h).alloc (.cells #[.int .i64 a1, .int .i64 a2, .int .i64 a3, .int .i64 a4, .int .i64 a5, .int .i64 a6, .int .i64 a7, .int .i64 a8, .int .i64 a9] 25)
  rw [← hW3] at k_v
  have k_d := (k_d.below q.h).alloc (.cells #[.int .i64 a1, .int .i64 a2, .int .i64 a3, .int .i64 a4, .int .i64 a5, .int .i64 a6, .int .i64 a7, .int .i64 a8, .int .i64 a9] 25)
  rw [← hW3] at k_d
  have k_x := (k_x.below q.h).alloc (.cells #[.int .i64 a1, .int .i64 a2, .int .i64 a3, .int .i64 a4, .int .i64 a5, .int .i64 a6, .int .i64 a7, .int .i64 a8, .int .i64 a9] 25)
  rw [← hW3] at k_x
  have k_y : Bk W3 q.w.heap.size 25 #[.int .i64 a1, .int .i64 a2, .int .i64 a3, .int .i64 a4, .int .i64 a5, .int .i64 a6, .int .i64 a7, .int .i64 a8, .int .i64 a9] := by rw [hW3]; exact Bk.new _ _ _
  rw [← hW3]
  clear hW3
  clear B2
  clear c_n_0 c_n_1 c_n_2 c_b_0 c_b_1 c_b_2 c_b_3 c_b_4 c_b_5 c_b_6 c_b_7 c_b_8 c_v_0 c_v_1 c_v_2 c_d_0 c_d_1 c_d_2 c_x_0 c_x_1 c_x_2 c_x_3 c_x_4 c_x_5 c_x_6 c_x_7 c_x_8
  generalize q.w.heap.size = g_y at *
  have c_n_0 : ∀ p : BW W3, p.w.cell? ⟨w.heap.size, 0, none⟩ = some (.int .i64 x) := bw_cell (k_n.cell rfl)
  have c_n_1 : ∀ p : BW W3, p.w.cell? ⟨w.heap.size, 1, none⟩ = some (.int .i64 y) := bw_cell (k_n.cell rfl)
  have c_n_2 : ∀ p : BW W3, p.w.cell? ⟨w.heap.size, 2, none⟩ = some (.int .i64 z) := bw_cell (k_n.cell rfl)
  have c_b_0 : ∀ p : BW W3, p.w.cell? ⟨g_b, 0, none⟩ = some (.int .i64 u1) := bw_cell (k_b.cell rfl)
  have c_b_1 : ∀ p : BW W3, p.w.cell? ⟨g_b, 1, none⟩ = some (.int .i64 u2) := bw_cell (k_b.cell rfl)
  have c_b_2 : ∀ p : BW W3, p.w.cell? ⟨g_b, 2, none⟩ = some (.int .i64 u3) := bw_cell (k_b.cell rfl)
  have c_b_3 : ∀ p : BW W3, p.w.cell? ⟨g_b, 3, none⟩ = some (.int .i64 v1) := bw_cell (k_b.cell rfl)
  have c_b_4 : ∀ p : BW W3, p.w.cell? ⟨g_b, 4, none⟩ = some (.int .i64 v2) := bw_cell (k_b.cell rfl)
  have c_b_5 : ∀ p : BW W3, p.w.cell? ⟨g_b, 5, none⟩ = some (.int .i64 v3) := bw_cell (k_b.cell rfl)
  have c_b_6 : ∀ p : BW W3, p.w.cell? ⟨g_b, 6, none⟩ = some (.int .i64 m1) := bw_cell (k_b.cell rfl)
  have c_b_7 : ∀ p : BW W3, p.w.cell? ⟨g_b, 7, none⟩ = some (.int .i64 m2) := bw_cell (k_b.cell rfl)
  have c_b_8 : ∀ p : BW W3, p.w.cell? ⟨g_b, 8, none⟩ = some (.int .i64 m3) := bw_cell (k_b.cell rfl)
  have c_v_0 : ∀ p : BW W3, p.w.cell? ⟨g_v, 0, none⟩ = some (.int .i64 w1) := bw_cell (k_v.cell rfl)
  have c_v_1 : ∀ p : BW W3, p.w.cell? ⟨g_v, 1, none⟩ = some (.int .i64 w2) := bw_cell (k_v.cell rfl)
  have c_v_2 : ∀ p : BW W3, p.w.cell? ⟨g_v, 2, none⟩ = some (.int .i64 w3) := bw_cell (k_v.cell rfl)
  have c_d_0 : ∀ p : BW W3, p.w.cell? ⟨g_d, 0, none⟩ = some (.int .i64 d1) := bw_cell (k_d.cell rfl)
  have c_d_1 : ∀ p : BW W3, p.w.cell? ⟨g_d, 1, none⟩ = some (.int .i64 d2) := bw_cell (k_d.cell rfl)
  have c_d_2 : ∀ p : BW W3, p.w.cell? ⟨g_d, 2, none⟩ = some (.int .i64 d3) := bw_cell (k_d.cell rfl)
  have c_x_0 : ∀ p : BW W3, p.w.cell? ⟨g_x, 0, none⟩ = some (.int .i64 a1) := bw_cell (k_x.cell rfl)
  have c_x_1 : ∀ p : BW W3, p.w.cell? ⟨g_x, 1, none⟩ = some (.int .i64 a2) := bw_cell (k_x.cell rfl)
  have c_x_2 : ∀ p : BW W3, p.w.cell? ⟨g_x, 2, none⟩ = some (.int .i64 a3) := bw_cell (k_x.cell rfl)
  have c_x_3 : ∀ p : BW W3, p.w.cell? ⟨g_x, 3, none⟩ = some (.int .i64 a4) := bw_cell (k_x.cell rfl)
  have c_x_4 : ∀ p : BW W3, p.w.cell? ⟨g_x, 4, none⟩ = some (.int .i64 a5) := bw_cell (k_x.cell rfl)
  have c_x_5 : ∀ p : BW W3, p.w.cell? ⟨g_x, 5, none⟩ = some (.int .i64 a6) := bw_cell (k_x.cell rfl)
  have c_x_6 : ∀ p : BW W3, p.w.cell? ⟨g_x, 6, none⟩ = some (.int .i64 a7) := bw_cell (k_x.cell rfl)
  have c_x_7 : ∀ p : BW W3, p.w.cell? ⟨g_x, 7, none⟩ = some (.int .i64 a8) := bw_cell (k_x.cell rfl)
  have c_x_8 : ∀ p : BW W3, p.w.cell? ⟨g_x, 8, none⟩ = some (.int .i64 a9) := bw_cell (k_x.cell rfl)
  have c_y_0 : ∀ p : BW W3, p.w.cell? ⟨g_y, 0, none⟩ = some (.int .i64 a1) := bw_cell (k_y.cell rfl)
  have c_y_1 : ∀ p : BW W3, p.w.cell? ⟨g_y, 1, none⟩ = some (.int .i64 a2) := bw_cell (k_y.cell rfl)
  have c_y_2 : ∀ p : BW W3, p.w.cell? ⟨g_y, 2, none⟩ = some (.int .i64 a3) := bw_cell (k_y.cell rfl)
  have c_y_3 : ∀ p : BW W3, p.w.cell? ⟨g_y, 3, none⟩ = some (.int .i64 a4) := bw_cell (k_y.cell rfl)
  have c_y_4 : ∀ p : BW W3, p.w.cell? ⟨g_y, 4, none⟩ = some (.int .i64 a5) := bw_cell (k_y.cell rfl)
  have c_y_5 : ∀ p : BW W3, p.w.cell? ⟨g_y, 5, none⟩ = some (.int .i64 a6) := bw_cell (k_y.cell rfl)
  have c_y_6 : ∀ p : BW W3, p.w.cell? ⟨g_y, 6, none⟩ = some (.int .i64 a7) := bw_cell (k_y.cell rfl)
  have c_y_7 : ∀ p : BW W3, p.w.cell? ⟨g_y, 7, none⟩ = some (.int .i64 a8) := bw_cell (k_y.cell rfl)
  have c_y_8 : ∀ p : BW W3, p.w.cell? ⟨g_y, 8, none⟩ = some (.int .i64 a9) := bw_cell (k_y.cell rfl)
  obtain ⟨p3, hp3⟩ : ∃ p : BW W3, p.w = W3 := ⟨BW.start W3, rfl⟩
  rw [← hp3]
  clear hp3
  refine wp_region_bw (by kernel_rfl) (by kernel_rfl) ?_
  repeat (go_big_quiet_step (first
    | (go_at_call 8; (first | (with_reducible exact bw_call T1.out _) | (with_reducible exact bw_call T2.out _)))
    | (go_at_call 9; (first | (with_reducible exact bw_call P1.out _)))
    | (go_at_call 10; (first | (with_reducible exact bw_call P2.out _)))
    | (go_at_call 11; (first | (with_reducible exact bw_call Q1.out _)))
    | (go_at_call 12; (first | (with_reducible exact bw_call Q2.out _)))
    | (go_at_call 13; (first | (with_reducible exact bw_call M1.out _)))
    | (go_at_call 14; (first | (with_reducible exact bw_call M2.out _)))
    | (go_at_call 15; (first | (with_reducible exact bw_call F1.out _)))
    | (go_at_call 16; (first | (with_reducible exact bw_call F2.out _)))
    | (go_at_call 17; (first | (with_reducible exact bw_call HA.out _)))))
  refine wpQuiet_nil ?_
  intro _ hw'
  obtain ⟨q, rfl⟩ := hw'
  go_wp2
  go_ret
  exact ⟨rfl, bw_below B3 _⟩

end Go.Proofs.Ytijphipinjlmbaa
