/- Contracts of the document's own answers, layer 8: Then, Moved, Turned, Sized. -/
import Derived.Test.YtnoaljfdbfbhmaaRef08
namespace Go.Proofs.Ytnoaljfdbfbhmaa
open Go.RowKit Go.Proofs.Sky
set_option linter.unusedVariables false

set_option maxRecDepth 100000 in
set_option maxHeartbeats 4000000 in
theorem ref8_Then (x1 x2 x3 y1 y2 y3 z1 z2 z3 m1 m2 m3 a1 a2 a3 b1 b2 b3 c1 c2 c3 d1 d2 d3 : Int) (w : World) :
    Calls Try.prog 17 #[.agg #[.int .i64 x1, .int .i64 x2, .int .i64 x3, .int .i64 y1, .int .i64 y2, .int .i64 y3, .int .i64 z1, .int .i64 z2, .int .i64 z3, .int .i64 m1, .int .i64 m2, .int .i64 m3], .agg #[.int .i64 a1, .int .i64 a2, .int .i64 a3, .int .i64 b1, .int .i64 b2, .int .i64 b3, .int .i64 c1, .int .i64 c2, .int .i64 c3, .int .i64 d1, .int .i64 d2, .int .i64 d3]] w fun en w' => en = .returned (.agg (p12 (pThen ((x1, x2, x3), (y1, y2, y3), (z1, z2, z3), (m1, m2, m3)) ((a1, a2, a3), (b1, b2, b3), (c1, c2, c3), (d1, d2, d3))))) ∧ Below w.heap.size w w' := by
  have N1 := Lib.hid (fun w => ref8_Right x1 x2 x3 y1 y2 y3 z1 z2 z3 m1 m2 m3 w)
  have N2 := Lib.hid (fun w => ref8_Right a1 a2 a3 b1 b2 b3 c1 c2 c3 d1 d2 d3 w)
  have R0 := Lib.hid (fun w => ref8_rows a1 a2 a3 x1 x2 x3 y1 y2 y3 z1 z2 z3 m1 m2 m3 w)
  have R1 := Lib.hid (fun w => ref8_rows b1 b2 b3 x1 x2 x3 y1 y2 y3 z1 z2 z3 m1 m2 m3 w)
  have R2 := Lib.hid (fun w => ref8_rows c1 c2 c3 x1 x2 x3 y1 y2 y3 z1 z2 z3 m1 m2 m3 w)
  have Q := Lib.hid (fun w => ref8_Put a1 a2 a3 b1 b2 b3 c1 c2 c3 d1 d2 d3 m1 m2 m3 w)
  unfold pThen
  by_cases h : pRight ((x1, x2, x3), (y1, y2, y3), (z1, z2, z3), (m1, m2, m3)) = true ∧ pRight ((a1, a2, a3), (b1, b2, b3), (c1, c2, c3), (d1, d2, d3)) = true
  rotate_left
  · rw [if_neg h]
    have hc : (pRight ((x1, x2, x3), (y1, y2, y3), (z1, z2, z3), (m1, m2, m3)) = false) ∨ (pRight ((x1, x2, x3), (y1, y2, y3), (z1, z2, z3), (m1, m2, m3)) = true ∧ pRight ((a1, a2, a3), (b1, b2, b3), (c1, c2, c3), (d1, d2, d3)) = false) := by
      cases h1 : pRight ((x1, x2, x3), (y1, y2, y3), (z1, z2, z3), (m1, m2, m3)) <;> cases h2 : pRight ((a1, a2, a3), (b1, b2, b3), (c1, c2, c3), (d1, d2, d3)) <;> simp [h1, h2] at h ⊢
    clear h R0 R1 R2 Q
    generalize pRight ((x1, x2, x3), (y1, y2, y3), (z1, z2, z3), (m1, m2, m3)) = n1 at *
    generalize pRight ((a1, a2, a3), (b1, b2, b3), (c1, c2, c3), (d1, d2, d3)) = n2 at *
    unfold p12
    dsimp only
    go_enter Try.func17, Try.ntmps17
    go_upto_region 1 with (fail)
    obtain ⟨W1, hW1⟩ : ∃ W, W = ((w.alloc (.cells #[.int .i64 x1, .int .i64 x2, .int .i64 x3, .int .i64 y1, .int .i64 y2, .int .i64 y3, .int .i64 z1, .int .i64 z2, .int .i64 z3, .int .i64 m1, .int .i64 m2, .int .i64 m3] 25)).alloc (.cells #[.int .i64 a1, .int .i64 a2, .int .i64 a3, .int .i64 b1, .int .i64 b2, .int .i64 b3, .int .i64 c1, .int .i64 c2, .int .i64 c3, .int .i64 d1, .int .i64 d2, .int .i64 d3] 25)).alloc (.cells #[.int .i64 0, .int .i64 0, .int .i64 0, .int .i64 0, .int .i64 0, .int .i64 0, .int .i64 0, .int .i64 0, .int .i64 0, .int .i64 0, .int .i64 0, .int .i64 0] 25) := ⟨_, rfl⟩
    have B1 : Below w.heap.size w W1 := by rw [hW1]; go_grown
    have k_a : Bk W1 (w.heap.size) 25 #[.int .i64 x1, .int .i64 x2, .int .i64 x3, .int .i64 y1, .int .i64 y2, .int .i64 y3, .int .i64 z1, .int .i64 z2, .int .i64 z3, .int .i64 m1, .int .i64 m2, .int .i64 m3] := by rw [hW1]; exact ((Bk.new _ _ _).alloc _).alloc _
    have k_b : Bk W1 (w.heap.size + 1) 25 #[.int .i64 a1, .int .i64 a2, .int .i64 a3, .int .i64 b1, .int .i64 b2, .int .i64 b3, .int .i64 c1, .int .i64 c2, .int .i64 c3, .int .i64 d1, .int .i64 d2, .int .i64 d3] := by rw [hW1]; exact (Bk.new_at _ _ _ _ (by simp)).alloc _
    have k_r : Bk W1 (w.heap.size + 1 + 1) 25 #[.int .i64 0, .int .i64 0, .int .i64 0, .int .i64 0, .int .i64 0, .int .i64 0, .int .i64 0, .int .i64 0, .int .i64 0, .int .i64 0, .int .i64 0, .int .i64 0] := by rw [hW1]; exact Bk.new_at _ _ _ _ (by simp)
    rw [← hW1]
    clear hW1
    have l_b : w.heap.size < w.heap.size + 1 := by omega
    have l_r : w.heap.size + 1 < w.heap.size + 1 + 1 := by omega
    generalize w.heap.size + 1 + 1 = g_r at *
    generalize w.heap.size + 1 = g_b at *
    have c_a_0 : ∀ p : BW W1, p.w.cell? ⟨w.heap.size, 0, none⟩ = some (.int .i64 x1) := bw_cell (k_a.cell rfl)
    have c_a_1 : ∀ p : BW W1, p.w.cell? ⟨w.heap.size, 1, none⟩ = some (.int .i64 x2) := bw_cell (k_a.cell rfl)
    have c_a_2 : ∀ p : BW W1, p.w.cell? ⟨w.heap.size, 2, none⟩ = some (.int .i64 x3) := bw_cell (k_a.cell rfl)
    have c_a_3 : ∀ p : BW W1, p.w.cell? ⟨w.heap.size, 3, none⟩ = some (.int .i64 y1) := bw_cell (k_a.cell rfl)
    have c_a_4 : ∀ p : BW W1, p.w.cell? ⟨w.heap.size, 4, none⟩ = some (.int .i64 y2) := bw_cell (k_a.cell rfl)
    have c_a_5 : ∀ p : BW W1, p.w.cell? ⟨w.heap.size, 5, none⟩ = some (.int .i64 y3) := bw_cell (k_a.cell rfl)
    have c_a_6 : ∀ p : BW W1, p.w.cell? ⟨w.heap.size, 6, none⟩ = some (.int .i64 z1) := bw_cell (k_a.cell rfl)
    have c_a_7 : ∀ p : BW W1, p.w.cell? ⟨w.heap.size, 7, none⟩ = some (.int .i64 z2) := bw_cell (k_a.cell rfl)
    have c_a_8 : ∀ p : BW W1, p.w.cell? ⟨w.heap.size, 8, none⟩ = some (.int .i64 z3) := bw_cell (k_a.cell rfl)
    have c_a_9 : ∀ p : BW W1, p.w.cell? ⟨w.heap.size, 9, none⟩ = some (.int .i64 m1) := bw_cell (k_a.cell rfl)
    have c_a_10 : ∀ p : BW W1, p.w.cell? ⟨w.heap.size, 10, none⟩ = some (.int .i64 m2) := bw_cell (k_a.cell rfl)
    have c_a_11 : ∀ p : BW W1, p.w.cell? ⟨w.heap.size, 11, none⟩ = some (.int .i64 m3) := bw_cell (k_a.cell rfl)
    have c_b_0 : ∀ p : BW W1, p.w.cell? ⟨g_b, 0, none⟩ = some (.int .i64 a1) := bw_cell (k_b.cell rfl)
    have c_b_1 : ∀ p : BW W1, p.w.cell? ⟨g_b, 1, none⟩ = some (.int .i64 a2) := bw_cell (k_b.cell rfl)
    have c_b_2 : ∀ p : BW W1, p.w.cell? ⟨g_b, 2, none⟩ = some (.int .i64 a3) := bw_cell (k_b.cell rfl)
    have c_b_3 : ∀ p : BW W1, p.w.cell? ⟨g_b, 3, none⟩ = some (.int .i64 b1) := bw_cell (k_b.cell rfl)
    have c_b_4 : ∀ p : BW W1, p.w.cell? ⟨g_b, 4, none⟩ = some (.int .i64 b2) := bw_cell (k_b.cell rfl)
    have c_b_5 : ∀ p : BW W1, p.w.cell? ⟨g_b, 5, none⟩ = some (.int .i64 b3) := bw_cell (k_b.cell rfl)
    have c_b_6 : ∀ p : BW W1, p.w.cell? ⟨g_b, 6, none⟩ = some (.int .i64 c1) := bw_cell (k_b.cell rfl)
    have c_b_7 : ∀ p : BW W1, p.w.cell? ⟨g_b, 7, none⟩ = some (.int .i64 c2) := bw_cell (k_b.cell rfl)
    have c_b_8 : ∀ p : BW W1, p.w.cell? ⟨g_b, 8, none⟩ = some (.int .i64 c3) := bw_cell (k_b.cell rfl)
    have c_b_9 : ∀ p : BW W1, p.w.cell? ⟨g_b, 9, none⟩ = some (.int .i64 d1) := bw_cell (k_b.cell rfl)
    have c_b_10 : ∀ p : BW W1, p.w.cell? ⟨g_b, 10, none⟩ = some (.int .i64 d2) := bw_cell (k_b.cell rfl)
    have c_b_11 : ∀ p : BW W1, p.w.cell? ⟨g_b, 11, none⟩ = some (.int .i64 d3) := bw_cell (k_b.cell rfl)
    have c_r_0 : ∀ p : BW W1, p.w.cell? ⟨g_r, 0, none⟩ = some (.int .i64 0) := bw_cell (k_r.cell rfl)
    have f_r_0 : ∀ p : BW W1, p.w.frozen? ⟨g_r, 0, none⟩ = false := fun p => (k_r.below p.h).frozen 0
    have c_r_1 : ∀ p : BW W1, p.w.cell? ⟨g_r, 1, none⟩ = some (.int .i64 0) := bw_cell (k_r.cell rfl)
    have f_r_1 : ∀ p : BW W1, p.w.frozen? ⟨g_r, 1, none⟩ = false := fun p => (k_r.below p.h).frozen 1
    have c_r_2 : ∀ p : BW W1, p.w.cell? ⟨g_r, 2, none⟩ = some (.int .i64 0) := bw_cell (k_r.cell rfl)
    have f_r_2 : ∀ p : BW W1, p.w.frozen? ⟨g_r, 2, none⟩ = false := fun p => (k_r.below p.h).frozen 2
    have c_r_3 : ∀ p : BW W1, p.w.cell? ⟨g_r, 3, none⟩ = some (.int .i64 0) := bw_cell (k_r.cell rfl)
    have f_r_3 : ∀ p : BW W1, p.w.frozen? ⟨g_r, 3, none⟩ = false := fun p => (k_r.below p.h).frozen 3
    have c_r_4 : ∀ p : BW W1, p.w.cell? ⟨g_r, 4, none⟩ = some (.int .i64 0) := bw_cell (k_r.cell rfl)
    have f_r_4 : ∀ p : BW W1, p.w.frozen? ⟨g_r, 4, none⟩ = false := fun p => (k_r.below p.h).frozen 4
    have c_r_5 : ∀ p : BW W1, p.w.cell? ⟨g_r, 5, none⟩ = some (.int .i64 0) := bw_cell (k_r.cell rfl)
    have f_r_5 : ∀ p : BW W1, p.w.frozen? ⟨g_r, 5, none⟩ = false := fun p => (k_r.below p.h).frozen 5
    have c_r_6 : ∀ p : BW W1, p.w.cell? ⟨g_r, 6, none⟩ = some (.int .i64 0) := bw_cell (k_r.cell rfl)
    have f_r_6 : ∀ p : BW W1, p.w.frozen? ⟨g_r, 6, none⟩ = false := fun p => (k_r.below p.h).frozen 6
    have c_r_7 : ∀ p : BW W1, p.w.cell? ⟨g_r, 7, none⟩ = some (.int .i64 0) := bw_cell (k_r.cell rfl)
    have f_r_7 : ∀ p : BW W1, p.w.frozen? ⟨g_r, 7, none⟩ = false := fun p => (k_r.below p.h).frozen 7
    have c_r_8 : ∀ p : BW W1, p.w.cell? ⟨g_r, 8, none⟩ = some (.int .i64 0) := bw_cell (k_r.cell rfl)
    have f_r_8 : ∀ p : BW W1, p.w.frozen? ⟨g_r, 8, none⟩ = false := fun p => (k_r.below p.h).frozen 8
    have c_r_9 : ∀ p : BW W1, p.w.cell? ⟨g_r, 9, none⟩ = some (.int .i64 0) := bw_cell (k_r.cell rfl)
    have f_r_9 : ∀ p : BW W1, p.w.frozen? ⟨g_r, 9, none⟩ = false := fun p => (k_r.below p.h).frozen 9
    have c_r_10 : ∀ p : BW W1, p.w.cell? ⟨g_r, 10, none⟩ = some (.int .i64 0) := bw_cell (k_r.cell rfl)
    have f_r_10 : ∀ p : BW W1, p.w.frozen? ⟨g_r, 10, none⟩ = false := fun p => (k_r.below p.h).frozen 10
    have c_r_11 : ∀ p : BW W1, p.w.cell? ⟨g_r, 11, none⟩ = some (.int .i64 0) := bw_cell (k_r.cell rfl)
    have f_r_11 : ∀ p : BW W1, p.w.frozen? ⟨g_r, 11, none⟩ = false := fun p => (k_r.below p.h).frozen 11
    obtain ⟨p1, hp1⟩ : ∃ p : BW W1, p.w = W1 := ⟨BW.start W1, rfl⟩
    rw [← hp1]
    clear hp1
    rcases hc with rfl | ⟨rfl, rfl⟩
    · clear k_a k_b
      go_wp2_with (first
        | (go_at_call 9; (first | (with_reducible refine (bw_call N1.out _).mono ?_) | (with_reducible refine (bw_call N2.out _).mono ?_)); rintro e w' ⟨rfl, q, rfl⟩))
      have kr : Bk ((((((((((((q.w.setCell ⟨g_r, 0, none⟩ (.int .i64 0)).setCell ⟨g_r, 1, none⟩ (.int .i64 0)).setCell ⟨g_r, 2, none⟩ (.int .i64 0)).setCell ⟨g_r, 3, none⟩ (.int .i64 0)).setCell ⟨g_r, 4, none⟩ (.int .i64 0)).setCell ⟨g_r, 5, none⟩ (.int .i64 0)).setCell ⟨g_r, 6, none⟩ (.int .i64 0)).setCell ⟨g_r, 7, none⟩ (.int .i64 0)).setCell ⟨g_r, 8, none⟩ (.int .i64 0)).setCell ⟨g_r, 9, none⟩ (.int .i64 0)).setCell ⟨g_r, 10, none⟩ (.int .i64 0)).setCell ⟨g_r, 11, none⟩ (.int .i64 0)) (g_r) 25 #[.int .i64 0, .int .i64 0, .int .i64 0, .int .i64 0, .int .i64 0, .int .i64 0, .int .i64 0, .int .i64 0, .int .i64 0, .int .i64 0, .int .i64 0, .int .i64 0] := (((((((((((((k_r.below q.h).set 0 (.int .i64 0)).set 1 (.int .i64 0)).set 2 (.int .i64 0)).set 3 (.int .i64 0)).set 4 (.int .i64 0)).set 5 (.int .i64 0)).set 6 (.int .i64 0)).set 7 (.int .i64 0)).set 8 (.int .i64 0)).set 9 (.int .i64 0)).set 10 (.int .i64 0)).set 11 (.int .i64 0)).cast (by simp)
      have rc0 : World.cell? ((((((((((((q.w.setCell ⟨g_r, 0, none⟩ (.int .i64 0)).setCell ⟨g_r, 1, none⟩ (.int .i64 0)).setCell ⟨g_r, 2, none⟩ (.int .i64 0)).setCell ⟨g_r, 3, none⟩ (.int .i64 0)).setCell ⟨g_r, 4, none⟩ (.int .i64 0)).setCell ⟨g_r, 5, none⟩ (.int .i64 0)).setCell ⟨g_r, 6, none⟩ (.int .i64 0)).setCell ⟨g_r, 7, none⟩ (.int .i64 0)).setCell ⟨g_r, 8, none⟩ (.int .i64 0)).setCell ⟨g_r, 9, none⟩ (.int .i64 0)).setCell ⟨g_r, 10, none⟩ (.int .i64 0)).setCell ⟨g_r, 11, none⟩ (.int .i64 0)) ⟨g_r, 0, none⟩ = some (.int .i64 0) := kr.cell rfl
      have rc1 : World.cell? ((((((((((((q.w.setCell ⟨g_r, 0, none⟩ (.int .i64 0)).setCell ⟨g_r, 1, none⟩ (.int .i64 0)).setCell ⟨g_r, 2, none⟩ (.int .i64 0)).setCell ⟨g_r, 3, none⟩ (.int .i64 0)).setCell ⟨g_r, 4, none⟩ (.int .i64 0)).setCell ⟨g_r, 5, none⟩ (.int .i64 0)).setCell ⟨g_r, 6, none⟩ (.int .i64 0)).setCell ⟨g_r, 7, none⟩ (.int .i64 0)).setCell ⟨g_r, 8, none⟩ (.int .i64 0)).setCell ⟨g_r, 9, none⟩ (.int .i64 0)).setCell ⟨g_r, 10, none⟩ (.int .i64 0)).setCell ⟨g_r, 11, none⟩ (.int .i64 0)) ⟨g_r, 1, none⟩ = some (.int .i64 0) := kr.cell rfl
      have rc2 : World.cell? ((((((((((((q.w.setCell ⟨g_r, 0, none⟩ (.int .i64 0)).setCell ⟨g_r, 1, none⟩ (.int .i64 0)).setCell ⟨g_r, 2, none⟩ (.int .i64 0)).setCell ⟨g_r, 3, none⟩ (.int .i64 0)).setCell ⟨g_r, 4, none⟩ (.int .i64 0)).setCell ⟨g_r, 5, none⟩ (.int .i64 0)).setCell ⟨g_r, 6, none⟩ (.int .i64 0)).setCell ⟨g_r, 7, none⟩ (.int .i64 0)).setCell ⟨g_r, 8, none⟩ (.int .i64 0)).setCell ⟨g_r, 9, none⟩ (.int .i64 0)).setCell ⟨g_r, 10, none⟩ (.int .i64 0)).setCell ⟨g_r, 11, none⟩ (.int .i64 0)) ⟨g_r, 2, none⟩ = some (.int .i64 0) := kr.cell rfl
      have rc3 : World.cell? ((((((((((((q.w.setCell ⟨g_r, 0, none⟩ (.int .i64 0)).setCell ⟨g_r, 1, none⟩ (.int .i64 0)).setCell ⟨g_r, 2, none⟩ (.int .i64 0)).setCell ⟨g_r, 3, none⟩ (.int .i64 0)).setCell ⟨g_r, 4, none⟩ (.int .i64 0)).setCell ⟨g_r, 5, none⟩ (.int .i64 0)).setCell ⟨g_r, 6, none⟩ (.int .i64 0)).setCell ⟨g_r, 7, none⟩ (.int .i64 0)).setCell ⟨g_r, 8, none⟩ (.int .i64 0)).setCell ⟨g_r, 9, none⟩ (.int .i64 0)).setCell ⟨g_r, 10, none⟩ (.int .i64 0)).setCell ⟨g_r, 11, none⟩ (.int .i64 0)) ⟨g_r, 3, none⟩ = some (.int .i64 0) := kr.cell rfl
      have rc4 : World.cell? ((((((((((((q.w.setCell ⟨g_r, 0, none⟩ (.int .i64 0)).setCell ⟨g_r, 1, none⟩ (.int .i64 0)).setCell ⟨g_r, 2, none⟩ (.int .i64 0)).setCell ⟨g_r, 3, none⟩ (.int .i64 0)).setCell ⟨g_r, 4, none⟩ (.int .i64 0)).setCell ⟨g_r, 5, none⟩ (.int .i64 0)).setCell ⟨g_r, 6, none⟩ (.int .i64 0)).setCell ⟨g_r, 7, none⟩ (.int .i64 0)).setCell ⟨g_r, 8, none⟩ (.int .i64 0)).setCell ⟨g_r, 9, none⟩ (.int .i64 0)).setCell ⟨g_r, 10, none⟩ (.int .i64 0)).setCell ⟨g_r, 11, none⟩ (.int .i64 0)) ⟨g_r, 4, none⟩ = some (.int .i64 0) := kr.cell rfl
      have rc5 : World.cell? ((((((((((((q.w.setCell ⟨g_r, 0, none⟩ (.int .i64 0)).setCell ⟨g_r, 1, none⟩ (.int .i64 0)).setCell ⟨g_r, 2, none⟩ (.int .i64 0)).setCell ⟨g_r, 3, none⟩ (.int .i64 0)).setCell ⟨g_r, 4, none⟩ (.int .i64 0)).setCell ⟨g_r, 5, none⟩ (.int .i64 0)).setCell ⟨g_r, 6, none⟩ (.int .i64 0)).setCell ⟨g_r, 7, none⟩ (.int .i64 0)).setCell ⟨g_r, 8, none⟩ (.int .i64 0)).setCell ⟨g_r, 9, none⟩ (.int .i64 0)).setCell ⟨g_r, 10, none⟩ (.int .i64 0)).setCell ⟨g_r, 11, none⟩ (.int .i64 0)) ⟨g_r, 5, none⟩ = some (.int .i64 0) := kr.cell rfl
      have rc6 : World.cell? ((((((((((((q.w.setCell ⟨g_r, 0, none⟩ (.int .i64 0)).setCell ⟨g_r, 1, none⟩ (.int .i64 0)).setCell ⟨g_r, 2, none⟩ (.int .i64 0)).setCell ⟨g_r, 3, none⟩ (.int .i64 0)).setCell ⟨g_r, 4, none⟩ (.int .i64 0)).setCell ⟨g_r, 5, none⟩ (.int .i64 0)).setCell ⟨g_r, 6, none⟩ (.int .i64 0)).setCell ⟨g_r, 7, none⟩ (.int .i64 0)).setCell ⟨g_r, 8, none⟩ (.int .i64 0)).setCell ⟨g_r, 9, none⟩ (.int .i64 0)).setCell ⟨g_r, 10, none⟩ (.int .i64 0)).setCell ⟨g_r, 11, none⟩ (.int .i64 0)) ⟨g_r, 6, none⟩ = some (.int .i64 0) := kr.cell rfl
      have rc7 : World.cell? ((((((((((((q.w.setCell ⟨g_r, 0, none⟩ (.int .i64 0)).setCell ⟨g_r, 1, none⟩ (.int .i64 0)).setCell ⟨g_r, 2, none⟩ (.int .i64 0)).setCell ⟨g_r, 3, none⟩ (.int .i64 0)).setCell ⟨g_r, 4, none⟩ (.int .i64 0)).setCell ⟨g_r, 5, none⟩ (.int .i64 0)).setCell ⟨g_r, 6, none⟩ (.int .i64 0)).setCell ⟨g_r, 7, none⟩ (.int .i64 0)).setCell ⟨g_r, 8, none⟩ (.int .i64 0)).setCell ⟨g_r, 9, none⟩ (.int .i64 0)).setCell ⟨g_r, 10, none⟩ (.int .i64 0)).setCell ⟨g_r, 11, none⟩ (.int .i64 0)) ⟨g_r, 7, none⟩ = some (.int .i64 0) := kr.cell rfl
      have rc8 : World.cell? ((((((((((((q.w.setCell ⟨g_r, 0, none⟩ (.int .i64 0)).setCell ⟨g_r, 1, none⟩ (.int .i64 0)).setCell ⟨g_r, 2, none⟩ (.int .i64 0)).setCell ⟨g_r, 3, none⟩ (.int .i64 0)).setCell ⟨g_r, 4, none⟩ (.int .i64 0)).setCell ⟨g_r, 5, none⟩ (.int .i64 0)).setCell ⟨g_r, 6, none⟩ (.int .i64 0)).setCell ⟨g_r, 7, none⟩ (.int .i64 0)).setCell ⟨g_r, 8, none⟩ (.int .i64 0)).setCell ⟨g_r, 9, none⟩ (.int .i64 0)).setCell ⟨g_r, 10, none⟩ (.int .i64 0)).setCell ⟨g_r, 11, none⟩ (.int .i64 0)) ⟨g_r, 8, none⟩ = some (.int .i64 0) := kr.cell rfl
      have rc9 : World.cell? ((((((((((((q.w.setCell ⟨g_r, 0, none⟩ (.int .i64 0)).setCell ⟨g_r, 1, none⟩ (.int .i64 0)).setCell ⟨g_r, 2, none⟩ (.int .i64 0)).setCell ⟨g_r, 3, none⟩ (.int .i64 0)).setCell ⟨g_r, 4, none⟩ (.int .i64 0)).setCell ⟨g_r, 5, none⟩ (.int .i64 0)).setCell ⟨g_r, 6, none⟩ (.int .i64 0)).setCell ⟨g_r, 7, none⟩ (.int .i64 0)).setCell ⟨g_r, 8, none⟩ (.int .i64 0)).setCell ⟨g_r, 9, none⟩ (.int .i64 0)).setCell ⟨g_r, 10, none⟩ (.int .i64 0)).setCell ⟨g_r, 11, none⟩ (.int .i64 0)) ⟨g_r, 9, none⟩ = some (.int .i64 0) := kr.cell rfl
      have rc10 : World.cell? ((((((((((((q.w.setCell ⟨g_r, 0, none⟩ (.int .i64 0)).setCell ⟨g_r, 1, none⟩ (.int .i64 0)).setCell ⟨g_r, 2, none⟩ (.int .i64 0)).setCell ⟨g_r, 3, none⟩ (.int .i64 0)).setCell ⟨g_r, 4, none⟩ (.int .i64 0)).setCell ⟨g_r, 5, none⟩ (.int .i64 0)).setCell ⟨g_r, 6, none⟩ (.int .i64 0)).setCell ⟨g_r, 7, none⟩ (.int .i64 0)).setCell ⟨g_r, 8, none⟩ (.int .i64 0)).setCell ⟨g_r, 9, none⟩ (.int .i64 0)).setCell ⟨g_r, 10, none⟩ (.int .i64 0)).setCell ⟨g_r, 11, none⟩ (.int .i64 0)) ⟨g_r, 10, none⟩ = some (.int .i64 0) := kr.cell rfl
      have rc11 : World.cell? ((((((((((((q.w.setCell ⟨g_r, 0, none⟩ (.int .i64 0)).setCell ⟨g_r, 1, none⟩ (.int .i64 0)).setCell ⟨g_r, 2, none⟩ (.int .i64 0)).setCell ⟨g_r, 3, none⟩ (.int .i64 0)).setCell ⟨g_r, 4, none⟩ (.int .i64 0)).setCell ⟨g_r, 5, none⟩ (.int .i64 0)).setCell ⟨g_r, 6, none⟩ (.int .i64 0)).setCell ⟨g_r, 7, none⟩ (.int .i64 0)).setCell ⟨g_r, 8, none⟩ (.int .i64 0)).setCell ⟨g_r, 9, none⟩ (.int .i64 0)).setCell ⟨g_r, 10, none⟩ (.int .i64 0)).setCell ⟨g_r, 11, none⟩ (.int .i64 0)) ⟨g_r, 11, none⟩ = some (.int .i64 0) := kr.cell rfl
      exact bodyPost_ret (v := .agg #[.int .i64 0, .int .i64 0, .int .i64 0, .int .i64 0, .int .i64 0, .int .i64 0, .int .i64 0, .int .i64 0, .int .i64 0, .int .i64 0, .int .i64 0, .int .i64 0]) (by simp [results, Try.results17, go_sem, rc0, rc1, rc2, rc3, rc4, rc5, rc6, rc7, rc8, rc9, rc10, rc11]) rfl ⟨rfl, (((((((((((((bw_below B1 q).setCell (p := ⟨g_r, 0, none⟩) (by show w.heap.size ≤ g_r; omega) _).setCell (p := ⟨g_r, 1, none⟩) (by show w.heap.size ≤ g_r; omega) _).setCell (p := ⟨g_r, 2, none⟩) (by show w.heap.size ≤ g_r; omega) _).setCell (p := ⟨g_r, 3, none⟩) (by show w.heap.size ≤ g_r; omega) _).setCell (p := ⟨g_r, 4, none⟩) (by show w.heap.size ≤ g_r; omega) _).setCell (p := ⟨g_r, 5, none⟩) (by show w.heap.size ≤ g_r; omega) _).setCell (p := ⟨g_r, 6, none⟩) (by show w.heap.size ≤ g_r; omega) _).setCell (p := ⟨g_r, 7, none⟩) (by show w.heap.size ≤ g_r; omega) _).setCell (p := ⟨g_r, 8, none⟩) (by show w.heap.size ≤ g_r; omega) _).setCell (p := ⟨g_r, 9, none⟩) (by show w.heap.size ≤ g_r; omega) _).setCell (p := ⟨g_r, 10, none⟩) (by show w.heap.size ≤ g_r; omega) _).setCell (p := ⟨g_r, 11, none⟩) (by show w.heap.size ≤ g_r; omega) _)⟩
    · clear k_a k_b
      go_wp2_with (first
        | (go_at_call 9; (first | (with_reducible refine (bw_call N1.out _).mono ?_) | (with_reducible refine (bw_call N2.out _).mono ?_)); rintro e w' ⟨rfl, q, rfl⟩))
      have kr : Bk ((((((((((((q.w.setCell ⟨g_r, 0, none⟩ (.int .i64 0)).setCell ⟨g_r, 1, none⟩ (.int .i64 0)).setCell ⟨g_r, 2, none⟩ (.int .i64 0)).setCell ⟨g_r, 3, none⟩ (.int .i64 0)).setCell ⟨g_r, 4, none⟩ (.int .i64 0)).setCell ⟨g_r, 5, none⟩ (.int .i64 0)).setCell ⟨g_r, 6, none⟩ (.int .i64 0)).setCell ⟨g_r, 7, none⟩ (.int .i64 0)).setCell ⟨g_r, 8, none⟩ (.int .i64 0)).setCell ⟨g_r, 9, none⟩ (.int .i64 0)).setCell ⟨g_r, 10, none⟩ (.int .i64 0)).setCell ⟨g_r, 11, none⟩ (.int .i64 0)) (g_r) 25 #[.int .i64 0, .int .i64 0, .int .i64 0, .int .i64 0, .int .i64 0, .int .i64 0, .int .i64 0, .int .i64 0, .int .i64 0, .int .i64 0, .int .i64 0, .int .i64 0] := (((((((((((((k_r.below q.h).set 0 (.int .i64 0)).set 1 (.int .i64 0)).set 2 (.int .i64 0)).set 3 (.int .i64 0)).set 4 (.int .i64 0)).set 5 (.int .i64 0)).set 6 (.int .i64 0)).set 7 (.int .i64 0)).set 8 (.int .i64 0)).set 9 (.int .i64 0)).set 10 (.int .i64 0)).set 11 (.int .i64 0)).cast (by simp)
      have rc0 : World.cell? ((((((((((((q.w.setCell ⟨g_r, 0, none⟩ (.int .i64 0)).setCell ⟨g_r, 1, none⟩ (.int .i64 0)).setCell ⟨g_r, 2, none⟩ (.int .i64 0)).setCell ⟨g_r, 3, none⟩ (.int .i64 0)).setCell ⟨g_r, 4, none⟩ (.int .i64 0)).setCell ⟨g_r, 5, none⟩ (.int .i64 0)).setCell ⟨g_r, 6, none⟩ (.int .i64 0)).setCell ⟨g_r, 7, none⟩ (.int .i64 0)).setCell ⟨g_r, 8, none⟩ (.int .i64 0)).setCell ⟨g_r, 9, none⟩ (.int .i64 0)).setCell ⟨g_r, 10, none⟩ (.int .i64 0)).setCell ⟨g_r, 11, none⟩ (.int .i64 0)) ⟨g_r, 0, none⟩ = some (.int .i64 0) := kr.cell rfl
      have rc1 : World.cell? ((((((((((((q.w.setCell ⟨g_r, 0, none⟩ (.int .i64 0)).setCell ⟨g_r, 1, none⟩ (.int .i64 0)).setCell ⟨g_r, 2, none⟩ (.int .i64 0)).setCell ⟨g_r, 3, none⟩ (.int .i64 0)).setCell ⟨g_r, 4, none⟩ (.int .i64 0)).setCell ⟨g_r, 5, none⟩ (.int .i64 0)).setCell ⟨g_r, 6, none⟩ (.int .i64 0)).setCell ⟨g_r, 7, none⟩ (.int .i64 0)).setCell ⟨g_r, 8, none⟩ (.int .i64 0)).setCell ⟨g_r, 9, none⟩ (.int .i64 0)).setCell ⟨g_r, 10, none⟩ (.int .i64 0)).setCell ⟨g_r, 11, none⟩ (.int .i64 0)) ⟨g_r, 1, none⟩ = some (.int .i64 0) := kr.cell rfl
      have rc2 : World.cell? ((((((((((((q.w.setCell ⟨g_r, 0, none⟩ (.int .i64 0)).setCell ⟨g_r, 1, none⟩ (.int .i64 0)).setCell ⟨g_r, 2, none⟩ (.int .i64 0)).setCell ⟨g_r, 3, none⟩ (.int .i64 0)).setCell ⟨g_r, 4, none⟩ (.int .i64 0)).setCell ⟨g_r, 5, none⟩ (.int .i64 0)).setCell ⟨g_r, 6, none⟩ (.int .i64 0)).setCell ⟨g_r, 7, none⟩ (.int .i64 0)).setCell ⟨g_r, 8, none⟩ (.int .i64 0)).setCell ⟨g_r, 9, none⟩ (.int .i64 0)).setCell ⟨g_r, 10, none⟩ (.int .i64 0)).setCell ⟨g_r, 11, none⟩ (.int .i64 0)) ⟨g_r, 2, none⟩ = some (.int .i64 0) := kr.cell rfl
      have rc3 : World.cell? ((((((((((((q.w.setCell ⟨g_r, 0, none⟩ (.int .i64 0)).setCell ⟨g_r, 1, none⟩ (.int .i64 0)).setCell ⟨g_r, 2, none⟩ (.int .i64 0)).setCell ⟨g_r, 3, none⟩ (.int .i64 0)).setCell ⟨g_r, 4, none⟩ (.int .i64 0)).setCell ⟨g_r, 5, none⟩ (.int .i64 0)).setCell ⟨g_r, 6, none⟩ (.int .i64 0)).setCell ⟨g_r, 7, none⟩ (.int .i64 0)).setCell ⟨g_r, 8, none⟩ (.int .i64 0)).setCell ⟨g_r, 9, none⟩ (.int .i64 0)).setCell ⟨g_r, 10, none⟩ (.int .i64 0)).setCell ⟨g_r, 11, none⟩ (.int .i64 0)) ⟨g_r, 3, none⟩ = some (.int .i64 0) := kr.cell rfl
      have rc4 : World.cell? ((((((((((((q.w.setCell ⟨g_r, 0, none⟩ (.int .i64 0)).setCell ⟨g_r, 1, none⟩ (.int .i64 0)).setCell ⟨g_r, 2, none⟩ (.int .i64 0)).setCell ⟨g_r, 3, none⟩ (.int .i64 0)).setCell ⟨g_r, 4, none⟩ (.int .i64 0)).setCell ⟨g_r, 5, none⟩ (.int .i64 0)).setCell ⟨g_r, 6, none⟩ (.int .i64 0)).setCell ⟨g_r, 7, none⟩ (.int .i64 0)).setCell ⟨g_r, 8, none⟩ (.int .i64 0)).setCell ⟨g_r, 9, none⟩ (.int .i64 0)).setCell ⟨g_r, 10, none⟩ (.int .i64 0)).setCell ⟨g_r, 11, none⟩ (.int .i64 0)) ⟨g_r, 4, none⟩ = some (.int .i64 0) := kr.cell rfl
      have rc5 : World.cell? ((((((((((((q.w.setCell ⟨g_r, 0, none⟩ (.int .i64 0)).setCell ⟨g_r, 1, none⟩ (.int .i64 0)).setCell ⟨g_r, 2, none⟩ (.int .i64 0)).setCell ⟨g_r, 3, none⟩ (.int .i64 0)).setCell ⟨g_r, 4, none⟩ (.int .i64 0)).setCell ⟨g_r, 5, none⟩ (.int .i64 0)).setCell ⟨g_r, 6, none⟩ (.int .i64 0)).setCell ⟨g_r, 7, none⟩ (.int .i64 0)).setCell ⟨g_r, 8, none⟩ (.int .i64 0)).setCell ⟨g_r, 9, none⟩ (.int .i64 0)).setCell ⟨g_r, 10, none⟩ (.int .i64 0)).setCell ⟨g_r, 11, none⟩ (.int .i64 0)) ⟨g_r, 5, none⟩ = some (.int .i64 0) := kr.cell rfl
      have rc6 : World.cell? ((((((((((((q.w.setCell ⟨g_r, 0, none⟩ (.int .i64 0)).setCell ⟨g_r, 1, none⟩ (.int .i64 0)).setCell ⟨g_r, 2, none⟩ (.int .i64 0)).setCell ⟨g_r, 3, none⟩ (.int .i64 0)).setCell ⟨g_r, 4, none⟩ (.int .i64 0)).setCell ⟨g_r, 5, none⟩ (.int .i64 0)).setCell ⟨g_r, 6, none⟩ (.int .i64 0)).setCell ⟨g_r, 7, none⟩ (.int .i64 0)).setCell ⟨g_r, 8, none⟩ (.int .i64 0)).setCell ⟨g_r, 9, none⟩ (.int .i64 0)).setCell ⟨g_r, 10, none⟩ (.int .i64 0)).setCell ⟨g_r, 11, none⟩ (.int .i64 0)) ⟨g_r, 6, none⟩ = some (.int .i64 0) := kr.cell rfl
      have rc7 : World.cell? ((((((((((((q.w.setCell ⟨g_r, 0, none⟩ (.int .i64 0)).setCell ⟨g_r, 1, none⟩ (.int .i64 0)).setCell ⟨g_r, 2, none⟩ (.int .i64 0)).setCell ⟨g_r, 3, none⟩ (.int .i64 0)).setCell ⟨g_r, 4, none⟩ (.int .i64 0)).setCell ⟨g_r, 5, none⟩ (.int .i64 0)).setCell ⟨g_r, 6, none⟩ (.int .i64 0)).setCell ⟨g_r, 7, none⟩ (.int .i64 0)).setCell ⟨g_r, 8, none⟩ (.int .i64 0)).setCell ⟨g_r, 9, none⟩ (.int .i64 0)).setCell ⟨g_r, 10, none⟩ (.int .i64 0)).setCell ⟨g_r, 11, none⟩ (.int .i64 0)) ⟨g_r, 7, none⟩ = some (.int .i64 0) := kr.cell rfl
      have rc8 : World.cell? ((((((((((((q.w.setCell ⟨g_r, 0, none⟩ (.int .i64 0)).setCell ⟨g_r, 1, none⟩ (.int .i64 0)).setCell ⟨g_r, 2, none⟩ (.int .i64 0)).setCell ⟨g_r, 3, none⟩ (.int .i64 0)).setCell ⟨g_r, 4, none⟩ (.int .i64 0)).setCell ⟨g_r, 5, none⟩ (.int .i64 0)).setCell ⟨g_r, 6, none⟩ (.int .i64 0)).setCell ⟨g_r, 7, none⟩ (.int .i64 0)).setCell ⟨g_r, 8, none⟩ (.int .i64 0)).setCell ⟨g_r, 9, none⟩ (.int .i64 0)).setCell ⟨g_r, 10, none⟩ (.int .i64 0)).setCell ⟨g_r, 11, none⟩ (.int .i64 0)) ⟨g_r, 8, none⟩ = some (.int .i64 0) := kr.cell rfl
      have rc9 : World.cell? ((((((((((((q.w.setCell ⟨g_r, 0, none⟩ (.int .i64 0)).setCell ⟨g_r, 1, none⟩ (.int .i64 0)).setCell ⟨g_r, 2, none⟩ (.int .i64 0)).setCell ⟨g_r, 3, none⟩ (.int .i64 0)).setCell ⟨g_r, 4, none⟩ (.int .i64 0)).setCell ⟨g_r, 5, none⟩ (.int .i64 0)).setCell ⟨g_r, 6, none⟩ (.int .i64 0)).setCell ⟨g_r, 7, none⟩ (.int .i64 0)).setCell ⟨g_r, 8, none⟩ (.int .i64 0)).setCell ⟨g_r, 9, none⟩ (.int .i64 0)).setCell ⟨g_r, 10, none⟩ (.int .i64 0)).setCell ⟨g_r, 11, none⟩ (.int .i64 0)) ⟨g_r, 9, none⟩ = some (.int .i64 0) := kr.cell rfl
      have rc10 : World.cell? ((((((((((((q.w.setCell ⟨g_r, 0, none⟩ (.int .i64 0)).setCell ⟨g_r, 1, none⟩ (.int .i64 0)).setCell ⟨g_r, 2, none⟩ (.int .i64 0)).setCell ⟨g_r, 3, none⟩ (.int .i64 0)).setCell ⟨g_r, 4, none⟩ (.int .i64 0)).setCell ⟨g_r, 5, none⟩ (.int .i64 0)).setCell ⟨g_r, 6, none⟩ (.int .i64 0)).setCell ⟨g_r, 7, none⟩ (.int .i64 0)).setCell ⟨g_r, 8, none⟩ (.int .i64 0)).setCell ⟨g_r, 9, none⟩ (.int .i64 0)).setCell ⟨g_r, 10, none⟩ (.int .i64 0)).setCell ⟨g_r, 11, none⟩ (.int .i64 0)) ⟨g_r, 10, none⟩ = some (.int .i64 0) := kr.cell rfl
      have rc11 : World.cell? ((((((((((((q.w.setCell ⟨g_r, 0, none⟩ (.int .i64 0)).setCell ⟨g_r, 1, none⟩ (.int .i64 0)).setCell ⟨g_r, 2, none⟩ (.int .i64 0)).setCell ⟨g_r, 3, none⟩ (.int .i64 0)).setCell ⟨g_r, 4, none⟩ (.int .i64 0)).setCell ⟨g_r, 5, none⟩ (.int .i64 0)).setCell ⟨g_r, 6, none⟩ (.int .i64 0)).setCell ⟨g_r, 7, none⟩ (.int .i64 0)).setCell ⟨g_r, 8, none⟩ (.int .i64 0)).setCell ⟨g_r, 9, none⟩ (.int .i64 0)).setCell ⟨g_r, 10, none⟩ (.int .i64 0)).setCell ⟨g_r, 11, none⟩ (.int .i64 0)) ⟨g_r, 11, none⟩ = some (.int .i64 0) := kr.cell rfl
      exact bodyPost_ret (v := .agg #[.int .i64 0, .int .i64 0, .int .i64 0, .int .i64 0, .int .i64 0, .int .i64 0, .int .i64 0, .int .i64 0, .int .i64 0, .int .i64 0, .int .i64 0, .int .i64 0]) (by simp [results, Try.results17, go_sem, rc0, rc1, rc2, rc3, rc4, rc5, rc6, rc7, rc8, rc9, rc10, rc11]) rfl ⟨rfl, (((((((((((((bw_below B1 q).setCell (p := ⟨g_r, 0, none⟩) (by show w.heap.size ≤ g_r; omega) _).setCell (p := ⟨g_r, 1, none⟩) (by show w.heap.size ≤ g_r; omega) _).setCell (p := ⟨g_r, 2, none⟩) (by show w.heap.size ≤ g_r; omega) _).setCell (p := ⟨g_r, 3, none⟩) (by show w.heap.size ≤ g_r; omega) _).setCell (p := ⟨g_r, 4, none⟩) (by show w.heap.size ≤ g_r; omega) _).setCell (p := ⟨g_r, 5, none⟩) (by show w.heap.size ≤ g_r; omega) _).setCell (p := ⟨g_r, 6, none⟩) (by show w.heap.size ≤ g_r; omega) _).setCell (p := ⟨g_r, 7, none⟩) (by show w.heap.size ≤ g_r; omega) _).setCell (p := ⟨g_r, 8, none⟩) (by show w.heap.size ≤ g_r; omega) _).setCell (p := ⟨g_r, 9, none⟩) (by show w.heap.size ≤ g_r; omega) _).setCell (p := ⟨g_r, 10, none⟩) (by show w.heap.size ≤ g_r; omega) _).setCell (p := ⟨g_r, 11, none⟩) (by show w.heap.size ≤ g_r; omega) _)⟩
  · rw [if_pos h]
    rw [h.1] at N1
    rw [h.2] at N2
    clear h
    unfold p12
    dsimp only
    generalize pRows (a1, a2, a3) ((x1, x2, x3), (y1, y2, y3), (z1, z2, z3), (m1, m2, m3)) = r0 at *
    obtain ⟨r01, r02, r03⟩ := r0
    generalize pRows (b1, b2, b3) ((x1, x2, x3), (y1, y2, y3), (z1, z2, z3), (m1, m2, m3)) = r1 at *
    obtain ⟨r11, r12, r13⟩ := r1
    generalize pRows (c1, c2, c3) ((x1, x2, x3), (y1, y2, y3), (z1, z2, z3), (m1, m2, m3)) = r2 at *
    obtain ⟨r21, r22, r23⟩ := r2
    generalize pPut ((a1, a2, a3), (b1, b2, b3), (c1, c2, c3), (d1, d2, d3)) (m1, m2, m3) = r4 at *
    obtain ⟨r41, r42, r43⟩ := r4
    dsimp only at *
    go_enter Try.func17, Try.ntmps17
    go_upto_region 1 with (fail)
    obtain ⟨W1, hW1⟩ : ∃ W, W = ((w.alloc (.cells #[.int .i64 x1, .int .i64 x2, .int .i64 x3, .int .i64 y1, .int .i64 y2, .int .i64 y3, .int .i64 z1, .int .i64 z2, .int .i64 z3, .int .i64 m1, .int .i64 m2, .int .i64 m3] 25)).alloc (.cells #[.int .i64 a1, .int .i64 a2, .int .i64 a3, .int .i64 b1, .int .i64 b2, .int .i64 b3, .int .i64 c1, .int .i64 c2, .int .i64 c3, .int .i64 d1, .int .i64 d2, .int .i64 d3] 25)).alloc (.cells #[.int .i64 0, .int .i64 0, .int .i64 0, .int .i64 0, .int .i64 0, .int .i64 0, .int .i64 0, .int .i64 0, .int .i64 0, .int .i64 0, .int .i64 0, .int .i64 0] 25) := ⟨_, rfl⟩
    have B1 : Below w.heap.size w W1 := by rw [hW1]; go_grown
    have k_a : Bk W1 (w.heap.size) 25 #[.int .i64 x1, .int .i64 x2, .int .i64 x3, .int .i64 y1, .int .i64 y2, .int .i64 y3, .int .i64 z1, .int .i64 z2, .int .i64 z3, .int .i64 m1, .int .i64 m2, .int .i64 m3] := by rw [hW1]; exact ((Bk.new _ _ _).alloc _).alloc _
    have k_b : Bk W1 (w.heap.size + 1) 25 #[.int .i64 a1, .int .i64 a2, .int .i64 a3, .int .i64 b1, .int .i64 b2, .int .i64 b3, .int .i64 c1, .int .i64 c2, .int .i64 c3, .int .i64 d1, .int .i64 d2, .int .i64 d3] := by rw [hW1]; exact (Bk.new_at _ _ _ _ (by simp)).alloc _
    have k_r : Bk W1 (w.heap.size + 1 + 1) 25 #[.int .i64 0, .int .i64 0, .int .i64 0, .int .i64 0, .int .i64 0, .int .i64 0, .int .i64 0, .int .i64 0, .int .i64 0, .int .i64 0, .int .i64 0, .int .i64 0] := by rw [hW1]; exact Bk.new_at _ _ _ _ (by simp)
    rw [← hW1]
    clear hW1
    have l_b : w.heap.size < w.heap.size + 1 := by omega
    have l_r : w.heap.size + 1 < w.heap.size + 1 + 1 := by omega
    generalize w.heap.size + 1 + 1 = g_r at *
    generalize w.heap.size + 1 = g_b at *
    have c_a_0 : ∀ p : BW W1, p.w.cell? ⟨w.heap.size, 0, none⟩ = some (.int .i64 x1) := bw_cell (k_a.cell rfl)
    have c_a_1 : ∀ p : BW W1, p.w.cell? ⟨w.heap.size, 1, none⟩ = some (.int .i64 x2) := bw_cell (k_a.cell rfl)
    have c_a_2 : ∀ p : BW W1, p.w.cell? ⟨w.heap.size, 2, none⟩ = some (.int .i64 x3) := bw_cell (k_a.cell rfl)
    have c_a_3 : ∀ p : BW W1, p.w.cell? ⟨w.heap.size, 3, none⟩ = some (.int .i64 y1) := bw_cell (k_a.cell rfl)
    have c_a_4 : ∀ p : BW W1, p.w.cell? ⟨w.heap.size, 4, none⟩ = some (.int .i64 y2) := bw_cell (k_a.cell rfl)
    have c_a_5 : ∀ p : BW W1, p.w.cell? ⟨w.heap.size, 5, none⟩ = some (.int .i64 y3) := bw_cell (k_a.cell rfl)
    have c_a_6 : ∀ p : BW W1, p.w.cell? ⟨w.heap.size, 6, none⟩ = some (.int .i64 z1) := bw_cell (k_a.cell rfl)
    have c_a_7 : ∀ p : BW W1, p.w.cell? ⟨w.heap.size, 7, none⟩ = some (.int .i64 z2) := bw_cell (k_a.cell rfl)
    have c_a_8 : ∀ p : BW W1, p.w.cell? ⟨w.heap.size, 8, none⟩ = some (.int .i64 z3) := bw_cell (k_a.cell rfl)
    have c_a_9 : ∀ p : BW W1, p.w.cell? ⟨w.heap.size, 9, none⟩ = some (.int .i64 m1) := bw_cell (k_a.cell rfl)
    have c_a_10 : ∀ p : BW W1, p.w.cell? ⟨w.heap.size, 10, none⟩ = some (.int .i64 m2) := bw_cell (k_a.cell rfl)
    have c_a_11 : ∀ p : BW W1, p.w.cell? ⟨w.heap.size, 11, none⟩ = some (.int .i64 m3) := bw_cell (k_a.cell rfl)
    have c_b_0 : ∀ p : BW W1, p.w.cell? ⟨g_b, 0, none⟩ = some (.int .i64 a1) := bw_cell (k_b.cell rfl)
    have c_b_1 : ∀ p : BW W1, p.w.cell? ⟨g_b, 1, none⟩ = some (.int .i64 a2) := bw_cell (k_b.cell rfl)
    have c_b_2 : ∀ p : BW W1, p.w.cell? ⟨g_b, 2, none⟩ = some (.int .i64 a3) := bw_cell (k_b.cell rfl)
    have c_b_3 : ∀ p : BW W1, p.w.cell? ⟨g_b, 3, none⟩ = some (.int .i64 b1) := bw_cell (k_b.cell rfl)
    have c_b_4 : ∀ p : BW W1, p.w.cell? ⟨g_b, 4, none⟩ = some (.int .i64 b2) := bw_cell (k_b.cell rfl)
    have c_b_5 : ∀ p : BW W1, p.w.cell? ⟨g_b, 5, none⟩ = some (.int .i64 b3) := bw_cell (k_b.cell rfl)
    have c_b_6 : ∀ p : BW W1, p.w.cell? ⟨g_b, 6, none⟩ = some (.int .i64 c1) := bw_cell (k_b.cell rfl)
    have c_b_7 : ∀ p : BW W1, p.w.cell? ⟨g_b, 7, none⟩ = some (.int .i64 c2) := bw_cell (k_b.cell rfl)
    have c_b_8 : ∀ p : BW W1, p.w.cell? ⟨g_b, 8, none⟩ = some (.int .i64 c3) := bw_cell (k_b.cell rfl)
    have c_b_9 : ∀ p : BW W1, p.w.cell? ⟨g_b, 9, none⟩ = some (.int .i64 d1) := bw_cell (k_b.cell rfl)
    have c_b_10 : ∀ p : BW W1, p.w.cell? ⟨g_b, 10, none⟩ = some (.int .i64 d2) := bw_cell (k_b.cell rfl)
    have c_b_11 : ∀ p : BW W1, p.w.cell? ⟨g_b, 11, none⟩ = some (.int .i64 d3) := bw_cell (k_b.cell rfl)
    have c_r_0 : ∀ p : BW W1, p.w.cell? ⟨g_r, 0, none⟩ = some (.int .i64 0) := bw_cell (k_r.cell rfl)
    have f_r_0 : ∀ p : BW W1, p.w.frozen? ⟨g_r, 0, none⟩ = false := fun p => (k_r.below p.h).frozen 0
    have c_r_1 : ∀ p : BW W1, p.w.cell? ⟨g_r, 1, none⟩ = some (.int .i64 0) := bw_cell (k_r.cell rfl)
    have f_r_1 : ∀ p : BW W1, p.w.frozen? ⟨g_r, 1, none⟩ = false := fun p => (k_r.below p.h).frozen 1
    have c_r_2 : ∀ p : BW W1, p.w.cell? ⟨g_r, 2, none⟩ = some (.int .i64 0) := bw_cell (k_r.cell rfl)
    have f_r_2 : ∀ p : BW W1, p.w.frozen? ⟨g_r, 2, none⟩ = false := fun p => (k_r.below p.h).frozen 2
    have c_r_3 : ∀ p : BW W1, p.w.cell? ⟨g_r, 3, none⟩ = some (.int .i64 0) := bw_cell (k_r.cell rfl)
    have f_r_3 : ∀ p : BW W1, p.w.frozen? ⟨g_r, 3, none⟩ = false := fun p => (k_r.below p.h).frozen 3
    have c_r_4 : ∀ p : BW W1, p.w.cell? ⟨g_r, 4, none⟩ = some (.int .i64 0) := bw_cell (k_r.cell rfl)
    have f_r_4 : ∀ p : BW W1, p.w.frozen? ⟨g_r, 4, none⟩ = false := fun p => (k_r.below p.h).frozen 4
    have c_r_5 : ∀ p : BW W1, p.w.cell? ⟨g_r, 5, none⟩ = some (.int .i64 0) := bw_cell (k_r.cell rfl)
    have f_r_5 : ∀ p : BW W1, p.w.frozen? ⟨g_r, 5, none⟩ = false := fun p => (k_r.below p.h).frozen 5
    have c_r_6 : ∀ p : BW W1, p.w.cell? ⟨g_r, 6, none⟩ = some (.int .i64 0) := bw_cell (k_r.cell rfl)
    have f_r_6 : ∀ p : BW W1, p.w.frozen? ⟨g_r, 6, none⟩ = false := fun p => (k_r.below p.h).frozen 6
    have c_r_7 : ∀ p : BW W1, p.w.cell? ⟨g_r, 7, none⟩ = some (.int .i64 0) := bw_cell (k_r.cell rfl)
    have f_r_7 : ∀ p : BW W1, p.w.frozen? ⟨g_r, 7, none⟩ = false := fun p => (k_r.below p.h).frozen 7
    have c_r_8 : ∀ p : BW W1, p.w.cell? ⟨g_r, 8, none⟩ = some (.int .i64 0) := bw_cell (k_r.cell rfl)
    have f_r_8 : ∀ p : BW W1, p.w.frozen? ⟨g_r, 8, none⟩ = false := fun p => (k_r.below p.h).frozen 8
    have c_r_9 : ∀ p : BW W1, p.w.cell? ⟨g_r, 9, none⟩ = some (.int .i64 0) := bw_cell (k_r.cell rfl)
    have f_r_9 : ∀ p : BW W1, p.w.frozen? ⟨g_r, 9, none⟩ = false := fun p => (k_r.below p.h).frozen 9
    have c_r_10 : ∀ p : BW W1, p.w.cell? ⟨g_r, 10, none⟩ = some (.int .i64 0) := bw_cell (k_r.cell rfl)
    have f_r_10 : ∀ p : BW W1, p.w.frozen? ⟨g_r, 10, none⟩ = false := fun p => (k_r.below p.h).frozen 10
    have c_r_11 : ∀ p : BW W1, p.w.cell? ⟨g_r, 11, none⟩ = some (.int .i64 0) := bw_cell (k_r.cell rfl)
    have f_r_11 : ∀ p : BW W1, p.w.frozen? ⟨g_r, 11, none⟩ = false := fun p => (k_r.below p.h).frozen 11
    obtain ⟨p1, hp1⟩ : ∃ p : BW W1, p.w = W1 := ⟨BW.start W1, rfl⟩
    rw [← hp1]
    clear hp1
    go_upto_region 3 with (first
      | (go_at_call 9; (first | (with_reducible refine (bw_call N1.out _).mono ?_) | (with_reducible refine (bw_call N2.out _).mono ?_)); rintro e w' ⟨rfl, q, rfl⟩))
    refine wp_region_bw_tail 16 (by kernel_rfl) (by kernel_rfl) (by kernel_rfl) ?_
    simp only [List.take_succ_cons, List.take_zero, List.drop_succ_cons, List.drop_zero]
    repeat (go_big_quiet_step (first
      | (go_at_call 39; (first | (with_reducible exact bw_call R0.out _) | (with_reducible exact bw_call R1.out _) | (with_reducible exact bw_call R2.out _)))
      | (go_at_call 19; (first | (with_reducible exact bw_call Q.out _)))))
    refine wpQuiet_nil ?_
    intro _ hw'
    obtain ⟨q, rfl⟩ := hw'
    go_wp2
    have kr : Bk ((((((((((((q.w.setCell ⟨g_r, 0, none⟩ (.int .i64 r01)).setCell ⟨g_r, 1, none⟩ (.int .i64 r02)).setCell ⟨g_r, 2, none⟩ (.int .i64 r03)).setCell ⟨g_r, 3, none⟩ (.int .i64 r11)).setCell ⟨g_r, 4, none⟩ (.int .i64 r12)).setCell ⟨g_r, 5, none⟩ (.int .i64 r13)).setCell ⟨g_r, 6, none⟩ (.int .i64 r21)).setCell ⟨g_r, 7, none⟩ (.int .i64 r22)).setCell ⟨g_r, 8, none⟩ (.int .i64 r23)).setCell ⟨g_r, 9, none⟩ (.int .i64 r41)).setCell ⟨g_r, 10, none⟩ (.int .i64 r42)).setCell ⟨g_r, 11, none⟩ (.int .i64 r43)) (g_r) 25 #[.int .i64 r01, .int .i64 r02, .int .i64 r03, .int .i64 r11, .int .i64 r12, .int .i64 r13, .int .i64 r21, .int .i64 r22, .int .i64 r23, .int .i64 r41, .int .i64 r42, .int .i64 r43] := (((((((((((((k_r.below q.h).set 0 (.int .i64 r01)).set 1 (.int .i64 r02)).set 2 (.int .i64 r03)).set 3 (.int .i64 r11)).set 4 (.int .i64 r12)).set 5 (.int .i64 r13)).set 6 (.int .i64 r21)).set 7 (.int .i64 r22)).set 8 (.int .i64 r23)).set 9 (.int .i64 r41)).set 10 (.int .i64 r42)).set 11 (.int .i64 r43)).cast (by simp)
    have rc0 : World.cell? ((((((((((((q.w.setCell ⟨g_r, 0, none⟩ (.int .i64 r01)).setCell ⟨g_r, 1, none⟩ (.int .i64 r02)).setCell ⟨g_r, 2, none⟩ (.int .i64 r03)).setCell ⟨g_r, 3, none⟩ (.int .i64 r11)).setCell ⟨g_r, 4, none⟩ (.int .i64 r12)).setCell ⟨g_r, 5, none⟩ (.int .i64 r13)).setCell ⟨g_r, 6, none⟩ (.int .i64 r21)).setCell ⟨g_r, 7, none⟩ (.int .i64 r22)).setCell ⟨g_r, 8, none⟩ (.int .i64 r23)).setCell ⟨g_r, 9, none⟩ (.int .i64 r41)).setCell ⟨g_r, 10, none⟩ (.int .i64 r42)).setCell ⟨g_r, 11, none⟩ (.int .i64 r43)) ⟨g_r, 0, none⟩ = some (.int .i64 r01) := kr.cell rfl
    have rc1 : World.cell? ((((((((((((q.w.setCell ⟨g_r, 0, none⟩ (.int .i64 r01)).setCell ⟨g_r, 1, none⟩ (.int .i64 r02)).setCell ⟨g_r, 2, none⟩ (.int .i64 r03)).setCell ⟨g_r, 3, none⟩ (.int .i64 r11)).setCell ⟨g_r, 4, none⟩ (.int .i64 r12)).setCell ⟨g_r, 5, none⟩ (.int .i64 r13)).setCell ⟨g_r, 6, none⟩ (.int .i64 r21)).setCell ⟨g_r, 7, none⟩ (.int .i64 r22)).setCell ⟨g_r, 8, none⟩ (.int .i64 r23)).setCell ⟨g_r, 9, none⟩ (.int .i64 r41)).setCell ⟨g_r, 10, none⟩ (.int .i64 r42)).setCell ⟨g_r, 11, none⟩ (.int .i64 r43)) ⟨g_r, 1, none⟩ = some (.int .i64 r02) := kr.cell rfl
    have rc2 : World.cell? ((((((((((((q.w.setCell ⟨g_r, 0, none⟩ (.int .i64 r01)).setCell ⟨g_r, 1, none⟩ (.int .i64 r02)).setCell ⟨g_r, 2, none⟩ (.int .i64 r03)).setCell ⟨g_r, 3, none⟩ (.int .i64 r11)).setCell ⟨g_r, 4, none⟩ (.int .i64 r12)).setCell ⟨g_r, 5, none⟩ (.int .i64 r13)).setCell ⟨g_r, 6, none⟩ (.int .i64 r21)).setCell ⟨g_r, 7, none⟩ (.int .i64 r22)).setCell ⟨g_r, 8, none⟩ (.int .i64 r23)).setCell ⟨g_r, 9, none⟩ (.int .i64 r41)).setCell ⟨g_r, 10, none⟩ (.int .i64 r42)).setCell ⟨g_r, 11, none⟩ (.int .i64 r43)) ⟨g_r, 2, none⟩ = some (.int .i64 r03) := kr.cell rfl
    have rc3 : World.cell? ((((((((((((q.w.setCell ⟨g_r, 0, none⟩ (.int .i64 r01)).setCell ⟨g_r, 1, none⟩ (.int .i64 r02)).setCell ⟨g_r, 2, none⟩ (.int .i64 r03)).setCell ⟨g_r, 3, none⟩ (.int .i64 r11)).setCell ⟨g_r, 4, none⟩ (.int .i64 r12)).setCell ⟨g_r, 5, none⟩ (.int .i64 r13)).setCell ⟨g_r, 6, none⟩ (.int .i64 r21)).setCell ⟨g_r, 7, none⟩ (.int .i64 r22)).setCell ⟨g_r, 8, none⟩ (.int .i64 r23)).setCell ⟨g_r, 9, none⟩ (.int .i64 r41)).setCell ⟨g_r, 10, none⟩ (.int .i64 r42)).setCell ⟨g_r, 11, none⟩ (.int .i64 r43)) ⟨g_r, 3, none⟩ = some (.int .i64 r11) := kr.cell rfl
    have rc4 : World.cell? ((((((((((((q.w.setCell ⟨g_r, 0, none⟩ (.int .i64 r01)).setCell ⟨g_r, 1, none⟩ (.int .i64 r02)).setCell ⟨g_r, 2, none⟩ (.int .i64 r03)).setCell ⟨g_r, 3, none⟩ (.int .i64 r11)).setCell ⟨g_r, 4, none⟩ (.int .i64 r12)).setCell ⟨g_r, 5, none⟩ (.int .i64 r13)).setCell ⟨g_r, 6, none⟩ (.int .i64 r21)).setCell ⟨g_r, 7, none⟩ (.int .i64 r22)).setCell ⟨g_r, 8, none⟩ (.int .i64 r23)).setCell ⟨g_r, 9, none⟩ (.int .i64 r41)).setCell ⟨g_r, 10, none⟩ (.int .i64 r42)).setCell ⟨g_r, 11, none⟩ (.int .i64 r43)) ⟨g_r, 4, none⟩ = some (.int .i64 r12) := kr.cell rfl
    have rc5 : World.cell? ((((((((((((q.w.setCell ⟨g_r, 0, none⟩ (.int .i64 r01)).setCell ⟨g_r, 1, none⟩ (.int .i64 r02)).setCell ⟨g_r, 2, none⟩ (.int .i64 r03)).setCell ⟨g_r, 3, none⟩ (.int .i64 r11)).setCell ⟨g_r, 4, none⟩ (.int .i64 r12)).setCell ⟨g_r, 5, none⟩ (.int .i64 r13)).setCell ⟨g_r, 6, none⟩ (.int .i64 r21)).setCell ⟨g_r, 7, none⟩ (.int .i64 r22)).setCell ⟨g_r, 8, none⟩ (.int .i64 r23)).setCell ⟨g_r, 9, none⟩ (.int .i64 r41)).setCell ⟨g_r, 10, none⟩ (.int .i64 r42)).setCell ⟨g_r, 11, none⟩ (.int .i64 r43)) ⟨g_r, 5, none⟩ = some (.int .i64 r13) := kr.cell rfl
    have rc6 : World.cell? ((((((((((((q.w.setCell ⟨g_r, 0, none⟩ (.int .i64 r01)).setCell ⟨g_r, 1, none⟩ (.int .i64 r02)).setCell ⟨g_r, 2, none⟩ (.int .i64 r03)).setCell ⟨g_r, 3, none⟩ (.int .i64 r11)).setCell ⟨g_r, 4, none⟩ (.int .i64 r12)).setCell ⟨g_r, 5, none⟩ (.int .i64 r13)).setCell ⟨g_r, 6, none⟩ (.int .i64 r21)).setCell ⟨g_r, 7, none⟩ (.int .i64 r22)).setCell ⟨g_r, 8, none⟩ (.int .i64 r23)).setCell ⟨g_r, 9, none⟩ (.int .i64 r41)).setCell ⟨g_r, 10, none⟩ (.int .i64 r42)).setCell ⟨g_r, 11, none⟩ (.int .i64 r43)) ⟨g_r, 6, none⟩ = some (.int .i64 r21) := kr.cell rfl
    have rc7 : World.cell? ((((((((((((q.w.setCell ⟨g_r, 0, none⟩ (.int .i64 r01)).setCell ⟨g_r, 1, none⟩ (.int .i64 r02)).setCell ⟨g_r, 2, none⟩ (.int .i64 r03)).setCell ⟨g_r, 3, none⟩ (.int .i64 r11)).setCell ⟨g_r, 4, none⟩ (.int .i64 r12)).setCell ⟨g_r, 5, none⟩ (.int .i64 r13)).setCell ⟨g_r, 6, none⟩ (.int .i64 r21)).setCell ⟨g_r, 7, none⟩ (.int .i64 r22)).setCell ⟨g_r, 8, none⟩ (.int .i64 r23)).setCell ⟨g_r, 9, none⟩ (.int .i64 r41)).setCell ⟨g_r, 10, none⟩ (.int .i64 r42)).setCell ⟨g_r, 11, none⟩ (.int .i64 r43)) ⟨g_r, 7, none⟩ = some (.int .i64 r22) := kr.cell rfl
    have rc8 : World.cell? ((((((((((((q.w.setCell ⟨g_r, 0, none⟩ (.int .i64 r01)).setCell ⟨g_r, 1, none⟩ (.int .i64 r02)).setCell ⟨g_r, 2, none⟩ (.int .i64 r03)).setCell ⟨g_r, 3, none⟩ (.int .i64 r11)).setCell ⟨g_r, 4, none⟩ (.int .i64 r12)).setCell ⟨g_r, 5, none⟩ (.int .i64 r13)).setCell ⟨g_r, 6, none⟩ (.int .i64 r21)).setCell ⟨g_r, 7, none⟩ (.int .i64 r22)).setCell ⟨g_r, 8, none⟩ (.int .i64 r23)).setCell ⟨g_r, 9, none⟩ (.int .i64 r41)).setCell ⟨g_r, 10, none⟩ (.int .i64 r42)).setCell ⟨g_r, 11, none⟩ (.int .i64 r43)) ⟨g_r, 8, none⟩ = some (.int .i64 r23) := kr.cell rfl
    have rc9 : World.cell? ((((((((((((q.w.setCell ⟨g_r, 0, none⟩ (.int .i64 r01)).setCell ⟨g_r, 1, none⟩ (.int .i64 r02)).setCell ⟨g_r, 2, none⟩ (.int .i64 r03)).setCell ⟨g_r, 3, none⟩ (.int .i64 r11)).setCell ⟨g_r, 4, none⟩ (.int .i64 r12)).setCell ⟨g_r, 5, none⟩ (.int .i64 r13)).setCell ⟨g_r, 6, none⟩ (.int .i64 r21)).setCell ⟨g_r, 7, none⟩ (.int .i64 r22)).setCell ⟨g_r, 8, none⟩ (.int .i64 r23)).setCell ⟨g_r, 9, none⟩ (.int .i64 r41)).setCell ⟨g_r, 10, none⟩ (.int .i64 r42)).setCell ⟨g_r, 11, none⟩ (.int .i64 r43)) ⟨g_r, 9, none⟩ = some (.int .i64 r41) := kr.cell rfl
    have rc10 : World.cell? ((((((((((((q.w.setCell ⟨g_r, 0, none⟩ (.int .i64 r01)).setCell ⟨g_r, 1, none⟩ (.int .i64 r02)).setCell ⟨g_r, 2, none⟩ (.int .i64 r03)).setCell ⟨g_r, 3, none⟩ (.int .i64 r11)).setCell ⟨g_r, 4, none⟩ (.int .i64 r12)).setCell ⟨g_r, 5, none⟩ (.int .i64 r13)).setCell ⟨g_r, 6, none⟩ (.int .i64 r21)).setCell ⟨g_r, 7, none⟩ (.int .i64 r22)).setCell ⟨g_r, 8, none⟩ (.int .i64 r23)).setCell ⟨g_r, 9, none⟩ (.int .i64 r41)).setCell ⟨g_r, 10, none⟩ (.int .i64 r42)).setCell ⟨g_r, 11, none⟩ (.int .i64 r43)) ⟨g_r, 10, none⟩ = some (.int .i64 r42) := kr.cell rfl
    have rc11 : World.cell? ((((((((((((q.w.setCell ⟨g_r, 0, none⟩ (.int .i64 r01)).setCell ⟨g_r, 1, none⟩ (.int .i64 r02)).setCell ⟨g_r, 2, none⟩ (.int .i64 r03)).setCell ⟨g_r, 3, none⟩ (.int .i64 r11)).setCell ⟨g_r, 4, none⟩ (.int .i64 r12)).setCell ⟨g_r, 5, none⟩ (.int .i64 r13)).setCell ⟨g_r, 6, none⟩ (.int .i64 r21)).setCell ⟨g_r, 7, none⟩ (.int .i64 r22)).setCell ⟨g_r, 8, none⟩ (.int .i64 r23)).setCell ⟨g_r, 9, none⟩ (.int .i64 r41)).setCell ⟨g_r, 10, none⟩ (.int .i64 r42)).setCell ⟨g_r, 11, none⟩ (.int .i64 r43)) ⟨g_r, 11, none⟩ = some (.int .i64 r43) := kr.cell rfl
    exact bodyPost_ret (v := .agg #[.int .i64 r01, .int .i64 r02, .int .i64 r03, .int .i64 r11, .int .i64 r12, .int .i64 r13, .int .i64 r21, .int .i64 r22, .int .i64 r23, .int .i64 r41, .int .i64 r42, .int .i64 r43]) (by simp [results, Try.results17, go_sem, rc0, rc1, rc2, rc3, rc4, rc5, rc6, rc7, rc8, rc9, rc10, rc11]) rfl ⟨rfl, (((((((((((((bw_below B1 q).setCell (p := ⟨g_r, 0, none⟩) (by show w.heap.size ≤ g_r; omega) _).setCell (p := ⟨g_r, 1, none⟩) (by show w.heap.size ≤ g_r; omega) _).setCell (p := ⟨g_r, 2, none⟩) (by show w.heap.size ≤ g_r; omega) _).setCell (p := ⟨g_r, 3, none⟩) (by show w.heap.size ≤ g_r; omega) _).setCell (p := ⟨g_r, 4, none⟩) (by show w.heap.size ≤ g_r; omega) _).setCell (p := ⟨g_r, 5, none⟩) (by show w.heap.size ≤ g_r; omega) _).setCell (p := ⟨g_r, 6, none⟩) (by show w.heap.size ≤ g_r; omega) _).setCell (p := ⟨g_r, 7, none⟩) (by show w.heap.size ≤ g_r; omega) _).setCell (p := ⟨g_r, 8, none⟩) (by show w.heap.size ≤ g_r; omega) _).setCell (p := ⟨g_r, 9, none⟩) (by show w.heap.size ≤ g_r; omega) _).setCell (p := ⟨g_r, 10, none⟩) (by show w.heap.size ≤ g_r; omega) _).setCell (p := ⟨g_r, 11, none⟩) (by show w.heap.size ≤ g_r; omega) _)⟩

set_option maxRecDepth 100000 in
set_option maxHeartbeats 4000000 in
theorem ref8_Moved (a b c : Int) (w : World) :
    Calls Try.prog 22 #[.agg #[.int .i64 a, .int .i64 b, .int .i64 c]] w fun en w' => en = .returned (.agg (p12 (pMoved (a, b, c)))) ∧ Below w.heap.size w w' := by
  have K := Lib.hid (fun w => ref8_None w)
  have N := Lib.hid (fun w => ref6_Near a b c w)
  unfold pMoved
  have en : nrT (a, b, c) = vnear a b c := rfl
  rw [en]
  clear en
  generalize vnear a b c = n at *
  cases n
  · rw [if_neg (by decide)]
    unfold p12 pNone
    dsimp only
    go_enter Try.func22, Try.ntmps22
    go_upto_region 1 with (fail)
    obtain ⟨W1, hW1⟩ : ∃ W, W = (w.alloc (.cells #[.int .i64 a, .int .i64 b, .int .i64 c] 23)).alloc (.cells #[.int .i64 0, .int .i64 0, .int .i64 0, .int .i64 0, .int .i64 0, .int .i64 0, .int .i64 0, .int .i64 0, .int .i64 0, .int .i64 0, .int .i64 0, .int .i64 0] 25) := ⟨_, rfl⟩
    have B1 : Below w.heap.size w W1 := by rw [hW1]; go_grown
    have k_v : Bk W1 (w.heap.size) 23 #[.int .i64 a, .int .i64 b, .int .i64 c] := by rw [hW1]; exact (Bk.new _ _ _).alloc _
    have k_r : Bk W1 (w.heap.size + 1) 25 #[.int .i64 0, .int .i64 0, .int .i64 0, .int .i64 0, .int .i64 0, .int .i64 0, .int .i64 0, .int .i64 0, .int .i64 0, .int .i64 0, .int .i64 0, .int .i64 0] := by rw [hW1]; exact Bk.new_at _ _ _ _ (by simp)
    rw [← hW1]
    clear hW1
    have l_r : w.heap.size < w.heap.size + 1 := by omega
    generalize w.heap.size + 1 = g_r at *
    have c_v_0 : ∀ p : BW W1, p.w.cell? ⟨w.heap.size, 0, none⟩ = some (.int .i64 a) := bw_cell (k_v.cell rfl)
    have c_v_1 : ∀ p : BW W1, p.w.cell? ⟨w.heap.size, 1, none⟩ = some (.int .i64 b) := bw_cell (k_v.cell rfl)
    have c_v_2 : ∀ p : BW W1, p.w.cell? ⟨w.heap.size, 2, none⟩ = some (.int .i64 c) := bw_cell (k_v.cell rfl)
    have c_r_0 : ∀ p : BW W1, p.w.cell? ⟨g_r, 0, none⟩ = some (.int .i64 0) := bw_cell (k_r.cell rfl)
    have c_r_1 : ∀ p : BW W1, p.w.cell? ⟨g_r, 1, none⟩ = some (.int .i64 0) := bw_cell (k_r.cell rfl)
    have c_r_2 : ∀ p : BW W1, p.w.cell? ⟨g_r, 2, none⟩ = some (.int .i64 0) := bw_cell (k_r.cell rfl)
    have c_r_3 : ∀ p : BW W1, p.w.cell? ⟨g_r, 3, none⟩ = some (.int .i64 0) := bw_cell (k_r.cell rfl)
    have c_r_4 : ∀ p : BW W1, p.w.cell? ⟨g_r, 4, none⟩ = some (.int .i64 0) := bw_cell (k_r.cell rfl)
    have c_r_5 : ∀ p : BW W1, p.w.cell? ⟨g_r, 5, none⟩ = some (.int .i64 0) := bw_cell (k_r.cell rfl)
    have c_r_6 : ∀ p : BW W1, p.w.cell? ⟨g_r, 6, none⟩ = some (.int .i64 0) := bw_cell (k_r.cell rfl)
    have c_r_7 : ∀ p : BW W1, p.w.cell? ⟨g_r, 7, none⟩ = some (.int .i64 0) := bw_cell (k_r.cell rfl)
    have c_r_8 : ∀ p : BW W1, p.w.cell? ⟨g_r, 8, none⟩ = some (.int .i64 0) := bw_cell (k_r.cell rfl)
    have c_r_9 : ∀ p : BW W1, p.w.cell? ⟨g_r, 9, none⟩ = some (.int .i64 0) := bw_cell (k_r.cell rfl)
    have c_r_10 : ∀ p : BW W1, p.w.cell? ⟨g_r, 10, none⟩ = some (.int .i64 0) := bw_cell (k_r.cell rfl)
    have c_r_11 : ∀ p : BW W1, p.w.cell? ⟨g_r, 11, none⟩ = some (.int .i64 0) := bw_cell (k_r.cell rfl)
    obtain ⟨p1, hp1⟩ : ∃ p : BW W1, p.w = W1 := ⟨BW.start W1, rfl⟩
    rw [← hp1]
    clear hp1
    go_upto_region 2 with (first
      | (go_at_call 11; (first | (with_reducible refine (bw_call K.out _).mono ?_)); rintro e w' ⟨rfl, q, rfl⟩))
    obtain ⟨W2, hW2⟩ : ∃ W, W = q.w.alloc (.cells #[.int .i64 16384, .int .i64 0, .int .i64 0, .int .i64 0, .int .i64 16384, .int .i64 0, .int .i64 0, .int .i64 0, .int .i64 16384, .int .i64 0, .int .i64 0, .int .i64 0] 25) := ⟨_, rfl⟩
    have B2 : Below w.heap.size w W2 := by rw [hW2]; exact (bw_below B1 q).alloc (bw_below B1 q).size _
    have l_p : g_r < q.w.heap.size := (k_r.below q.h).lt
    have k_v := (k_v.below q.h).alloc (.cells #[.int .i64 16384, .int .i64 0, .int .i64 0, .int .i64 0, .int .i64 16384, .int .i64 0, .int .i64 0, .int .i64 0, .int .i64 16384, .int .i64 0, .int .i64 0, .int .i64 0] 25)
    rw [← hW2] at k_v
    have k_r := (k_r.below q.h).alloc (.cells #[.int .i64 16384, .int .i64 0, .int .i64 0, .int .i64 0, .int .i64 16384, .int .i64 0, .int .i64 0, .int .i64 0, .int .i64 16384, .int .i64 0, .int .i64 0, .int .i64 0] 25)
    rw [← hW2] at k_r
    have k_p : Bk W2 q.w.heap.size 25 #[.int .i64 16384, .int .i64 0, .int .i64 0, .int .i64 0, .int .i64 16384, .int .i64 0, .int .i64 0, .int .i64 0, .int .i64 16384, .int .i64 0, .int .i64 0, .int .i64 0] := by rw [hW2]; exact Bk.new _ _ _
    rw [← hW2]
    clear hW2
    clear B1
    clear c_v_0 c_v_1 c_v_2 c_r_0 c_r_1 c_r_2 c_r_3 c_r_4 c_r_5 c_r_6 c_r_7 c_r_8 c_r_9 c_r_10 c_r_11
    generalize q.w.heap.size = g_p at *
    have c_v_0 : ∀ p : BW W2, p.w.cell? ⟨w.heap.size, 0, none⟩ = some (.int .i64 a) := bw_cell (k_v.cell rfl)
    have c_v_1 : ∀ p : BW W2, p.w.cell? ⟨w.heap.size, 1, none⟩ = some (.int .i64 b) := bw_cell (k_v.cell rfl)
    have c_v_2 : ∀ p : BW W2, p.w.cell? ⟨w.heap.size, 2, none⟩ = some (.int .i64 c) := bw_cell (k_v.cell rfl)
    have c_r_0 : ∀ p : BW W2, p.w.cell? ⟨g_r, 0, none⟩ = some (.int .i64 0) := bw_cell (k_r.cell rfl)
    have f_r_0 : ∀ p : BW W2, p.w.frozen? ⟨g_r, 0, none⟩ = false := fun p => (k_r.below p.h).frozen 0
    have c_r_1 : ∀ p : BW W2, p.w.cell? ⟨g_r, 1, none⟩ = some (.int .i64 0) := bw_cell (k_r.cell rfl)
    have f_r_1 : ∀ p : BW W2, p.w.frozen? ⟨g_r, 1, none⟩ = false := fun p => (k_r.below p.h).frozen 1
    have c_r_2 : ∀ p : BW W2, p.w.cell? ⟨g_r, 2, none⟩ = some (.int .i64 0) := bw_cell (k_r.cell rfl)
    have f_r_2 : ∀ p : BW W2, p.w.frozen? ⟨g_r, 2, none⟩ = false := fun p => (k_r.below p.h).frozen 2
    have c_r_3 : ∀ p : BW W2, p.w.cell? ⟨g_r, 3, none⟩ = some (.int .i64 0) := bw_cell (k_r.cell rfl)
    have f_r_3 : ∀ p : BW W2, p.w.frozen? ⟨g_r, 3, none⟩ = false := fun p => (k_r.below p.h).frozen 3
    have c_r_4 : ∀ p : BW W2, p.w.cell? ⟨g_r, 4, none⟩ = some (.int .i64 0) := bw_cell (k_r.cell rfl)
    have f_r_4 : ∀ p : BW W2, p.w.frozen? ⟨g_r, 4, none⟩ = false := fun p => (k_r.below p.h).frozen 4
    have c_r_5 : ∀ p : BW W2, p.w.cell? ⟨g_r, 5, none⟩ = some (.int .i64 0) := bw_cell (k_r.cell rfl)
    have f_r_5 : ∀ p : BW W2, p.w.frozen? ⟨g_r, 5, none⟩ = false := fun p => (k_r.below p.h).frozen 5
    have c_r_6 : ∀ p : BW W2, p.w.cell? ⟨g_r, 6, none⟩ = some (.int .i64 0) := bw_cell (k_r.cell rfl)
    have f_r_6 : ∀ p : BW W2, p.w.frozen? ⟨g_r, 6, none⟩ = false := fun p => (k_r.below p.h).frozen 6
    have c_r_7 : ∀ p : BW W2, p.w.cell? ⟨g_r, 7, none⟩ = some (.int .i64 0) := bw_cell (k_r.cell rfl)
    have f_r_7 : ∀ p : BW W2, p.w.frozen? ⟨g_r, 7, none⟩ = false := fun p => (k_r.below p.h).frozen 7
    have c_r_8 : ∀ p : BW W2, p.w.cell? ⟨g_r, 8, none⟩ = some (.int .i64 0) := bw_cell (k_r.cell rfl)
    have f_r_8 : ∀ p : BW W2, p.w.frozen? ⟨g_r, 8, none⟩ = false := fun p => (k_r.below p.h).frozen 8
    have c_r_9 : ∀ p : BW W2, p.w.cell? ⟨g_r, 9, none⟩ = some (.int .i64 0) := bw_cell (k_r.cell rfl)
    have f_r_9 : ∀ p : BW W2, p.w.frozen? ⟨g_r, 9, none⟩ = false := fun p => (k_r.below p.h).frozen 9
    have c_r_10 : ∀ p : BW W2, p.w.cell? ⟨g_r, 10, none⟩ = some (.int .i64 0) := bw_cell (k_r.cell rfl)
    have f_r_10 : ∀ p : BW W2, p.w.frozen? ⟨g_r, 10, none⟩ = false := fun p => (k_r.below p.h).frozen 10
    have c_r_11 : ∀ p : BW W2, p.w.cell? ⟨g_r, 11, none⟩ = some (.int .i64 0) := bw_cell (k_r.cell rfl)
    have f_r_11 : ∀ p : BW W2, p.w.frozen? ⟨g_r, 11, none⟩ = false := fun p => (k_r.below p.h).frozen 11
    have c_p_0 : ∀ p : BW W2, p.w.cell? ⟨g_p, 0, none⟩ = some (.int .i64 16384) := bw_cell (k_p.cell rfl)
    have c_p_1 : ∀ p : BW W2, p.w.cell? ⟨g_p, 1, none⟩ = some (.int .i64 0) := bw_cell (k_p.cell rfl)
    have c_p_2 : ∀ p : BW W2, p.w.cell? ⟨g_p, 2, none⟩ = some (.int .i64 0) := bw_cell (k_p.cell rfl)
    have c_p_3 : ∀ p : BW W2, p.w.cell? ⟨g_p, 3, none⟩ = some (.int .i64 0) := bw_cell (k_p.cell rfl)
    have c_p_4 : ∀ p : BW W2, p.w.cell? ⟨g_p, 4, none⟩ = some (.int .i64 16384) := bw_cell (k_p.cell rfl)
    have c_p_5 : ∀ p : BW W2, p.w.cell? ⟨g_p, 5, none⟩ = some (.int .i64 0) := bw_cell (k_p.cell rfl)
    have c_p_6 : ∀ p : BW W2, p.w.cell? ⟨g_p, 6, none⟩ = some (.int .i64 0) := bw_cell (k_p.cell rfl)
    have c_p_7 : ∀ p : BW W2, p.w.cell? ⟨g_p, 7, none⟩ = some (.int .i64 0) := bw_cell (k_p.cell rfl)
    have c_p_8 : ∀ p : BW W2, p.w.cell? ⟨g_p, 8, none⟩ = some (.int .i64 16384) := bw_cell (k_p.cell rfl)
    have c_p_9 : ∀ p : BW W2, p.w.cell? ⟨g_p, 9, none⟩ = some (.int .i64 0) := bw_cell (k_p.cell rfl)
    have c_p_10 : ∀ p : BW W2, p.w.cell? ⟨g_p, 10, none⟩ = some (.int .i64 0) := bw_cell (k_p.cell rfl)
    have c_p_11 : ∀ p : BW W2, p.w.cell? ⟨g_p, 11, none⟩ = some (.int .i64 0) := bw_cell (k_p.cell rfl)
    obtain ⟨p2, hp2⟩ : ∃ p : BW W2, p.w = W2 := ⟨BW.start W2, rfl⟩
    rw [← hp2]
    clear hp2
    go_wp2_with (first
      | (go_at_call 23; (first | (with_reducible refine (bw_call N.out _).mono ?_)); rintro e w' ⟨rfl, q, rfl⟩))
    have kr : Bk ((((((((((((q.w.setCell ⟨g_r, 0, none⟩ (.int .i64 16384)).setCell ⟨g_r, 1, none⟩ (.int .i64 0)).setCell ⟨g_r, 2, none⟩ (.int .i64 0)).setCell ⟨g_r, 3, none⟩ (.int .i64 0)).setCell ⟨g_r, 4, none⟩ (.int .i64 16384)).setCell ⟨g_r, 5, none⟩ (.int .i64 0)).setCell ⟨g_r, 6, none⟩ (.int .i64 0)).setCell ⟨g_r, 7, none⟩ (.int .i64 0)).setCell ⟨g_r, 8, none⟩ (.int .i64 16384)).setCell ⟨g_r, 9, none⟩ (.int .i64 0)).setCell ⟨g_r, 10, none⟩ (.int .i64 0)).setCell ⟨g_r, 11, none⟩ (.int .i64 0)) (g_r) 25 #[.int .i64 16384, .int .i64 0, .int .i64 0, .int .i64 0, .int .i64 16384, .int .i64 0, .int .i64 0, .int .i64 0, .int .i64 16384, .int .i64 0, .int .i64 0, .int .i64 0] := (((((((((((((k_r.below q.h).set 0 (.int .i64 16384)).set 1 (.int .i64 0)).set 2 (.int .i64 0)).set 3 (.int .i64 0)).set 4 (.int .i64 16384)).set 5 (.int .i64 0)).set 6 (.int .i64 0)).set 7 (.int .i64 0)).set 8 (.int .i64 16384)).set 9 (.int .i64 0)).set 10 (.int .i64 0)).set 11 (.int .i64 0)).cast (by simp)
    have rc0 : World.cell? ((((((((((((q.w.setCell ⟨g_r, 0, none⟩ (.int .i64 16384)).setCell ⟨g_r, 1, none⟩ (.int .i64 0)).setCell ⟨g_r, 2, none⟩ (.int .i64 0)).setCell ⟨g_r, 3, none⟩ (.int .i64 0)).setCell ⟨g_r, 4, none⟩ (.int .i64 16384)).setCell ⟨g_r, 5, none⟩ (.int .i64 0)).setCell ⟨g_r, 6, none⟩ (.int .i64 0)).setCell ⟨g_r, 7, none⟩ (.int .i64 0)).setCell ⟨g_r, 8, none⟩ (.int .i64 16384)).setCell ⟨g_r, 9, none⟩ (.int .i64 0)).setCell ⟨g_r, 10, none⟩ (.int .i64 0)).setCell ⟨g_r, 11, none⟩ (.int .i64 0)) ⟨g_r, 0, none⟩ = some (.int .i64 16384) := kr.cell rfl
    have rc1 : World.cell? ((((((((((((q.w.setCell ⟨g_r, 0, none⟩ (.int .i64 16384)).setCell ⟨g_r, 1, none⟩ (.int .i64 0)).setCell ⟨g_r, 2, none⟩ (.int .i64 0)).setCell ⟨g_r, 3, none⟩ (.int .i64 0)).setCell ⟨g_r, 4, none⟩ (.int .i64 16384)).setCell ⟨g_r, 5, none⟩ (.int .i64 0)).setCell ⟨g_r, 6, none⟩ (.int .i64 0)).setCell ⟨g_r, 7, none⟩ (.int .i64 0)).setCell ⟨g_r, 8, none⟩ (.int .i64 16384)).setCell ⟨g_r, 9, none⟩ (.int .i64 0)).setCell ⟨g_r, 10, none⟩ (.int .i64 0)).setCell ⟨g_r, 11, none⟩ (.int .i64 0)) ⟨g_r, 1, none⟩ = some (.int .i64 0) := kr.cell rfl
    have rc2 : World.cell? ((((((((((((q.w.setCell ⟨g_r, 0, none⟩ (.int .i64 16384)).setCell ⟨g_r, 1, none⟩ (.int .i64 0)).setCell ⟨g_r, 2, none⟩ (.int .i64 0)).setCell ⟨g_r, 3, none⟩ (.int .i64 0)).setCell ⟨g_r, 4, none⟩ (.int .i64 16384)).setCell ⟨g_r, 5, none⟩ (.int .i64 0)).setCell ⟨g_r, 6, none⟩ (.int .i64 0)).setCell ⟨g_r, 7, none⟩ (.int .i64 0)).setCell ⟨g_r, 8, none⟩ (.int .i64 16384)).setCell ⟨g_r, 9, none⟩ (.int .i64 0)).setCell ⟨g_r, 10, none⟩ (.int .i64 0)).setCell ⟨g_r, 11, none⟩ (.int .i64 0)) ⟨g_r, 2, none⟩ = some (.int .i64 0) := kr.cell rfl
    have rc3 : World.cell? ((((((((((((q.w.setCell ⟨g_r, 0, none⟩ (.int .i64 16384)).setCell ⟨g_r, 1, none⟩ (.int .i64 0)).setCell ⟨g_r, 2, none⟩ (.int .i64 0)).setCell ⟨g_r, 3, none⟩ (.int .i64 0)).setCell ⟨g_r, 4, none⟩ (.int .i64 16384)).setCell ⟨g_r, 5, none⟩ (.int .i64 0)).setCell ⟨g_r, 6, none⟩ (.int .i64 0)).setCell ⟨g_r, 7, none⟩ (.int .i64 0)).setCell ⟨g_r, 8, none⟩ (.int .i64 16384)).setCell ⟨g_r, 9, none⟩ (.int .i64 0)).setCell ⟨g_r, 10, none⟩ (.int .i64 0)).setCell ⟨g_r, 11, none⟩ (.int .i64 0)) ⟨g_r, 3, none⟩ = some (.int .i64 0) := kr.cell rfl
    have rc4 : World.cell? ((((((((((((q.w.setCell ⟨g_r, 0, none⟩ (.int .i64 16384)).setCell ⟨g_r, 1, none⟩ (.int .i64 0)).setCell ⟨g_r, 2, none⟩ (.int .i64 0)).setCell ⟨g_r, 3, none⟩ (.int .i64 0)).setCell ⟨g_r, 4, none⟩ (.int .i64 16384)).setCell ⟨g_r, 5, none⟩ (.int .i64 0)).setCell ⟨g_r, 6, none⟩ (.int .i64 0)).setCell ⟨g_r, 7, none⟩ (.int .i64 0)).setCell ⟨g_r, 8, none⟩ (.int .i64 16384)).setCell ⟨g_r, 9, none⟩ (.int .i64 0)).setCell ⟨g_r, 10, none⟩ (.int .i64 0)).setCell ⟨g_r, 11, none⟩ (.int .i64 0)) ⟨g_r, 4, none⟩ = some (.int .i64 16384) := kr.cell rfl
    have rc5 : World.cell? ((((((((((((q.w.setCell ⟨g_r, 0, none⟩ (.int .i64 16384)).setCell ⟨g_r, 1, none⟩ (.int .i64 0)).setCell ⟨g_r, 2, none⟩ (.int .i64 0)).setCell ⟨g_r, 3, none⟩ (.int .i64 0)).setCell ⟨g_r, 4, none⟩ (.int .i64 16384)).setCell ⟨g_r, 5, none⟩ (.int .i64 0)).setCell ⟨g_r, 6, none⟩ (.int .i64 0)).setCell ⟨g_r, 7, none⟩ (.int .i64 0)).setCell ⟨g_r, 8, none⟩ (.int .i64 16384)).setCell ⟨g_r, 9, none⟩ (.int .i64 0)).setCell ⟨g_r, 10, none⟩ (.int .i64 0)).setCell ⟨g_r, 11, none⟩ (.int .i64 0)) ⟨g_r, 5, none⟩ = some (.int .i64 0) := kr.cell rfl
    have rc6 : World.cell? ((((((((((((q.w.setCell ⟨g_r, 0, none⟩ (.int .i64 16384)).setCell ⟨g_r, 1, none⟩ (.int .i64 0)).setCell ⟨g_r, 2, none⟩ (.int .i64 0)).setCell ⟨g_r, 3, none⟩ (.int .i64 0)).setCell ⟨g_r, 4, none⟩ (.int .i64 16384)).setCell ⟨g_r, 5, none⟩ (.int .i64 0)).setCell ⟨g_r, 6, none⟩ (.int .i64 0)).setCell ⟨g_r, 7, none⟩ (.int .i64 0)).setCell ⟨g_r, 8, none⟩ (.int .i64 16384)).setCell ⟨g_r, 9, none⟩ (.int .i64 0)).setCell ⟨g_r, 10, none⟩ (.int .i64 0)).setCell ⟨g_r, 11, none⟩ (.int .i64 0)) ⟨g_r, 6, none⟩ = some (.int .i64 0) := kr.cell rfl
    have rc7 : World.cell? ((((((((((((q.w.setCell ⟨g_r, 0, none⟩ (.int .i64 16384)).setCell ⟨g_r, 1, none⟩ (.int .i64 0)).setCell ⟨g_r, 2, none⟩ (.int .i64 0)).setCell ⟨g_r, 3, none⟩ (.int .i64 0)).setCell ⟨g_r, 4, none⟩ (.int .i64 16384)).setCell ⟨g_r, 5, none⟩ (.int .i64 0)).setCell ⟨g_r, 6, none⟩ (.int .i64 0)).setCell ⟨g_r, 7, none⟩ (.int .i64 0)).setCell ⟨g_r, 8, none⟩ (.int .i64 16384)).setCell ⟨g_r, 9, none⟩ (.int .i64 0)).setCell ⟨g_r, 10, none⟩ (.int .i64 0)).setCell ⟨g_r, 11, none⟩ (.int .i64 0)) ⟨g_r, 7, none⟩ = some (.int .i64 0) := kr.cell rfl
    have rc8 : World.cell? ((((((((((((q.w.setCell ⟨g_r, 0, none⟩ (.int .i64 16384)).setCell ⟨g_r, 1, none⟩ (.int .i64 0)).setCell ⟨g_r, 2, none⟩ (.int .i64 0)).setCell ⟨g_r, 3, none⟩ (.int .i64 0)).setCell ⟨g_r, 4, none⟩ (.int .i64 16384)).setCell ⟨g_r, 5, none⟩ (.int .i64 0)).setCell ⟨g_r, 6, none⟩ (.int .i64 0)).setCell ⟨g_r, 7, none⟩ (.int .i64 0)).setCell ⟨g_r, 8, none⟩ (.int .i64 16384)).setCell ⟨g_r, 9, none⟩ (.int .i64 0)).setCell ⟨g_r, 10, none⟩ (.int .i64 0)).setCell ⟨g_r, 11, none⟩ (.int .i64 0)) ⟨g_r, 8, none⟩ = some (.int .i64 16384) := kr.cell rfl
    have rc9 : World.cell? ((((((((((((q.w.setCell ⟨g_r, 0, none⟩ (.int .i64 16384)).setCell ⟨g_r, 1, none⟩ (.int .i64 0)).setCell ⟨g_r, 2, none⟩ (.int .i64 0)).setCell ⟨g_r, 3, none⟩ (.int .i64 0)).setCell ⟨g_r, 4, none⟩ (.int .i64 16384)).setCell ⟨g_r, 5, none⟩ (.int .i64 0)).setCell ⟨g_r, 6, none⟩ (.int .i64 0)).setCell ⟨g_r, 7, none⟩ (.int .i64 0)).setCell ⟨g_r, 8, none⟩ (.int .i64 16384)).setCell ⟨g_r, 9, none⟩ (.int .i64 0)).setCell ⟨g_r, 10, none⟩ (.int .i64 0)).setCell ⟨g_r, 11, none⟩ (.int .i64 0)) ⟨g_r, 9, none⟩ = some (.int .i64 0) := kr.cell rfl
    have rc10 : World.cell? ((((((((((((q.w.setCell ⟨g_r, 0, none⟩ (.int .i64 16384)).setCell ⟨g_r, 1, none⟩ (.int .i64 0)).setCell ⟨g_r, 2, none⟩ (.int .i64 0)).setCell ⟨g_r, 3, none⟩ (.int .i64 0)).setCell ⟨g_r, 4, none⟩ (.int .i64 16384)).setCell ⟨g_r, 5, none⟩ (.int .i64 0)).setCell ⟨g_r, 6, none⟩ (.int .i64 0)).setCell ⟨g_r, 7, none⟩ (.int .i64 0)).setCell ⟨g_r, 8, none⟩ (.int .i64 16384)).setCell ⟨g_r, 9, none⟩ (.int .i64 0)).setCell ⟨g_r, 10, none⟩ (.int .i64 0)).setCell ⟨g_r, 11, none⟩ (.int .i64 0)) ⟨g_r, 10, none⟩ = some (.int .i64 0) := kr.cell rfl
    have rc11 : World.cell? ((((((((((((q.w.setCell ⟨g_r, 0, none⟩ (.int .i64 16384)).setCell ⟨g_r, 1, none⟩ (.int .i64 0)).setCell ⟨g_r, 2, none⟩ (.int .i64 0)).setCell ⟨g_r, 3, none⟩ (.int .i64 0)).setCell ⟨g_r, 4, none⟩ (.int .i64 16384)).setCell ⟨g_r, 5, none⟩ (.int .i64 0)).setCell ⟨g_r, 6, none⟩ (.int .i64 0)).setCell ⟨g_r, 7, none⟩ (.int .i64 0)).setCell ⟨g_r, 8, none⟩ (.int .i64 16384)).setCell ⟨g_r, 9, none⟩ (.int .i64 0)).setCell ⟨g_r, 10, none⟩ (.int .i64 0)).setCell ⟨g_r, 11, none⟩ (.int .i64 0)) ⟨g_r, 11, none⟩ = some (.int .i64 0) := kr.cell rfl
    exact bodyPost_ret (v := .agg #[.int .i64 16384, .int .i64 0, .int .i64 0, .int .i64 0, .int .i64 16384, .int .i64 0, .int .i64 0, .int .i64 0, .int .i64 16384, .int .i64 0, .int .i64 0, .int .i64 0]) (by simp [results, Try.results22, go_sem, rc0, rc1, rc2, rc3, rc4, rc5, rc6, rc7, rc8, rc9, rc10, rc11]) rfl ⟨rfl, (((((((((((((bw_below B2 q).setCell (p := ⟨g_r, 0, none⟩) (by show w.heap.size ≤ g_r; omega) _).setCell (p := ⟨g_r, 1, none⟩) (by show w.heap.size ≤ g_r; omega) _).setCell (p := ⟨g_r, 2, none⟩) (by show w.heap.size ≤ g_r; omega) _).setCell (p := ⟨g_r, 3, none⟩) (by show w.heap.size ≤ g_r; omega) _).setCell (p := ⟨g_r, 4, none⟩) (by show w.heap.size ≤ g_r; omega) _).setCell (p := ⟨g_r, 5, none⟩) (by show w.heap.size ≤ g_r; omega) _).setCell (p := ⟨g_r, 6, none⟩) (by show w.heap.size ≤ g_r; omega) _).setCell (p := ⟨g_r, 7, none⟩) (by show w.heap.size ≤ g_r; omega) _).setCell (p := ⟨g_r, 8, none⟩) (by show w.heap.size ≤ g_r; omega) _).setCell (p := ⟨g_r, 9, none⟩) (by show w.heap.size ≤ g_r; omega) _).setCell (p := ⟨g_r, 10, none⟩) (by show w.heap.size ≤ g_r; omega) _).setCell (p := ⟨g_r, 11, none⟩) (by show w.heap.size ≤ g_r; omega) _)⟩
  · rw [if_pos rfl]
    unfold p12
    dsimp only
    go_enter Try.func22, Try.ntmps22
    go_upto_region 1 with (fail)
    obtain ⟨W1, hW1⟩ : ∃ W, W = (w.alloc (.cells #[.int .i64 a, .int .i64 b, .int .i64 c] 23)).alloc (.cells #[.int .i64 0, .int .i64 0, .int .i64 0, .int .i64 0, .int .i64 0, .int .i64 0, .int .i64 0, .int .i64 0, .int .i64 0, .int .i64 0, .int .i64 0, .int .i64 0] 25) := ⟨_, rfl⟩
    have B1 : Below w.heap.size w W1 := by rw [hW1]; go_grown
    have k_v : Bk W1 (w.heap.size) 23 #[.int .i64 a, .int .i64 b, .int .i64 c] := by rw [hW1]; exact (Bk.new _ _ _).alloc _
    have k_r : Bk W1 (w.heap.size + 1) 25 #[.int .i64 0, .int .i64 0, .int .i64 0, .int .i64 0, .int .i64 0, .int .i64 0, .int .i64 0, .int .i64 0, .int .i64 0, .int .i64 0, .int .i64 0, .int .i64 0] := by rw [hW1]; exact Bk.new_at _ _ _ _ (by simp)
    rw [← hW1]
    clear hW1
    have l_r : w.heap.size < w.heap.size + 1 := by omega
    generalize w.heap.size + 1 = g_r at *
    have c_v_0 : ∀ p : BW W1, p.w.cell? ⟨w.heap.size, 0, none⟩ = some (.int .i64 a) := bw_cell (k_v.cell rfl)
    have c_v_1 : ∀ p : BW W1, p.w.cell? ⟨w.heap.size, 1, none⟩ = some (.int .i64 b) := bw_cell (k_v.cell rfl)
    have c_v_2 : ∀ p : BW W1, p.w.cell? ⟨w.heap.size, 2, none⟩ = some (.int .i64 c) := bw_cell (k_v.cell rfl)
    have c_r_0 : ∀ p : BW W1, p.w.cell? ⟨g_r, 0, none⟩ = some (.int .i64 0) := bw_cell (k_r.cell rfl)
    have c_r_1 : ∀ p : BW W1, p.w.cell? ⟨g_r, 1, none⟩ = some (.int .i64 0) := bw_cell (k_r.cell rfl)
    have c_r_2 : ∀ p : BW W1, p.w.cell? ⟨g_r, 2, none⟩ = some (.int .i64 0) := bw_cell (k_r.cell rfl)
    have c_r_3 : ∀ p : BW W1, p.w.cell? ⟨g_r, 3, none⟩ = some (.int .i64 0) := bw_cell (k_r.cell rfl)
    have c_r_4 : ∀ p : BW W1, p.w.cell? ⟨g_r, 4, none⟩ = some (.int .i64 0) := bw_cell (k_r.cell rfl)
    have c_r_5 : ∀ p : BW W1, p.w.cell? ⟨g_r, 5, none⟩ = some (.int .i64 0) := bw_cell (k_r.cell rfl)
    have c_r_6 : ∀ p : BW W1, p.w.cell? ⟨g_r, 6, none⟩ = some (.int .i64 0) := bw_cell (k_r.cell rfl)
    have c_r_7 : ∀ p : BW W1, p.w.cell? ⟨g_r, 7, none⟩ = some (.int .i64 0) := bw_cell (k_r.cell rfl)
    have c_r_8 : ∀ p : BW W1, p.w.cell? ⟨g_r, 8, none⟩ = some (.int .i64 0) := bw_cell (k_r.cell rfl)
    have c_r_9 : ∀ p : BW W1, p.w.cell? ⟨g_r, 9, none⟩ = some (.int .i64 0) := bw_cell (k_r.cell rfl)
    have c_r_10 : ∀ p : BW W1, p.w.cell? ⟨g_r, 10, none⟩ = some (.int .i64 0) := bw_cell (k_r.cell rfl)
    have c_r_11 : ∀ p : BW W1, p.w.cell? ⟨g_r, 11, none⟩ = some (.int .i64 0) := bw_cell (k_r.cell rfl)
    obtain ⟨p1, hp1⟩ : ∃ p : BW W1, p.w = W1 := ⟨BW.start W1, rfl⟩
    rw [← hp1]
    clear hp1
    go_upto_region 2 with (first
      | (go_at_call 11; (first | (with_reducible refine (bw_call K.out _).mono ?_)); rintro e w' ⟨rfl, q, rfl⟩))
    obtain ⟨W2, hW2⟩ : ∃ W, W = q.w.alloc (.cells #[.int .i64 16384, .int .i64 0, .int .i64 0, .int .i64 0, .int .i64 16384, .int .i64 0, .int .i64 0, .int .i64 0, .int .i64 16384, .int .i64 0, .int .i64 0, .int .i64 0] 25) := ⟨_, rfl⟩
    have B2 : Below w.heap.size w W2 := by rw [hW2]; exact (bw_below B1 q).alloc (bw_below B1 q).size _
    have l_p : g_r < q.w.heap.size := (k_r.below q.h).lt
    have k_v := (k_v.below q.h).alloc (.cells #[.int .i64 16384, .int .i64 0, .int .i64 0, .int .i64 0, .int .i64 16384, .int .i64 0, .int .i64 0, .int .i64 0, .int .i64 16384, .int .i64 0, .int .i64 0, .int .i64 0] 25)
    rw [← hW2] at k_v
    have k_r := (k_r.below q.h).alloc (.cells #[.int .i64 16384, .int .i64 0, .int .i64 0, .int .i64 0, .int .i64 16384, .int .i64 0, .int .i64 0, .int .i64 0, .int .i64 16384, .int .i64 0, .int .i64 0, .int .i64 0] 25)
    rw [← hW2] at k_r
    have k_p : Bk W2 q.w.heap.size 25 #[.int .i64 16384, .int .i64 0, .int .i64 0, .int .i64 0, .int .i64 16384, .int .i64 0, .int .i64 0, .int .i64 0, .int .i64 16384, .int .i64 0, .int .i64 0, .int .i64 0] := by rw [hW2]; exact Bk.new _ _ _
    rw [← hW2]
    clear hW2
    clear B1
    clear c_v_0 c_v_1 c_v_2 c_r_0 c_r_1 c_r_2 c_r_3 c_r_4 c_r_5 c_r_6 c_r_7 c_r_8 c_r_9 c_r_10 c_r_11
    generalize q.w.heap.size = g_p at *
    have c_v_0 : ∀ p : BW W2, p.w.cell? ⟨w.heap.size, 0, none⟩ = some (.int .i64 a) := bw_cell (k_v.cell rfl)
    have c_v_1 : ∀ p : BW W2, p.w.cell? ⟨w.heap.size, 1, none⟩ = some (.int .i64 b) := bw_cell (k_v.cell rfl)
    have c_v_2 : ∀ p : BW W2, p.w.cell? ⟨w.heap.size, 2, none⟩ = some (.int .i64 c) := bw_cell (k_v.cell rfl)
    have c_r_0 : ∀ p : BW W2, p.w.cell? ⟨g_r, 0, none⟩ = some (.int .i64 0) := bw_cell (k_r.cell rfl)
    have c_r_1 : ∀ p : BW W2, p.w.cell? ⟨g_r, 1, none⟩ = some (.int .i64 0) := bw_cell (k_r.cell rfl)
    have c_r_2 : ∀ p : BW W2, p.w.cell? ⟨g_r, 2, none⟩ = some (.int .i64 0) := bw_cell (k_r.cell rfl)
    have c_r_3 : ∀ p : BW W2, p.w.cell? ⟨g_r, 3, none⟩ = some (.int .i64 0) := bw_cell (k_r.cell rfl)
    have c_r_4 : ∀ p : BW W2, p.w.cell? ⟨g_r, 4, none⟩ = some (.int .i64 0) := bw_cell (k_r.cell rfl)
    have c_r_5 : ∀ p : BW W2, p.w.cell? ⟨g_r, 5, none⟩ = some (.int .i64 0) := bw_cell (k_r.cell rfl)
    have c_r_6 : ∀ p : BW W2, p.w.cell? ⟨g_r, 6, none⟩ = some (.int .i64 0) := bw_cell (k_r.cell rfl)
    have c_r_7 : ∀ p : BW W2, p.w.cell? ⟨g_r, 7, none⟩ = some (.int .i64 0) := bw_cell (k_r.cell rfl)
    have c_r_8 : ∀ p : BW W2, p.w.cell? ⟨g_r, 8, none⟩ = some (.int .i64 0) := bw_cell (k_r.cell rfl)
    have c_r_9 : ∀ p : BW W2, p.w.cell? ⟨g_r, 9, none⟩ = some (.int .i64 0) := bw_cell (k_r.cell rfl)
    have c_r_10 : ∀ p : BW W2, p.w.cell? ⟨g_r, 10, none⟩ = some (.int .i64 0) := bw_cell (k_r.cell rfl)
    have c_r_11 : ∀ p : BW W2, p.w.cell? ⟨g_r, 11, none⟩ = some (.int .i64 0) := bw_cell (k_r.cell rfl)
    have c_p_0 : ∀ p : BW W2, p.w.cell? ⟨g_p, 0, none⟩ = some (.int .i64 16384) := bw_cell (k_p.cell rfl)
    have f_p_0 : ∀ p : BW W2, p.w.frozen? ⟨g_p, 0, none⟩ = false := fun p => (k_p.below p.h).frozen 0
    have c_p_1 : ∀ p : BW W2, p.w.cell? ⟨g_p, 1, none⟩ = some (.int .i64 0) := bw_cell (k_p.cell rfl)
    have f_p_1 : ∀ p : BW W2, p.w.frozen? ⟨g_p, 1, none⟩ = false := fun p => (k_p.below p.h).frozen 1
    have c_p_2 : ∀ p : BW W2, p.w.cell? ⟨g_p, 2, none⟩ = some (.int .i64 0) := bw_cell (k_p.cell rfl)
    have f_p_2 : ∀ p : BW W2, p.w.frozen? ⟨g_p, 2, none⟩ = false := fun p => (k_p.below p.h).frozen 2
    have c_p_3 : ∀ p : BW W2, p.w.cell? ⟨g_p, 3, none⟩ = some (.int .i64 0) := bw_cell (k_p.cell rfl)
    have f_p_3 : ∀ p : BW W2, p.w.frozen? ⟨g_p, 3, none⟩ = false := fun p => (k_p.below p.h).frozen 3
    have c_p_4 : ∀ p : BW W2, p.w.cell? ⟨g_p, 4, none⟩ = some (.int .i64 16384) := bw_cell (k_p.cell rfl)
    have f_p_4 : ∀ p : BW W2, p.w.frozen? ⟨g_p, 4, none⟩ = false := fun p => (k_p.below p.h).frozen 4
    have c_p_5 : ∀ p : BW W2, p.w.cell? ⟨g_p, 5, none⟩ = some (.int .i64 0) := bw_cell (k_p.cell rfl)
    have f_p_5 : ∀ p : BW W2, p.w.frozen? ⟨g_p, 5, none⟩ = false := fun p => (k_p.below p.h).frozen 5
    have c_p_6 : ∀ p : BW W2, p.w.cell? ⟨g_p, 6, none⟩ = some (.int .i64 0) := bw_cell (k_p.cell rfl)
    have f_p_6 : ∀ p : BW W2, p.w.frozen? ⟨g_p, 6, none⟩ = false := fun p => (k_p.below p.h).frozen 6
    have c_p_7 : ∀ p : BW W2, p.w.cell? ⟨g_p, 7, none⟩ = some (.int .i64 0) := bw_cell (k_p.cell rfl)
    have f_p_7 : ∀ p : BW W2, p.w.frozen? ⟨g_p, 7, none⟩ = false := fun p => (k_p.below p.h).frozen 7
    have c_p_8 : ∀ p : BW W2, p.w.cell? ⟨g_p, 8, none⟩ = some (.int .i64 16384) := bw_cell (k_p.cell rfl)
    have f_p_8 : ∀ p : BW W2, p.w.frozen? ⟨g_p, 8, none⟩ = false := fun p => (k_p.below p.h).frozen 8
    have c_p_9 : ∀ p : BW W2, p.w.cell? ⟨g_p, 9, none⟩ = some (.int .i64 0) := bw_cell (k_p.cell rfl)
    have f_p_9 : ∀ p : BW W2, p.w.frozen? ⟨g_p, 9, none⟩ = false := fun p => (k_p.below p.h).frozen 9
    have c_p_10 : ∀ p : BW W2, p.w.cell? ⟨g_p, 10, none⟩ = some (.int .i64 0) := bw_cell (k_p.cell rfl)
    have f_p_10 : ∀ p : BW W2, p.w.frozen? ⟨g_p, 10, none⟩ = false := fun p => (k_p.below p.h).frozen 10
    have c_p_11 : ∀ p : BW W2, p.w.cell? ⟨g_p, 11, none⟩ = some (.int .i64 0) := bw_cell (k_p.cell rfl)
    have f_p_11 : ∀ p : BW W2, p.w.frozen? ⟨g_p, 11, none⟩ = false := fun p => (k_p.below p.h).frozen 11
    obtain ⟨p2, hp2⟩ : ∃ p : BW W2, p.w = W2 := ⟨BW.start W2, rfl⟩
    rw [← hp2]
    clear hp2
    go_upto_region 4 with (first
      | (go_at_call 23; (first | (with_reducible refine (bw_call N.out _).mono ?_)); rintro e w' ⟨rfl, q, rfl⟩))
    obtain ⟨W3, hW3⟩ : ∃ W, W = ((q.w.setCell ⟨g_p, 9, none⟩ (.int .i64 a)).setCell ⟨g_p, 10, none⟩ (.int .i64 b)).setCell ⟨g_p, 11, none⟩ (.int .i64 c) := ⟨_, rfl⟩
    have B3 : Below w.heap.size w W3 := by rw [hW3]; exact ((((bw_below B2 q).setCell (p := ⟨g_p, 9, none⟩) (by show w.heap.size ≤ g_p; omega) _).setCell (p := ⟨g_p, 10, none⟩) (by show w.heap.size ≤ g_p; omega) _).setCell (p := ⟨g_p, 11, none⟩) (by show w.heap.size ≤ g_p; omega) _)
    have k_v : Bk W3 (w.heap.size) 23 #[.int .i64 a, .int .i64 b, .int .i64 c] := by rw [hW3]; exact ((((k_v.below q.h).other (a := ⟨g_p, 9, none⟩) (by show ¬ w.heap.size = g_p; omega) (.int .i64 a)).other (a := ⟨g_p, 10, none⟩) (by show ¬ w.heap.size = g_p; omega) (.int .i64 b)).other (a := ⟨g_p, 11, none⟩) (by show ¬ w.heap.size = g_p; omega) (.int .i64 c))
    have k_r : Bk W3 (g_r) 25 #[.int .i64 0, .int .i64 0, .int .i64 0, .int .i64 0, .int .i64 0, .int .i64 0, .int .i64 0, .int .i64 0, .int .i64 0, .int .i64 0, .int .i64 0, .int .i64 0] := by rw [hW3]; exact ((((k_r.below q.h).other (a := ⟨g_p, 9, none⟩) (by show ¬ g_r = g_p; omega) (.int .i64 a)).other (a := ⟨g_p, 10, none⟩) (by show ¬ g_r = g_p; omega) (.int .i64 b)).other (a := ⟨g_p, 11, none⟩) (by show ¬ g_r = g_p; omega) (.int .i64 c))
    have k_p : Bk W3 (g_p) 25 #[.int .i64 16384, .int .i64 0, .int .i64 0, .int .i64 0, .int .i64 16384, .int .i64 0, .int .i64 0, .int .i64 0, .int .i64 16384, .int .i64 a, .int .i64 b, .int .i64 c] := by rw [hW3]; exact ((((k_p.below q.h).set 9 (.int .i64 a)).set 10 (.int .i64 b)).set 11 (.int .i64 c)).cast (by simp)
    rw [← hW3]
    clear hW3
    clear B2
    clear c_v_0 c_v_1 c_v_2 c_r_0 c_r_1 c_r_2 c_r_3 c_r_4 c_r_5 c_r_6 c_r_7 c_r_8 c_r_9 c_r_10 c_r_11 c_p_0 f_p_0 c_p_1 f_p_1 c_p_2 f_p_2 c_p_3 f_p_3 c_p_4 f_p_4 c_p_5 f_p_5 c_p_6 f_p_6 c_p_7 f_p_7 c_p_8 f_p_8 c_p_9 f_p_9 c_p_10 f_p_10 c_p_11 f_p_11
    have c_v_0 : ∀ p : BW W3, p.w.cell? ⟨w.heap.size, 0, none⟩ = some (.int .i64 a) := bw_cell (k_v.cell rfl)
    have c_v_1 : ∀ p : BW W3, p.w.cell? ⟨w.heap.size, 1, none⟩ = some (.int .i64 b) := bw_cell (k_v.cell rfl)
    have c_v_2 : ∀ p : BW W3, p.w.cell? ⟨w.heap.size, 2, none⟩ = some (.int .i64 c) := bw_cell (k_v.cell rfl)
    have c_r_0 : ∀ p : BW W3, p.w.cell? ⟨g_r, 0, none⟩ = some (.int .i64 0) := bw_cell (k_r.cell rfl)
    have f_r_0 : ∀ p : BW W3, p.w.frozen? ⟨g_r, 0, none⟩ = false := fun p => (k_r.below p.h).frozen 0
    have c_r_1 : ∀ p : BW W3, p.w.cell? ⟨g_r, 1, none⟩ = some (.int .i64 0) := bw_cell (k_r.cell rfl)
    have f_r_1 : ∀ p : BW W3, p.w.frozen? ⟨g_r, 1, none⟩ = false := fun p => (k_r.below p.h).frozen 1
    have c_r_2 : ∀ p : BW W3, p.w.cell? ⟨g_r, 2, none⟩ = some (.int .i64 0) := bw_cell (k_r.cell rfl)
    have f_r_2 : ∀ p : BW W3, p.w.frozen? ⟨g_r, 2, none⟩ = false := fun p => (k_r.below p.h).frozen 2
    have c_r_3 : ∀ p : BW W3, p.w.cell? ⟨g_r, 3, none⟩ = some (.int .i64 0) := bw_cell (k_r.cell rfl)
    have f_r_3 : ∀ p : BW W3, p.w.frozen? ⟨g_r, 3, none⟩ = false := fun p => (k_r.below p.h).frozen 3
    have c_r_4 : ∀ p : BW W3, p.w.cell? ⟨g_r, 4, none⟩ = some (.int .i64 0) := bw_cell (k_r.cell rfl)
    have f_r_4 : ∀ p : BW W3, p.w.frozen? ⟨g_r, 4, none⟩ = false := fun p => (k_r.below p.h).frozen 4
    have c_r_5 : ∀ p : BW W3, p.w.cell? ⟨g_r, 5, none⟩ = some (.int .i64 0) := bw_cell (k_r.cell rfl)
    have f_r_5 : ∀ p : BW W3, p.w.frozen? ⟨g_r, 5, none⟩ = false := fun p => (k_r.below p.h).frozen 5
    have c_r_6 : ∀ p : BW W3, p.w.cell? ⟨g_r, 6, none⟩ = some (.int .i64 0) := bw_cell (k_r.cell rfl)
    have f_r_6 : ∀ p : BW W3, p.w.frozen? ⟨g_r, 6, none⟩ = false := fun p => (k_r.below p.h).frozen 6
    have c_r_7 : ∀ p : BW W3, p.w.cell? ⟨g_r, 7, none⟩ = some (.int .i64 0) := bw_cell (k_r.cell rfl)
    have f_r_7 : ∀ p : BW W3, p.w.frozen? ⟨g_r, 7, none⟩ = false := fun p => (k_r.below p.h).frozen 7
    have c_r_8 : ∀ p : BW W3, p.w.cell? ⟨g_r, 8, none⟩ = some (.int .i64 0) := bw_cell (k_r.cell rfl)
    have f_r_8 : ∀ p : BW W3, p.w.frozen? ⟨g_r, 8, none⟩ = false := fun p => (k_r.below p.h).frozen 8
    have c_r_9 : ∀ p : BW W3, p.w.cell? ⟨g_r, 9, none⟩ = some (.int .i64 0) := bw_cell (k_r.cell rfl)
    have f_r_9 : ∀ p : BW W3, p.w.frozen? ⟨g_r, 9, none⟩ = false := fun p => (k_r.below p.h).frozen 9
    have c_r_10 : ∀ p : BW W3, p.w.cell? ⟨g_r, 10, none⟩ = some (.int .i64 0) := bw_cell (k_r.cell rfl)
    have f_r_10 : ∀ p : BW W3, p.w.frozen? ⟨g_r, 10, none⟩ = false := fun p => (k_r.below p.h).frozen 10
    have c_r_11 : ∀ p : BW W3, p.w.cell? ⟨g_r, 11, none⟩ = some (.int .i64 0) := bw_cell (k_r.cell rfl)
    have f_r_11 : ∀ p : BW W3, p.w.frozen? ⟨g_r, 11, none⟩ = false := fun p => (k_r.below p.h).frozen 11
    have c_p_0 : ∀ p : BW W3, p.w.cell? ⟨g_p, 0, none⟩ = some (.int .i64 16384) := bw_cell (k_p.cell rfl)
    have c_p_1 : ∀ p : BW W3, p.w.cell? ⟨g_p, 1, none⟩ = some (.int .i64 0) := bw_cell (k_p.cell rfl)
    have c_p_2 : ∀ p : BW W3, p.w.cell? ⟨g_p, 2, none⟩ = some (.int .i64 0) := bw_cell (k_p.cell rfl)
    have c_p_3 : ∀ p : BW W3, p.w.cell? ⟨g_p, 3, none⟩ = some (.int .i64 0) := bw_cell (k_p.cell rfl)
    have c_p_4 : ∀ p : BW W3, p.w.cell? ⟨g_p, 4, none⟩ = some (.int .i64 16384) := bw_cell (k_p.cell rfl)
    have c_p_5 : ∀ p : BW W3, p.w.cell? ⟨g_p, 5, none⟩ = some (.int .i64 0) := bw_cell (k_p.cell rfl)
    have c_p_6 : ∀ p : BW W3, p.w.cell? ⟨g_p, 6, none⟩ = some (.int .i64 0) := bw_cell (k_p.cell rfl)
    have c_p_7 : ∀ p : BW W3, p.w.cell? ⟨g_p, 7, none⟩ = some (.int .i64 0) := bw_cell (k_p.cell rfl)
    have c_p_8 : ∀ p : BW W3, p.w.cell? ⟨g_p, 8, none⟩ = some (.int .i64 16384) := bw_cell (k_p.cell rfl)
    have c_p_9 : ∀ p : BW W3, p.w.cell? ⟨g_p, 9, none⟩ = some (.int .i64 a) := bw_cell (k_p.cell rfl)
    have c_p_10 : ∀ p : BW W3, p.w.cell? ⟨g_p, 10, none⟩ = some (.int .i64 b) := bw_cell (k_p.cell rfl)
    have c_p_11 : ∀ p : BW W3, p.w.cell? ⟨g_p, 11, none⟩ = some (.int .i64 c) := bw_cell (k_p.cell rfl)
    obtain ⟨p3, hp3⟩ : ∃ p : BW W3, p.w = W3 := ⟨BW.start W3, rfl⟩
    rw [← hp3]
    clear hp3
    go_wp2
    have kr : Bk ((((((((((((p3.w.setCell ⟨g_r, 0, none⟩ (.int .i64 16384)).setCell ⟨g_r, 1, none⟩ (.int .i64 0)).setCell ⟨g_r, 2, none⟩ (.int .i64 0)).setCell ⟨g_r, 3, none⟩ (.int .i64 0)).setCell ⟨g_r, 4, none⟩ (.int .i64 16384)).setCell ⟨g_r, 5, none⟩ (.int .i64 0)).setCell ⟨g_r, 6, none⟩ (.int .i64 0)).setCell ⟨g_r, 7, none⟩ (.int .i64 0)).setCell ⟨g_r, 8, none⟩ (.int .i64 16384)).setCell ⟨g_r, 9, none⟩ (.int .i64 a)).setCell ⟨g_r, 10, none⟩ (.int .i64 b)).setCell ⟨g_r, 11, none⟩ (.int .i64 c)) (g_r) 25 #[.int .i64 16384, .int .i64 0, .int .i64 0, .int .i64 0, .int .i64 16384, .int .i64 0, .int .i64 0, .int .i64 0, .int .i64 16384, .int .i64 a, .int .i64 b, .int .i64 c] := (((((((((((((k_r.below p3.h).set 0 (.int .i64 16384)).set 1 (.int .i64 0)).set 2 (.int .i64 0)).set 3 (.int .i64 0)).set 4 (.int .i64 16384)).set 5 (.int .i64 0)).set 6 (.int .i64 0)).set 7 (.int .i64 0)).set 8 (.int .i64 16384)).set 9 (.int .i64 a)).set 10 (.int .i64 b)).set 11 (.int .i64 c)).cast (by simp)
    have rc0 : World.cell? ((((((((((((p3.w.setCell ⟨g_r, 0, none⟩ (.int .i64 16384)).setCell ⟨g_r, 1, none⟩ (.int .i64 0)).setCell ⟨g_r, 2, none⟩ (.int .i64 0)).setCell ⟨g_r, 3, none⟩ (.int .i64 0)).setCell ⟨g_r, 4, none⟩ (.int .i64 16384)).setCell ⟨g_r, 5, none⟩ (.int .i64 0)).setCell ⟨g_r, 6, none⟩ (.int .i64 0)).setCell ⟨g_r, 7, none⟩ (.int .i64 0)).setCell ⟨g_r, 8, none⟩ (.int .i64 16384)).setCell ⟨g_r, 9, none⟩ (.int .i64 a)).setCell ⟨g_r, 10, none⟩ (.int .i64 b)).setCell ⟨g_r, 11, none⟩ (.int .i64 c)) ⟨g_r, 0, none⟩ = some (.int .i64 16384) := kr.cell rfl
    have rc1 : World.cell? ((((((((((((p3.w.setCell ⟨g_r, 0, none⟩ (.int .i64 16384)).setCell ⟨g_r, 1, none⟩ (.int .i64 0)).setCell ⟨g_r, 2, none⟩ (.int .i64 0)).setCell ⟨g_r, 3, none⟩ (.int .i64 0)).setCell ⟨g_r, 4, none⟩ (.int .i64 16384)).setCell ⟨g_r, 5, none⟩ (.int .i64 0)).setCell ⟨g_r, 6, none⟩ (.int .i64 0)).setCell ⟨g_r, 7, none⟩ (.int .i64 0)).setCell ⟨g_r, 8, none⟩ (.int .i64 16384)).setCell ⟨g_r, 9, none⟩ (.int .i64 a)).setCell ⟨g_r, 10, none⟩ (.int .i64 b)).setCell ⟨g_r, 11, none⟩ (.int .i64 c)) ⟨g_r, 1, none⟩ = some (.int .i64 0) := kr.cell rfl
    have rc2 : World.cell? ((((((((((((p3.w.setCell ⟨g_r, 0, none⟩ (.int .i64 16384)).setCell ⟨g_r, 1, none⟩ (.int .i64 0)).setCell ⟨g_r, 2, none⟩ (.int .i64 0)).setCell ⟨g_r, 3, none⟩ (.int .i64 0)).setCell ⟨g_r, 4, none⟩ (.int .i64 16384)).setCell ⟨g_r, 5, none⟩ (.int .i64 0)).setCell ⟨g_r, 6, none⟩ (.int .i64 0)).setCell ⟨g_r, 7, none⟩ (.int .i64 0)).setCell ⟨g_r, 8, none⟩ (.int .i64 16384)).setCell ⟨g_r, 9, none⟩ (.int .i64 a)).setCell ⟨g_r, 10, none⟩ (.int .i64 b)).setCell ⟨g_r, 11, none⟩ (.int .i64 c)) ⟨g_r, 2, none⟩ = some (.int .i64 0) := kr.cell rfl
    have rc3 : World.cell? ((((((((((((p3.w.setCell ⟨g_r, 0, none⟩ (.int .i64 16384)).setCell ⟨g_r, 1, none⟩ (.int .i64 0)).setCell ⟨g_r, 2, none⟩ (.int .i64 0)).setCell ⟨g_r, 3, none⟩ (.int .i64 0)).setCell ⟨g_r, 4, none⟩ (.int .i64 16384)).setCell ⟨g_r, 5, none⟩ (.int .i64 0)).setCell ⟨g_r, 6, none⟩ (.int .i64 0)).setCell ⟨g_r, 7, none⟩ (.int .i64 0)).setCell ⟨g_r, 8, none⟩ (.int .i64 16384)).setCell ⟨g_r, 9, none⟩ (.int .i64 a)).setCell ⟨g_r, 10, none⟩ (.int .i64 b)).setCell ⟨g_r, 11, none⟩ (.int .i64 c)) ⟨g_r, 3, none⟩ = some (.int .i64 0) := kr.cell rfl
    have rc4 : World.cell? ((((((((((((p3.w.setCell ⟨g_r, 0, none⟩ (.int .i64 16384)).setCell ⟨g_r, 1, none⟩ (.int .i64 0)).setCell ⟨g_r, 2, none⟩ (.int .i64 0)).setCell ⟨g_r, 3, none⟩ (.int .i64 0)).setCell ⟨g_r, 4, none⟩ (.int .i64 16384)).setCell ⟨g_r, 5, none⟩ (.int .i64 0)).setCell ⟨g_r, 6, none⟩ (.int .i64 0)).setCell ⟨g_r, 7, none⟩ (.int .i64 0)).setCell ⟨g_r, 8, none⟩ (.int .i64 16384)).setCell ⟨g_r, 9, none⟩ (.int .i64 a)).setCell ⟨g_r, 10, none⟩ (.int .i64 b)).setCell ⟨g_r, 11, none⟩ (.int .i64 c)) ⟨g_r, 4, none⟩ = some (.int .i64 16384) := kr.cell rfl
    have rc5 : World.cell? ((((((((((((p3.w.setCell ⟨g_r, 0, none⟩ (.int .i64 16384)).setCell ⟨g_r, 1, none⟩ (.int .i64 0)).setCell ⟨g_r, 2, none⟩ (.int .i64 0)).setCell ⟨g_r, 3, none⟩ (.int .i64 0)).setCell ⟨g_r, 4, none⟩ (.int .i64 16384)).setCell ⟨g_r, 5, none⟩ (.int .i64 0)).setCell ⟨g_r, 6, none⟩ (.int .i64 0)).setCell ⟨g_r, 7, none⟩ (.int .i64 0)).setCell ⟨g_r, 8, none⟩ (.int .i64 16384)).setCell ⟨g_r, 9, none⟩ (.int .i64 a)).setCell ⟨g_r, 10, none⟩ (.int .i64 b)).setCell ⟨g_r, 11, none⟩ (.int .i64 c)) ⟨g_r, 5, none⟩ = some (.int .i64 0) := kr.cell rfl
    have rc6 : World.cell? ((((((((((((p3.w.setCell ⟨g_r, 0, none⟩ (.int .i64 16384)).setCell ⟨g_r, 1, none⟩ (.int .i64 0)).setCell ⟨g_r, 2, none⟩ (.int .i64 0)).setCell ⟨g_r, 3, none⟩ (.int .i64 0)).setCell ⟨g_r, 4, none⟩ (.int .i64 16384)).setCell ⟨g_r, 5, none⟩ (.int .i64 0)).setCell ⟨g_r, 6, none⟩ (.int .i64 0)).setCell ⟨g_r, 7, none⟩ (.int .i64 0)).setCell ⟨g_r, 8, none⟩ (.int .i64 16384)).setCell ⟨g_r, 9, none⟩ (.int .i64 a)).setCell ⟨g_r, 10, none⟩ (.int .i64 b)).setCell ⟨g_r, 11, none⟩ (.int .i64 c)) ⟨g_r, 6, none⟩ = some (.int .i64 0) := kr.cell rfl
    have rc7 : World.cell? ((((((((((((p3.w.setCell ⟨g_r, 0, none⟩ (.int .i64 16384)).setCell ⟨g_r, 1, none⟩ (.int .i64 0)).setCell ⟨g_r, 2, none⟩ (.int .i64 0)).setCell ⟨g_r, 3, none⟩ (.int .i64 0)).setCell ⟨g_r, 4, none⟩ (.int .i64 16384)).setCell ⟨g_r, 5, none⟩ (.int .i64 0)).setCell ⟨g_r, 6, none⟩ (.int .i64 0)).setCell ⟨g_r, 7, none⟩ (.int .i64 0)).setCell ⟨g_r, 8, none⟩ (.int .i64 16384)).setCell ⟨g_r, 9, none⟩ (.int .i64 a)).setCell ⟨g_r, 10, none⟩ (.int .i64 b)).setCell ⟨g_r, 11, none⟩ (.int .i64 c)) ⟨g_r, 7, none⟩ = some (.int .i64 0) := kr.cell rfl
    have rc8 : World.cell? ((((((((((((p3.w.setCell ⟨g_r, 0, none⟩ (.int .i64 16384)).setCell ⟨g_r, 1, none⟩ (.int .i64 0)).setCell ⟨g_r, 2, none⟩ (.int .i64 0)).setCell ⟨g_r, 3, none⟩ (.int .i64 0)).setCell ⟨g_r, 4, none⟩ (.int .i64 16384)).setCell ⟨g_r, 5, none⟩ (.int .i64 0)).setCell ⟨g_r, 6, none⟩ (.int .i64 0)).setCell ⟨g_r, 7, none⟩ (.int .i64 0)).setCell ⟨g_r, 8, none⟩ (.int .i64 16384)).setCell ⟨g_r, 9, none⟩ (.int .i64 a)).setCell ⟨g_r, 10, none⟩ (.int .i64 b)).setCell ⟨g_r, 11, none⟩ (.int .i64 c)) ⟨g_r, 8, none⟩ = some (.int .i64 16384) := kr.cell rfl
    have rc9 : World.cell? ((((((((((((p3.w.setCell ⟨g_r, 0, none⟩ (.int .i64 16384)).setCell ⟨g_r, 1, none⟩ (.int .i64 0)).setCell ⟨g_r, 2, none⟩ (.int .i64 0)).setCell ⟨g_r, 3, none⟩ (.int .i64 0)).setCell ⟨g_r, 4, none⟩ (.int .i64 16384)).setCell ⟨g_r, 5, none⟩ (.int .i64 0)).setCell ⟨g_r, 6, none⟩ (.int .i64 0)).setCell ⟨g_r, 7, none⟩ (.int .i64 0)).setCell ⟨g_r, 8, none⟩ (.int .i64 16384)).setCell ⟨g_r, 9, none⟩ (.int .i64 a)).setCell ⟨g_r, 10, none⟩ (.int .i64 b)).setCell ⟨g_r, 11, none⟩ (.int .i64 c)) ⟨g_r, 9, none⟩ = some (.int .i64 a) := kr.cell rfl
    have rc10 : World.cell? ((((((((((((p3.w.setCell ⟨g_r, 0, none⟩ (.int .i64 16384)).setCell ⟨g_r, 1, none⟩ (.int .i64 0)).setCell ⟨g_r, 2, none⟩ (.int .i64 0)).setCell ⟨g_r, 3, none⟩ (.int .i64 0)).setCell ⟨g_r, 4, none⟩ (.int .i64 16384)).setCell ⟨g_r, 5, none⟩ (.int .i64 0)).setCell ⟨g_r, 6, none⟩ (.int .i64 0)).setCell ⟨g_r, 7, none⟩ (.int .i64 0)).setCell ⟨g_r, 8, none⟩ (.int .i64 16384)).setCell ⟨g_r, 9, none⟩ (.int .i64 a)).setCell ⟨g_r, 10, none⟩ (.int .i64 b)).setCell ⟨g_r, 11, none⟩ (.int .i64 c)) ⟨g_r, 10, none⟩ = some (.int .i64 b) := kr.cell rfl
    have rc11 : World.cell? ((((((((((((p3.w.setCell ⟨g_r, 0, none⟩ (.int .i64 16384)).setCell ⟨g_r, 1, none⟩ (.int .i64 0)).setCell ⟨g_r, 2, none⟩ (.int .i64 0)).setCell ⟨g_r, 3, none⟩ (.int .i64 0)).setCell ⟨g_r, 4, none⟩ (.int .i64 16384)).setCell ⟨g_r, 5, none⟩ (.int .i64 0)).setCell ⟨g_r, 6, none⟩ (.int .i64 0)).setCell ⟨g_r, 7, none⟩ (.int .i64 0)).setCell ⟨g_r, 8, none⟩ (.int .i64 16384)).setCell ⟨g_r, 9, none⟩ (.int .i64 a)).setCell ⟨g_r, 10, none⟩ (.int .i64 b)).setCell ⟨g_r, 11, none⟩ (.int .i64 c)) ⟨g_r, 11, none⟩ = some (.int .i64 c) := kr.cell rfl
    exact bodyPost_ret (v := .agg #[.int .i64 16384, .int .i64 0, .int .i64 0, .int .i64 0, .int .i64 16384, .int .i64 0, .int .i64 0, .int .i64 0, .int .i64 16384, .int .i64 a, .int .i64 b, .int .i64 c]) (by simp [results, Try.results22, go_sem, rc0, rc1, rc2, rc3, rc4, rc5, rc6, rc7, rc8, rc9, rc10, rc11]) rfl ⟨rfl, (((((((((((((bw_below B3 p3).setCell (p := ⟨g_r, 0, none⟩) (by show w.heap.size ≤ g_r; omega) _).setCell (p := ⟨g_r, 1, none⟩) (by show w.heap.size ≤ g_r; omega) _).setCell (p := ⟨g_r, 2, none⟩) (by show w.heap.size ≤ g_r; omega) _).setCell (p := ⟨g_r, 3, none⟩) (by show w.heap.size ≤ g_r; omega) _).setCell (p := ⟨g_r, 4, none⟩) (by show w.heap.size ≤ g_r; omega) _).setCell (p := ⟨g_r, 5, none⟩) (by show w.heap.size ≤ g_r; omega) _).setCell (p := ⟨g_r, 6, none⟩) (by show w.heap.size ≤ g_r; omega) _).setCell (p := ⟨g_r, 7, none⟩) (by show w.heap.size ≤ g_r; omega) _).setCell (p := ⟨g_r, 8, none⟩) (by show w.heap.size ≤ g_r; omega) _).setCell (p := ⟨g_r, 9, none⟩) (by show w.heap.size ≤ g_r; omega) _).setCell (p := ⟨g_r, 10, none⟩) (by show w.heap.size ≤ g_r; omega) _).setCell (p := ⟨g_r, 11, none⟩) (by show w.heap.size ≤ g_r; omega) _)⟩

set_option maxRecDepth 100000 in
set_option maxHeartbeats 4000000 in
theorem ref8_Turned (axis h : Int) (w : World) (hh : I64 h) :
    Calls Try.prog 13 #[.int .i64 axis, .int .i64 h] w fun en w' => en = .returned (.agg (p12 (pTurned axis h))) ∧ Below w.heap.size w w' := by
  have K := Lib.hid (fun w => ref8_None w)
  have C := Lib.hid (fun w => below_of_same (fun w => ref5_Cos h w hh) w)
  have S := Lib.hid (fun w => below_of_same (fun w => ref5_Sin h w hh) w)
  have b1 := sinI_range h
  unfold pTurned
  generalize cosI h = c at *
  generalize sinI h = s at *
  have e1 : wrap64 (-s) = -s := by unfold wrap64; omega
  clear b1 hh
  have hc : axis = 0 ∨ axis = 1 ∨ axis = 2 ∨ (¬ axis = 0 ∧ ¬ axis = 1 ∧ ¬ axis = 2) := by omega
  rcases hc with rfl | rfl | rfl | ⟨h0, h1, h2⟩
  · rw [if_pos rfl]
    unfold p12
    dsimp only
    go_enter Try.func13, Try.ntmps13
    go_upto_region 1 with (fail)
    obtain ⟨W1, hW1⟩ : ∃ W, W = w.alloc (.cells #[.int .i64 0, .int .i64 0, .int .i64 0, .int .i64 0, .int .i64 0, .int .i64 0, .int .i64 0, .int .i64 0, .int .i64 0, .int .i64 0, .int .i64 0, .int .i64 0] 25) := ⟨_, rfl⟩
    have B1 : Below w.heap.size w W1 := by rw [hW1]; go_grown
    have k_r : Bk W1 (w.heap.size) 25 #[.int .i64 0, .int .i64 0, .int .i64 0, .int .i64 0, .int .i64 0, .int .i64 0, .int .i64 0, .int .i64 0, .int .i64 0, .int .i64 0, .int .i64 0, .int .i64 0] := by rw [hW1]; exact Bk.new _ _ _
    rw [← hW1]
    clear hW1
    have c_r_0 : ∀ p : BW W1, p.w.cell? ⟨w.heap.size, 0, none⟩ = some (.int .i64 0) := bw_cell (k_r.cell rfl)
    have c_r_1 : ∀ p : BW W1, p.w.cell? ⟨w.heap.size, 1, none⟩ = some (.int .i64 0) := bw_cell (k_r.cell rfl)
    have c_r_2 : ∀ p : BW W1, p.w.cell? ⟨w.heap.size, 2, none⟩ = some (.int .i64 0) := bw_cell (k_r.cell rfl)
    have c_r_3 : ∀ p : BW W1, p.w.cell? ⟨w.heap.size, 3, none⟩ = some (.int .i64 0) := bw_cell (k_r.cell rfl)
    have c_r_4 : ∀ p : BW W1, p.w.cell? ⟨w.heap.size, 4, none⟩ = some (.int .i64 0) := bw_cell (k_r.cell rfl)
    have c_r_5 : ∀ p : BW W1, p.w.cell? ⟨w.heap.size, 5, none⟩ = some (.int .i64 0) := bw_cell (k_r.cell rfl)
    have c_r_6 : ∀ p : BW W1, p.w.cell? ⟨w.heap.size, 6, none⟩ = some (.int .i64 0) := bw_cell (k_r.cell rfl)
    have c_r_7 : ∀ p : BW W1, p.w.cell? ⟨w.heap.size, 7, none⟩ = some (.int .i64 0) := bw_cell (k_r.cell rfl)
    have c_r_8 : ∀ p : BW W1, p.w.cell? ⟨w.heap.size, 8, none⟩ = some (.int .i64 0) := bw_cell (k_r.cell rfl)
    have c_r_9 : ∀ p : BW W1, p.w.cell? ⟨w.heap.size, 9, none⟩ = some (.int .i64 0) := bw_cell (k_r.cell rfl)
    have c_r_10 : ∀ p : BW W1, p.w.cell? ⟨w.heap.size, 10, none⟩ = some (.int .i64 0) := bw_cell (k_r.cell rfl)
    have c_r_11 : ∀ p : BW W1, p.w.cell? ⟨w.heap.size, 11, none⟩ = some (.int .i64 0) := bw_cell (k_r.cell rfl)
    obtain ⟨p1, hp1⟩ : ∃ p : BW W1, p.w = W1 := ⟨BW.start W1, rfl⟩
    rw [← hp1]
    clear hp1
    go_upto_region 2 with (first
      | (go_at_call 11; (first | (with_reducible refine (bw_call K.out _).mono ?_)); rintro e w' ⟨rfl, q, rfl⟩))
    obtain ⟨W2, hW2⟩ : ∃ W, W = q.w.alloc (.cells #[.int .i64 16384, .int .i64 0, .int .i64 0, .int .i64 0, .int .i64 16384, .int .i64 0, .int .i64 0, .int .i64 0, .int .i64 16384, .int .i64 0, .int .i64 0, .int .i64 0] 25) := ⟨_, rfl⟩
    have B2 : Below w.heap.size w W2 := by rw [hW2]; exact (bw_below B1 q).alloc (bw_below B1 q).size _
    have l_p : w.heap.size < q.w.heap.size := (k_r.below q.h).lt
    have k_r := (k_r.below q.h).alloc (.cells #[.int .i64 16384, .int .i64 0, .int .i64 0, .int .i64 0, .int .i64 16384, .int .i64 0, .int .i64 0, .int .i64 0, .int .i64 16384, .int .i64 0, .int .i64 0, .int .i64 0] 25)
    rw [← hW2] at k_r
    have k_p : Bk W2 q.w.heap.size 25 #[.int .i64 16384, .int .i64 0, .int .i64 0, .int .i64 0, .int .i64 16384, .int .i64 0, .int .i64 0, .int .i64 0, .int .i64 16384, .int .i64 0, .int .i64 0, .int .i64 0] := by rw [hW2]; exact Bk.new _ _ _
    rw [← hW2]
    clear hW2
    clear B1
    clear c_r_0 c_r_1 c_r_2 c_r_3 c_r_4 c_r_5 c_r_6 c_r_7 c_r_8 c_r_9 c_r_10 c_r_11
    generalize q.w.heap.size = g_p at *
    have c_r_0 : ∀ p : BW W2, p.w.cell? ⟨w.heap.size, 0, none⟩ = some (.int .i64 0) := bw_cell (k_r.cell rfl)
    have c_r_1 : ∀ p : BW W2, p.w.cell? ⟨w.heap.size, 1, none⟩ = some (.int .i64 0) := bw_cell (k_r.cell rfl)
    have c_r_2 : ∀ p : BW W2, p.w.cell? ⟨w.heap.size, 2, none⟩ = some (.int .i64 0) := bw_cell (k_r.cell rfl)
    have c_r_3 : ∀ p : BW W2, p.w.cell? ⟨w.heap.size, 3, none⟩ = some (.int .i64 0) := bw_cell (k_r.cell rfl)
    have c_r_4 : ∀ p : BW W2, p.w.cell? ⟨w.heap.size, 4, none⟩ = some (.int .i64 0) := bw_cell (k_r.cell rfl)
    have c_r_5 : ∀ p : BW W2, p.w.cell? ⟨w.heap.size, 5, none⟩ = some (.int .i64 0) := bw_cell (k_r.cell rfl)
    have c_r_6 : ∀ p : BW W2, p.w.cell? ⟨w.heap.size, 6, none⟩ = some (.int .i64 0) := bw_cell (k_r.cell rfl)
    have c_r_7 : ∀ p : BW W2, p.w.cell? ⟨w.heap.size, 7, none⟩ = some (.int .i64 0) := bw_cell (k_r.cell rfl)
    have c_r_8 : ∀ p : BW W2, p.w.cell? ⟨w.heap.size, 8, none⟩ = some (.int .i64 0) := bw_cell (k_r.cell rfl)
    have c_r_9 : ∀ p : BW W2, p.w.cell? ⟨w.heap.size, 9, none⟩ = some (.int .i64 0) := bw_cell (k_r.cell rfl)
    have c_r_10 : ∀ p : BW W2, p.w.cell? ⟨w.heap.size, 10, none⟩ = some (.int .i64 0) := bw_cell (k_r.cell rfl)
    have c_r_11 : ∀ p : BW W2, p.w.cell? ⟨w.heap.size, 11, none⟩ = some (.int .i64 0) := bw_cell (k_r.cell rfl)
    have c_p_0 : ∀ p : BW W2, p.w.cell? ⟨g_p, 0, none⟩ = some (.int .i64 16384) := bw_cell (k_p.cell rfl)
    have f_p_0 : ∀ p : BW W2, p.w.frozen? ⟨g_p, 0, none⟩ = false := fun p => (k_p.below p.h).frozen 0
    have c_p_1 : ∀ p : BW W2, p.w.cell? ⟨g_p, 1, none⟩ = some (.int .i64 0) := bw_cell (k_p.cell rfl)
    have f_p_1 : ∀ p : BW W2, p.w.frozen? ⟨g_p, 1, none⟩ = false := fun p => (k_p.below p.h).frozen 1
    have c_p_2 : ∀ p : BW W2, p.w.cell? ⟨g_p, 2, none⟩ = some (.int .i64 0) := bw_cell (k_p.cell rfl)
    have f_p_2 : ∀ p : BW W2, p.w.frozen? ⟨g_p, 2, none⟩ = false := fun p => (k_p.below p.h).frozen 2
    have c_p_3 : ∀ p : BW W2, p.w.cell? ⟨g_p, 3, none⟩ = some (.int .i64 0) := bw_cell (k_p.cell rfl)
    have f_p_3 : ∀ p : BW W2, p.w.frozen? ⟨g_p, 3, none⟩ = false := fun p => (k_p.below p.h).frozen 3
    have c_p_4 : ∀ p : BW W2, p.w.cell? ⟨g_p, 4, none⟩ = some (.int .i64 16384) := bw_cell (k_p.cell rfl)
    have f_p_4 : ∀ p : BW W2, p.w.frozen? ⟨g_p, 4, none⟩ = false := fun p => (k_p.below p.h).frozen 4
    have c_p_5 : ∀ p : BW W2, p.w.cell? ⟨g_p, 5, none⟩ = some (.int .i64 0) := bw_cell (k_p.cell rfl)
    have f_p_5 : ∀ p : BW W2, p.w.frozen? ⟨g_p, 5, none⟩ = false := fun p => (k_p.below p.h).frozen 5
    have c_p_6 : ∀ p : BW W2, p.w.cell? ⟨g_p, 6, none⟩ = some (.int .i64 0) := bw_cell (k_p.cell rfl)
    have f_p_6 : ∀ p : BW W2, p.w.frozen? ⟨g_p, 6, none⟩ = false := fun p => (k_p.below p.h).frozen 6
    have c_p_7 : ∀ p : BW W2, p.w.cell? ⟨g_p, 7, none⟩ = some (.int .i64 0) := bw_cell (k_p.cell rfl)
    have f_p_7 : ∀ p : BW W2, p.w.frozen? ⟨g_p, 7, none⟩ = false := fun p => (k_p.below p.h).frozen 7
    have c_p_8 : ∀ p : BW W2, p.w.cell? ⟨g_p, 8, none⟩ = some (.int .i64 16384) := bw_cell (k_p.cell rfl)
    have f_p_8 : ∀ p : BW W2, p.w.frozen? ⟨g_p, 8, none⟩ = false := fun p => (k_p.below p.h).frozen 8
    have c_p_9 : ∀ p : BW W2, p.w.cell? ⟨g_p, 9, none⟩ = some (.int .i64 0) := bw_cell (k_p.cell rfl)
    have f_p_9 : ∀ p : BW W2, p.w.frozen? ⟨g_p, 9, none⟩ = false := fun p => (k_p.below p.h).frozen 9
    have c_p_10 : ∀ p : BW W2, p.w.cell? ⟨g_p, 10, none⟩ = some (.int .i64 0) := bw_cell (k_p.cell rfl)
    have f_p_10 : ∀ p : BW W2, p.w.frozen? ⟨g_p, 10, none⟩ = false := fun p => (k_p.below p.h).frozen 10
    have c_p_11 : ∀ p : BW W2, p.w.cell? ⟨g_p, 11, none⟩ = some (.int .i64 0) := bw_cell (k_p.cell rfl)
    have f_p_11 : ∀ p : BW W2, p.w.frozen? ⟨g_p, 11, none⟩ = false := fun p => (k_p.below p.h).frozen 11
    obtain ⟨p2, hp2⟩ : ∃ p : BW W2, p.w = W2 := ⟨BW.start W2, rfl⟩
    rw [← hp2]
    clear hp2
    go_upto_region 12 with (first
      | (go_at_call 31; (first | (with_reducible refine (bw_call C.out _).mono ?_)); rintro e w' ⟨rfl, q, rfl⟩)
      | (go_at_call 32; (first | (with_reducible refine (bw_call S.out _).mono ?_)); rintro e w' ⟨rfl, q, rfl⟩))
    obtain ⟨W3, hW3⟩ : ∃ W, W = (((((q.w.setCell ⟨g_p, 3, none⟩ (.int .i64 0)).setCell ⟨g_p, 4, none⟩ (.int .i64 c)).setCell ⟨g_p, 5, none⟩ (.int .i64 (-s))).setCell ⟨g_p, 6, none⟩ (.int .i64 0)).setCell ⟨g_p, 7, none⟩ (.int .i64 s)).setCell ⟨g_p, 8, none⟩ (.int .i64 c) := ⟨_, rfl⟩
    have B3 : Below w.heap.size w W3 := by rw [hW3]; exact (((((((bw_below B2 q).setCell (p := ⟨g_p, 3, none⟩) (by show w.heap.size ≤ g_p; omega) _).setCell (p := ⟨g_p, 4, none⟩) (by show w.heap.size ≤ g_p; omega) _).setCell (p := ⟨g_p, 5, none⟩) (by show w.heap.size ≤ g_p; omega) _).setCell (p := ⟨g_p, 6, none⟩) (by show w.heap.size ≤ g_p; omega) _).setCell (p := ⟨g_p, 7, none⟩) (by show w.heap.size ≤ g_p; omega) _).setCell (p := ⟨g_p, 8, none⟩) (by show w.heap.size ≤ g_p; omega) _)
    have k_r : Bk W3 (w.heap.size) 25 #[.int .i64 0, .int .i64 0, .int .i64 0, .int .i64 0, .int .i64 0, .int .i64 0, .int .i64 0, .int .i64 0, .int .i64 0, .int .i64 0, .int .i64 0, .int .i64 0] := by rw [hW3]; exact (((((((k_r.below q.h).other (a := ⟨g_p, 3, none⟩) (by show ¬ w.heap.size = g_p; omega) (.int .i64 0)).other (a := ⟨g_p, 4, none⟩) (by show ¬ w.heap.size = g_p; omega) (.int .i64 c)).other (a := ⟨g_p, 5, none⟩) (by show ¬ w.heap.size = g_p; omega) (.int .i64 (-s))).other (a := ⟨g_p, 6, none⟩) (by show ¬ w.heap.size = g_p; omega) (.int .i64 0)).other (a := ⟨g_p, 7, none⟩) (by show ¬ w.heap.size = g_p; omega) (.int .i64 s)).other (a := ⟨g_p, 8, none⟩) (by show ¬ w.heap.size = g_p; omega) (.int .i64 c))
    have k_p : Bk W3 (g_p) 25 #[.int .i64 16384, .int .i64 0, .int .i64 0, .int .i64 0, .int .i64 c, .int .i64 (-s), .int .i64 0, .int .i64 s, .int .i64 c, .int .i64 0, .int .i64 0, .int .i64 0] := by rw [hW3]; exact (((((((k_p.below q.h).set 3 (.int .i64 0)).set 4 (.int .i64 c)).set 5 (.int .i64 (-s))).set 6 (.int .i64 0)).set 7 (.int .i64 s)).set 8 (.int .i64 c)).cast (by simp)
    rw [← hW3]
    clear hW3
    clear B2
    clear c_r_0 c_r_1 c_r_2 c_r_3 c_r_4 c_r_5 c_r_6 c_r_7 c_r_8 c_r_9 c_r_10 c_r_11 c_p_0 f_p_0 c_p_1 f_p_1 c_p_2 f_p_2 c_p_3 f_p_3 c_p_4 f_p_4 c_p_5 f_p_5 c_p_6 f_p_6 c_p_7 f_p_7 c_p_8 f_p_8 c_p_9 f_p_9 c_p_10 f_p_10 c_p_11 f_p_11
    have c_r_0 : ∀ p : BW W3, p.w.cell? ⟨w.heap.size, 0, none⟩ = some (.int .i64 0) := bw_cell (k_r.cell rfl)
    have f_r_0 : ∀ p : BW W3, p.w.frozen? ⟨w.heap.size, 0, none⟩ = false := fun p => (k_r.below p.h).frozen 0
    have c_r_1 : ∀ p : BW W3, p.w.cell? ⟨w.heap.size, 1, none⟩ = some (.int .i64 0) := bw_cell (k_r.cell rfl)
    have f_r_1 : ∀ p : BW W3, p.w.frozen? ⟨w.heap.size, 1, none⟩ = false := fun p => (k_r.below p.h).frozen 1
    have c_r_2 : ∀ p : BW W3, p.w.cell? ⟨w.heap.size, 2, none⟩ = some (.int .i64 0) := bw_cell (k_r.cell rfl)
    have f_r_2 : ∀ p : BW W3, p.w.frozen? ⟨w.heap.size, 2, none⟩ = false := fun p => (k_r.below p.h).frozen 2
    have c_r_3 : ∀ p : BW W3, p.w.cell? ⟨w.heap.size, 3, none⟩ = some (.int .i64 0) := bw_cell (k_r.cell rfl)
    have f_r_3 : ∀ p : BW W3, p.w.frozen? ⟨w.heap.size, 3, none⟩ = false := fun p => (k_r.below p.h).frozen 3
    have c_r_4 : ∀ p : BW W3, p.w.cell? ⟨w.heap.size, 4, none⟩ = some (.int .i64 0) := bw_cell (k_r.cell rfl)
    have f_r_4 : ∀ p : BW W3, p.w.frozen? ⟨w.heap.size, 4, none⟩ = false := fun p => (k_r.below p.h).frozen 4
    have c_r_5 : ∀ p : BW W3, p.w.cell? ⟨w.heap.size, 5, none⟩ = some (.int .i64 0) := bw_cell (k_r.cell rfl)
    have f_r_5 : ∀ p : BW W3, p.w.frozen? ⟨w.heap.size, 5, none⟩ = false := fun p => (k_r.below p.h).frozen 5
    have c_r_6 : ∀ p : BW W3, p.w.cell? ⟨w.heap.size, 6, none⟩ = some (.int .i64 0) := bw_cell (k_r.cell rfl)
    have f_r_6 : ∀ p : BW W3, p.w.frozen? ⟨w.heap.size, 6, none⟩ = false := fun p => (k_r.below p.h).frozen 6
    have c_r_7 : ∀ p : BW W3, p.w.cell? ⟨w.heap.size, 7, none⟩ = some (.int .i64 0) := bw_cell (k_r.cell rfl)
    have f_r_7 : ∀ p : BW W3, p.w.frozen? ⟨w.heap.size, 7, none⟩ = false := fun p => (k_r.below p.h).frozen 7
    have c_r_8 : ∀ p : BW W3, p.w.cell? ⟨w.heap.size, 8, none⟩ = some (.int .i64 0) := bw_cell (k_r.cell rfl)
    have f_r_8 : ∀ p : BW W3, p.w.frozen? ⟨w.heap.size, 8, none⟩ = false := fun p => (k_r.below p.h).frozen 8
    have c_r_9 : ∀ p : BW W3, p.w.cell? ⟨w.heap.size, 9, none⟩ = some (.int .i64 0) := bw_cell (k_r.cell rfl)
    have f_r_9 : ∀ p : BW W3, p.w.frozen? ⟨w.heap.size, 9, none⟩ = false := fun p => (k_r.below p.h).frozen 9
    have c_r_10 : ∀ p : BW W3, p.w.cell? ⟨w.heap.size, 10, none⟩ = some (.int .i64 0) := bw_cell (k_r.cell rfl)
    have f_r_10 : ∀ p : BW W3, p.w.frozen? ⟨w.heap.size, 10, none⟩ = false := fun p => (k_r.below p.h).frozen 10
    have c_r_11 : ∀ p : BW W3, p.w.cell? ⟨w.heap.size, 11, none⟩ = some (.int .i64 0) := bw_cell (k_r.cell rfl)
    have f_r_11 : ∀ p : BW W3, p.w.frozen? ⟨w.heap.size, 11, none⟩ = false := fun p => (k_r.below p.h).frozen 11
    have c_p_0 : ∀ p : BW W3, p.w.cell? ⟨g_p, 0, none⟩ = some (.int .i64 16384) := bw_cell (k_p.cell rfl)
    have c_p_1 : ∀ p : BW W3, p.w.cell? ⟨g_p, 1, none⟩ = some (.int .i64 0) := bw_cell (k_p.cell rfl)
    have c_p_2 : ∀ p : BW W3, p.w.cell? ⟨g_p, 2, none⟩ = some (.int .i64 0) := bw_cell (k_p.cell rfl)
    have c_p_3 : ∀ p : BW W3, p.w.cell? ⟨g_p, 3, none⟩ = some (.int .i64 0) := bw_cell (k_p.cell rfl)
    have c_p_4 : ∀ p : BW W3, p.w.cell? ⟨g_p, 4, none⟩ = some (.int .i64 c) := bw_cell (k_p.cell rfl)
    have c_p_5 : ∀ p : BW W3, p.w.cell? ⟨g_p, 5, none⟩ = some (.int .i64 (-s)) := bw_cell (k_p.cell rfl)
    have c_p_6 : ∀ p : BW W3, p.w.cell? ⟨g_p, 6, none⟩ = some (.int .i64 0) := bw_cell (k_p.cell rfl)
    have c_p_7 : ∀ p : BW W3, p.w.cell? ⟨g_p, 7, none⟩ = some (.int .i64 s) := bw_cell (k_p.cell rfl)
    have c_p_8 : ∀ p : BW W3, p.w.cell? ⟨g_p, 8, none⟩ = some (.int .i64 c) := bw_cell (k_p.cell rfl)
    have c_p_9 : ∀ p : BW W3, p.w.cell? ⟨g_p, 9, none⟩ = some (.int .i64 0) := bw_cell (k_p.cell rfl)
    have c_p_10 : ∀ p : BW W3, p.w.cell? ⟨g_p, 10, none⟩ = some (.int .i64 0) := bw_cell (k_p.cell rfl)
    have c_p_11 : ∀ p : BW W3, p.w.cell? ⟨g_p, 11, none⟩ = some (.int .i64 0) := bw_cell (k_p.cell rfl)
    obtain ⟨p3, hp3⟩ : ∃ p : BW W3, p.w = W3 := ⟨BW.start W3, rfl⟩
    rw [← hp3]
    clear hp3
    go_wp2
    have kr : Bk ((((((((((((p3.w.setCell ⟨w.heap.size, 0, none⟩ (.int .i64 16384)).setCell ⟨w.heap.size, 1, none⟩ (.int .i64 0)).setCell ⟨w.heap.size, 2, none⟩ (.int .i64 0)).setCell ⟨w.heap.size, 3, none⟩ (.int .i64 0)).setCell ⟨w.heap.size, 4, none⟩ (.int .i64 c)).setCell ⟨w.heap.size, 5, none⟩ (.int .i64 (-s))).setCell ⟨w.heap.size, 6, none⟩ (.int .i64 0)).setCell ⟨w.heap.size, 7, none⟩ (.int .i64 s)).setCell ⟨w.heap.size, 8, none⟩ (.int .i64 c)).setCell ⟨w.heap.size, 9, none⟩ (.int .i64 0)).setCell ⟨w.heap.size, 10, none⟩ (.int .i64 0)).setCell ⟨w.heap.size, 11, none⟩ (.int .i64 0)) (w.heap.size) 25 #[.int .i64 16384, .int .i64 0, .int .i64 0, .int .i64 0, .int .i64 c, .int .i64 (-s), .int .i64 0, .int .i64 s, .int .i64 c, .int .i64 0, .int .i64 0, .int .i64 0] := (((((((((((((k_r.below p3.h).set 0 (.int .i64 16384)).set 1 (.int .i64 0)).set 2 (.int .i64 0)).set 3 (.int .i64 0)).set 4 (.int .i64 c)).set 5 (.int .i64 (-s))).set 6 (.int .i64 0)).set 7 (.int .i64 s)).set 8 (.int .i64 c)).set 9 (.int .i64 0)).set 10 (.int .i64 0)).set 11 (.int .i64 0)).cast (by simp)
    have rc0 : World.cell? ((((((((((((p3.w.setCell ⟨w.heap.size, 0, none⟩ (.int .i64 16384)).setCell ⟨w.heap.size, 1, none⟩ (.int .i64 0)).setCell ⟨w.heap.size, 2, none⟩ (.int .i64 0)).setCell ⟨w.heap.size, 3, none⟩ (.int .i64 0)).setCell ⟨w.heap.size, 4, none⟩ (.int .i64 c)).setCell ⟨w.heap.size, 5, none⟩ (.int .i64 (-s))).setCell ⟨w.heap.size, 6, none⟩ (.int .i64 0)).setCell ⟨w.heap.size, 7, none⟩ (.int .i64 s)).setCell ⟨w.heap.size, 8, none⟩ (.int .i64 c)).setCell ⟨w.heap.size, 9, none⟩ (.int .i64 0)).setCell ⟨w.heap.size, 10, none⟩ (.int .i64 0)).setCell ⟨w.heap.size, 11, none⟩ (.int .i64 0)) ⟨w.heap.size, 0, none⟩ = some (.int .i64 16384) := kr.cell rfl
    have rc1 : World.cell? ((((((((((((p3.w.setCell ⟨w.heap.size, 0, none⟩ (.int .i64 16384)).setCell ⟨w.heap.size, 1, none⟩ (.int .i64 0)).setCell ⟨w.heap.size, 2, none⟩ (.int .i64 0)).setCell ⟨w.heap.size, 3, none⟩ (.int .i64 0)).setCell ⟨w.heap.size, 4, none⟩ (.int .i64 c)).setCell ⟨w.heap.size, 5, none⟩ (.int .i64 (-s))).setCell ⟨w.heap.size, 6, none⟩ (.int .i64 0)).setCell ⟨w.heap.size, 7, none⟩ (.int .i64 s)).setCell ⟨w.heap.size, 8, none⟩ (.int .i64 c)).setCell ⟨w.heap.size, 9, none⟩ (.int .i64 0)).setCell ⟨w.heap.size, 10, none⟩ (.int .i64 0)).setCell ⟨w.heap.size, 11, none⟩ (.int .i64 0)) ⟨w.heap.size, 1, none⟩ = some (.int .i64 0) := kr.cell rfl
    have rc2 : World.cell? ((((((((((((p3.w.setCell ⟨w.heap.size, 0, none⟩ (.int .i64 16384)).setCell ⟨w.heap.size, 1, none⟩ (.int .i64 0)).setCell ⟨w.heap.size, 2, none⟩ (.int .i64 0)).setCell ⟨w.heap.size, 3, none⟩ (.int .i64 0)).setCell ⟨w.heap.size, 4, none⟩ (.int .i64 c)).setCell ⟨w.heap.size, 5, none⟩ (.int .i64 (-s))).setCell ⟨w.heap.size, 6, none⟩ (.int .i64 0)).setCell ⟨w.heap.size, 7, none⟩ (.int .i64 s)).setCell ⟨w.heap.size, 8, none⟩ (.int .i64 c)).setCell ⟨w.heap.size, 9, none⟩ (.int .i64 0)).setCell ⟨w.heap.size, 10, none⟩ (.int .i64 0)).setCell ⟨w.heap.size, 11, none⟩ (.int .i64 0)) ⟨w.heap.size, 2, none⟩ = some (.int .i64 0) := kr.cell rfl
    have rc3 : World.cell? ((((((((((((p3.w.setCell ⟨w.heap.size, 0, none⟩ (.int .i64 16384)).setCell ⟨w.heap.size, 1, none⟩ (.int .i64 0)).setCell ⟨w.heap.size, 2, none⟩ (.int .i64 0)).setCell ⟨w.heap.size, 3, none⟩ (.int .i64 0)).setCell ⟨w.heap.size, 4, none⟩ (.int .i64 c)).setCell ⟨w.heap.size, 5, none⟩ (.int .i64 (-s))).setCell ⟨w.heap.size, 6, none⟩ (.int .i64 0)).setCell ⟨w.heap.size, 7, none⟩ (.int .i64 s)).setCell ⟨w.heap.size, 8, none⟩ (.int .i64 c)).setCell ⟨w.heap.size, 9, none⟩ (.int .i64 0)).setCell ⟨w.heap.size, 10, none⟩ (.int .i64 0)).setCell ⟨w.heap.size, 11, none⟩ (.int .i64 0)) ⟨w.heap.size, 3, none⟩ = some (.int .i64 0) := kr.cell rfl
    have rc4 : World.cell? ((((((((((((p3.w.setCell ⟨w.heap.size, 0, none⟩ (.int .i64 16384)).setCell ⟨w.heap.size, 1, none⟩ (.int .i64 0)).setCell ⟨w.heap.size, 2, none⟩ (.int .i64 0)).setCell ⟨w.heap.size, 3, none⟩ (.int .i64 0)).setCell ⟨w.heap.size, 4, none⟩ (.int .i64 c)).setCell ⟨w.heap.size, 5, none⟩ (.int .i64 (-s))).setCell ⟨w.heap.size, 6, none⟩ (.int .i64 0)).setCell ⟨w.heap.size, 7, none⟩ (.int .i64 s)).setCell ⟨w.heap.size, 8, none⟩ (.int .i64 c)).setCell ⟨w.heap.size, 9, none⟩ (.int .i64 0)).setCell ⟨w.heap.size, 10, none⟩ (.int .i64 0)).setCell ⟨w.heap.size, 11, none⟩ (.int .i64 0)) ⟨w.heap.size, 4, none⟩ = some (.int .i64 c) := kr.cell rfl
    have rc5 : World.cell? ((((((((((((p3.w.setCell ⟨w.heap.size, 0, none⟩ (.int .i64 16384)).setCell ⟨w.heap.size, 1, none⟩ (.int .i64 0)).setCell ⟨w.heap.size, 2, none⟩ (.int .i64 0)).setCell ⟨w.heap.size, 3, none⟩ (.int .i64 0)).setCell ⟨w.heap.size, 4, none⟩ (.int .i64 c)).setCell ⟨w.heap.size, 5, none⟩ (.int .i64 (-s))).setCell ⟨w.heap.size, 6, none⟩ (.int .i64 0)).setCell ⟨w.heap.size, 7, none⟩ (.int .i64 s)).setCell ⟨w.heap.size, 8, none⟩ (.int .i64 c)).setCell ⟨w.heap.size, 9, none⟩ (.int .i64 0)).setCell ⟨w.heap.size, 10, none⟩ (.int .i64 0)).setCell ⟨w.heap.size, 11, none⟩ (.int .i64 0)) ⟨w.heap.size, 5, none⟩ = some (.int .i64 (-s)) := kr.cell rfl
    have rc6 : World.cell? ((((((((((((p3.w.setCell ⟨w.heap.size, 0, none⟩ (.int .i64 16384)).setCell ⟨w.heap.size, 1, none⟩ (.int .i64 0)).setCell ⟨w.heap.size, 2, none⟩ (.int .i64 0)).setCell ⟨w.heap.size, 3, none⟩ (.int .i64 0)).setCell ⟨w.heap.size, 4, none⟩ (.int .i64 c)).setCell ⟨w.heap.size, 5, none⟩ (.int .i64 (-s))).setCell ⟨w.heap.size, 6, none⟩ (.int .i64 0)).setCell ⟨w.heap.size, 7, none⟩ (.int .i64 s)).setCell ⟨w.heap.size, 8, none⟩ (.int .i64 c)).setCell ⟨w.heap.size, 9, none⟩ (.int .i64 0)).setCell ⟨w.heap.size, 10, none⟩ (.int .i64 0)).setCell ⟨w.heap.size, 11, none⟩ (.int .i64 0)) ⟨w.heap.size, 6, none⟩ = some (.int .i64 0) := kr.cell rfl
    have rc7 : World.cell? ((((((((((((p3.w.setCell ⟨w.heap.size, 0, none⟩ (.int .i64 16384)).setCell ⟨w.heap.size, 1, none⟩ (.int .i64 0)).setCell ⟨w.heap.size, 2, none⟩ (.int .i64 0)).setCell ⟨w.heap.size, 3, none⟩ (.int .i64 0)).setCell ⟨w.heap.size, 4, none⟩ (.int .i64 c)).setCell ⟨w.heap.size, 5, none⟩ (.int .i64 (-s))).setCell ⟨w.heap.size, 6, none⟩ (.int .i64 0)).setCell ⟨w.heap.size, 7, none⟩ (.int .i64 s)).setCell ⟨w.heap.size, 8, none⟩ (.int .i64 c)).setCell ⟨w.heap.size, 9, none⟩ (.int .i64 0)).setCell ⟨w.heap.size, 10, none⟩ (.int .i64 0)).setCell ⟨w.heap.size, 11, none⟩ (.int .i64 0)) ⟨w.heap.size, 7, none⟩ = some (.int .i64 s) := kr.cell rfl
    have rc8 : World.cell? ((((((((((((p3.w.setCell ⟨w.heap.size, 0, none⟩ (.int .i64 16384)).setCell ⟨w.heap.size, 1, none⟩ (.int .i64 0)).setCell ⟨w.heap.size, 2, none⟩ (.int .i64 0)).setCell ⟨w.heap.size, 3, none⟩ (.int .i64 0)).setCell ⟨w.heap.size, 4, none⟩ (.int .i64 c)).setCell ⟨w.heap.size, 5, none⟩ (.int .i64 (-s))).setCell ⟨w.heap.size, 6, none⟩ (.int .i64 0)).setCell ⟨w.heap.size, 7, none⟩ (.int .i64 s)).setCell ⟨w.heap.size, 8, none⟩ (.int .i64 c)).setCell ⟨w.heap.size, 9, none⟩ (.int .i64 0)).setCell ⟨w.heap.size, 10, none⟩ (.int .i64 0)).setCell ⟨w.heap.size, 11, none⟩ (.int .i64 0)) ⟨w.heap.size, 8, none⟩ = some (.int .i64 c) := kr.cell rfl
    have rc9 : World.cell? ((((((((((((p3.w.setCell ⟨w.heap.size, 0, none⟩ (.int .i64 16384)).setCell ⟨w.heap.size, 1, none⟩ (.int .i64 0)).setCell ⟨w.heap.size, 2, none⟩ (.int .i64 0)).setCell ⟨w.heap.size, 3, none⟩ (.int .i64 0)).setCell ⟨w.heap.size, 4, none⟩ (.int .i64 c)).setCell ⟨w.heap.size, 5, none⟩ (.int .i64 (-s))).setCell ⟨w.heap.size, 6, none⟩ (.int .i64 0)).setCell ⟨w.heap.size, 7, none⟩ (.int .i64 s)).setCell ⟨w.heap.size, 8, none⟩ (.int .i64 c)).setCell ⟨w.heap.size, 9, none⟩ (.int .i64 0)).setCell ⟨w.heap.size, 10, none⟩ (.int .i64 0)).setCell ⟨w.heap.size, 11, none⟩ (.int .i64 0)) ⟨w.heap.size, 9, none⟩ = some (.int .i64 0) := kr.cell rfl
    have rc10 : World.cell? ((((((((((((p3.w.setCell ⟨w.heap.size, 0, none⟩ (.int .i64 16384)).setCell ⟨w.heap.size, 1, none⟩ (.int .i64 0)).setCell ⟨w.heap.size, 2, none⟩ (.int .i64 0)).setCell ⟨w.heap.size, 3, none⟩ (.int .i64 0)).setCell ⟨w.heap.size, 4, none⟩ (.int .i64 c)).setCell ⟨w.heap.size, 5, none⟩ (.int .i64 (-s))).setCell ⟨w.heap.size, 6, none⟩ (.int .i64 0)).setCell ⟨w.heap.size, 7, none⟩ (.int .i64 s)).setCell ⟨w.heap.size, 8, none⟩ (.int .i64 c)).setCell ⟨w.heap.size, 9, none⟩ (.int .i64 0)).setCell ⟨w.heap.size, 10, none⟩ (.int .i64 0)).setCell ⟨w.heap.size, 11, none⟩ (.int .i64 0)) ⟨w.heap.size, 10, none⟩ = some (.int .i64 0) := kr.cell rfl
    have rc11 : World.cell? ((((((((((((p3.w.setCell ⟨w.heap.size, 0, none⟩ (.int .i64 16384)).setCell ⟨w.heap.size, 1, none⟩ (.int .i64 0)).setCell ⟨w.heap.size, 2, none⟩ (.int .i64 0)).setCell ⟨w.heap.size, 3, none⟩ (.int .i64 0)).setCell ⟨w.heap.size, 4, none⟩ (.int .i64 c)).setCell ⟨w.heap.size, 5, none⟩ (.int .i64 (-s))).setCell ⟨w.heap.size, 6, none⟩ (.int .i64 0)).setCell ⟨w.heap.size, 7, none⟩ (.int .i64 s)).setCell ⟨w.heap.size, 8, none⟩ (.int .i64 c)).setCell ⟨w.heap.size, 9, none⟩ (.int .i64 0)).setCell ⟨w.heap.size, 10, none⟩ (.int .i64 0)).setCell ⟨w.heap.size, 11, none⟩ (.int .i64 0)) ⟨w.heap.size, 11, none⟩ = some (.int .i64 0) := kr.cell rfl
    exact bodyPost_ret (v := .agg #[.int .i64 16384, .int .i64 0, .int .i64 0, .int .i64 0, .int .i64 c, .int .i64 (-s), .int .i64 0, .int .i64 s, .int .i64 c, .int .i64 0, .int .i64 0, .int .i64 0]) (by simp [results, Try.results13, go_sem, rc0, rc1, rc2, rc3, rc4, rc5, rc6, rc7, rc8, rc9, rc10, rc11]) rfl ⟨rfl, (((((((((((((bw_below B3 p3).setCell (p := ⟨w.heap.size, 0, none⟩) (by show w.heap.size ≤ w.heap.size; omega) _).setCell (p := ⟨w.heap.size, 1, none⟩) (by show w.heap.size ≤ w.heap.size; omega) _).setCell (p := ⟨w.heap.size, 2, none⟩) (by show w.heap.size ≤ w.heap.size; omega) _).setCell (p := ⟨w.heap.size, 3, none⟩) (by show w.heap.size ≤ w.heap.size; omega) _).setCell (p := ⟨w.heap.size, 4, none⟩) (by show w.heap.size ≤ w.heap.size; omega) _).setCell (p := ⟨w.heap.size, 5, none⟩) (by show w.heap.size ≤ w.heap.size; omega) _).setCell (p := ⟨w.heap.size, 6, none⟩) (by show w.heap.size ≤ w.heap.size; omega) _).setCell (p := ⟨w.heap.size, 7, none⟩) (by show w.heap.size ≤ w.heap.size; omega) _).setCell (p := ⟨w.heap.size, 8, none⟩) (by show w.heap.size ≤ w.heap.size; omega) _).setCell (p := ⟨w.heap.size, 9, none⟩) (by show w.heap.size ≤ w.heap.size; omega) _).setCell (p := ⟨w.heap.size, 10, none⟩) (by show w.heap.size ≤ w.heap.size; omega) _).setCell (p := ⟨w.heap.size, 11, none⟩) (by show w.heap.size ≤ w.heap.size; omega) _)⟩
  · rw [if_neg (by decide), if_pos rfl]
    unfold p12
    dsimp only
    go_enter Try.func13, Try.ntmps13
    go_upto_region 1 with (fail)
    obtain ⟨W1, hW1⟩ : ∃ W, W = w.alloc (.cells #[.int .i64 0, .int .i64 0, .int .i64 0, .int .i64 0, .int .i64 0, .int .i64 0, .int .i64 0, .int .i64 0, .int .i64 0, .int .i64 0, .int .i64 0, .int .i64 0] 25) := ⟨_, rfl⟩
    have B1 : Below w.heap.size w W1 := by rw [hW1]; go_grown
    have k_r : Bk W1 (w.heap.size) 25 #[.int .i64 0, .int .i64 0, .int .i64 0, .int .i64 0, .int .i64 0, .int .i64 0, .int .i64 0, .int .i64 0, .int .i64 0, .int .i64 0, .int .i64 0, .int .i64 0] := by rw [hW1]; exact Bk.new _ _ _
    rw [← hW1]
    clear hW1
    have c_r_0 : ∀ p : BW W1, p.w.cell? ⟨w.heap.size, 0, none⟩ = some (.int .i64 0) := bw_cell (k_r.cell rfl)
    have c_r_1 : ∀ p : BW W1, p.w.cell? ⟨w.heap.size, 1, none⟩ = some (.int .i64 0) := bw_cell (k_r.cell rfl)
    have c_r_2 : ∀ p : BW W1, p.w.cell? ⟨w.heap.size, 2, none⟩ = some (.int .i64 0) := bw_cell (k_r.cell rfl)
    have c_r_3 : ∀ p : BW W1, p.w.cell? ⟨w.heap.size, 3, none⟩ = some (.int .i64 0) := bw_cell (k_r.cell rfl)
    have c_r_4 : ∀ p : BW W1, p.w.cell? ⟨w.heap.size, 4, none⟩ = some (.int .i64 0) := bw_cell (k_r.cell rfl)
    have c_r_5 : ∀ p : BW W1, p.w.cell? ⟨w.heap.size, 5, none⟩ = some (.int .i64 0) := bw_cell (k_r.cell rfl)
    have c_r_6 : ∀ p : BW W1, p.w.cell? ⟨w.heap.size, 6, none⟩ = some (.int .i64 0) := bw_cell (k_r.cell rfl)
    have c_r_7 : ∀ p : BW W1, p.w.cell? ⟨w.heap.size, 7, none⟩ = some (.int .i64 0) := bw_cell (k_r.cell rfl)
    have c_r_8 : ∀ p : BW W1, p.w.cell? ⟨w.heap.size, 8, none⟩ = some (.int .i64 0) := bw_cell (k_r.cell rfl)
    have c_r_9 : ∀ p : BW W1, p.w.cell? ⟨w.heap.size, 9, none⟩ = some (.int .i64 0) := bw_cell (k_r.cell rfl)
    have c_r_10 : ∀ p : BW W1, p.w.cell? ⟨w.heap.size, 10, none⟩ = some (.int .i64 0) := bw_cell (k_r.cell rfl)
    have c_r_11 : ∀ p : BW W1, p.w.cell? ⟨w.heap.size, 11, none⟩ = some (.int .i64 0) := bw_cell (k_r.cell rfl)
    obtain ⟨p1, hp1⟩ : ∃ p : BW W1, p.w = W1 := ⟨BW.start W1, rfl⟩
    rw [← hp1]
    clear hp1
    go_upto_region 2 with (first
      | (go_at_call 11; (first | (with_reducible refine (bw_call K.out _).mono ?_)); rintro e w' ⟨rfl, q, rfl⟩))
    obtain ⟨W2, hW2⟩ : ∃ W, W = q.w.alloc (.cells #[.int .i64 16384, .int .i64 0, .int .i64 0, .int .i64 0, .int .i64 16384, .int .i64 0, .int .i64 0, .int .i64 0, .int .i64 16384, .int .i64 0, .int .i64 0, .int .i64 0] 25) := ⟨_, rfl⟩
    have B2 : Below w.heap.size w W2 := by rw [hW2]; exact (bw_below B1 q).alloc (bw_below B1 q).size _
    have l_p : w.heap.size < q.w.heap.size := (k_r.below q.h).lt
    have k_r := (k_r.below q.h).alloc (.cells #[.int .i64 16384, .int .i64 0, .int .i64 0, .int .i64 0, .int .i64 16384, .int .i64 0, .int .i64 0, .int .i64 0, .int .i64 16384, .int .i64 0, .int .i64 0, .int .i64 0] 25)
    rw [← hW2] at k_r
    have k_p : Bk W2 q.w.heap.size 25 #[.int .i64 16384, .int .i64 0, .int .i64 0, .int .i64 0, .int .i64 16384, .int .i64 0, .int .i64 0, .int .i64 0, .int .i64 16384, .int .i64 0, .int .i64 0, .int .i64 0] := by rw [hW2]; exact Bk.new _ _ _
    rw [← hW2]
    clear hW2
    clear B1
    clear c_r_0 c_r_1 c_r_2 c_r_3 c_r_4 c_r_5 c_r_6 c_r_7 c_r_8 c_r_9 c_r_10 c_r_11
    generalize q.w.heap.size = g_p at *
    have c_r_0 : ∀ p : BW W2, p.w.cell? ⟨w.heap.size, 0, none⟩ = some (.int .i64 0) := bw_cell (k_r.cell rfl)
    have c_r_1 : ∀ p : BW W2, p.w.cell? ⟨w.heap.size, 1, none⟩ = some (.int .i64 0) := bw_cell (k_r.cell rfl)
    have c_r_2 : ∀ p : BW W2, p.w.cell? ⟨w.heap.size, 2, none⟩ = some (.int .i64 0) := bw_cell (k_r.cell rfl)
    have c_r_3 : ∀ p : BW W2, p.w.cell? ⟨w.heap.size, 3, none⟩ = some (.int .i64 0) := bw_cell (k_r.cell rfl)
    have c_r_4 : ∀ p : BW W2, p.w.cell? ⟨w.heap.size, 4, none⟩ = some (.int .i64 0) := bw_cell (k_r.cell rfl)
    have c_r_5 : ∀ p : BW W2, p.w.cell? ⟨w.heap.size, 5, none⟩ = some (.int .i64 0) := bw_cell (k_r.cell rfl)
    have c_r_6 : ∀ p : BW W2, p.w.cell? ⟨w.heap.size, 6, none⟩ = some (.int .i64 0) := bw_cell (k_r.cell rfl)
    have c_r_7 : ∀ p : BW W2, p.w.cell? ⟨w.heap.size, 7, none⟩ = some (.int .i64 0) := bw_cell (k_r.cell rfl)
    have c_r_8 : ∀ p : BW W2, p.w.cell? ⟨w.heap.size, 8, none⟩ = some (.int .i64 0) := bw_cell (k_r.cell rfl)
    have c_r_9 : ∀ p : BW W2, p.w.cell? ⟨w.heap.size, 9, none⟩ = some (.int .i64 0) := bw_cell (k_r.cell rfl)
    have c_r_10 : ∀ p : BW W2, p.w.cell? ⟨w.heap.size, 10, none⟩ = some (.int .i64 0) := bw_cell (k_r.cell rfl)
    have c_r_11 : ∀ p : BW W2, p.w.cell? ⟨w.heap.size, 11, none⟩ = some (.int .i64 0) := bw_cell (k_r.cell rfl)
    have c_p_0 : ∀ p : BW W2, p.w.cell? ⟨g_p, 0, none⟩ = some (.int .i64 16384) := bw_cell (k_p.cell rfl)
    have f_p_0 : ∀ p : BW W2, p.w.frozen? ⟨g_p, 0, none⟩ = false := fun p => (k_p.below p.h).frozen 0
    have c_p_1 : ∀ p : BW W2, p.w.cell? ⟨g_p, 1, none⟩ = some (.int .i64 0) := bw_cell (k_p.cell rfl)
    have f_p_1 : ∀ p : BW W2, p.w.frozen? ⟨g_p, 1, none⟩ = false := fun p => (k_p.below p.h).frozen 1
    have c_p_2 : ∀ p : BW W2, p.w.cell? ⟨g_p, 2, none⟩ = some (.int .i64 0) := bw_cell (k_p.cell rfl)
    have f_p_2 : ∀ p : BW W2, p.w.frozen? ⟨g_p, 2, none⟩ = false := fun p => (k_p.below p.h).frozen 2
    have c_p_3 : ∀ p : BW W2, p.w.cell? ⟨g_p, 3, none⟩ = some (.int .i64 0) := bw_cell (k_p.cell rfl)
    have f_p_3 : ∀ p : BW W2, p.w.frozen? ⟨g_p, 3, none⟩ = false := fun p => (k_p.below p.h).frozen 3
    have c_p_4 : ∀ p : BW W2, p.w.cell? ⟨g_p, 4, none⟩ = some (.int .i64 16384) := bw_cell (k_p.cell rfl)
    have f_p_4 : ∀ p : BW W2, p.w.frozen? ⟨g_p, 4, none⟩ = false := fun p => (k_p.below p.h).frozen 4
    have c_p_5 : ∀ p : BW W2, p.w.cell? ⟨g_p, 5, none⟩ = some (.int .i64 0) := bw_cell (k_p.cell rfl)
    have f_p_5 : ∀ p : BW W2, p.w.frozen? ⟨g_p, 5, none⟩ = false := fun p => (k_p.below p.h).frozen 5
    have c_p_6 : ∀ p : BW W2, p.w.cell? ⟨g_p, 6, none⟩ = some (.int .i64 0) := bw_cell (k_p.cell rfl)
    have f_p_6 : ∀ p : BW W2, p.w.frozen? ⟨g_p, 6, none⟩ = false := fun p => (k_p.below p.h).frozen 6
    have c_p_7 : ∀ p : BW W2, p.w.cell? ⟨g_p, 7, none⟩ = some (.int .i64 0) := bw_cell (k_p.cell rfl)
    have f_p_7 : ∀ p : BW W2, p.w.frozen? ⟨g_p, 7, none⟩ = false := fun p => (k_p.below p.h).frozen 7
    have c_p_8 : ∀ p : BW W2, p.w.cell? ⟨g_p, 8, none⟩ = some (.int .i64 16384) := bw_cell (k_p.cell rfl)
    have f_p_8 : ∀ p : BW W2, p.w.frozen? ⟨g_p, 8, none⟩ = false := fun p => (k_p.below p.h).frozen 8
    have c_p_9 : ∀ p : BW W2, p.w.cell? ⟨g_p, 9, none⟩ = some (.int .i64 0) := bw_cell (k_p.cell rfl)
    have f_p_9 : ∀ p : BW W2, p.w.frozen? ⟨g_p, 9, none⟩ = false := fun p => (k_p.below p.h).frozen 9
    have c_p_10 : ∀ p : BW W2, p.w.cell? ⟨g_p, 10, none⟩ = some (.int .i64 0) := bw_cell (k_p.cell rfl)
    have f_p_10 : ∀ p : BW W2, p.w.frozen? ⟨g_p, 10, none⟩ = false := fun p => (k_p.below p.h).frozen 10
    have c_p_11 : ∀ p : BW W2, p.w.cell? ⟨g_p, 11, none⟩ = some (.int .i64 0) := bw_cell (k_p.cell rfl)
    have f_p_11 : ∀ p : BW W2, p.w.frozen? ⟨g_p, 11, none⟩ = false := fun p => (k_p.below p.h).frozen 11
    obtain ⟨p2, hp2⟩ : ∃ p : BW W2, p.w = W2 := ⟨BW.start W2, rfl⟩
    rw [← hp2]
    clear hp2
    go_upto_region 12 with (first
      | (go_at_call 31; (first | (with_reducible refine (bw_call C.out _).mono ?_)); rintro e w' ⟨rfl, q, rfl⟩)
      | (go_at_call 32; (first | (with_reducible refine (bw_call S.out _).mono ?_)); rintro e w' ⟨rfl, q, rfl⟩))
    obtain ⟨W3, hW3⟩ : ∃ W, W = (((((q.w.setCell ⟨g_p, 0, none⟩ (.int .i64 c)).setCell ⟨g_p, 1, none⟩ (.int .i64 0)).setCell ⟨g_p, 2, none⟩ (.int .i64 s)).setCell ⟨g_p, 6, none⟩ (.int .i64 (-s))).setCell ⟨g_p, 7, none⟩ (.int .i64 0)).setCell ⟨g_p, 8, none⟩ (.int .i64 c) := ⟨_, rfl⟩
    have B3 : Below w.heap.size w W3 := by rw [hW3]; exact (((((((bw_below B2 q).setCell (p := ⟨g_p, 0, none⟩) (by show w.heap.size ≤ g_p; omega) _).setCell (p := ⟨g_p, 1, none⟩) (by show w.heap.size ≤ g_p; omega) _).setCell (p := ⟨g_p, 2, none⟩) (by show w.heap.size ≤ g_p; omega) _).setCell (p := ⟨g_p, 6, none⟩) (by show w.heap.size ≤ g_p; omega) _).setCell (p := ⟨g_p, 7, none⟩) (by show w.heap.size ≤ g_p; omega) _).setCell (p := ⟨g_p, 8, none⟩) (by show w.heap.size ≤ g_p; omega) _)
    have k_r : Bk W3 (w.heap.size) 25 #[.int .i64 0, .int .i64 0, .int .i64 0, .int .i64 0, .int .i64 0, .int .i64 0, .int .i64 0, .int .i64 0, .int .i64 0, .int .i64 0, .int .i64 0, .int .i64 0] := by rw [hW3]; exact (((((((k_r.below q.h).other (a := ⟨g_p, 0, none⟩) (by show ¬ w.heap.size = g_p; omega) (.int .i64 c)).other (a := ⟨g_p, 1, none⟩) (by show ¬ w.heap.size = g_p; omega) (.int .i64 0)).other (a := ⟨g_p, 2, none⟩) (by show ¬ w.heap.size = g_p; omega) (.int .i64 s)).other (a := ⟨g_p, 6, none⟩) (by show ¬ w.heap.size = g_p; omega) (.int .i64 (-s))).other (a := ⟨g_p, 7, none⟩) (by show ¬ w.heap.size = g_p; omega) (.int .i64 0)).other (a := ⟨g_p, 8, none⟩) (by show ¬ w.heap.size = g_p; omega) (.int .i64 c))
    have k_p : Bk W3 (g_p) 25 #[.int .i64 c, .int .i64 0, .int .i64 s, .int .i64 0, .int .i64 16384, .int .i64 0, .int .i64 (-s), .int .i64 0, .int .i64 c, .int .i64 0, .int .i64 0, .int .i64 0] := by rw [hW3]; exact (((((((k_p.below q.h).set 0 (.int .i64 c)).set 1 (.int .i64 0)).set 2 (.int .i64 s)).set 6 (.int .i64 (-s))).set 7 (.int .i64 0)).set 8 (.int .i64 c)).cast (by simp)
    rw [← hW3]
    clear hW3
    clear B2
    clear c_r_0 c_r_1 c_r_2 c_r_3 c_r_4 c_r_5 c_r_6 c_r_7 c_r_8 c_r_9 c_r_10 c_r_11 c_p_0 f_p_0 c_p_1 f_p_1 c_p_2 f_p_2 c_p_3 f_p_3 c_p_4 f_p_4 c_p_5 f_p_5 c_p_6 f_p_6 c_p_7 f_p_7 c_p_8 f_p_8 c_p_9 f_p_9 c_p_10 f_p_10 c_p_11 f_p_11
    have c_r_0 : ∀ p : BW W3, p.w.cell? ⟨w.heap.size, 0, none⟩ = some (.int .i64 0) := bw_cell (k_r.cell rfl)
    have f_r_0 : ∀ p : BW W3, p.w.frozen? ⟨w.heap.size, 0, none⟩ = false := fun p => (k_r.below p.h).frozen 0
    have c_r_1 : ∀ p : BW W3, p.w.cell? ⟨w.heap.size, 1, none⟩ = some (.int .i64 0) := bw_cell (k_r.cell rfl)
    have f_r_1 : ∀ p : BW W3, p.w.frozen? ⟨w.heap.size, 1, none⟩ = false := fun p => (k_r.below p.h).frozen 1
    have c_r_2 : ∀ p : BW W3, p.w.cell? ⟨w.heap.size, 2, none⟩ = some (.int .i64 0) := bw_cell (k_r.cell rfl)
    have f_r_2 : ∀ p : BW W3, p.w.frozen? ⟨w.heap.size, 2, none⟩ = false := fun p => (k_r.below p.h).frozen 2
    have c_r_3 : ∀ p : BW W3, p.w.cell? ⟨w.heap.size, 3, none⟩ = some (.int .i64 0) := bw_cell (k_r.cell rfl)
    have f_r_3 : ∀ p : BW W3, p.w.frozen? ⟨w.heap.size, 3, none⟩ = false := fun p => (k_r.below p.h).frozen 3
    have c_r_4 : ∀ p : BW W3, p.w.cell? ⟨w.heap.size, 4, none⟩ = some (.int .i64 0) := bw_cell (k_r.cell rfl)
    have f_r_4 : ∀ p : BW W3, p.w.frozen? ⟨w.heap.size, 4, none⟩ = false := fun p => (k_r.below p.h).frozen 4
    have c_r_5 : ∀ p : BW W3, p.w.cell? ⟨w.heap.size, 5, none⟩ = some (.int .i64 0) := bw_cell (k_r.cell rfl)
    have f_r_5 : ∀ p : BW W3, p.w.frozen? ⟨w.heap.size, 5, none⟩ = false := fun p => (k_r.below p.h).frozen 5
    have c_r_6 : ∀ p : BW W3, p.w.cell? ⟨w.heap.size, 6, none⟩ = some (.int .i64 0) := bw_cell (k_r.cell rfl)
    have f_r_6 : ∀ p : BW W3, p.w.frozen? ⟨w.heap.size, 6, none⟩ = false := fun p => (k_r.below p.h).frozen 6
    have c_r_7 : ∀ p : BW W3, p.w.cell? ⟨w.heap.size, 7, none⟩ = some (.int .i64 0) := bw_cell (k_r.cell rfl)
    have f_r_7 : ∀ p : BW W3, p.w.frozen? ⟨w.heap.size, 7, none⟩ = false := fun p => (k_r.below p.h).frozen 7
    have c_r_8 : ∀ p : BW W3, p.w.cell? ⟨w.heap.size, 8, none⟩ = some (.int .i64 0) := bw_cell (k_r.cell rfl)
    have f_r_8 : ∀ p : BW W3, p.w.frozen? ⟨w.heap.size, 8, none⟩ = false := fun p => (k_r.below p.h).frozen 8
    have c_r_9 : ∀ p : BW W3, p.w.cell? ⟨w.heap.size, 9, none⟩ = some (.int .i64 0) := bw_cell (k_r.cell rfl)
    have f_r_9 : ∀ p : BW W3, p.w.frozen? ⟨w.heap.size, 9, none⟩ = false := fun p => (k_r.below p.h).frozen 9
    have c_r_10 : ∀ p : BW W3, p.w.cell? ⟨w.heap.size, 10, none⟩ = some (.int .i64 0) := bw_cell (k_r.cell rfl)
    have f_r_10 : ∀ p : BW W3, p.w.frozen? ⟨w.heap.size, 10, none⟩ = false := fun p => (k_r.below p.h).frozen 10
    have c_r_11 : ∀ p : BW W3, p.w.cell? ⟨w.heap.size, 11, none⟩ = some (.int .i64 0) := bw_cell (k_r.cell rfl)
    have f_r_11 : ∀ p : BW W3, p.w.frozen? ⟨w.heap.size, 11, none⟩ = false := fun p => (k_r.below p.h).frozen 11
    have c_p_0 : ∀ p : BW W3, p.w.cell? ⟨g_p, 0, none⟩ = some (.int .i64 c) := bw_cell (k_p.cell rfl)
    have c_p_1 : ∀ p : BW W3, p.w.cell? ⟨g_p, 1, none⟩ = some (.int .i64 0) := bw_cell (k_p.cell rfl)
    have c_p_2 : ∀ p : BW W3, p.w.cell? ⟨g_p, 2, none⟩ = some (.int .i64 s) := bw_cell (k_p.cell rfl)
    have c_p_3 : ∀ p : BW W3, p.w.cell? ⟨g_p, 3, none⟩ = some (.int .i64 0) := bw_cell (k_p.cell rfl)
    have c_p_4 : ∀ p : BW W3, p.w.cell? ⟨g_p, 4, none⟩ = some (.int .i64 16384) := bw_cell (k_p.cell rfl)
    have c_p_5 : ∀ p : BW W3, p.w.cell? ⟨g_p, 5, none⟩ = some (.int .i64 0) := bw_cell (k_p.cell rfl)
    have c_p_6 : ∀ p : BW W3, p.w.cell? ⟨g_p, 6, none⟩ = some (.int .i64 (-s)) := bw_cell (k_p.cell rfl)
    have c_p_7 : ∀ p : BW W3, p.w.cell? ⟨g_p, 7, none⟩ = some (.int .i64 0) := bw_cell (k_p.cell rfl)
    have c_p_8 : ∀ p : BW W3, p.w.cell? ⟨g_p, 8, none⟩ = some (.int .i64 c) := bw_cell (k_p.cell rfl)
    have c_p_9 : ∀ p : BW W3, p.w.cell? ⟨g_p, 9, none⟩ = some (.int .i64 0) := bw_cell (k_p.cell rfl)
    have c_p_10 : ∀ p : BW W3, p.w.cell? ⟨g_p, 10, none⟩ = some (.int .i64 0) := bw_cell (k_p.cell rfl)
    have c_p_11 : ∀ p : BW W3, p.w.cell? ⟨g_p, 11, none⟩ = some (.int .i64 0) := bw_cell (k_p.cell rfl)
    obtain ⟨p3, hp3⟩ : ∃ p : BW W3, p.w = W3 := ⟨BW.start W3, rfl⟩
    rw [← hp3]
    clear hp3
    go_wp2
    have kr : Bk ((((((((((((p3.w.setCell ⟨w.heap.size, 0, none⟩ (.int .i64 c)).setCell ⟨w.heap.size, 1, none⟩ (.int .i64 0)).setCell ⟨w.heap.size, 2, none⟩ (.int .i64 s)).setCell ⟨w.heap.size, 3, none⟩ (.int .i64 0)).setCell ⟨w.heap.size, 4, none⟩ (.int .i64 16384)).setCell ⟨w.heap.size, 5, none⟩ (.int .i64 0)).setCell ⟨w.heap.size, 6, none⟩ (.int .i64 (-s))).setCell ⟨w.heap.size, 7, none⟩ (.int .i64 0)).setCell ⟨w.heap.size, 8, none⟩ (.int .i64 c)).setCell ⟨w.heap.size, 9, none⟩ (.int .i64 0)).setCell ⟨w.heap.size, 10, none⟩ (.int .i64 0)).setCell ⟨w.heap.size, 11, none⟩ (.int .i64 0)) (w.heap.size) 25 #[.int .i64 c, .int .i64 0, .int .i64 s, .int .i64 0, .int .i64 16384, .int .i64 0, .int .i64 (-s), .int .i64 0, .int .i64 c, .int .i64 0, .int .i64 0, .int .i64 0] := (((((((((((((k_r.below p3.h).set 0 (.int .i64 c)).set 1 (.int .i64 0)).set 2 (.int .i64 s)).set 3 (.int .i64 0)).set 4 (.int .i64 16384)).set 5 (.int .i64 0)).set 6 (.int .i64 (-s))).set 7 (.int .i64 0)).set 8 (.int .i64 c)).set 9 (.int .i64 0)).set 10 (.int .i64 0)).set 11 (.int .i64 0)).cast (by simp)
    have rc0 : World.cell? ((((((((((((p3.w.setCell ⟨w.heap.size, 0, none⟩ (.int .i64 c)).setCell ⟨w.heap.size, 1, none⟩ (.int .i64 0)).setCell ⟨w.heap.size, 2, none⟩ (.int .i64 s)).setCell ⟨w.heap.size, 3, none⟩ (.int .i64 0)).setCell ⟨w.heap.size, 4, none⟩ (.int .i64 16384)).setCell ⟨w.heap.size, 5, none⟩ (.int .i64 0)).setCell ⟨w.heap.size, 6, none⟩ (.int .i64 (-s))).setCell ⟨w.heap.size, 7, none⟩ (.int .i64 0)).setCell ⟨w.heap.size, 8, none⟩ (.int .i64 c)).setCell ⟨w.heap.size, 9, none⟩ (.int .i64 0)).setCell ⟨w.heap.size, 10, none⟩ (.int .i64 0)).setCell ⟨w.heap.size, 11, none⟩ (.int .i64 0)) ⟨w.heap.size, 0, none⟩ = some (.int .i64 c) := kr.cell rfl
    have rc1 : World.cell? ((((((((((((p3.w.setCell ⟨w.heap.size, 0, none⟩ (.int .i64 c)).setCell ⟨w.heap.size, 1, none⟩ (.int .i64 0)).setCell ⟨w.heap.size, 2, none⟩ (.int .i64 s)).setCell ⟨w.heap.size, 3, none⟩ (.int .i64 0)).setCell ⟨w.heap.size, 4, none⟩ (.int .i64 16384)).setCell ⟨w.heap.size, 5, none⟩ (.int .i64 0)).setCell ⟨w.heap.size, 6, none⟩ (.int .i64 (-s))).setCell ⟨w.heap.size, 7, none⟩ (.int .i64 0)).setCell ⟨w.heap.size, 8, none⟩ (.int .i64 c)).setCell ⟨w.heap.size, 9, none⟩ (.int .i64 0)).setCell ⟨w.heap.size, 10, none⟩ (.int .i64 0)).setCell ⟨w.heap.size, 11, none⟩ (.int .i64 0)) ⟨w.heap.size, 1, none⟩ = some (.int .i64 0) := kr.cell rfl
    have rc2 : World.cell? ((((((((((((p3.w.setCell ⟨w.heap.size, 0, none⟩ (.int .i64 c)).setCell ⟨w.heap.size, 1, none⟩ (.int .i64 0)).setCell ⟨w.heap.size, 2, none⟩ (.int .i64 s)).setCell ⟨w.heap.size, 3, none⟩ (.int .i64 0)).setCell ⟨w.heap.size, 4, none⟩ (.int .i64 16384)).setCell ⟨w.heap.size, 5, none⟩ (.int .i64 0)).setCell ⟨w.heap.size, 6, none⟩ (.int .i64 (-s))).setCell ⟨w.heap.size, 7, none⟩ (.int .i64 0)).setCell ⟨w.heap.size, 8, none⟩ (.int .i64 c)).setCell ⟨w.heap.size, 9, none⟩ (.int .i64 0)).setCell ⟨w.heap.size, 10, none⟩ (.int .i64 0)).setCell ⟨w.heap.size, 11, none⟩ (.int .i64 0)) ⟨w.heap.size, 2, none⟩ = some (.int .i64 s) := kr.cell rfl
    have rc3 : World.cell? ((((((((((((p3.w.setCell ⟨w.heap.size, 0, none⟩ (.int .i64 c)).setCell ⟨w.heap.size, 1, none⟩ (.int .i64 0)).setCell ⟨w.heap.size, 2, none⟩ (.int .i64 s)).setCell ⟨w.heap.size, 3, none⟩ (.int .i64 0)).setCell ⟨w.heap.size, 4, none⟩ (.int .i64 16384)).setCell ⟨w.heap.size, 5, none⟩ (.int .i64 0)).setCell ⟨w.heap.size, 6, none⟩ (.int .i64 (-s))).setCell ⟨w.heap.size, 7, none⟩ (.int .i64 0)).setCell ⟨w.heap.size, 8, none⟩ (.int .i64 c)).setCell ⟨w.heap.size, 9, none⟩ (.int .i64 0)).setCell ⟨w.heap.size, 10, none⟩ (.int .i64 0)).setCell ⟨w.heap.size, 11, none⟩ (.int .i64 0)) ⟨w.heap.size, 3, none⟩ = some (.int .i64 0) := kr.cell rfl
    have rc4 : World.cell? ((((((((((((p3.w.setCell ⟨w.heap.size, 0, none⟩ (.int .i64 c)).setCell ⟨w.heap.size, 1, none⟩ (.int .i64 0)).setCell ⟨w.heap.size, 2, none⟩ (.int .i64 s)).setCell ⟨w.heap.size, 3, none⟩ (.int .i64 0)).setCell ⟨w.heap.size, 4, none⟩ (.int .i64 16384)).setCell ⟨w.heap.size, 5, none⟩ (.int .i64 0)).setCell ⟨w.heap.size, 6, none⟩ (.int .i64 (-s))).setCell ⟨w.heap.size, 7, none⟩ (.int .i64 0)).setCell ⟨w.heap.size, 8, none⟩ (.int .i64 c)).setCell ⟨w.heap.size, 9, none⟩ (.int .i64 0)).setCell ⟨w.heap.size, 10, none⟩ (.int .i64 0)).setCell ⟨w.heap.size, 11, none⟩ (.int .i64 0)) ⟨w.heap.size, 4, none⟩ = some (.int .i64 16384) := kr.cell rfl
    have rc5 : World.cell? ((((((((((((p3.w.setCell ⟨w.heap.size, 0, none⟩ (.int .i64 c)).setCell ⟨w.heap.size, 1, none⟩ (.int .i64 0)).setCell ⟨w.heap.size, 2, none⟩ (.int .i64 s)).setCell ⟨w.heap.size, 3, none⟩ (.int .i64 0)).setCell ⟨w.heap.size, 4, none⟩ (.int .i64 16384)).setCell ⟨w.heap.size, 5, none⟩ (.int .i64 0)).setCell ⟨w.heap.size, 6, none⟩ (.int .i64 (-s))).setCell ⟨w.heap.size, 7, none⟩ (.int .i64 0)).setCell ⟨w.heap.size, 8, none⟩ (.int .i64 c)).setCell ⟨w.heap.size, 9, none⟩ (.int .i64 0)).setCell ⟨w.heap.size, 10, none⟩ (.int .i64 0)).setCell ⟨w.heap.size, 11, none⟩ (.int .i64 0)) ⟨w.heap.size, 5, none⟩ = some (.int .i64 0) := kr.cell rfl
    have rc6 : World.cell? ((((((((((((p3.w.setCell ⟨w.heap.size, 0, none⟩ (.int .i64 c)).setCell ⟨w.heap.size, 1, none⟩ (.int .i64 0)).setCell ⟨w.heap.size, 2, none⟩ (.int .i64 s)).setCell ⟨w.heap.size, 3, none⟩ (.int .i64 0)).setCell ⟨w.heap.size, 4, none⟩ (.int .i64 16384)).setCell ⟨w.heap.size, 5, none⟩ (.int .i64 0)).setCell ⟨w.heap.size, 6, none⟩ (.int .i64 (-s))).setCell ⟨w.heap.size, 7, none⟩ (.int .i64 0)).setCell ⟨w.heap.size, 8, none⟩ (.int .i64 c)).setCell ⟨w.heap.size, 9, none⟩ (.int .i64 0)).setCell ⟨w.heap.size, 10, none⟩ (.int .i64 0)).setCell ⟨w.heap.size, 11, none⟩ (.int .i64 0)) ⟨w.heap.size, 6, none⟩ = some (.int .i64 (-s)) := kr.cell rfl
    have rc7 : World.cell? ((((((((((((p3.w.setCell ⟨w.heap.size, 0, none⟩ (.int .i64 c)).setCell ⟨w.heap.size, 1, none⟩ (.int .i64 0)).setCell ⟨w.heap.size, 2, none⟩ (.int .i64 s)).setCell ⟨w.heap.size, 3, none⟩ (.int .i64 0)).setCell ⟨w.heap.size, 4, none⟩ (.int .i64 16384)).setCell ⟨w.heap.size, 5, none⟩ (.int .i64 0)).setCell ⟨w.heap.size, 6, none⟩ (.int .i64 (-s))).setCell ⟨w.heap.size, 7, none⟩ (.int .i64 0)).setCell ⟨w.heap.size, 8, none⟩ (.int .i64 c)).setCell ⟨w.heap.size, 9, none⟩ (.int .i64 0)).setCell ⟨w.heap.size, 10, none⟩ (.int .i64 0)).setCell ⟨w.heap.size, 11, none⟩ (.int .i64 0)) ⟨w.heap.size, 7, none⟩ = some (.int .i64 0) := kr.cell rfl
    have rc8 : World.cell? ((((((((((((p3.w.setCell ⟨w.heap.size, 0, none⟩ (.int .i64 c)).setCell ⟨w.heap.size, 1, none⟩ (.int .i64 0)).setCell ⟨w.heap.size, 2, none⟩ (.int .i64 s)).setCell ⟨w.heap.size, 3, none⟩ (.int .i64 0)).setCell ⟨w.heap.size, 4, none⟩ (.int .i64 16384)).setCell ⟨w.heap.size, 5, none⟩ (.int .i64 0)).setCell ⟨w.heap.size, 6, none⟩ (.int .i64 (-s))).setCell ⟨w.heap.size, 7, none⟩ (.int .i64 0)).setCell ⟨w.heap.size, 8, none⟩ (.int .i64 c)).setCell ⟨w.heap.size, 9, none⟩ (.int .i64 0)).setCell ⟨w.heap.size, 10, none⟩ (.int .i64 0)).setCell ⟨w.heap.size, 11, none⟩ (.int .i64 0)) ⟨w.heap.size, 8, none⟩ = some (.int .i64 c) := kr.cell rfl
    have rc9 : World.cell? ((((((((((((p3.w.setCell ⟨w.heap.size, 0, none⟩ (.int .i64 c)).setCell ⟨w.heap.size, 1, none⟩ (.int .i64 0)).setCell ⟨w.heap.size, 2, none⟩ (.int .i64 s)).setCell ⟨w.heap.size, 3, none⟩ (.int .i64 0)).setCell ⟨w.heap.size, 4, none⟩ (.int .i64 16384)).setCell ⟨w.heap.size, 5, none⟩ (.int .i64 0)).setCell ⟨w.heap.size, 6, none⟩ (.int .i64 (-s))).setCell ⟨w.heap.size, 7, none⟩ (.int .i64 0)).setCell ⟨w.heap.size, 8, none⟩ (.int .i64 c)).setCell ⟨w.heap.size, 9, none⟩ (.int .i64 0)).setCell ⟨w.heap.size, 10, none⟩ (.int .i64 0)).setCell ⟨w.heap.size, 11, none⟩ (.int .i64 0)) ⟨w.heap.size, 9, none⟩ = some (.int .i64 0) := kr.cell rfl
    have rc10 : World.cell? ((((((((((((p3.w.setCell ⟨w.heap.size, 0, none⟩ (.int .i64 c)).setCell ⟨w.heap.size, 1, none⟩ (.int .i64 0)).setCell ⟨w.heap.size, 2, none⟩ (.int .i64 s)).setCell ⟨w.heap.size, 3, none⟩ (.int .i64 0)).setCell ⟨w.heap.size, 4, none⟩ (.int .i64 16384)).setCell ⟨w.heap.size, 5, none⟩ (.int .i64 0)).setCell ⟨w.heap.size, 6, none⟩ (.int .i64 (-s))).setCell ⟨w.heap.size, 7, none⟩ (.int .i64 0)).setCell ⟨w.heap.size, 8, none⟩ (.int .i64 c)).setCell ⟨w.heap.size, 9, none⟩ (.int .i64 0)).setCell ⟨w.heap.size, 10, none⟩ (.int .i64 0)).setCell ⟨w.heap.size, 11, none⟩ (.int .i64 0)) ⟨w.heap.size, 10, none⟩ = some (.int .i64 0) := kr.cell rfl
    have rc11 : World.cell? ((((((((((((p3.w.setCell ⟨w.heap.size, 0, none⟩ (.int .i64 c)).setCell ⟨w.heap.size, 1, none⟩ (.int .i64 0)).setCell ⟨w.heap.size, 2, none⟩ (.int .i64 s)).setCell ⟨w.heap.size, 3, none⟩ (.int .i64 0)).setCell ⟨w.heap.size, 4, none⟩ (.int .i64 16384)).setCell ⟨w.heap.size, 5, none⟩ (.int .i64 0)).setCell ⟨w.heap.size, 6, none⟩ (.int .i64 (-s))).setCell ⟨w.heap.size, 7, none⟩ (.int .i64 0)).setCell ⟨w.heap.size, 8, none⟩ (.int .i64 c)).setCell ⟨w.heap.size, 9, none⟩ (.int .i64 0)).setCell ⟨w.heap.size, 10, none⟩ (.int .i64 0)).setCell ⟨w.heap.size, 11, none⟩ (.int .i64 0)) ⟨w.heap.size, 11, none⟩ = some (.int .i64 0) := kr.cell rfl
    exact bodyPost_ret (v := .agg #[.int .i64 c, .int .i64 0, .int .i64 s, .int .i64 0, .int .i64 16384, .int .i64 0, .int .i64 (-s), .int .i64 0, .int .i64 c, .int .i64 0, .int .i64 0, .int .i64 0]) (by simp [results, Try.results13, go_sem, rc0, rc1, rc2, rc3, rc4, rc5, rc6, rc7, rc8, rc9, rc10, rc11]) rfl ⟨rfl, (((((((((((((bw_below B3 p3).setCell (p := ⟨w.heap.size, 0, none⟩) (by show w.heap.size ≤ w.heap.size; omega) _).setCell (p := ⟨w.heap.size, 1, none⟩) (by show w.heap.size ≤ w.heap.size; omega) _).setCell (p := ⟨w.heap.size, 2, none⟩) (by show w.heap.size ≤ w.heap.size; omega) _).setCell (p := ⟨w.heap.size, 3, none⟩) (by show w.heap.size ≤ w.heap.size; omega) _).setCell (p := ⟨w.heap.size, 4, none⟩) (by show w.heap.size ≤ w.heap.size; omega) _).setCell (p := ⟨w.heap.size, 5, none⟩) (by show w.heap.size ≤ w.heap.size; omega) _).setCell (p := ⟨w.heap.size, 6, none⟩) (by show w.heap.size ≤ w.heap.size; omega) _).setCell (p := ⟨w.heap.size, 7, none⟩) (by show w.heap.size ≤ w.heap.size; omega) _).setCell (p := ⟨w.heap.size, 8, none⟩) (by show w.heap.size ≤ w.heap.size; omega) _).setCell (p := ⟨w.heap.size, 9, none⟩) (by show w.heap.size ≤ w.heap.size; omega) _).setCell (p := ⟨w.heap.size, 10, none⟩) (by show w.heap.size ≤ w.heap.size; omega) _).setCell (p := ⟨w.heap.size, 11, none⟩) (by show w.heap.size ≤ w.heap.size; omega) _)⟩
  · rw [if_neg (by decide), if_neg (by decide), if_pos rfl]
    unfold p12
    dsimp only
    go_enter Try.func13, Try.ntmps13
    go_upto_region 1 with (fail)
    obtain ⟨W1, hW1⟩ : ∃ W, W = w.alloc (.cells #[.int .i64 0, .int .i64 0, .int .i64 0, .int .i64 0, .int .i64 0, .int .i64 0, .int .i64 0, .int .i64 0, .int .i64 0, .int .i64 0, .int .i64 0, .int .i64 0] 25) := ⟨_, rfl⟩
    have B1 : Below w.heap.size w W1 := by rw [hW1]; go_grown
    have k_r : Bk W1 (w.heap.size) 25 #[.int .i64 0, .int .i64 0, .int .i64 0, .int .i64 0, .int .i64 0, .int .i64 0, .int .i64 0, .int .i64 0, .int .i64 0, .int .i64 0, .int .i64 0, .int .i64 0] := by rw [hW1]; exact Bk.new _ _ _
    rw [← hW1]
    clear hW1
    have c_r_0 : ∀ p : BW W1, p.w.cell? ⟨w.heap.size, 0, none⟩ = some (.int .i64 0) := bw_cell (k_r.cell rfl)
    have c_r_1 : ∀ p : BW W1, p.w.cell? ⟨w.heap.size, 1, none⟩ = some (.int .i64 0) := bw_cell (k_r.cell rfl)
    have c_r_2 : ∀ p : BW W1, p.w.cell? ⟨w.heap.size, 2, none⟩ = some (.int .i64 0) := bw_cell (k_r.cell rfl)
    have c_r_3 : ∀ p : BW W1, p.w.cell? ⟨w.heap.size, 3, none⟩ = some (.int .i64 0) := bw_cell (k_r.cell rfl)
    have c_r_4 : ∀ p : BW W1, p.w.cell? ⟨w.heap.size, 4, none⟩ = some (.int .i64 0) := bw_cell (k_r.cell rfl)
    have c_r_5 : ∀ p : BW W1, p.w.cell? ⟨w.heap.size, 5, none⟩ = some (.int .i64 0) := bw_cell (k_r.cell rfl)
    have c_r_6 : ∀ p : BW W1, p.w.cell? ⟨w.heap.size, 6, none⟩ = some (.int .i64 0) := bw_cell (k_r.cell rfl)
    have c_r_7 : ∀ p : BW W1, p.w.cell? ⟨w.heap.size, 7, none⟩ = some (.int .i64 0) := bw_cell (k_r.cell rfl)
    have c_r_8 : ∀ p : BW W1, p.w.cell? ⟨w.heap.size, 8, none⟩ = some (.int .i64 0) := bw_cell (k_r.cell rfl)
    have c_r_9 : ∀ p : BW W1, p.w.cell? ⟨w.heap.size, 9, none⟩ = some (.int .i64 0) := bw_cell (k_r.cell rfl)
    have c_r_10 : ∀ p : BW W1, p.w.cell? ⟨w.heap.size, 10, none⟩ = some (.int .i64 0) := bw_cell (k_r.cell rfl)
    have c_r_11 : ∀ p : BW W1, p.w.cell? ⟨w.heap.size, 11, none⟩ = some (.int .i64 0) := bw_cell (k_r.cell rfl)
    obtain ⟨p1, hp1⟩ : ∃ p : BW W1, p.w = W1 := ⟨BW.start W1, rfl⟩
    rw [← hp1]
    clear hp1
    go_upto_region 2 with (first
      | (go_at_call 11; (first | (with_reducible refine (bw_call K.out _).mono ?_)); rintro e w' ⟨rfl, q, rfl⟩))
    obtain ⟨W2, hW2⟩ : ∃ W, W = q.w.alloc (.cells #[.int .i64 16384, .int .i64 0, .int .i64 0, .int .i64 0, .int .i64 16384, .int .i64 0, .int .i64 0, .int .i64 0, .int .i64 16384, .int .i64 0, .int .i64 0, .int .i64 0] 25) := ⟨_, rfl⟩
    have B2 : Below w.heap.size w W2 := by rw [hW2]; exact (bw_below B1 q).alloc (bw_below B1 q).size _
    have l_p : w.heap.size < q.w.heap.size := (k_r.below q.h).lt
    have k_r := (k_r.below q.h).alloc (.cells #[.int .i64 16384, .int .i64 0, .int .i64 0, .int .i64 0, .int .i64 16384, .int .i64 0, .int .i64 0, .int .i64 0, .int .i64 16384, .int .i64 0, .int .i64 0, .int .i64 0] 25)
    rw [← hW2] at k_r
    have k_p : Bk W2 q.w.heap.size 25 #[.int .i64 16384, .int .i64 0, .int .i64 0, .int .i64 0, .int .i64 16384, .int .i64 0, .int .i64 0, .int .i64 0, .int .i64 16384, .int .i64 0, .int .i64 0, .int .i64 0] := by rw [hW2]; exact Bk.new _ _ _
    rw [← hW2]
    clear hW2
    clear B1
    clear c_r_0 c_r_1 c_r_2 c_r_3 c_r_4 c_r_5 c_r_6 c_r_7 c_r_8 c_r_9 c_r_10 c_r_11
    generalize q.w.heap.size = g_p at *
    have c_r_0 : ∀ p : BW W2, p.w.cell? ⟨w.heap.size, 0, none⟩ = some (.int .i64 0) := bw_cell (k_r.cell rfl)
    have c_r_1 : ∀ p : BW W2, p.w.cell? ⟨w.heap.size, 1, none⟩ = some (.int .i64 0) := bw_cell (k_r.cell rfl)
    have c_r_2 : ∀ p : BW W2, p.w.cell? ⟨w.heap.size, 2, none⟩ = some (.int .i64 0) := bw_cell (k_r.cell rfl)
    have c_r_3 : ∀ p : BW W2, p.w.cell? ⟨w.heap.size, 3, none⟩ = some (.int .i64 0) := bw_cell (k_r.cell rfl)
    have c_r_4 : ∀ p : BW W2, p.w.cell? ⟨w.heap.size, 4, none⟩ = some (.int .i64 0) := bw_cell (k_r.cell rfl)
    have c_r_5 : ∀ p : BW W2, p.w.cell? ⟨w.heap.size, 5, none⟩ = some (.int .i64 0) := bw_cell (k_r.cell rfl)
    have c_r_6 : ∀ p : BW W2, p.w.cell? ⟨w.heap.size, 6, none⟩ = some (.int .i64 0) := bw_cell (k_r.cell rfl)
    have c_r_7 : ∀ p : BW W2, p.w.cell? ⟨w.heap.size, 7, none⟩ = some (.int .i64 0) := bw_cell (k_r.cell rfl)
    have c_r_8 : ∀ p : BW W2, p.w.cell? ⟨w.heap.size, 8, none⟩ = some (.int .i64 0) := bw_cell (k_r.cell rfl)
    have c_r_9 : ∀ p : BW W2, p.w.cell? ⟨w.heap.size, 9, none⟩ = some (.int .i64 0) := bw_cell (k_r.cell rfl)
    have c_r_10 : ∀ p : BW W2, p.w.cell? ⟨w.heap.size, 10, none⟩ = some (.int .i64 0) := bw_cell (k_r.cell rfl)
    have c_r_11 : ∀ p : BW W2, p.w.cell? ⟨w.heap.size, 11, none⟩ = some (.int .i64 0) := bw_cell (k_r.cell rfl)
    have c_p_0 : ∀ p : BW W2, p.w.cell? ⟨g_p, 0, none⟩ = some (.int .i64 16384) := bw_cell (k_p.cell rfl)
    have f_p_0 : ∀ p : BW W2, p.w.frozen? ⟨g_p, 0, none⟩ = false := fun p => (k_p.below p.h).frozen 0
    have c_p_1 : ∀ p : BW W2, p.w.cell? ⟨g_p, 1, none⟩ = some (.int .i64 0) := bw_cell (k_p.cell rfl)
    have f_p_1 : ∀ p : BW W2, p.w.frozen? ⟨g_p, 1, none⟩ = false := fun p => (k_p.below p.h).frozen 1
    have c_p_2 : ∀ p : BW W2, p.w.cell? ⟨g_p, 2, none⟩ = some (.int .i64 0) := bw_cell (k_p.cell rfl)
    have f_p_2 : ∀ p : BW W2, p.w.frozen? ⟨g_p, 2, none⟩ = false := fun p => (k_p.below p.h).frozen 2
    have c_p_3 : ∀ p : BW W2, p.w.cell? ⟨g_p, 3, none⟩ = some (.int .i64 0) := bw_cell (k_p.cell rfl)
    have f_p_3 : ∀ p : BW W2, p.w.frozen? ⟨g_p, 3, none⟩ = false := fun p => (k_p.below p.h).frozen 3
    have c_p_4 : ∀ p : BW W2, p.w.cell? ⟨g_p, 4, none⟩ = some (.int .i64 16384) := bw_cell (k_p.cell rfl)
    have f_p_4 : ∀ p : BW W2, p.w.frozen? ⟨g_p, 4, none⟩ = false := fun p => (k_p.below p.h).frozen 4
    have c_p_5 : ∀ p : BW W2, p.w.cell? ⟨g_p, 5, none⟩ = some (.int .i64 0) := bw_cell (k_p.cell rfl)
    have f_p_5 : ∀ p : BW W2, p.w.frozen? ⟨g_p, 5, none⟩ = false := fun p => (k_p.below p.h).frozen 5
    have c_p_6 : ∀ p : BW W2, p.w.cell? ⟨g_p, 6, none⟩ = some (.int .i64 0) := bw_cell (k_p.cell rfl)
    have f_p_6 : ∀ p : BW W2, p.w.frozen? ⟨g_p, 6, none⟩ = false := fun p => (k_p.below p.h).frozen 6
    have c_p_7 : ∀ p : BW W2, p.w.cell? ⟨g_p, 7, none⟩ = some (.int .i64 0) := bw_cell (k_p.cell rfl)
    have f_p_7 : ∀ p : BW W2, p.w.frozen? ⟨g_p, 7, none⟩ = false := fun p => (k_p.below p.h).frozen 7
    have c_p_8 : ∀ p : BW W2, p.w.cell? ⟨g_p, 8, none⟩ = some (.int .i64 16384) := bw_cell (k_p.cell rfl)
    have f_p_8 : ∀ p : BW W2, p.w.frozen? ⟨g_p, 8, none⟩ = false := fun p => (k_p.below p.h).frozen 8
    have c_p_9 : ∀ p : BW W2, p.w.cell? ⟨g_p, 9, none⟩ = some (.int .i64 0) := bw_cell (k_p.cell rfl)
    have f_p_9 : ∀ p : BW W2, p.w.frozen? ⟨g_p, 9, none⟩ = false := fun p => (k_p.below p.h).frozen 9
    have c_p_10 : ∀ p : BW W2, p.w.cell? ⟨g_p, 10, none⟩ = some (.int .i64 0) := bw_cell (k_p.cell rfl)
    have f_p_10 : ∀ p : BW W2, p.w.frozen? ⟨g_p, 10, none⟩ = false := fun p => (k_p.below p.h).frozen 10
    have c_p_11 : ∀ p : BW W2, p.w.cell? ⟨g_p, 11, none⟩ = some (.int .i64 0) := bw_cell (k_p.cell rfl)
    have f_p_11 : ∀ p : BW W2, p.w.frozen? ⟨g_p, 11, none⟩ = false := fun p => (k_p.below p.h).frozen 11
    obtain ⟨p2, hp2⟩ : ∃ p : BW W2, p.w = W2 := ⟨BW.start W2, rfl⟩
    rw [← hp2]
    clear hp2
    go_upto_region 12 with (first
      | (go_at_call 31; (first | (with_reducible refine (bw_call C.out _).mono ?_)); rintro e w' ⟨rfl, q, rfl⟩)
      | (go_at_call 32; (first | (with_reducible refine (bw_call S.out _).mono ?_)); rintro e w' ⟨rfl, q, rfl⟩))
    obtain ⟨W3, hW3⟩ : ∃ W, W = (((((q.w.setCell ⟨g_p, 0, none⟩ (.int .i64 c)).setCell ⟨g_p, 1, none⟩ (.int .i64 (-s))).setCell ⟨g_p, 2, none⟩ (.int .i64 0)).setCell ⟨g_p, 3, none⟩ (.int .i64 s)).setCell ⟨g_p, 4, none⟩ (.int .i64 c)).setCell ⟨g_p, 5, none⟩ (.int .i64 0) := ⟨_, rfl⟩
    have B3 : Below w.heap.size w W3 := by rw [hW3]; exact (((((((bw_below B2 q).setCell (p := ⟨g_p, 0, none⟩) (by show w.heap.size ≤ g_p; omega) _).setCell (p := ⟨g_p, 1, none⟩) (by show w.heap.size ≤ g_p; omega) _).setCell (p := ⟨g_p, 2, none⟩) (by show w.heap.size ≤ g_p; omega) _).setCell (p := ⟨g_p, 3, none⟩) (by show w.heap.size ≤ g_p; omega) _).setCell (p := ⟨g_p, 4, none⟩) (by show w.heap.size ≤ g_p; omega) _).setCell (p := ⟨g_p, 5, none⟩) (by show w.heap.size ≤ g_p; omega) _)
    have k_r : Bk W3 (w.heap.size) 25 #[.int .i64 0, .int .i64 0, .int .i64 0, .int .i64 0, .int .i64 0, .int .i64 0, .int .i64 0, .int .i64 0, .int .i64 0, .int .i64 0, .int .i64 0, .int .i64 0] := by rw [hW3]; exact (((((((k_r.below q.h).other (a := ⟨g_p, 0, none⟩) (by show ¬ w.heap.size = g_p; omega) (.int .i64 c)).other (a := ⟨g_p, 1, none⟩) (by show ¬ w.heap.size = g_p; omega) (.int .i64 (-s))).other (a := ⟨g_p, 2, none⟩) (by show ¬ w.heap.size = g_p; omega) (.int .i64 0)).other (a := ⟨g_p, 3, none⟩) (by show ¬ w.heap.size = g_p; omega) (.int .i64 s)).other (a := ⟨g_p, 4, none⟩) (by show ¬ w.heap.size = g_p; omega) (.int .i64 c)).other (a := ⟨g_p, 5, none⟩) (by show ¬ w.heap.size = g_p; omega) (.int .i64 0))
    have k_p : Bk W3 (g_p) 25 #[.int .i64 c, .int .i64 (-s), .int .i64 0, .int .i64 s, .int .i64 c, .int .i64 0, .int .i64 0, .int .i64 0, .int .i64 16384, .int .i64 0, .int .i64 0, .int .i64 0] := by rw [hW3]; exact (((((((k_p.below q.h).set 0 (.int .i64 c)).set 1 (.int .i64 (-s))).set 2 (.int .i64 0)).set 3 (.int .i64 s)).set 4 (.int .i64 c)).set 5 (.int .i64 0)).cast (by simp)
    rw [← hW3]
    clear hW3
    clear B2
    clear c_r_0 c_r_1 c_r_2 c_r_3 c_r_4 c_r_5 c_r_6 c_r_7 c_r_8 c_r_9 c_r_10 c_r_11 c_p_0 f_p_0 c_p_1 f_p_1 c_p_2 f_p_2 c_p_3 f_p_3 c_p_4 f_p_4 c_p_5 f_p_5 c_p_6 f_p_6 c_p_7 f_p_7 c_p_8 f_p_8 c_p_9 f_p_9 c_p_10 f_p_10 c_p_11 f_p_11
    have c_r_0 : ∀ p : BW W3, p.w.cell? ⟨w.heap.size, 0, none⟩ = some (.int .i64 0) := bw_cell (k_r.cell rfl)
    have f_r_0 : ∀ p : BW W3, p.w.frozen? ⟨w.heap.size, 0, none⟩ = false := fun p => (k_r.below p.h).frozen 0
    have c_r_1 : ∀ p : BW W3, p.w.cell? ⟨w.heap.size, 1, none⟩ = some (.int .i64 0) := bw_cell (k_r.cell rfl)
    have f_r_1 : ∀ p : BW W3, p.w.frozen? ⟨w.heap.size, 1, none⟩ = false := fun p => (k_r.below p.h).frozen 1
    have c_r_2 : ∀ p : BW W3, p.w.cell? ⟨w.heap.size, 2, none⟩ = some (.int .i64 0) := bw_cell (k_r.cell rfl)
    have f_r_2 : ∀ p : BW W3, p.w.frozen? ⟨w.heap.size, 2, none⟩ = false := fun p => (k_r.below p.h).frozen 2
    have c_r_3 : ∀ p : BW W3, p.w.cell? ⟨w.heap.size, 3, none⟩ = some (.int .i64 0) := bw_cell (k_r.cell rfl)
    have f_r_3 : ∀ p : BW W3, p.w.frozen? ⟨w.heap.size, 3, none⟩ = false := fun p => (k_r.below p.h).frozen 3
    have c_r_4 : ∀ p : BW W3, p.w.cell? ⟨w.heap.size, 4, none⟩ = some (.int .i64 0) := bw_cell (k_r.cell rfl)
    have f_r_4 : ∀ p : BW W3, p.w.frozen? ⟨w.heap.size, 4, none⟩ = false := fun p => (k_r.below p.h).frozen 4
    have c_r_5 : ∀ p : BW W3, p.w.cell? ⟨w.heap.size, 5, none⟩ = some (.int .i64 0) := bw_cell (k_r.cell rfl)
    have f_r_5 : ∀ p : BW W3, p.w.frozen? ⟨w.heap.size, 5, none⟩ = false := fun p => (k_r.below p.h).frozen 5
    have c_r_6 : ∀ p : BW W3, p.w.cell? ⟨w.heap.size, 6, none⟩ = some (.int .i64 0) := bw_cell (k_r.cell rfl)
    have f_r_6 : ∀ p : BW W3, p.w.frozen? ⟨w.heap.size, 6, none⟩ = false := fun p => (k_r.below p.h).frozen 6
    have c_r_7 : ∀ p : BW W3, p.w.cell? ⟨w.heap.size, 7, none⟩ = some (.int .i64 0) := bw_cell (k_r.cell rfl)
    have f_r_7 : ∀ p : BW W3, p.w.frozen? ⟨w.heap.size, 7, none⟩ = false := fun p => (k_r.below p.h).frozen 7
    have c_r_8 : ∀ p : BW W3, p.w.cell? ⟨w.heap.size, 8, none⟩ = some (.int .i64 0) := bw_cell (k_r.cell rfl)
    have f_r_8 : ∀ p : BW W3, p.w.frozen? ⟨w.heap.size, 8, none⟩ = false := fun p => (k_r.below p.h).frozen 8
    have c_r_9 : ∀ p : BW W3, p.w.cell? ⟨w.heap.size, 9, none⟩ = some (.int .i64 0) := bw_cell (k_r.cell rfl)
    have f_r_9 : ∀ p : BW W3, p.w.frozen? ⟨w.heap.size, 9, none⟩ = false := fun p => (k_r.below p.h).frozen 9
    have c_r_10 : ∀ p : BW W3, p.w.cell? ⟨w.heap.size, 10, none⟩ = some (.int .i64 0) := bw_cell (k_r.cell rfl)
    have f_r_10 : ∀ p : BW W3, p.w.frozen? ⟨w.heap.size, 10, none⟩ = false := fun p => (k_r.below p.h).frozen 10
    have c_r_11 : ∀ p : BW W3, p.w.cell? ⟨w.heap.size, 11, none⟩ = some (.int .i64 0) := bw_cell (k_r.cell rfl)
    have f_r_11 : ∀ p : BW W3, p.w.frozen? ⟨w.heap.size, 11, none⟩ = false := fun p => (k_r.below p.h).frozen 11
    have c_p_0 : ∀ p : BW W3, p.w.cell? ⟨g_p, 0, none⟩ = some (.int .i64 c) := bw_cell (k_p.cell rfl)
    have c_p_1 : ∀ p : BW W3, p.w.cell? ⟨g_p, 1, none⟩ = some (.int .i64 (-s)) := bw_cell (k_p.cell rfl)
    have c_p_2 : ∀ p : BW W3, p.w.cell? ⟨g_p, 2, none⟩ = some (.int .i64 0) := bw_cell (k_p.cell rfl)
    have c_p_3 : ∀ p : BW W3, p.w.cell? ⟨g_p, 3, none⟩ = some (.int .i64 s) := bw_cell (k_p.cell rfl)
    have c_p_4 : ∀ p : BW W3, p.w.cell? ⟨g_p, 4, none⟩ = some (.int .i64 c) := bw_cell (k_p.cell rfl)
    have c_p_5 : ∀ p : BW W3, p.w.cell? ⟨g_p, 5, none⟩ = some (.int .i64 0) := bw_cell (k_p.cell rfl)
    have c_p_6 : ∀ p : BW W3, p.w.cell? ⟨g_p, 6, none⟩ = some (.int .i64 0) := bw_cell (k_p.cell rfl)
    have c_p_7 : ∀ p : BW W3, p.w.cell? ⟨g_p, 7, none⟩ = some (.int .i64 0) := bw_cell (k_p.cell rfl)
    have c_p_8 : ∀ p : BW W3, p.w.cell? ⟨g_p, 8, none⟩ = some (.int .i64 16384) := bw_cell (k_p.cell rfl)
    have c_p_9 : ∀ p : BW W3, p.w.cell? ⟨g_p, 9, none⟩ = some (.int .i64 0) := bw_cell (k_p.cell rfl)
    have c_p_10 : ∀ p : BW W3, p.w.cell? ⟨g_p, 10, none⟩ = some (.int .i64 0) := bw_cell (k_p.cell rfl)
    have c_p_11 : ∀ p : BW W3, p.w.cell? ⟨g_p, 11, none⟩ = some (.int .i64 0) := bw_cell (k_p.cell rfl)
    obtain ⟨p3, hp3⟩ : ∃ p : BW W3, p.w = W3 := ⟨BW.start W3, rfl⟩
    rw [← hp3]
    clear hp3
    go_wp2
    have kr : Bk ((((((((((((p3.w.setCell ⟨w.heap.size, 0, none⟩ (.int .i64 c)).setCell ⟨w.heap.size, 1, none⟩ (.int .i64 (-s))).setCell ⟨w.heap.size, 2, none⟩ (.int .i64 0)).setCell ⟨w.heap.size, 3, none⟩ (.int .i64 s)).setCell ⟨w.heap.size, 4, none⟩ (.int .i64 c)).setCell ⟨w.heap.size, 5, none⟩ (.int .i64 0)).setCell ⟨w.heap.size, 6, none⟩ (.int .i64 0)).setCell ⟨w.heap.size, 7, none⟩ (.int .i64 0)).setCell ⟨w.heap.size, 8, none⟩ (.int .i64 16384)).setCell ⟨w.heap.size, 9, none⟩ (.int .i64 0)).setCell ⟨w.heap.size, 10, none⟩ (.int .i64 0)).setCell ⟨w.heap.size, 11, none⟩ (.int .i64 0)) (w.heap.size) 25 #[.int .i64 c, .int .i64 (-s), .int .i64 0, .int .i64 s, .int .i64 c, .int .i64 0, .int .i64 0, .int .i64 0, .int .i64 16384, .int .i64 0, .int .i64 0, .int .i64 0] := (((((((((((((k_r.below p3.h).set 0 (.int .i64 c)).set 1 (.int .i64 (-s))).set 2 (.int .i64 0)).set 3 (.int .i64 s)).set 4 (.int .i64 c)).set 5 (.int .i64 0)).set 6 (.int .i64 0)).set 7 (.int .i64 0)).set 8 (.int .i64 16384)).set 9 (.int .i64 0)).set 10 (.int .i64 0)).set 11 (.int .i64 0)).cast (by simp)
    have rc0 : World.cell? ((((((((((((p3.w.setCell ⟨w.heap.size, 0, none⟩ (.int .i64 c)).setCell ⟨w.heap.size, 1, none⟩ (.int .i64 (-s))).setCell ⟨w.heap.size, 2, none⟩ (.int .i64 0)).setCell ⟨w.heap.size, 3, none⟩ (.int .i64 s)).setCell ⟨w.heap.size, 4, none⟩ (.int .i64 c)).setCell ⟨w.heap.size, 5, none⟩ (.int .i64 0)).setCell ⟨w.heap.size, 6, none⟩ (.int .i64 0)).setCell ⟨w.heap.size, 7, none⟩ (.int .i64 0)).setCell ⟨w.heap.size, 8, none⟩ (.int .i64 16384)).setCell ⟨w.heap.size, 9, none⟩ (.int .i64 0)).setCell ⟨w.heap.size, 10, none⟩ (.int .i64 0)).setCell ⟨w.heap.size, 11, none⟩ (.int .i64 0)) ⟨w.heap.size, 0, none⟩ = some (.int .i64 c) := kr.cell rfl
    have rc1 : World.cell? ((((((((((((p3.w.setCell ⟨w.heap.size, 0, none⟩ (.int .i64 c)).setCell ⟨w.heap.size, 1, none⟩ (.int .i64 (-s))).setCell ⟨w.heap.size, 2, none⟩ (.int .i64 0)).setCell ⟨w.heap.size, 3, none⟩ (.int .i64 s)).setCell ⟨w.heap.size, 4, none⟩ (.int .i64 c)).setCell ⟨w.heap.size, 5, none⟩ (.int .i64 0)).setCell ⟨w.heap.size, 6, none⟩ (.int .i64 0)).setCell ⟨w.heap.size, 7, none⟩ (.int .i64 0)).setCell ⟨w.heap.size, 8, none⟩ (.int .i64 16384)).setCell ⟨w.heap.size, 9, none⟩ (.int .i64 0)).setCell ⟨w.heap.size, 10, none⟩ (.int .i64 0)).setCell ⟨w.heap.size, 11, none⟩ (.int .i64 0)) ⟨w.heap.size, 1, none⟩ = some (.int .i64 (-s)) := kr.cell rfl
    have rc2 : World.cell? ((((((((((((p3.w.setCell ⟨w.heap.size, 0, none⟩ (.int .i64 c)).setCell ⟨w.heap.size, 1, none⟩ (.int .i64 (-s))).setCell ⟨w.heap.size, 2, none⟩ (.int .i64 0)).setCell ⟨w.heap.size, 3, none⟩ (.int .i64 s)).setCell ⟨w.heap.size, 4, none⟩ (.int .i64 c)).setCell ⟨w.heap.size, 5, none⟩ (.int .i64 0)).setCell ⟨w.heap.size, 6, none⟩ (.int .i64 0)).setCell ⟨w.heap.size, 7, none⟩ (.int .i64 0)).setCell ⟨w.heap.size, 8, none⟩ (.int .i64 16384)).setCell ⟨w.heap.size, 9, none⟩ (.int .i64 0)).setCell ⟨w.heap.size, 10, none⟩ (.int .i64 0)).setCell ⟨w.heap.size, 11, none⟩ (.int .i64 0)) ⟨w.heap.size, 2, none⟩ = some (.int .i64 0) := kr.cell rfl
    have rc3 : World.cell? ((((((((((((p3.w.setCell ⟨w.heap.size, 0, none⟩ (.int .i64 c)).setCell ⟨w.heap.size, 1, none⟩ (.int .i64 (-s))).setCell ⟨w.heap.size, 2, none⟩ (.int .i64 0)).setCell ⟨w.heap.size, 3, none⟩ (.int .i64 s)).setCell ⟨w.heap.size, 4, none⟩ (.int .i64 c)).setCell ⟨w.heap.size, 5, none⟩ (.int .i64 0)).setCell ⟨w.heap.size, 6, none⟩ (.int .i64 0)).setCell ⟨w.heap.size, 7, none⟩ (.int .i64 0)).setCell ⟨w.heap.size, 8, none⟩ (.int .i64 16384)).setCell ⟨w.heap.size, 9, none⟩ (.int .i64 0)).setCell ⟨w.heap.size, 10, none⟩ (.int .i64 0)).setCell ⟨w.heap.size, 11, none⟩ (.int .i64 0)) ⟨w.heap.size, 3, none⟩ = some (.int .i64 s) := kr.cell rfl
    have rc4 : World.cell? ((((((((((((p3.w.setCell ⟨w.heap.size, 0, none⟩ (.int .i64 c)).setCell ⟨w.heap.size, 1, none⟩ (.int .i64 (-s))).setCell ⟨w.heap.size, 2, none⟩ (.int .i64 0)).setCell ⟨w.heap.size, 3, none⟩ (.int .i64 s)).setCell ⟨w.heap.size, 4, none⟩ (.int .i64 c)).setCell ⟨w.heap.size, 5, none⟩ (.int .i64 0)).setCell ⟨w.heap.size, 6, none⟩ (.int .i64 0)).setCell ⟨w.heap.size, 7, none⟩ (.int .i64 0)).setCell ⟨w.heap.size, 8, none⟩ (.int .i64 16384)).setCell ⟨w.heap.size, 9, none⟩ (.int .i64 0)).setCell ⟨w.heap.size, 10, none⟩ (.int .i64 0)).setCell ⟨w.heap.size, 11, none⟩ (.int .i64 0)) ⟨w.heap.size, 4, none⟩ = some (.int .i64 c) := kr.cell rfl
    have rc5 : World.cell? ((((((((((((p3.w.setCell ⟨w.heap.size, 0, none⟩ (.int .i64 c)).setCell ⟨w.heap.size, 1, none⟩ (.int .i64 (-s))).setCell ⟨w.heap.size, 2, none⟩ (.int .i64 0)).setCell ⟨w.heap.size, 3, none⟩ (.int .i64 s)).setCell ⟨w.heap.size, 4, none⟩ (.int .i64 c)).setCell ⟨w.heap.size, 5, none⟩ (.int .i64 0)).setCell ⟨w.heap.size, 6, none⟩ (.int .i64 0)).setCell ⟨w.heap.size, 7, none⟩ (.int .i64 0)).setCell ⟨w.heap.size, 8, none⟩ (.int .i64 16384)).setCell ⟨w.heap.size, 9, none⟩ (.int .i64 0)).setCell ⟨w.heap.size, 10, none⟩ (.int .i64 0)).setCell ⟨w.heap.size, 11, none⟩ (.int .i64 0)) ⟨w.heap.size, 5, none⟩ = some (.int .i64 0) := kr.cell rfl
    have rc6 : World.cell? ((((((((((((p3.w.setCell ⟨w.heap.size, 0, none⟩ (.int .i64 c)).setCell ⟨w.heap.size, 1, none⟩ (.int .i64 (-s))).setCell ⟨w.heap.size, 2, none⟩ (.int .i64 0)).setCell ⟨w.heap.size, 3, none⟩ (.int .i64 s)).setCell ⟨w.heap.size, 4, none⟩ (.int .i64 c)).setCell ⟨w.heap.size, 5, none⟩ (.int .i64 0)).setCell ⟨w.heap.size, 6, none⟩ (.int .i64 0)).setCell ⟨w.heap.size, 7, none⟩ (.int .i64 0)).setCell ⟨w.heap.size, 8, none⟩ (.int .i64 16384)).setCell ⟨w.heap.size, 9, none⟩ (.int .i64 0)).setCell ⟨w.heap.size, 10, none⟩ (.int .i64 0)).setCell ⟨w.heap.size, 11, none⟩ (.int .i64 0)) ⟨w.heap.size, 6, none⟩ = some (.int .i64 0) := kr.cell rfl
    have rc7 : World.cell? ((((((((((((p3.w.setCell ⟨w.heap.size, 0, none⟩ (.int .i64 c)).setCell ⟨w.heap.size, 1, none⟩ (.int .i64 (-s))).setCell ⟨w.heap.size, 2, none⟩ (.int .i64 0)).setCell ⟨w.heap.size, 3, none⟩ (.int .i64 s)).setCell ⟨w.heap.size, 4, none⟩ (.int .i64 c)).setCell ⟨w.heap.size, 5, none⟩ (.int .i64 0)).setCell ⟨w.heap.size, 6, none⟩ (.int .i64 0)).setCell ⟨w.heap.size, 7, none⟩ (.int .i64 0)).setCell ⟨w.heap.size, 8, none⟩ (.int .i64 16384)).setCell ⟨w.heap.size, 9, none⟩ (.int .i64 0)).setCell ⟨w.heap.size, 10, none⟩ (.int .i64 0)).setCell ⟨w.heap.size, 11, none⟩ (.int .i64 0)) ⟨w.heap.size, 7, none⟩ = some (.int .i64 0) := kr.cell rfl
    have rc8 : World.cell? ((((((((((((p3.w.setCell ⟨w.heap.size, 0, none⟩ (.int .i64 c)).setCell ⟨w.heap.size, 1, none⟩ (.int .i64 (-s))).setCell ⟨w.heap.size, 2, none⟩ (.int .i64 0)).setCell ⟨w.heap.size, 3, none⟩ (.int .i64 s)).setCell ⟨w.heap.size, 4, none⟩ (.int .i64 c)).setCell ⟨w.heap.size, 5, none⟩ (.int .i64 0)).setCell ⟨w.heap.size, 6, none⟩ (.int .i64 0)).setCell ⟨w.heap.size, 7, none⟩ (.int .i64 0)).setCell ⟨w.heap.size, 8, none⟩ (.int .i64 16384)).setCell ⟨w.heap.size, 9, none⟩ (.int .i64 0)).setCell ⟨w.heap.size, 10, none⟩ (.int .i64 0)).setCell ⟨w.heap.size, 11, none⟩ (.int .i64 0)) ⟨w.heap.size, 8, none⟩ = some (.int .i64 16384) := kr.cell rfl
    have rc9 : World.cell? ((((((((((((p3.w.setCell ⟨w.heap.size, 0, none⟩ (.int .i64 c)).setCell ⟨w.heap.size, 1, none⟩ (.int .i64 (-s))).setCell ⟨w.heap.size, 2, none⟩ (.int .i64 0)).setCell ⟨w.heap.size, 3, none⟩ (.int .i64 s)).setCell ⟨w.heap.size, 4, none⟩ (.int .i64 c)).setCell ⟨w.heap.size, 5, none⟩ (.int .i64 0)).setCell ⟨w.heap.size, 6, none⟩ (.int .i64 0)).setCell ⟨w.heap.size, 7, none⟩ (.int .i64 0)).setCell ⟨w.heap.size, 8, none⟩ (.int .i64 16384)).setCell ⟨w.heap.size, 9, none⟩ (.int .i64 0)).setCell ⟨w.heap.size, 10, none⟩ (.int .i64 0)).setCell ⟨w.heap.size, 11, none⟩ (.int .i64 0)) ⟨w.heap.size, 9, none⟩ = some (.int .i64 0) := kr.cell rfl
    have rc10 : World.cell? ((((((((((((p3.w.setCell ⟨w.heap.size, 0, none⟩ (.int .i64 c)).setCell ⟨w.heap.size, 1, none⟩ (.int .i64 (-s))).setCell ⟨w.heap.size, 2, none⟩ (.int .i64 0)).setCell ⟨w.heap.size, 3, none⟩ (.int .i64 s)).setCell ⟨w.heap.size, 4, none⟩ (.int .i64 c)).setCell ⟨w.heap.size, 5, none⟩ (.int .i64 0)).setCell ⟨w.heap.size, 6, none⟩ (.int .i64 0)).setCell ⟨w.heap.size, 7, none⟩ (.int .i64 0)).setCell ⟨w.heap.size, 8, none⟩ (.int .i64 16384)).setCell ⟨w.heap.size, 9, none⟩ (.int .i64 0)).setCell ⟨w.heap.size, 10, none⟩ (.int .i64 0)).setCell ⟨w.heap.size, 11, none⟩ (.int .i64 0)) ⟨w.heap.size, 10, none⟩ = some (.int .i64 0) := kr.cell rfl
    have rc11 : World.cell? ((((((((((((p3.w.setCell ⟨w.heap.size, 0, none⟩ (.int .i64 c)).setCell ⟨w.heap.size, 1, none⟩ (.int .i64 (-s))).setCell ⟨w.heap.size, 2, none⟩ (.int .i64 0)).setCell ⟨w.heap.size, 3, none⟩ (.int .i64 s)).setCell ⟨w.heap.size, 4, none⟩ (.int .i64 c)).setCell ⟨w.heap.size, 5, none⟩ (.int .i64 0)).setCell ⟨w.heap.size, 6, none⟩ (.int .i64 0)).setCell ⟨w.heap.size, 7, none⟩ (.int .i64 0)).setCell ⟨w.heap.size, 8, none⟩ (.int .i64 16384)).setCell ⟨w.heap.size, 9, none⟩ (.int .i64 0)).setCell ⟨w.heap.size, 10, none⟩ (.int .i64 0)).setCell ⟨w.heap.size, 11, none⟩ (.int .i64 0)) ⟨w.heap.size, 11, none⟩ = some (.int .i64 0) := kr.cell rfl
    exact bodyPost_ret (v := .agg #[.int .i64 c, .int .i64 (-s), .int .i64 0, .int .i64 s, .int .i64 c, .int .i64 0, .int .i64 0, .int .i64 0, .int .i64 16384, .int .i64 0, .int .i64 0, .int .i64 0]) (by simp [results, Try.results13, go_sem, rc0, rc1, rc2, rc3, rc4, rc5, rc6, rc7, rc8, rc9, rc10, rc11]) rfl ⟨rfl, (((((((((((((bw_below B3 p3).setCell (p := ⟨w.heap.size, 0, none⟩) (by show w.heap.size ≤ w.heap.size; omega) _).setCell (p := ⟨w.heap.size, 1, none⟩) (by show w.heap.size ≤ w.heap.size; omega) _).setCell (p := ⟨w.heap.size, 2, none⟩) (by show w.heap.size ≤ w.heap.size; omega) _).setCell (p := ⟨w.heap.size, 3, none⟩) (by show w.heap.size ≤ w.heap.size; omega) _).setCell (p := ⟨w.heap.size, 4, none⟩) (by show w.heap.size ≤ w.heap.size; omega) _).setCell (p := ⟨w.heap.size, 5, none⟩) (by show w.heap.size ≤ w.heap.size; omega) _).setCell (p := ⟨w.heap.size, 6, none⟩) (by show w.heap.size ≤ w.heap.size; omega) _).setCell (p := ⟨w.heap.size, 7, none⟩) (by show w.heap.size ≤ w.heap.size; omega) _).setCell (p := ⟨w.heap.size, 8, none⟩) (by show w.heap.size ≤ w.heap.size; omega) _).setCell (p := ⟨w.heap.size, 9, none⟩) (by show w.heap.size ≤ w.heap.size; omega) _).setCell (p := ⟨w.heap.size, 10, none⟩) (by show w.heap.size ≤ w.heap.size; omega) _).setCell (p := ⟨w.heap.size, 11, none⟩) (by show w.heap.size ≤ w.heap.size; omega) _)⟩
  · rw [if_neg h0, if_neg h1, if_neg h2]
    unfold p12 pNone
    dsimp only
    have t0 : (axis == 0) = false := by simpa using h0
    have t1 : (axis == 1) = false := by simpa using h1
    have t2 : (axis == 2) = false := by simpa using h2
    go_enter Try.func13, Try.ntmps13
    go_upto_region 1 with (fail)
    obtain ⟨W1, hW1⟩ : ∃ W, W = w.alloc (.cells #[.int .i64 0, .int .i64 0, .int .i64 0, .int .i64 0, .int .i64 0, .int .i64 0, .int .i64 0, .int .i64 0, .int .i64 0, .int .i64 0, .int .i64 0, .int .i64 0] 25) := ⟨_, rfl⟩
    have B1 : Below w.heap.size w W1 := by rw [hW1]; go_grown
    have k_r : Bk W1 (w.heap.size) 25 #[.int .i64 0, .int .i64 0, .int .i64 0, .int .i64 0, .int .i64 0, .int .i64 0, .int .i64 0, .int .i64 0, .int .i64 0, .int .i64 0, .int .i64 0, .int .i64 0] := by rw [hW1]; exact Bk.new _ _ _
    rw [← hW1]
    clear hW1
    have c_r_0 : ∀ p : BW W1, p.w.cell? ⟨w.heap.size, 0, none⟩ = some (.int .i64 0) := bw_cell (k_r.cell rfl)
    have c_r_1 : ∀ p : BW W1, p.w.cell? ⟨w.heap.size, 1, none⟩ = some (.int .i64 0) := bw_cell (k_r.cell rfl)
    have c_r_2 : ∀ p : BW W1, p.w.cell? ⟨w.heap.size, 2, none⟩ = some (.int .i64 0) := bw_cell (k_r.cell rfl)
    have c_r_3 : ∀ p : BW W1, p.w.cell? ⟨w.heap.size, 3, none⟩ = some (.int .i64 0) := bw_cell (k_r.cell rfl)
    have c_r_4 : ∀ p : BW W1, p.w.cell? ⟨w.heap.size, 4, none⟩ = some (.int .i64 0) := bw_cell (k_r.cell rfl)
    have c_r_5 : ∀ p : BW W1, p.w.cell? ⟨w.heap.size, 5, none⟩ = some (.int .i64 0) := bw_cell (k_r.cell rfl)
    have c_r_6 : ∀ p : BW W1, p.w.cell? ⟨w.heap.size, 6, none⟩ = some (.int .i64 0) := bw_cell (k_r.cell rfl)
    have c_r_7 : ∀ p : BW W1, p.w.cell? ⟨w.heap.size, 7, none⟩ = some (.int .i64 0) := bw_cell (k_r.cell rfl)
    have c_r_8 : ∀ p : BW W1, p.w.cell? ⟨w.heap.size, 8, none⟩ = some (.int .i64 0) := bw_cell (k_r.cell rfl)
    have c_r_9 : ∀ p : BW W1, p.w.cell? ⟨w.heap.size, 9, none⟩ = some (.int .i64 0) := bw_cell (k_r.cell rfl)
    have c_r_10 : ∀ p : BW W1, p.w.cell? ⟨w.heap.size, 10, none⟩ = some (.int .i64 0) := bw_cell (k_r.cell rfl)
    have c_r_11 : ∀ p : BW W1, p.w.cell? ⟨w.heap.size, 11, none⟩ = some (.int .i64 0) := bw_cell (k_r.cell rfl)
    obtain ⟨p1, hp1⟩ : ∃ p : BW W1, p.w = W1 := ⟨BW.start W1, rfl⟩
    rw [← hp1]
    clear hp1
    go_upto_region 2 with (first
      | (go_at_call 11; (first | (with_reducible refine (bw_call K.out _).mono ?_)); rintro e w' ⟨rfl, q, rfl⟩))
    obtain ⟨W2, hW2⟩ : ∃ W, W = q.w.alloc (.cells #[.int .i64 16384, .int .i64 0, .int .i64 0, .int .i64 0, .int .i64 16384, .int .i64 0, .int .i64 0, .int .i64 0, .int .i64 16384, .int .i64 0, .int .i64 0, .int .i64 0] 25) := ⟨_, rfl⟩
    have B2 : Below w.heap.size w W2 := by rw [hW2]; exact (bw_below B1 q).alloc (bw_below B1 q).size _
    have l_p : w.heap.size < q.w.heap.size := (k_r.below q.h).lt
    have k_r := (k_r.below q.h).alloc (.cells #[.int .i64 16384, .int .i64 0, .int .i64 0, .int .i64 0, .int .i64 16384, .int .i64 0, .int .i64 0, .int .i64 0, .int .i64 16384, .int .i64 0, .int .i64 0, .int .i64 0] 25)
    rw [← hW2] at k_r
    have k_p : Bk W2 q.w.heap.size 25 #[.int .i64 16384, .int .i64 0, .int .i64 0, .int .i64 0, .int .i64 16384, .int .i64 0, .int .i64 0, .int .i64 0, .int .i64 16384, .int .i64 0, .int .i64 0, .int .i64 0] := by rw [hW2]; exact Bk.new _ _ _
    rw [← hW2]
    clear hW2
    clear B1
    clear c_r_0 c_r_1 c_r_2 c_r_3 c_r_4 c_r_5 c_r_6 c_r_7 c_r_8 c_r_9 c_r_10 c_r_11
    generalize q.w.heap.size = g_p at *
    have c_r_0 : ∀ p : BW W2, p.w.cell? ⟨w.heap.size, 0, none⟩ = some (.int .i64 0) := bw_cell (k_r.cell rfl)
    have c_r_1 : ∀ p : BW W2, p.w.cell? ⟨w.heap.size, 1, none⟩ = some (.int .i64 0) := bw_cell (k_r.cell rfl)
    have c_r_2 : ∀ p : BW W2, p.w.cell? ⟨w.heap.size, 2, none⟩ = some (.int .i64 0) := bw_cell (k_r.cell rfl)
    have c_r_3 : ∀ p : BW W2, p.w.cell? ⟨w.heap.size, 3, none⟩ = some (.int .i64 0) := bw_cell (k_r.cell rfl)
    have c_r_4 : ∀ p : BW W2, p.w.cell? ⟨w.heap.size, 4, none⟩ = some (.int .i64 0) := bw_cell (k_r.cell rfl)
    have c_r_5 : ∀ p : BW W2, p.w.cell? ⟨w.heap.size, 5, none⟩ = some (.int .i64 0) := bw_cell (k_r.cell rfl)
    have c_r_6 : ∀ p : BW W2, p.w.cell? ⟨w.heap.size, 6, none⟩ = some (.int .i64 0) := bw_cell (k_r.cell rfl)
    have c_r_7 : ∀ p : BW W2, p.w.cell? ⟨w.heap.size, 7, none⟩ = some (.int .i64 0) := bw_cell (k_r.cell rfl)
    have c_r_8 : ∀ p : BW W2, p.w.cell? ⟨w.heap.size, 8, none⟩ = some (.int .i64 0) := bw_cell (k_r.cell rfl)
    have c_r_9 : ∀ p : BW W2, p.w.cell? ⟨w.heap.size, 9, none⟩ = some (.int .i64 0) := bw_cell (k_r.cell rfl)
    have c_r_10 : ∀ p : BW W2, p.w.cell? ⟨w.heap.size, 10, none⟩ = some (.int .i64 0) := bw_cell (k_r.cell rfl)
    have c_r_11 : ∀ p : BW W2, p.w.cell? ⟨w.heap.size, 11, none⟩ = some (.int .i64 0) := bw_cell (k_r.cell rfl)
    have c_p_0 : ∀ p : BW W2, p.w.cell? ⟨g_p, 0, none⟩ = some (.int .i64 16384) := bw_cell (k_p.cell rfl)
    have f_p_0 : ∀ p : BW W2, p.w.frozen? ⟨g_p, 0, none⟩ = false := fun p => (k_p.below p.h).frozen 0
    have c_p_1 : ∀ p : BW W2, p.w.cell? ⟨g_p, 1, none⟩ = some (.int .i64 0) := bw_cell (k_p.cell rfl)
    have f_p_1 : ∀ p : BW W2, p.w.frozen? ⟨g_p, 1, none⟩ = false := fun p => (k_p.below p.h).frozen 1
    have c_p_2 : ∀ p : BW W2, p.w.cell? ⟨g_p, 2, none⟩ = some (.int .i64 0) := bw_cell (k_p.cell rfl)
    have f_p_2 : ∀ p : BW W2, p.w.frozen? ⟨g_p, 2, none⟩ = false := fun p => (k_p.below p.h).frozen 2
    have c_p_3 : ∀ p : BW W2, p.w.cell? ⟨g_p, 3, none⟩ = some (.int .i64 0) := bw_cell (k_p.cell rfl)
    have f_p_3 : ∀ p : BW W2, p.w.frozen? ⟨g_p, 3, none⟩ = false := fun p => (k_p.below p.h).frozen 3
    have c_p_4 : ∀ p : BW W2, p.w.cell? ⟨g_p, 4, none⟩ = some (.int .i64 16384) := bw_cell (k_p.cell rfl)
    have f_p_4 : ∀ p : BW W2, p.w.frozen? ⟨g_p, 4, none⟩ = false := fun p => (k_p.below p.h).frozen 4
    have c_p_5 : ∀ p : BW W2, p.w.cell? ⟨g_p, 5, none⟩ = some (.int .i64 0) := bw_cell (k_p.cell rfl)
    have f_p_5 : ∀ p : BW W2, p.w.frozen? ⟨g_p, 5, none⟩ = false := fun p => (k_p.below p.h).frozen 5
    have c_p_6 : ∀ p : BW W2, p.w.cell? ⟨g_p, 6, none⟩ = some (.int .i64 0) := bw_cell (k_p.cell rfl)
    have f_p_6 : ∀ p : BW W2, p.w.frozen? ⟨g_p, 6, none⟩ = false := fun p => (k_p.below p.h).frozen 6
    have c_p_7 : ∀ p : BW W2, p.w.cell? ⟨g_p, 7, none⟩ = some (.int .i64 0) := bw_cell (k_p.cell rfl)
    have f_p_7 : ∀ p : BW W2, p.w.frozen? ⟨g_p, 7, none⟩ = false := fun p => (k_p.below p.h).frozen 7
    have c_p_8 : ∀ p : BW W2, p.w.cell? ⟨g_p, 8, none⟩ = some (.int .i64 16384) := bw_cell (k_p.cell rfl)
    have f_p_8 : ∀ p : BW W2, p.w.frozen? ⟨g_p, 8, none⟩ = false := fun p => (k_p.below p.h).frozen 8
    have c_p_9 : ∀ p : BW W2, p.w.cell? ⟨g_p, 9, none⟩ = some (.int .i64 0) := bw_cell (k_p.cell rfl)
    have f_p_9 : ∀ p : BW W2, p.w.frozen? ⟨g_p, 9, none⟩ = false := fun p => (k_p.below p.h).frozen 9
    have c_p_10 : ∀ p : BW W2, p.w.cell? ⟨g_p, 10, none⟩ = some (.int .i64 0) := bw_cell (k_p.cell rfl)
    have f_p_10 : ∀ p : BW W2, p.w.frozen? ⟨g_p, 10, none⟩ = false := fun p => (k_p.below p.h).frozen 10
    have c_p_11 : ∀ p : BW W2, p.w.cell? ⟨g_p, 11, none⟩ = some (.int .i64 0) := bw_cell (k_p.cell rfl)
    have f_p_11 : ∀ p : BW W2, p.w.frozen? ⟨g_p, 11, none⟩ = false := fun p => (k_p.below p.h).frozen 11
    obtain ⟨p2, hp2⟩ : ∃ p : BW W2, p.w = W2 := ⟨BW.start W2, rfl⟩
    rw [← hp2]
    clear hp2
    go_upto_region 12 with (first
      | (go_at_call 31; (first | (with_reducible refine (bw_call C.out _).mono ?_)); rintro e w' ⟨rfl, q, rfl⟩)
      | (go_at_call 32; (first | (with_reducible refine (bw_call S.out _).mono ?_)); rintro e w' ⟨rfl, q, rfl⟩))
    have f_r_0 : ∀ p : BW W2, p.w.frozen? ⟨w.heap.size, 0, none⟩ = false := fun p => (k_r.below p.h).frozen 0
    have f_r_1 : ∀ p : BW W2, p.w.frozen? ⟨w.heap.size, 1, none⟩ = false := fun p => (k_r.below p.h).frozen 1
    have f_r_2 : ∀ p : BW W2, p.w.frozen? ⟨w.heap.size, 2, none⟩ = false := fun p => (k_r.below p.h).frozen 2
    have f_r_3 : ∀ p : BW W2, p.w.frozen? ⟨w.heap.size, 3, none⟩ = false := fun p => (k_r.below p.h).frozen 3
    have f_r_4 : ∀ p : BW W2, p.w.frozen? ⟨w.heap.size, 4, none⟩ = false := fun p => (k_r.below p.h).frozen 4
    have f_r_5 : ∀ p : BW W2, p.w.frozen? ⟨w.heap.size, 5, none⟩ = false := fun p => (k_r.below p.h).frozen 5
    have f_r_6 : ∀ p : BW W2, p.w.frozen? ⟨w.heap.size, 6, none⟩ = false := fun p => (k_r.below p.h).frozen 6
    have f_r_7 : ∀ p : BW W2, p.w.frozen? ⟨w.heap.size, 7, none⟩ = false := fun p => (k_r.below p.h).frozen 7
    have f_r_8 : ∀ p : BW W2, p.w.frozen? ⟨w.heap.size, 8, none⟩ = false := fun p => (k_r.below p.h).frozen 8
    have f_r_9 : ∀ p : BW W2, p.w.frozen? ⟨w.heap.size, 9, none⟩ = false := fun p => (k_r.below p.h).frozen 9
    have f_r_10 : ∀ p : BW W2, p.w.frozen? ⟨w.heap.size, 10, none⟩ = false := fun p => (k_r.below p.h).frozen 10
    have f_r_11 : ∀ p : BW W2, p.w.frozen? ⟨w.heap.size, 11, none⟩ = false := fun p => (k_r.below p.h).frozen 11
    go_wp2
    have kr : Bk ((((((((((((q.w.setCell ⟨w.heap.size, 0, none⟩ (.int .i64 16384)).setCell ⟨w.heap.size, 1, none⟩ (.int .i64 0)).setCell ⟨w.heap.size, 2, none⟩ (.int .i64 0)).setCell ⟨w.heap.size, 3, none⟩ (.int .i64 0)).setCell ⟨w.heap.size, 4, none⟩ (.int .i64 16384)).setCell ⟨w.heap.size, 5, none⟩ (.int .i64 0)).setCell ⟨w.heap.size, 6, none⟩ (.int .i64 0)).setCell ⟨w.heap.size, 7, none⟩ (.int .i64 0)).setCell ⟨w.heap.size, 8, none⟩ (.int .i64 16384)).setCell ⟨w.heap.size, 9, none⟩ (.int .i64 0)).setCell ⟨w.heap.size, 10, none⟩ (.int .i64 0)).setCell ⟨w.heap.size, 11, none⟩ (.int .i64 0)) (w.heap.size) 25 #[.int .i64 16384, .int .i64 0, .int .i64 0, .int .i64 0, .int .i64 16384, .int .i64 0, .int .i64 0, .int .i64 0, .int .i64 16384, .int .i64 0, .int .i64 0, .int .i64 0] := (((((((((((((k_r.below q.h).set 0 (.int .i64 16384)).set 1 (.int .i64 0)).set 2 (.int .i64 0)).set 3 (.int .i64 0)).set 4 (.int .i64 16384)).set 5 (.int .i64 0)).set 6 (.int .i64 0)).set 7 (.int .i64 0)).set 8 (.int .i64 16384)).set 9 (.int .i64 0)).set 10 (.int .i64 0)).set 11 (.int .i64 0)).cast (by simp)
    have rc0 : World.cell? ((((((((((((q.w.setCell ⟨w.heap.size, 0, none⟩ (.int .i64 16384)).setCell ⟨w.heap.size, 1, none⟩ (.int .i64 0)).setCell ⟨w.heap.size, 2, none⟩ (.int .i64 0)).setCell ⟨w.heap.size, 3, none⟩ (.int .i64 0)).setCell ⟨w.heap.size, 4, none⟩ (.int .i64 16384)).setCell ⟨w.heap.size, 5, none⟩ (.int .i64 0)).setCell ⟨w.heap.size, 6, none⟩ (.int .i64 0)).setCell ⟨w.heap.size, 7, none⟩ (.int .i64 0)).setCell ⟨w.heap.size, 8, none⟩ (.int .i64 16384)).setCell ⟨w.heap.size, 9, none⟩ (.int .i64 0)).setCell ⟨w.heap.size, 10, none⟩ (.int .i64 0)).setCell ⟨w.heap.size, 11, none⟩ (.int .i64 0)) ⟨w.heap.size, 0, none⟩ = some (.int .i64 16384) := kr.cell rfl
    have rc1 : World.cell? ((((((((((((q.w.setCell ⟨w.heap.size, 0, none⟩ (.int .i64 16384)).setCell ⟨w.heap.size, 1, none⟩ (.int .i64 0)).setCell ⟨w.heap.size, 2, none⟩ (.int .i64 0)).setCell ⟨w.heap.size, 3, none⟩ (.int .i64 0)).setCell ⟨w.heap.size, 4, none⟩ (.int .i64 16384)).setCell ⟨w.heap.size, 5, none⟩ (.int .i64 0)).setCell ⟨w.heap.size, 6, none⟩ (.int .i64 0)).setCell ⟨w.heap.size, 7, none⟩ (.int .i64 0)).setCell ⟨w.heap.size, 8, none⟩ (.int .i64 16384)).setCell ⟨w.heap.size, 9, none⟩ (.int .i64 0)).setCell ⟨w.heap.size, 10, none⟩ (.int .i64 0)).setCell ⟨w.heap.size, 11, none⟩ (.int .i64 0)) ⟨w.heap.size, 1, none⟩ = some (.int .i64 0) := kr.cell rfl
    have rc2 : World.cell? ((((((((((((q.w.setCell ⟨w.heap.size, 0, none⟩ (.int .i64 16384)).setCell ⟨w.heap.size, 1, none⟩ (.int .i64 0)).setCell ⟨w.heap.size, 2, none⟩ (.int .i64 0)).setCell ⟨w.heap.size, 3, none⟩ (.int .i64 0)).setCell ⟨w.heap.size, 4, none⟩ (.int .i64 16384)).setCell ⟨w.heap.size, 5, none⟩ (.int .i64 0)).setCell ⟨w.heap.size, 6, none⟩ (.int .i64 0)).setCell ⟨w.heap.size, 7, none⟩ (.int .i64 0)).setCell ⟨w.heap.size, 8, none⟩ (.int .i64 16384)).setCell ⟨w.heap.size, 9, none⟩ (.int .i64 0)).setCell ⟨w.heap.size, 10, none⟩ (.int .i64 0)).setCell ⟨w.heap.size, 11, none⟩ (.int .i64 0)) ⟨w.heap.size, 2, none⟩ = some (.int .i64 0) := kr.cell rfl
    have rc3 : World.cell? ((((((((((((q.w.setCell ⟨w.heap.size, 0, none⟩ (.int .i64 16384)).setCell ⟨w.heap.size, 1, none⟩ (.int .i64 0)).setCell ⟨w.heap.size, 2, none⟩ (.int .i64 0)).setCell ⟨w.heap.size, 3, none⟩ (.int .i64 0)).setCell ⟨w.heap.size, 4, none⟩ (.int .i64 16384)).setCell ⟨w.heap.size, 5, none⟩ (.int .i64 0)).setCell ⟨w.heap.size, 6, none⟩ (.int .i64 0)).setCell ⟨w.heap.size, 7, none⟩ (.int .i64 0)).setCell ⟨w.heap.size, 8, none⟩ (.int .i64 16384)).setCell ⟨w.heap.size, 9, none⟩ (.int .i64 0)).setCell ⟨w.heap.size, 10, none⟩ (.int .i64 0)).setCell ⟨w.heap.size, 11, none⟩ (.int .i64 0)) ⟨w.heap.size, 3, none⟩ = some (.int .i64 0) := kr.cell rfl
    have rc4 : World.cell? ((((((((((((q.w.setCell ⟨w.heap.size, 0, none⟩ (.int .i64 16384)).setCell ⟨w.heap.size, 1, none⟩ (.int .i64 0)).setCell ⟨w.heap.size, 2, none⟩ (.int .i64 0)).setCell ⟨w.heap.size, 3, none⟩ (.int .i64 0)).setCell ⟨w.heap.size, 4, none⟩ (.int .i64 16384)).setCell ⟨w.heap.size, 5, none⟩ (.int .i64 0)).setCell ⟨w.heap.size, 6, none⟩ (.int .i64 0)).setCell ⟨w.heap.size, 7, none⟩ (.int .i64 0)).setCell ⟨w.heap.size, 8, none⟩ (.int .i64 16384)).setCell ⟨w.heap.size, 9, none⟩ (.int .i64 0)).setCell ⟨w.heap.size, 10, none⟩ (.int .i64 0)).setCell ⟨w.heap.size, 11, none⟩ (.int .i64 0)) ⟨w.heap.size, 4, none⟩ = some (.int .i64 16384) := kr.cell rfl
    have rc5 : World.cell? ((((((((((((q.w.setCell ⟨w.heap.size, 0, none⟩ (.int .i64 16384)).setCell ⟨w.heap.size, 1, none⟩ (.int .i64 0)).setCell ⟨w.heap.size, 2, none⟩ (.int .i64 0)).setCell ⟨w.heap.size, 3, none⟩ (.int .i64 0)).setCell ⟨w.heap.size, 4, none⟩ (.int .i64 16384)).setCell ⟨w.heap.size, 5, none⟩ (.int .i64 0)).setCell ⟨w.heap.size, 6, none⟩ (.int .i64 0)).setCell ⟨w.heap.size, 7, none⟩ (.int .i64 0)).setCell ⟨w.heap.size, 8, none⟩ (.int .i64 16384)).setCell ⟨w.heap.size, 9, none⟩ (.int .i64 0)).setCell ⟨w.heap.size, 10, none⟩ (.int .i64 0)).setCell ⟨w.heap.size, 11, none⟩ (.int .i64 0)) ⟨w.heap.size, 5, none⟩ = some (.int .i64 0) := kr.cell rfl
    have rc6 : World.cell? ((((((((((((q.w.setCell ⟨w.heap.size, 0, none⟩ (.int .i64 16384)).setCell ⟨w.heap.size, 1, none⟩ (.int .i64 0)).setCell ⟨w.heap.size, 2, none⟩ (.int .i64 0)).setCell ⟨w.heap.size, 3, none⟩ (.int .i64 0)).setCell ⟨w.heap.size, 4, none⟩ (.int .i64 16384)).setCell ⟨w.heap.size, 5, none⟩ (.int .i64 0)).setCell ⟨w.heap.size, 6, none⟩ (.int .i64 0)).setCell ⟨w.heap.size, 7, none⟩ (.int .i64 0)).setCell ⟨w.heap.size, 8, none⟩ (.int .i64 16384)).setCell ⟨w.heap.size, 9, none⟩ (.int .i64 0)).setCell ⟨w.heap.size, 10, none⟩ (.int .i64 0)).setCell ⟨w.heap.size, 11, none⟩ (.int .i64 0)) ⟨w.heap.size, 6, none⟩ = some (.int .i64 0) := kr.cell rfl
    have rc7 : World.cell? ((((((((((((q.w.setCell ⟨w.heap.size, 0, none⟩ (.int .i64 16384)).setCell ⟨w.heap.size, 1, none⟩ (.int .i64 0)).setCell ⟨w.heap.size, 2, none⟩ (.int .i64 0)).setCell ⟨w.heap.size, 3, none⟩ (.int .i64 0)).setCell ⟨w.heap.size, 4, none⟩ (.int .i64 16384)).setCell ⟨w.heap.size, 5, none⟩ (.int .i64 0)).setCell ⟨w.heap.size, 6, none⟩ (.int .i64 0)).setCell ⟨w.heap.size, 7, none⟩ (.int .i64 0)).setCell ⟨w.heap.size, 8, none⟩ (.int .i64 16384)).setCell ⟨w.heap.size, 9, none⟩ (.int .i64 0)).setCell ⟨w.heap.size, 10, none⟩ (.int .i64 0)).setCell ⟨w.heap.size, 11, none⟩ (.int .i64 0)) ⟨w.heap.size, 7, none⟩ = some (.int .i64 0) := kr.cell rfl
    have rc8 : World.cell? ((((((((((((q.w.setCell ⟨w.heap.size, 0, none⟩ (.int .i64 16384)).setCell ⟨w.heap.size, 1, none⟩ (.int .i64 0)).setCell ⟨w.heap.size, 2, none⟩ (.int .i64 0)).setCell ⟨w.heap.size, 3, none⟩ (.int .i64 0)).setCell ⟨w.heap.size, 4, none⟩ (.int .i64 16384)).setCell ⟨w.heap.size, 5, none⟩ (.int .i64 0)).setCell ⟨w.heap.size, 6, none⟩ (.int .i64 0)).setCell ⟨w.heap.size, 7, none⟩ (.int .i64 0)).setCell ⟨w.heap.size, 8, none⟩ (.int .i64 16384)).setCell ⟨w.heap.size, 9, none⟩ (.int .i64 0)).setCell ⟨w.heap.size, 10, none⟩ (.int .i64 0)).setCell ⟨w.heap.size, 11, none⟩ (.int .i64 0)) ⟨w.heap.size, 8, none⟩ = some (.int .i64 16384) := kr.cell rfl
    have rc9 : World.cell? ((((((((((((q.w.setCell ⟨w.heap.size, 0, none⟩ (.int .i64 16384)).setCell ⟨w.heap.size, 1, none⟩ (.int .i64 0)).setCell ⟨w.heap.size, 2, none⟩ (.int .i64 0)).setCell ⟨w.heap.size, 3, none⟩ (.int .i64 0)).setCell ⟨w.heap.size, 4, none⟩ (.int .i64 16384)).setCell ⟨w.heap.size, 5, none⟩ (.int .i64 0)).setCell ⟨w.heap.size, 6, none⟩ (.int .i64 0)).setCell ⟨w.heap.size, 7, none⟩ (.int .i64 0)).setCell ⟨w.heap.size, 8, none⟩ (.int .i64 16384)).setCell ⟨w.heap.size, 9, none⟩ (.int .i64 0)).setCell ⟨w.heap.size, 10, none⟩ (.int .i64 0)).setCell ⟨w.heap.size, 11, none⟩ (.int .i64 0)) ⟨w.heap.size, 9, none⟩ = some (.int .i64 0) := kr.cell rfl
    have rc10 : World.cell? ((((((((((((q.w.setCell ⟨w.heap.size, 0, none⟩ (.int .i64 16384)).setCell ⟨w.heap.size, 1, none⟩ (.int .i64 0)).setCell ⟨w.heap.size, 2, none⟩ (.int .i64 0)).setCell ⟨w.heap.size, 3, none⟩ (.int .i64 0)).setCell ⟨w.heap.size, 4, none⟩ (.int .i64 16384)).setCell ⟨w.heap.size, 5, none⟩ (.int .i64 0)).setCell ⟨w.heap.size, 6, none⟩ (.int .i64 0)).setCell ⟨w.heap.size, 7, none⟩ (.int .i64 0)).setCell ⟨w.heap.size, 8, none⟩ (.int .i64 16384)).setCell ⟨w.heap.size, 9, none⟩ (.int .i64 0)).setCell ⟨w.heap.size, 10, none⟩ (.int .i64 0)).setCell ⟨w.heap.size, 11, none⟩ (.int .i64 0)) ⟨w.heap.size, 10, none⟩ = some (.int .i64 0) := kr.cell rfl
    have rc11 : World.cell? ((((((((((((q.w.setCell ⟨w.heap.size, 0, none⟩ (.int .i64 16384)).setCell ⟨w.heap.size, 1, none⟩ (.int .i64 0)).setCell ⟨w.heap.size, 2, none⟩ (.int .i64 0)).setCell ⟨w.heap.size, 3, none⟩ (.int .i64 0)).setCell ⟨w.heap.size, 4, none⟩ (.int .i64 16384)).setCell ⟨w.heap.size, 5, none⟩ (.int .i64 0)).setCell ⟨w.heap.size, 6, none⟩ (.int .i64 0)).setCell ⟨w.heap.size, 7, none⟩ (.int .i64 0)).setCell ⟨w.heap.size, 8, none⟩ (.int .i64 16384)).setCell ⟨w.heap.size, 9, none⟩ (.int .i64 0)).setCell ⟨w.heap.size, 10, none⟩ (.int .i64 0)).setCell ⟨w.heap.size, 11, none⟩ (.int .i64 0)) ⟨w.heap.size, 11, none⟩ = some (.int .i64 0) := kr.cell rfl
    exact bodyPost_ret (v := .agg #[.int .i64 16384, .int .i64 0, .int .i64 0, .int .i64 0, .int .i64 16384, .int .i64 0, .int .i64 0, .int .i64 0, .int .i64 16384, .int .i64 0, .int .i64 0, .int .i64 0]) (by simp [results, Try.results13, go_sem, rc0, rc1, rc2, rc3, rc4, rc5, rc6, rc7, rc8, rc9, rc10, rc11]) rfl ⟨rfl, (((((((((((((bw_below B2 q).setCell (p := ⟨w.heap.size, 0, none⟩) (by show w.heap.size ≤ w.heap.size; omega) _).setCell (p := ⟨w.heap.size, 1, none⟩) (by show w.heap.size ≤ w.heap.size; omega) _).setCell (p := ⟨w.heap.size, 2, none⟩) (by show w.heap.size ≤ w.heap.size; omega) _).setCell (p := ⟨w.heap.size, 3, none⟩) (by show w.heap.size ≤ w.heap.size; omega) _).setCell (p := ⟨w.heap.size, 4, none⟩) (by show w.heap.size ≤ w.heap.size; omega) _).setCell (p := ⟨w.heap.size, 5, none⟩) (by show w.heap.size ≤ w.heap.size; omega) _).setCell (p := ⟨w.heap.size, 6, none⟩) (by show w.heap.size ≤ w.heap.size; omega) _).setCell (p := ⟨w.heap.size, 7, none⟩) (by show w.heap.size ≤ w.heap.size; omega) _).setCell (p := ⟨w.heap.size, 8, none⟩) (by show w.heap.size ≤ w.heap.size; omega) _).setCell (p := ⟨w.heap.size, 9, none⟩) (by show w.heap.size ≤ w.heap.size; omega) _).setCell (p := ⟨w.heap.size, 10, none⟩) (by show w.heap.size ≤ w.heap.size; omega) _).setCell (p := ⟨w.heap.size, 11, none⟩) (by show w.heap.size ≤ w.heap.size; omega) _)⟩

set_option maxRecDepth 100000 in
set_option maxHeartbeats 4000000 in
theorem ref8_Sized (n d : Int) (w : World) :
    Calls Try.prog 15 #[.int .i64 n, .int .i64 d] w fun en w' => en = .returned (.agg (p12 (pSized n d))) ∧ Below w.heap.size w w' := by
  have K := Lib.hid (fun w => ref8_None w)
  unfold pSized
  have hc : n < 1 ∨ (¬ n < 1 ∧ d < 1) ∨ (¬ n < 1 ∧ ¬ d < 1 ∧ 64 < n) ∨ (¬ n < 1 ∧ ¬ d < 1 ∧ ¬ 64 < n ∧ 64 < d) ∨ (¬ n < 1 ∧ ¬ d < 1 ∧ ¬ 64 < n ∧ ¬ 64 < d) := by omega
  rcases hc with h1 | ⟨h1, h2⟩ | ⟨h1, h2, h3⟩ | ⟨h1, h2, h3, h4⟩ | ⟨h1, h2, h3, h4⟩
  · rw [if_neg (by omega)]
    have t1 : decide (n < 1) = true := decide_eq_true h1
    clear h1
    unfold p12 pNone
    dsimp only
    go_enter Try.func15, Try.ntmps15
    go_upto_region 1 with (fail)
    obtain ⟨W1, hW1⟩ : ∃ W, W = w.alloc (.cells #[.int .i64 0, .int .i64 0, .int .i64 0, .int .i64 0, .int .i64 0, .int .i64 0, .int .i64 0, .int .i64 0, .int .i64 0, .int .i64 0, .int .i64 0, .int .i64 0] 25) := ⟨_, rfl⟩
    have B1 : Below w.heap.size w W1 := by rw [hW1]; go_grown
    have k_r : Bk W1 (w.heap.size) 25 #[.int .i64 0, .int .i64 0, .int .i64 0, .int .i64 0, .int .i64 0, .int .i64 0, .int .i64 0, .int .i64 0, .int .i64 0, .int .i64 0, .int .i64 0, .int .i64 0] := by rw [hW1]; exact Bk.new _ _ _
    rw [← hW1]
    clear hW1
    have c_r_0 : ∀ p : BW W1, p.w.cell? ⟨w.heap.size, 0, none⟩ = some (.int .i64 0) := bw_cell (k_r.cell rfl)
    have f_r_0 : ∀ p : BW W1, p.w.frozen? ⟨w.heap.size, 0, none⟩ = false := fun p => (k_r.below p.h).frozen 0
    have c_r_1 : ∀ p : BW W1, p.w.cell? ⟨w.heap.size, 1, none⟩ = some (.int .i64 0) := bw_cell (k_r.cell rfl)
    have f_r_1 : ∀ p : BW W1, p.w.frozen? ⟨w.heap.size, 1, none⟩ = false := fun p => (k_r.below p.h).frozen 1
    have c_r_2 : ∀ p : BW W1, p.w.cell? ⟨w.heap.size, 2, none⟩ = some (.int .i64 0) := bw_cell (k_r.cell rfl)
    have f_r_2 : ∀ p : BW W1, p.w.frozen? ⟨w.heap.size, 2, none⟩ = false := fun p => (k_r.below p.h).frozen 2
    have c_r_3 : ∀ p : BW W1, p.w.cell? ⟨w.heap.size, 3, none⟩ = some (.int .i64 0) := bw_cell (k_r.cell rfl)
    have f_r_3 : ∀ p : BW W1, p.w.frozen? ⟨w.heap.size, 3, none⟩ = false := fun p => (k_r.below p.h).frozen 3
    have c_r_4 : ∀ p : BW W1, p.w.cell? ⟨w.heap.size, 4, none⟩ = some (.int .i64 0) := bw_cell (k_r.cell rfl)
    have f_r_4 : ∀ p : BW W1, p.w.frozen? ⟨w.heap.size, 4, none⟩ = false := fun p => (k_r.below p.h).frozen 4
    have c_r_5 : ∀ p : BW W1, p.w.cell? ⟨w.heap.size, 5, none⟩ = some (.int .i64 0) := bw_cell (k_r.cell rfl)
    have f_r_5 : ∀ p : BW W1, p.w.frozen? ⟨w.heap.size, 5, none⟩ = false := fun p => (k_r.below p.h).frozen 5
    have c_r_6 : ∀ p : BW W1, p.w.cell? ⟨w.heap.size, 6, none⟩ = some (.int .i64 0) := bw_cell (k_r.cell rfl)
    have f_r_6 : ∀ p : BW W1, p.w.frozen? ⟨w.heap.size, 6, none⟩ = false := fun p => (k_r.below p.h).frozen 6
    have c_r_7 : ∀ p : BW W1, p.w.cell? ⟨w.heap.size, 7, none⟩ = some (.int .i64 0) := bw_cell (k_r.cell rfl)
    have f_r_7 : ∀ p : BW W1, p.w.frozen? ⟨w.heap.size, 7, none⟩ = false := fun p => (k_r.below p.h).frozen 7
    have c_r_8 : ∀ p : BW W1, p.w.cell? ⟨w.heap.size, 8, none⟩ = some (.int .i64 0) := bw_cell (k_r.cell rfl)
    have f_r_8 : ∀ p : BW W1, p.w.frozen? ⟨w.heap.size, 8, none⟩ = false := fun p => (k_r.below p.h).frozen 8
    have c_r_9 : ∀ p : BW W1, p.w.cell? ⟨w.heap.size, 9, none⟩ = some (.int .i64 0) := bw_cell (k_r.cell rfl)
    have f_r_9 : ∀ p : BW W1, p.w.frozen? ⟨w.heap.size, 9, none⟩ = false := fun p => (k_r.below p.h).frozen 9
    have c_r_10 : ∀ p : BW W1, p.w.cell? ⟨w.heap.size, 10, none⟩ = some (.int .i64 0) := bw_cell (k_r.cell rfl)
    have f_r_10 : ∀ p : BW W1, p.w.frozen? ⟨w.heap.size, 10, none⟩ = false := fun p => (k_r.below p.h).frozen 10
    have c_r_11 : ∀ p : BW W1, p.w.cell? ⟨w.heap.size, 11, none⟩ = some (.int .i64 0) := bw_cell (k_r.cell rfl)
    have f_r_11 : ∀ p : BW W1, p.w.frozen? ⟨w.heap.size, 11, none⟩ = false := fun p => (k_r.below p.h).frozen 11
    obtain ⟨p1, hp1⟩ : ∃ p : BW W1, p.w = W1 := ⟨BW.start W1, rfl⟩
    rw [← hp1]
    clear hp1
    go_wp2_with (first
      | (go_at_call 11; (first | (with_reducible refine (bw_call K.out _).mono ?_)); rintro e w' ⟨rfl, q, rfl⟩))
    have kr : Bk ((((((((((((q.w.setCell ⟨w.heap.size, 0, none⟩ (.int .i64 16384)).setCell ⟨w.heap.size, 1, none⟩ (.int .i64 0)).setCell ⟨w.heap.size, 2, none⟩ (.int .i64 0)).setCell ⟨w.heap.size, 3, none⟩ (.int .i64 0)).setCell ⟨w.heap.size, 4, none⟩ (.int .i64 16384)).setCell ⟨w.heap.size, 5, none⟩ (.int .i64 0)).setCell ⟨w.heap.size, 6, none⟩ (.int .i64 0)).setCell ⟨w.heap.size, 7, none⟩ (.int .i64 0)).setCell ⟨w.heap.size, 8, none⟩ (.int .i64 16384)).setCell ⟨w.heap.size, 9, none⟩ (.int .i64 0)).setCell ⟨w.heap.size, 10, none⟩ (.int .i64 0)).setCell ⟨w.heap.size, 11, none⟩ (.int .i64 0)) (w.heap.size) 25 #[.int .i64 16384, .int .i64 0, .int .i64 0, .int .i64 0, .int .i64 16384, .int .i64 0, .int .i64 0, .int .i64 0, .int .i64 16384, .int .i64 0, .int .i64 0, .int .i64 0] := (((((((((((((k_r.below q.h).set 0 (.int .i64 16384)).set 1 (.int .i64 0)).set 2 (.int .i64 0)).set 3 (.int .i64 0)).set 4 (.int .i64 16384)).set 5 (.int .i64 0)).set 6 (.int .i64 0)).set 7 (.int .i64 0)).set 8 (.int .i64 16384)).set 9 (.int .i64 0)).set 10 (.int .i64 0)).set 11 (.int .i64 0)).cast (by simp)
    have rc0 : World.cell? ((((((((((((q.w.setCell ⟨w.heap.size, 0, none⟩ (.int .i64 16384)).setCell ⟨w.heap.size, 1, none⟩ (.int .i64 0)).setCell ⟨w.heap.size, 2, none⟩ (.int .i64 0)).setCell ⟨w.heap.size, 3, none⟩ (.int .i64 0)).setCell ⟨w.heap.size, 4, none⟩ (.int .i64 16384)).setCell ⟨w.heap.size, 5, none⟩ (.int .i64 0)).setCell ⟨w.heap.size, 6, none⟩ (.int .i64 0)).setCell ⟨w.heap.size, 7, none⟩ (.int .i64 0)).setCell ⟨w.heap.size, 8, none⟩ (.int .i64 16384)).setCell ⟨w.heap.size, 9, none⟩ (.int .i64 0)).setCell ⟨w.heap.size, 10, none⟩ (.int .i64 0)).setCell ⟨w.heap.size, 11, none⟩ (.int .i64 0)) ⟨w.heap.size, 0, none⟩ = some (.int .i64 16384) := kr.cell rfl
    have rc1 : World.cell? ((((((((((((q.w.setCell ⟨w.heap.size, 0, none⟩ (.int .i64 16384)).setCell ⟨w.heap.size, 1, none⟩ (.int .i64 0)).setCell ⟨w.heap.size, 2, none⟩ (.int .i64 0)).setCell ⟨w.heap.size, 3, none⟩ (.int .i64 0)).setCell ⟨w.heap.size, 4, none⟩ (.int .i64 16384)).setCell ⟨w.heap.size, 5, none⟩ (.int .i64 0)).setCell ⟨w.heap.size, 6, none⟩ (.int .i64 0)).setCell ⟨w.heap.size, 7, none⟩ (.int .i64 0)).setCell ⟨w.heap.size, 8, none⟩ (.int .i64 16384)).setCell ⟨w.heap.size, 9, none⟩ (.int .i64 0)).setCell ⟨w.heap.size, 10, none⟩ (.int .i64 0)).setCell ⟨w.heap.size, 11, none⟩ (.int .i64 0)) ⟨w.heap.size, 1, none⟩ = some (.int .i64 0) := kr.cell rfl
    have rc2 : World.cell? ((((((((((((q.w.setCell ⟨w.heap.size, 0, none⟩ (.int .i64 16384)).setCell ⟨w.heap.size, 1, none⟩ (.int .i64 0)).setCell ⟨w.heap.size, 2, none⟩ (.int .i64 0)).setCell ⟨w.heap.size, 3, none⟩ (.int .i64 0)).setCell ⟨w.heap.size, 4, none⟩ (.int .i64 16384)).setCell ⟨w.heap.size, 5, none⟩ (.int .i64 0)).setCell ⟨w.heap.size, 6, none⟩ (.int .i64 0)).setCell ⟨w.heap.size, 7, none⟩ (.int .i64 0)).setCell ⟨w.heap.size, 8, none⟩ (.int .i64 16384)).setCell ⟨w.heap.size, 9, none⟩ (.int .i64 0)).setCell ⟨w.heap.size, 10, none⟩ (.int .i64 0)).setCell ⟨w.heap.size, 11, none⟩ (.int .i64 0)) ⟨w.heap.size, 2, none⟩ = some (.int .i64 0) := kr.cell rfl
    have rc3 : World.cell? ((((((((((((q.w.setCell ⟨w.heap.size, 0, none⟩ (.int .i64 16384)).setCell ⟨w.heap.size, 1, none⟩ (.int .i64 0)).setCell ⟨w.heap.size, 2, none⟩ (.int .i64 0)).setCell ⟨w.heap.size, 3, none⟩ (.int .i64 0)).setCell ⟨w.heap.size, 4, none⟩ (.int .i64 16384)).setCell ⟨w.heap.size, 5, none⟩ (.int .i64 0)).setCell ⟨w.heap.size, 6, none⟩ (.int .i64 0)).setCell ⟨w.heap.size, 7, none⟩ (.int .i64 0)).setCell ⟨w.heap.size, 8, none⟩ (.int .i64 16384)).setCell ⟨w.heap.size, 9, none⟩ (.int .i64 0)).setCell ⟨w.heap.size, 10, none⟩ (.int .i64 0)).setCell ⟨w.heap.size, 11, none⟩ (.int .i64 0)) ⟨w.heap.size, 3, none⟩ = some (.int .i64 0) := kr.cell rfl
    have rc4 : World.cell? ((((((((((((q.w.setCell ⟨w.heap.size, 0, none⟩ (.int .i64 16384)).setCell ⟨w.heap.size, 1, none⟩ (.int .i64 0)).setCell ⟨w.heap.size, 2, none⟩ (.int .i64 0)).setCell ⟨w.heap.size, 3, none⟩ (.int .i64 0)).setCell ⟨w.heap.size, 4, none⟩ (.int .i64 16384)).setCell ⟨w.heap.size, 5, none⟩ (.int .i64 0)).setCell ⟨w.heap.size, 6, none⟩ (.int .i64 0)).setCell ⟨w.heap.size, 7, none⟩ (.int .i64 0)).setCell ⟨w.heap.size, 8, none⟩ (.int .i64 16384)).setCell ⟨w.heap.size, 9, none⟩ (.int .i64 0)).setCell ⟨w.heap.size, 10, none⟩ (.int .i64 0)).setCell ⟨w.heap.size, 11, none⟩ (.int .i64 0)) ⟨w.heap.size, 4, none⟩ = some (.int .i64 16384) := kr.cell rfl
    have rc5 : World.cell? ((((((((((((q.w.setCell ⟨w.heap.size, 0, none⟩ (.int .i64 16384)).setCell ⟨w.heap.size, 1, none⟩ (.int .i64 0)).setCell ⟨w.heap.size, 2, none⟩ (.int .i64 0)).setCell ⟨w.heap.size, 3, none⟩ (.int .i64 0)).setCell ⟨w.heap.size, 4, none⟩ (.int .i64 16384)).setCell ⟨w.heap.size, 5, none⟩ (.int .i64 0)).setCell ⟨w.heap.size, 6, none⟩ (.int .i64 0)).setCell ⟨w.heap.size, 7, none⟩ (.int .i64 0)).setCell ⟨w.heap.size, 8, none⟩ (.int .i64 16384)).setCell ⟨w.heap.size, 9, none⟩ (.int .i64 0)).setCell ⟨w.heap.size, 10, none⟩ (.int .i64 0)).setCell ⟨w.heap.size, 11, none⟩ (.int .i64 0)) ⟨w.heap.size, 5, none⟩ = some (.int .i64 0) := kr.cell rfl
    have rc6 : World.cell? ((((((((((((q.w.setCell ⟨w.heap.size, 0, none⟩ (.int .i64 16384)).setCell ⟨w.heap.size, 1, none⟩ (.int .i64 0)).setCell ⟨w.heap.size, 2, none⟩ (.int .i64 0)).setCell ⟨w.heap.size, 3, none⟩ (.int .i64 0)).setCell ⟨w.heap.size, 4, none⟩ (.int .i64 16384)).setCell ⟨w.heap.size, 5, none⟩ (.int .i64 0)).setCell ⟨w.heap.size, 6, none⟩ (.int .i64 0)).setCell ⟨w.heap.size, 7, none⟩ (.int .i64 0)).setCell ⟨w.heap.size, 8, none⟩ (.int .i64 16384)).setCell ⟨w.heap.size, 9, none⟩ (.int .i64 0)).setCell ⟨w.heap.size, 10, none⟩ (.int .i64 0)).setCell ⟨w.heap.size, 11, none⟩ (.int .i64 0)) ⟨w.heap.size, 6, none⟩ = some (.int .i64 0) := kr.cell rfl
    have rc7 : World.cell? ((((((((((((q.w.setCell ⟨w.heap.size, 0, none⟩ (.int .i64 16384)).setCell ⟨w.heap.size, 1, none⟩ (.int .i64 0)).setCell ⟨w.heap.size, 2, none⟩ (.int .i64 0)).setCell ⟨w.heap.size, 3, none⟩ (.int .i64 0)).setCell ⟨w.heap.size, 4, none⟩ (.int .i64 16384)).setCell ⟨w.heap.size, 5, none⟩ (.int .i64 0)).setCell ⟨w.heap.size, 6, none⟩ (.int .i64 0)).setCell ⟨w.heap.size, 7, none⟩ (.int .i64 0)).setCell ⟨w.heap.size, 8, none⟩ (.int .i64 16384)).setCell ⟨w.heap.size, 9, none⟩ (.int .i64 0)).setCell ⟨w.heap.size, 10, none⟩ (.int .i64 0)).setCell ⟨w.heap.size, 11, none⟩ (.int .i64 0)) ⟨w.heap.size, 7, none⟩ = some (.int .i64 0) := kr.cell rfl
    have rc8 : World.cell? ((((((((((((q.w.setCell ⟨w.heap.size, 0, none⟩ (.int .i64 16384)).setCell ⟨w.heap.size, 1, none⟩ (.int .i64 0)).setCell ⟨w.heap.size, 2, none⟩ (.int .i64 0)).setCell ⟨w.heap.size, 3, none⟩ (.int .i64 0)).setCell ⟨w.heap.size, 4, none⟩ (.int .i64 16384)).setCell ⟨w.heap.size, 5, none⟩ (.int .i64 0)).setCell ⟨w.heap.size, 6, none⟩ (.int .i64 0)).setCell ⟨w.heap.size, 7, none⟩ (.int .i64 0)).setCell ⟨w.heap.size, 8, none⟩ (.int .i64 16384)).setCell ⟨w.heap.size, 9, none⟩ (.int .i64 0)).setCell ⟨w.heap.size, 10, none⟩ (.int .i64 0)).setCell ⟨w.heap.size, 11, none⟩ (.int .i64 0)) ⟨w.heap.size, 8, none⟩ = some (.int .i64 16384) := kr.cell rfl
    have rc9 : World.cell? ((((((((((((q.w.setCell ⟨w.heap.size, 0, none⟩ (.int .i64 16384)).setCell ⟨w.heap.size, 1, none⟩ (.int .i64 0)).setCell ⟨w.heap.size, 2, none⟩ (.int .i64 0)).setCell ⟨w.heap.size, 3, none⟩ (.int .i64 0)).setCell ⟨w.heap.size, 4, none⟩ (.int .i64 16384)).setCell ⟨w.heap.size, 5, none⟩ (.int .i64 0)).setCell ⟨w.heap.size, 6, none⟩ (.int .i64 0)).setCell ⟨w.heap.size, 7, none⟩ (.int .i64 0)).setCell ⟨w.heap.size, 8, none⟩ (.int .i64 16384)).setCell ⟨w.heap.size, 9, none⟩ (.int .i64 0)).setCell ⟨w.heap.size, 10, none⟩ (.int .i64 0)).setCell ⟨w.heap.size, 11, none⟩ (.int .i64 0)) ⟨w.heap.size, 9, none⟩ = some (.int .i64 0) := kr.cell rfl
    have rc10 : World.cell? ((((((((((((q.w.setCell ⟨w.heap.size, 0, none⟩ (.int .i64 16384)).setCell ⟨w.heap.size, 1, none⟩ (.int .i64 0)).setCell ⟨w.heap.size, 2, none⟩ (.int .i64 0)).setCell ⟨w.heap.size, 3, none⟩ (.int .i64 0)).setCell ⟨w.heap.size, 4, none⟩ (.int .i64 16384)).setCell ⟨w.heap.size, 5, none⟩ (.int .i64 0)).setCell ⟨w.heap.size, 6, none⟩ (.int .i64 0)).setCell ⟨w.heap.size, 7, none⟩ (.int .i64 0)).setCell ⟨w.heap.size, 8, none⟩ (.int .i64 16384)).setCell ⟨w.heap.size, 9, none⟩ (.int .i64 0)).setCell ⟨w.heap.size, 10, none⟩ (.int .i64 0)).setCell ⟨w.heap.size, 11, none⟩ (.int .i64 0)) ⟨w.heap.size, 10, none⟩ = some (.int .i64 0) := kr.cell rfl
    have rc11 : World.cell? ((((((((((((q.w.setCell ⟨w.heap.size, 0, none⟩ (.int .i64 16384)).setCell ⟨w.heap.size, 1, none⟩ (.int .i64 0)).setCell ⟨w.heap.size, 2, none⟩ (.int .i64 0)).setCell ⟨w.heap.size, 3, none⟩ (.int .i64 0)).setCell ⟨w.heap.size, 4, none⟩ (.int .i64 16384)).setCell ⟨w.heap.size, 5, none⟩ (.int .i64 0)).setCell ⟨w.heap.size, 6, none⟩ (.int .i64 0)).setCell ⟨w.heap.size, 7, none⟩ (.int .i64 0)).setCell ⟨w.heap.size, 8, none⟩ (.int .i64 16384)).setCell ⟨w.heap.size, 9, none⟩ (.int .i64 0)).setCell ⟨w.heap.size, 10, none⟩ (.int .i64 0)).setCell ⟨w.heap.size, 11, none⟩ (.int .i64 0)) ⟨w.heap.size, 11, none⟩ = some (.int .i64 0) := kr.cell rfl
    exact bodyPost_ret (v := .agg #[.int .i64 16384, .int .i64 0, .int .i64 0, .int .i64 0, .int .i64 16384, .int .i64 0, .int .i64 0, .int .i64 0, .int .i64 16384, .int .i64 0, .int .i64 0, .int .i64 0]) (by simp [results, Try.results15, go_sem, rc0, rc1, rc2, rc3, rc4, rc5, rc6, rc7, rc8, rc9, rc10, rc11]) rfl ⟨rfl, (((((((((((((bw_below B1 q).setCell (p := ⟨w.heap.size, 0, none⟩) (by show w.heap.size ≤ w.heap.size; omega) _).setCell (p := ⟨w.heap.size, 1, none⟩) (by show w.heap.size ≤ w.heap.size; omega) _).setCell (p := ⟨w.heap.size, 2, none⟩) (by show w.heap.size ≤ w.heap.size; omega) _).setCell (p := ⟨w.heap.size, 3, none⟩) (by show w.heap.size ≤ w.heap.size; omega) _).setCell (p := ⟨w.heap.size, 4, none⟩) (by show w.heap.size ≤ w.heap.size; omega) _).setCell (p := ⟨w.heap.size, 5, none⟩) (by show w.heap.size ≤ w.heap.size; omega) _).setCell (p := ⟨w.heap.size, 6, none⟩) (by show w.heap.size ≤ w.heap.size; omega) _).setCell (p := ⟨w.heap.size, 7, none⟩) (by show w.heap.size ≤ w.heap.size; omega) _).setCell (p := ⟨w.heap.size, 8, none⟩) (by show w.heap.size ≤ w.heap.size; omega) _).setCell (p := ⟨w.heap.size, 9, none⟩) (by show w.heap.size ≤ w.heap.size; omega) _).setCell (p := ⟨w.heap.size, 10, none⟩) (by show w.heap.size ≤ w.heap.size; omega) _).setCell (p := ⟨w.heap.size, 11, none⟩) (by show w.heap.size ≤ w.heap.size; omega) _)⟩
  · rw [if_neg (by omega)]
    have t1 : decide (n < 1) = false := decide_eq_false h1
    have t2 : decide (d < 1) = true := decide_eq_true h2
    clear h1 h2
    unfold p12 pNone
    dsimp only
    go_enter Try.func15, Try.ntmps15
    go_upto_region 1 with (fail)
    obtain ⟨W1, hW1⟩ : ∃ W, W = w.alloc (.cells #[.int .i64 0, .int .i64 0, .int .i64 0, .int .i64 0, .int .i64 0, .int .i64 0, .int .i64 0, .int .i64 0, .int .i64 0, .int .i64 0, .int .i64 0, .int .i64 0] 25) := ⟨_, rfl⟩
    have B1 : Below w.heap.size w W1 := by rw [hW1]; go_grown
    have k_r : Bk W1 (w.heap.size) 25 #[.int .i64 0, .int .i64 0, .int .i64 0, .int .i64 0, .int .i64 0, .int .i64 0, .int .i64 0, .int .i64 0, .int .i64 0, .int .i64 0, .int .i64 0, .int .i64 0] := by rw [hW1]; exact Bk.new _ _ _
    rw [← hW1]
    clear hW1
    have c_r_0 : ∀ p : BW W1, p.w.cell? ⟨w.heap.size, 0, none⟩ = some (.int .i64 0) := bw_cell (k_r.cell rfl)
    have f_r_0 : ∀ p : BW W1, p.w.frozen? ⟨w.heap.size, 0, none⟩ = false := fun p => (k_r.below p.h).frozen 0
    have c_r_1 : ∀ p : BW W1, p.w.cell? ⟨w.heap.size, 1, none⟩ = some (.int .i64 0) := bw_cell (k_r.cell rfl)
    have f_r_1 : ∀ p : BW W1, p.w.frozen? ⟨w.heap.size, 1, none⟩ = false := fun p => (k_r.below p.h).frozen 1
    have c_r_2 : ∀ p : BW W1, p.w.cell? ⟨w.heap.size, 2, none⟩ = some (.int .i64 0) := bw_cell (k_r.cell rfl)
    have f_r_2 : ∀ p : BW W1, p.w.frozen? ⟨w.heap.size, 2, none⟩ = false := fun p => (k_r.below p.h).frozen 2
    have c_r_3 : ∀ p : BW W1, p.w.cell? ⟨w.heap.size, 3, none⟩ = some (.int .i64 0) := bw_cell (k_r.cell rfl)
    have f_r_3 : ∀ p : BW W1, p.w.frozen? ⟨w.heap.size, 3, none⟩ = false := fun p => (k_r.below p.h).frozen 3
    have c_r_4 : ∀ p : BW W1, p.w.cell? ⟨w.heap.size, 4, none⟩ = some (.int .i64 0) := bw_cell (k_r.cell rfl)
    have f_r_4 : ∀ p : BW W1, p.w.frozen? ⟨w.heap.size, 4, none⟩ = false := fun p => (k_r.below p.h).frozen 4
    have c_r_5 : ∀ p : BW W1, p.w.cell? ⟨w.heap.size, 5, none⟩ = some (.int .i64 0) := bw_cell (k_r.cell rfl)
    have f_r_5 : ∀ p : BW W1, p.w.frozen? ⟨w.heap.size, 5, none⟩ = false := fun p => (k_r.below p.h).frozen 5
    have c_r_6 : ∀ p : BW W1, p.w.cell? ⟨w.heap.size, 6, none⟩ = some (.int .i64 0) := bw_cell (k_r.cell rfl)
    have f_r_6 : ∀ p : BW W1, p.w.frozen? ⟨w.heap.size, 6, none⟩ = false := fun p => (k_r.below p.h).frozen 6
    have c_r_7 : ∀ p : BW W1, p.w.cell? ⟨w.heap.size, 7, none⟩ = some (.int .i64 0) := bw_cell (k_r.cell rfl)
    have f_r_7 : ∀ p : BW W1, p.w.frozen? ⟨w.heap.size, 7, none⟩ = false := fun p => (k_r.below p.h).frozen 7
    have c_r_8 : ∀ p : BW W1, p.w.cell? ⟨w.heap.size, 8, none⟩ = some (.int .i64 0) := bw_cell (k_r.cell rfl)
    have f_r_8 : ∀ p : BW W1, p.w.frozen? ⟨w.heap.size, 8, none⟩ = false := fun p => (k_r.below p.h).frozen 8
    have c_r_9 : ∀ p : BW W1, p.w.cell? ⟨w.heap.size, 9, none⟩ = some (.int .i64 0) := bw_cell (k_r.cell rfl)
    have f_r_9 : ∀ p : BW W1, p.w.frozen? ⟨w.heap.size, 9, none⟩ = false := fun p => (k_r.below p.h).frozen 9
    have c_r_10 : ∀ p : BW W1, p.w.cell? ⟨w.heap.size, 10, none⟩ = some (.int .i64 0) := bw_cell (k_r.cell rfl)
    have f_r_10 : ∀ p : BW W1, p.w.frozen? ⟨w.heap.size, 10, none⟩ = false := fun p => (k_r.below p.h).frozen 10
    have c_r_11 : ∀ p : BW W1, p.w.cell? ⟨w.heap.size, 11, none⟩ = some (.int .i64 0) := bw_cell (k_r.cell rfl)
    have f_r_11 : ∀ p : BW W1, p.w.frozen? ⟨w.heap.size, 11, none⟩ = false := fun p => (k_r.below p.h).frozen 11
    obtain ⟨p1, hp1⟩ : ∃ p : BW W1, p.w = W1 := ⟨BW.start W1, rfl⟩
    rw [← hp1]
    clear hp1
    go_wp2_with (first
      | (go_at_call 11; (first | (with_reducible refine (bw_call K.out _).mono ?_)); rintro e w' ⟨rfl, q, rfl⟩))
    have kr : Bk ((((((((((((q.w.setCell ⟨w.heap.size, 0, none⟩ (.int .i64 16384)).setCell ⟨w.heap.size, 1, none⟩ (.int .i64 0)).setCell ⟨w.heap.size, 2, none⟩ (.int .i64 0)).setCell ⟨w.heap.size, 3, none⟩ (.int .i64 0)).setCell ⟨w.heap.size, 4, none⟩ (.int .i64 16384)).setCell ⟨w.heap.size, 5, none⟩ (.int .i64 0)).setCell ⟨w.heap.size, 6, none⟩ (.int .i64 0)).setCell ⟨w.heap.size, 7, none⟩ (.int .i64 0)).setCell ⟨w.heap.size, 8, none⟩ (.int .i64 16384)).setCell ⟨w.heap.size, 9, none⟩ (.int .i64 0)).setCell ⟨w.heap.size, 10, none⟩ (.int .i64 0)).setCell ⟨w.heap.size, 11, none⟩ (.int .i64 0)) (w.heap.size) 25 #[.int .i64 16384, .int .i64 0, .int .i64 0, .int .i64 0, .int .i64 16384, .int .i64 0, .int .i64 0, .int .i64 0, .int .i64 16384, .int .i64 0, .int .i64 0, .int .i64 0] := (((((((((((((k_r.below q.h).set 0 (.int .i64 16384)).set 1 (.int .i64 0)).set 2 (.int .i64 0)).set 3 (.int .i64 0)).set 4 (.int .i64 16384)).set 5 (.int .i64 0)).set 6 (.int .i64 0)).set 7 (.int .i64 0)).set 8 (.int .i64 16384)).set 9 (.int .i64 0)).set 10 (.int .i64 0)).set 11 (.int .i64 0)).cast (by simp)
    have rc0 : World.cell? ((((((((((((q.w.setCell ⟨w.heap.size, 0, none⟩ (.int .i64 16384)).setCell ⟨w.heap.size, 1, none⟩ (.int .i64 0)).setCell ⟨w.heap.size, 2, none⟩ (.int .i64 0)).setCell ⟨w.heap.size, 3, none⟩ (.int .i64 0)).setCell ⟨w.heap.size, 4, none⟩ (.int .i64 16384)).setCell ⟨w.heap.size, 5, none⟩ (.int .i64 0)).setCell ⟨w.heap.size, 6, none⟩ (.int .i64 0)).setCell ⟨w.heap.size, 7, none⟩ (.int .i64 0)).setCell ⟨w.heap.size, 8, none⟩ (.int .i64 16384)).setCell ⟨w.heap.size, 9, none⟩ (.int .i64 0)).setCell ⟨w.heap.size, 10, none⟩ (.int .i64 0)).setCell ⟨w.heap.size, 11, none⟩ (.int .i64 0)) ⟨w.heap.size, 0, none⟩ = some (.int .i64 16384) := kr.cell rfl
    have rc1 : World.cell? ((((((((((((q.w.setCell ⟨w.heap.size, 0, none⟩ (.int .i64 16384)).setCell ⟨w.heap.size, 1, none⟩ (.int .i64 0)).setCell ⟨w.heap.size, 2, none⟩ (.int .i64 0)).setCell ⟨w.heap.size, 3, none⟩ (.int .i64 0)).setCell ⟨w.heap.size, 4, none⟩ (.int .i64 16384)).setCell ⟨w.heap.size, 5, none⟩ (.int .i64 0)).setCell ⟨w.heap.size, 6, none⟩ (.int .i64 0)).setCell ⟨w.heap.size, 7, none⟩ (.int .i64 0)).setCell ⟨w.heap.size, 8, none⟩ (.int .i64 16384)).setCell ⟨w.heap.size, 9, none⟩ (.int .i64 0)).setCell ⟨w.heap.size, 10, none⟩ (.int .i64 0)).setCell ⟨w.heap.size, 11, none⟩ (.int .i64 0)) ⟨w.heap.size, 1, none⟩ = some (.int .i64 0) := kr.cell rfl
    have rc2 : World.cell? ((((((((((((q.w.setCell ⟨w.heap.size, 0, none⟩ (.int .i64 16384)).setCell ⟨w.heap.size, 1, none⟩ (.int .i64 0)).setCell ⟨w.heap.size, 2, none⟩ (.int .i64 0)).setCell ⟨w.heap.size, 3, none⟩ (.int .i64 0)).setCell ⟨w.heap.size, 4, none⟩ (.int .i64 16384)).setCell ⟨w.heap.size, 5, none⟩ (.int .i64 0)).setCell ⟨w.heap.size, 6, none⟩ (.int .i64 0)).setCell ⟨w.heap.size, 7, none⟩ (.int .i64 0)).setCell ⟨w.heap.size, 8, none⟩ (.int .i64 16384)).setCell ⟨w.heap.size, 9, none⟩ (.int .i64 0)).setCell ⟨w.heap.size, 10, none⟩ (.int .i64 0)).setCell ⟨w.heap.size, 11, none⟩ (.int .i64 0)) ⟨w.heap.size, 2, none⟩ = some (.int .i64 0) := kr.cell rfl
    have rc3 : World.cell? ((((((((((((q.w.setCell ⟨w.heap.size, 0, none⟩ (.int .i64 16384)).setCell ⟨w.heap.size, 1, none⟩ (.int .i64 0)).setCell ⟨w.heap.size, 2, none⟩ (.int .i64 0)).setCell ⟨w.heap.size, 3, none⟩ (.int .i64 0)).setCell ⟨w.heap.size, 4, none⟩ (.int .i64 16384)).setCell ⟨w.heap.size, 5, none⟩ (.int .i64 0)).setCell ⟨w.heap.size, 6, none⟩ (.int .i64 0)).setCell ⟨w.heap.size, 7, none⟩ (.int .i64 0)).setCell ⟨w.heap.size, 8, none⟩ (.int .i64 16384)).setCell ⟨w.heap.size, 9, none⟩ (.int .i64 0)).setCell ⟨w.heap.size, 10, none⟩ (.int .i64 0)).setCell ⟨w.heap.size, 11, none⟩ (.int .i64 0)) ⟨w.heap.size, 3, none⟩ = some (.int .i64 0) := kr.cell rfl
    have rc4 : World.cell? ((((((((((((q.w.setCell ⟨w.heap.size, 0, none⟩ (.int .i64 16384)).setCell ⟨w.heap.size, 1, none⟩ (.int .i64 0)).setCell ⟨w.heap.size, 2, none⟩ (.int .i64 0)).setCell ⟨w.heap.size, 3, none⟩ (.int .i64 0)).setCell ⟨w.heap.size, 4, none⟩ (.int .i64 16384)).setCell ⟨w.heap.size, 5, none⟩ (.int .i64 0)).setCell ⟨w.heap.size, 6, none⟩ (.int .i64 0)).setCell ⟨w.heap.size, 7, none⟩ (.int .i64 0)).setCell ⟨w.heap.size, 8, none⟩ (.int .i64 16384)).setCell ⟨w.heap.size, 9, none⟩ (.int .i64 0)).setCell ⟨w.heap.size, 10, none⟩ (.int .i64 0)).setCell ⟨w.heap.size, 11, none⟩ (.int .i64 0)) ⟨w.heap.size, 4, none⟩ = some (.int .i64 16384) := kr.cell rfl
    have rc5 : World.cell? ((((((((((((q.w.setCell ⟨w.heap.size, 0, none⟩ (.int .i64 16384)).setCell ⟨w.heap.size, 1, none⟩ (.int .i64 0)).setCell ⟨w.heap.size, 2, none⟩ (.int .i64 0)).setCell ⟨w.heap.size, 3, none⟩ (.int .i64 0)).setCell ⟨w.heap.size, 4, none⟩ (.int .i64 16384)).setCell ⟨w.heap.size, 5, none⟩ (.int .i64 0)).setCell ⟨w.heap.size, 6, none⟩ (.int .i64 0)).setCell ⟨w.heap.size, 7, none⟩ (.int .i64 0)).setCell ⟨w.heap.size, 8, none⟩ (.int .i64 16384)).setCell ⟨w.heap.size, 9, none⟩ (.int .i64 0)).setCell ⟨w.heap.size, 10, none⟩ (.int .i64 0)).setCell ⟨w.heap.size, 11, none⟩ (.int .i64 0)) ⟨w.heap.size, 5, none⟩ = some (.int .i64 0) := kr.cell rfl
    have rc6 : World.cell? ((((((((((((q.w.setCell ⟨w.heap.size, 0, none⟩ (.int .i64 16384)).setCell ⟨w.heap.size, 1, none⟩ (.int .i64 0)).setCell ⟨w.heap.size, 2, none⟩ (.int .i64 0)).setCell ⟨w.heap.size, 3, none⟩ (.int .i64 0)).setCell ⟨w.heap.size, 4, none⟩ (.int .i64 16384)).setCell ⟨w.heap.size, 5, none⟩ (.int .i64 0)).setCell ⟨w.heap.size, 6, none⟩ (.int .i64 0)).setCell ⟨w.heap.size, 7, none⟩ (.int .i64 0)).setCell ⟨w.heap.size, 8, none⟩ (.int .i64 16384)).setCell ⟨w.heap.size, 9, none⟩ (.int .i64 0)).setCell ⟨w.heap.size, 10, none⟩ (.int .i64 0)).setCell ⟨w.heap.size, 11, none⟩ (.int .i64 0)) ⟨w.heap.size, 6, none⟩ = some (.int .i64 0) := kr.cell rfl
    have rc7 : World.cell? ((((((((((((q.w.setCell ⟨w.heap.size, 0, none⟩ (.int .i64 16384)).setCell ⟨w.heap.size, 1, none⟩ (.int .i64 0)).setCell ⟨w.heap.size, 2, none⟩ (.int .i64 0)).setCell ⟨w.heap.size, 3, none⟩ (.int .i64 0)).setCell ⟨w.heap.size, 4, none⟩ (.int .i64 16384)).setCell ⟨w.heap.size, 5, none⟩ (.int .i64 0)).setCell ⟨w.heap.size, 6, none⟩ (.int .i64 0)).setCell ⟨w.heap.size, 7, none⟩ (.int .i64 0)).setCell ⟨w.heap.size, 8, none⟩ (.int .i64 16384)).setCell ⟨w.heap.size, 9, none⟩ (.int .i64 0)).setCell ⟨w.heap.size, 10, none⟩ (.int .i64 0)).setCell ⟨w.heap.size, 11, none⟩ (.int .i64 0)) ⟨w.heap.size, 7, none⟩ = some (.int .i64 0) := kr.cell rfl
    have rc8 : World.cell? ((((((((((((q.w.setCell ⟨w.heap.size, 0, none⟩ (.int .i64 16384)).setCell ⟨w.heap.size, 1, none⟩ (.int .i64 0)).setCell ⟨w.heap.size, 2, none⟩ (.int .i64 0)).setCell ⟨w.heap.size, 3, none⟩ (.int .i64 0)).setCell ⟨w.heap.size, 4, none⟩ (.int .i64 16384)).setCell ⟨w.heap.size, 5, none⟩ (.int .i64 0)).setCell ⟨w.heap.size, 6, none⟩ (.int .i64 0)).setCell ⟨w.heap.size, 7, none⟩ (.int .i64 0)).setCell ⟨w.heap.size, 8, none⟩ (.int .i64 16384)).setCell ⟨w.heap.size, 9, none⟩ (.int .i64 0)).setCell ⟨w.heap.size, 10, none⟩ (.int .i64 0)).setCell ⟨w.heap.size, 11, none⟩ (.int .i64 0)) ⟨w.heap.size, 8, none⟩ = some (.int .i64 16384) := kr.cell rfl
    have rc9 : World.cell? ((((((((((((q.w.setCell ⟨w.heap.size, 0, none⟩ (.int .i64 16384)).setCell ⟨w.heap.size, 1, none⟩ (.int .i64 0)).setCell ⟨w.heap.size, 2, none⟩ (.int .i64 0)).setCell ⟨w.heap.size, 3, none⟩ (.int .i64 0)).setCell ⟨w.heap.size, 4, none⟩ (.int .i64 16384)).setCell ⟨w.heap.size, 5, none⟩ (.int .i64 0)).setCell ⟨w.heap.size, 6, none⟩ (.int .i64 0)).setCell ⟨w.heap.size, 7, none⟩ (.int .i64 0)).setCell ⟨w.heap.size, 8, none⟩ (.int .i64 16384)).setCell ⟨w.heap.size, 9, none⟩ (.int .i64 0)).setCell ⟨w.heap.size, 10, none⟩ (.int .i64 0)).setCell ⟨w.heap.size, 11, none⟩ (.int .i64 0)) ⟨w.heap.size, 9, none⟩ = some (.int .i64 0) := kr.cell rfl
    have rc10 : World.cell? ((((((((((((q.w.setCell ⟨w.heap.size, 0, none⟩ (.int .i64 16384)).setCell ⟨w.heap.size, 1, none⟩ (.int .i64 0)).setCell ⟨w.heap.size, 2, none⟩ (.int .i64 0)).setCell ⟨w.heap.size, 3, none⟩ (.int .i64 0)).setCell ⟨w.heap.size, 4, none⟩ (.int .i64 16384)).setCell ⟨w.heap.size, 5, none⟩ (.int .i64 0)).setCell ⟨w.heap.size, 6, none⟩ (.int .i64 0)).setCell ⟨w.heap.size, 7, none⟩ (.int .i64 0)).setCell ⟨w.heap.size, 8, none⟩ (.int .i64 16384)).setCell ⟨w.heap.size, 9, none⟩ (.int .i64 0)).setCell ⟨w.heap.size, 10, none⟩ (.int .i64 0)).setCell ⟨w.heap.size, 11, none⟩ (.int .i64 0)) ⟨w.heap.size, 10, none⟩ = some (.int .i64 0) := kr.cell rfl
    have rc11 : World.cell? ((((((((((((q.w.setCell ⟨w.heap.size, 0, none⟩ (.int .i64 16384)).setCell ⟨w.heap.size, 1, none⟩ (.int .i64 0)).setCell ⟨w.heap.size, 2, none⟩ (.int .i64 0)).setCell ⟨w.heap.size, 3, none⟩ (.int .i64 0)).setCell ⟨w.heap.size, 4, none⟩ (.int .i64 16384)).setCell ⟨w.heap.size, 5, none⟩ (.int .i64 0)).setCell ⟨w.heap.size, 6, none⟩ (.int .i64 0)).setCell ⟨w.heap.size, 7, none⟩ (.int .i64 0)).setCell ⟨w.heap.size, 8, none⟩ (.int .i64 16384)).setCell ⟨w.heap.size, 9, none⟩ (.int .i64 0)).setCell ⟨w.heap.size, 10, none⟩ (.int .i64 0)).setCell ⟨w.heap.size, 11, none⟩ (.int .i64 0)) ⟨w.heap.size, 11, none⟩ = some (.int .i64 0) := kr.cell rfl
    exact bodyPost_ret (v := .agg #[.int .i64 16384, .int .i64 0, .int .i64 0, .int .i64 0, .int .i64 16384, .int .i64 0, .int .i64 0, .int .i64 0, .int .i64 16384, .int .i64 0, .int .i64 0, .int .i64 0]) (by simp [results, Try.results15, go_sem, rc0, rc1, rc2, rc3, rc4, rc5, rc6, rc7, rc8, rc9, rc10, rc11]) rfl ⟨rfl, (((((((((((((bw_below B1 q).setCell (p := ⟨w.heap.size, 0, none⟩) (by show w.heap.size ≤ w.heap.size; omega) _).setCell (p := ⟨w.heap.size, 1, none⟩) (by show w.heap.size ≤ w.heap.size; omega) _).setCell (p := ⟨w.heap.size, 2, none⟩) (by show w.heap.size ≤ w.heap.size; omega) _).setCell (p := ⟨w.heap.size, 3, none⟩) (by show w.heap.size ≤ w.heap.size; omega) _).setCell (p := ⟨w.heap.size, 4, none⟩) (by show w.heap.size ≤ w.heap.size; omega) _).setCell (p := ⟨w.heap.size, 5, none⟩) (by show w.heap.size ≤ w.heap.size; omega) _).setCell (p := ⟨w.heap.size, 6, none⟩) (by show w.heap.size ≤ w.heap.size; omega) _).setCell (p := ⟨w.heap.size, 7, none⟩) (by show w.heap.size ≤ w.heap.size; omega) _).setCell (p := ⟨w.heap.size, 8, none⟩) (by show w.heap.size ≤ w.heap.size; omega) _).setCell (p := ⟨w.heap.size, 9, none⟩) (by show w.heap.size ≤ w.heap.size; omega) _).setCell (p := ⟨w.heap.size, 10, none⟩) (by show w.heap.size ≤ w.heap.size; omega) _).setCell (p := ⟨w.heap.size, 11, none⟩) (by show w.heap.size ≤ w.heap.size; omega) _)⟩
  · rw [if_neg (by omega)]
    have t1 : decide (n < 1) = false := decide_eq_false h1
    have t2 : decide (d < 1) = false := decide_eq_false h2
    have t3 : decide (64 < n) = true := decide_eq_true h3
    clear h1 h2 h3
    unfold p12 pNone
    dsimp only
    go_enter Try.func15, Try.ntmps15
    go_upto_region 1 with (fail)
    obtain ⟨W1, hW1⟩ : ∃ W, W = w.alloc (.cells #[.int .i64 0, .int .i64 0, .int .i64 0, .int .i64 0, .int .i64 0, .int .i64 0, .int .i64 0, .int .i64 0, .int .i64 0, .int .i64 0, .int .i64 0, .int .i64 0] 25) := ⟨_, rfl⟩
    have B1 : Below w.heap.size w W1 := by rw [hW1]; go_grown
    have k_r : Bk W1 (w.heap.size) 25 #[.int .i64 0, .int .i64 0, .int .i64 0, .int .i64 0, .int .i64 0, .int .i64 0, .int .i64 0, .int .i64 0, .int .i64 0, .int .i64 0, .int .i64 0, .int .i64 0] := by rw [hW1]; exact Bk.new _ _ _
    rw [← hW1]
    clear hW1
    have c_r_0 : ∀ p : BW W1, p.w.cell? ⟨w.heap.size, 0, none⟩ = some (.int .i64 0) := bw_cell (k_r.cell rfl)
    have f_r_0 : ∀ p : BW W1, p.w.frozen? ⟨w.heap.size, 0, none⟩ = false := fun p => (k_r.below p.h).frozen 0
    have c_r_1 : ∀ p : BW W1, p.w.cell? ⟨w.heap.size, 1, none⟩ = some (.int .i64 0) := bw_cell (k_r.cell rfl)
    have f_r_1 : ∀ p : BW W1, p.w.frozen? ⟨w.heap.size, 1, none⟩ = false := fun p => (k_r.below p.h).frozen 1
    have c_r_2 : ∀ p : BW W1, p.w.cell? ⟨w.heap.size, 2, none⟩ = some (.int .i64 0) := bw_cell (k_r.cell rfl)
    have f_r_2 : ∀ p : BW W1, p.w.frozen? ⟨w.heap.size, 2, none⟩ = false := fun p => (k_r.below p.h).frozen 2
    have c_r_3 : ∀ p : BW W1, p.w.cell? ⟨w.heap.size, 3, none⟩ = some (.int .i64 0) := bw_cell (k_r.cell rfl)
    have f_r_3 : ∀ p : BW W1, p.w.frozen? ⟨w.heap.size, 3, none⟩ = false := fun p => (k_r.below p.h).frozen 3
    have c_r_4 : ∀ p : BW W1, p.w.cell? ⟨w.heap.size, 4, none⟩ = some (.int .i64 0) := bw_cell (k_r.cell rfl)
    have f_r_4 : ∀ p : BW W1, p.w.frozen? ⟨w.heap.size, 4, none⟩ = false := fun p => (k_r.below p.h).frozen 4
    have c_r_5 : ∀ p : BW W1, p.w.cell? ⟨w.heap.size, 5, none⟩ = some (.int .i64 0) := bw_cell (k_r.cell rfl)
    have f_r_5 : ∀ p : BW W1, p.w.frozen? ⟨w.heap.size, 5, none⟩ = false := fun p => (k_r.below p.h).frozen 5
    have c_r_6 : ∀ p : BW W1, p.w.cell? ⟨w.heap.size, 6, none⟩ = some (.int .i64 0) := bw_cell (k_r.cell rfl)
    have f_r_6 : ∀ p : BW W1, p.w.frozen? ⟨w.heap.size, 6, none⟩ = false := fun p => (k_r.below p.h).frozen 6
    have c_r_7 : ∀ p : BW W1, p.w.cell? ⟨w.heap.size, 7, none⟩ = some (.int .i64 0) := bw_cell (k_r.cell rfl)
    have f_r_7 : ∀ p : BW W1, p.w.frozen? ⟨w.heap.size, 7, none⟩ = false := fun p => (k_r.below p.h).frozen 7
    have c_r_8 : ∀ p : BW W1, p.w.cell? ⟨w.heap.size, 8, none⟩ = some (.int .i64 0) := bw_cell (k_r.cell rfl)
    have f_r_8 : ∀ p : BW W1, p.w.frozen? ⟨w.heap.size, 8, none⟩ = false := fun p => (k_r.below p.h).frozen 8
    have c_r_9 : ∀ p : BW W1, p.w.cell? ⟨w.heap.size, 9, none⟩ = some (.int .i64 0) := bw_cell (k_r.cell rfl)
    have f_r_9 : ∀ p : BW W1, p.w.frozen? ⟨w.heap.size, 9, none⟩ = false := fun p => (k_r.below p.h).frozen 9
    have c_r_10 : ∀ p : BW W1, p.w.cell? ⟨w.heap.size, 10, none⟩ = some (.int .i64 0) := bw_cell (k_r.cell rfl)
    have f_r_10 : ∀ p : BW W1, p.w.frozen? ⟨w.heap.size, 10, none⟩ = false := fun p => (k_r.below p.h).frozen 10
    have c_r_11 : ∀ p : BW W1, p.w.cell? ⟨w.heap.size, 11, none⟩ = some (.int .i64 0) := bw_cell (k_r.cell rfl)
    have f_r_11 : ∀ p : BW W1, p.w.frozen? ⟨w.heap.size, 11, none⟩ = false := fun p => (k_r.below p.h).frozen 11
    obtain ⟨p1, hp1⟩ : ∃ p : BW W1, p.w = W1 := ⟨BW.start W1, rfl⟩
    rw [← hp1]
    clear hp1
    go_wp2_with (first
      | (go_at_call 11; (first | (with_reducible refine (bw_call K.out _).mono ?_)); rintro e w' ⟨rfl, q, rfl⟩))
    have kr : Bk ((((((((((((q.w.setCell ⟨w.heap.size, 0, none⟩ (.int .i64 16384)).setCell ⟨w.heap.size, 1, none⟩ (.int .i64 0)).setCell ⟨w.heap.size, 2, none⟩ (.int .i64 0)).setCell ⟨w.heap.size, 3, none⟩ (.int .i64 0)).setCell ⟨w.heap.size, 4, none⟩ (.int .i64 16384)).setCell ⟨w.heap.size, 5, none⟩ (.int .i64 0)).setCell ⟨w.heap.size, 6, none⟩ (.int .i64 0)).setCell ⟨w.heap.size, 7, none⟩ (.int .i64 0)).setCell ⟨w.heap.size, 8, none⟩ (.int .i64 16384)).setCell ⟨w.heap.size, 9, none⟩ (.int .i64 0)).setCell ⟨w.heap.size, 10, none⟩ (.int .i64 0)).setCell ⟨w.heap.size, 11, none⟩ (.int .i64 0)) (w.heap.size) 25 #[.int .i64 16384, .int .i64 0, .int .i64 0, .int .i64 0, .int .i64 16384, .int .i64 0, .int .i64 0, .int .i64 0, .int .i64 16384, .int .i64 0, .int .i64 0, .int .i64 0] := (((((((((((((k_r.below q.h).set 0 (.int .i64 16384)).set 1 (.int .i64 0)).set 2 (.int .i64 0)).set 3 (.int .i64 0)).set 4 (.int .i64 16384)).set 5 (.int .i64 0)).set 6 (.int .i64 0)).set 7 (.int .i64 0)).set 8 (.int .i64 16384)).set 9 (.int .i64 0)).set 10 (.int .i64 0)).set 11 (.int .i64 0)).cast (by simp)
    have rc0 : World.cell? ((((((((((((q.w.setCell ⟨w.heap.size, 0, none⟩ (.int .i64 16384)).setCell ⟨w.heap.size, 1, none⟩ (.int .i64 0)).setCell ⟨w.heap.size, 2, none⟩ (.int .i64 0)).setCell ⟨w.heap.size, 3, none⟩ (.int .i64 0)).setCell ⟨w.heap.size, 4, none⟩ (.int .i64 16384)).setCell ⟨w.heap.size, 5, none⟩ (.int .i64 0)).setCell ⟨w.heap.size, 6, none⟩ (.int .i64 0)).setCell ⟨w.heap.size, 7, none⟩ (.int .i64 0)).setCell ⟨w.heap.size, 8, none⟩ (.int .i64 16384)).setCell ⟨w.heap.size, 9, none⟩ (.int .i64 0)).setCell ⟨w.heap.size, 10, none⟩ (.int .i64 0)).setCell ⟨w.heap.size, 11, none⟩ (.int .i64 0)) ⟨w.heap.size, 0, none⟩ = some (.int .i64 16384) := kr.cell rfl
    have rc1 : World.cell? ((((((((((((q.w.setCell ⟨w.heap.size, 0, none⟩ (.int .i64 16384)).setCell ⟨w.heap.size, 1, none⟩ (.int .i64 0)).setCell ⟨w.heap.size, 2, none⟩ (.int .i64 0)).setCell ⟨w.heap.size, 3, none⟩ (.int .i64 0)).setCell ⟨w.heap.size, 4, none⟩ (.int .i64 16384)).setCell ⟨w.heap.size, 5, none⟩ (.int .i64 0)).setCell ⟨w.heap.size, 6, none⟩ (.int .i64 0)).setCell ⟨w.heap.size, 7, none⟩ (.int .i64 0)).setCell ⟨w.heap.size, 8, none⟩ (.int .i64 16384)).setCell ⟨w.heap.size, 9, none⟩ (.int .i64 0)).setCell ⟨w.heap.size, 10, none⟩ (.int .i64 0)).setCell ⟨w.heap.size, 11, none⟩ (.int .i64 0)) ⟨w.heap.size, 1, none⟩ = some (.int .i64 0) := kr.cell rfl
    have rc2 : World.cell? ((((((((((((q.w.setCell ⟨w.heap.size, 0, none⟩ (.int .i64 16384)).setCell ⟨w.heap.size, 1, none⟩ (.int .i64 0)).setCell ⟨w.heap.size, 2, none⟩ (.int .i64 0)).setCell ⟨w.heap.size, 3, none⟩ (.int .i64 0)).setCell ⟨w.heap.size, 4, none⟩ (.int .i64 16384)).setCell ⟨w.heap.size, 5, none⟩ (.int .i64 0)).setCell ⟨w.heap.size, 6, none⟩ (.int .i64 0)).setCell ⟨w.heap.size, 7, none⟩ (.int .i64 0)).setCell ⟨w.heap.size, 8, none⟩ (.int .i64 16384)).setCell ⟨w.heap.size, 9, none⟩ (.int .i64 0)).setCell ⟨w.heap.size, 10, none⟩ (.int .i64 0)).setCell ⟨w.heap.size, 11, none⟩ (.int .i64 0)) ⟨w.heap.size, 2, none⟩ = some (.int .i64 0) := kr.cell rfl
    have rc3 : World.cell? ((((((((((((q.w.setCell ⟨w.heap.size, 0, none⟩ (.int .i64 16384)).setCell ⟨w.heap.size, 1, none⟩ (.int .i64 0)).setCell ⟨w.heap.size, 2, none⟩ (.int .i64 0)).setCell ⟨w.heap.size, 3, none⟩ (.int .i64 0)).setCell ⟨w.heap.size, 4, none⟩ (.int .i64 16384)).setCell ⟨w.heap.size, 5, none⟩ (.int .i64 0)).setCell ⟨w.heap.size, 6, none⟩ (.int .i64 0)).setCell ⟨w.heap.size, 7, none⟩ (.int .i64 0)).setCell ⟨w.heap.size, 8, none⟩ (.int .i64 16384)).setCell ⟨w.heap.size, 9, none⟩ (.int .i64 0)).setCell ⟨w.heap.size, 10, none⟩ (.int .i64 0)).setCell ⟨w.heap.size, 11, none⟩ (.int .i64 0)) ⟨w.heap.size, 3, none⟩ = some (.int .i64 0) := kr.cell rfl
    have rc4 : World.cell? ((((((((((((q.w.setCell ⟨w.heap.size, 0, none⟩ (.int .i64 16384)).setCell ⟨w.heap.size, 1, none⟩ (.int .i64 0)).setCell ⟨w.heap.size, 2, none⟩ (.int .i64 0)).setCell ⟨w.heap.size, 3, none⟩ (.int .i64 0)).setCell ⟨w.heap.size, 4, none⟩ (.int .i64 16384)).setCell ⟨w.heap.size, 5, none⟩ (.int .i64 0)).setCell ⟨w.heap.size, 6, none⟩ (.int .i64 0)).setCell ⟨w.heap.size, 7, none⟩ (.int .i64 0)).setCell ⟨w.heap.size, 8, none⟩ (.int .i64 16384)).setCell ⟨w.heap.size, 9, none⟩ (.int .i64 0)).setCell ⟨w.heap.size, 10, none⟩ (.int .i64 0)).setCell ⟨w.heap.size, 11, none⟩ (.int .i64 0)) ⟨w.heap.size, 4, none⟩ = some (.int .i64 16384) := kr.cell rfl
    have rc5 : World.cell? ((((((((((((q.w.setCell ⟨w.heap.size, 0, none⟩ (.int .i64 16384)).setCell ⟨w.heap.size, 1, none⟩ (.int .i64 0)).setCell ⟨w.heap.size, 2, none⟩ (.int .i64 0)).setCell ⟨w.heap.size, 3, none⟩ (.int .i64 0)).setCell ⟨w.heap.size, 4, none⟩ (.int .i64 16384)).setCell ⟨w.heap.size, 5, none⟩ (.int .i64 0)).setCell ⟨w.heap.size, 6, none⟩ (.int .i64 0)).setCell ⟨w.heap.size, 7, none⟩ (.int .i64 0)).setCell ⟨w.heap.size, 8, none⟩ (.int .i64 16384)).setCell ⟨w.heap.size, 9, none⟩ (.int .i64 0)).setCell ⟨w.heap.size, 10, none⟩ (.int .i64 0)).setCell ⟨w.heap.size, 11, none⟩ (.int .i64 0)) ⟨w.heap.size, 5, none⟩ = some (.int .i64 0) := kr.cell rfl
    have rc6 : World.cell? ((((((((((((q.w.setCell ⟨w.heap.size, 0, none⟩ (.int .i64 16384)).setCell ⟨w.heap.size, 1, none⟩ (.int .i64 0)).setCell ⟨w.heap.size, 2, none⟩ (.int .i64 0)).setCell ⟨w.heap.size, 3, none⟩ (.int .i64 0)).setCell ⟨w.heap.size, 4, none⟩ (.int .i64 16384)).setCell ⟨w.heap.size, 5, none⟩ (.int .i64 0)).setCell ⟨w.heap.size, 6, none⟩ (.int .i64 0)).setCell ⟨w.heap.size, 7, none⟩ (.int .i64 0)).setCell ⟨w.heap.size, 8, none⟩ (.int .i64 16384)).setCell ⟨w.heap.size, 9, none⟩ (.int .i64 0)).setCell ⟨w.heap.size, 10, none⟩ (.int .i64 0)).setCell ⟨w.heap.size, 11, none⟩ (.int .i64 0)) ⟨w.heap.size, 6, none⟩ = some (.int .i64 0) := kr.cell rfl
    have rc7 : World.cell? ((((((((((((q.w.setCell ⟨w.heap.size, 0, none⟩ (.int .i64 16384)).setCell ⟨w.heap.size, 1, none⟩ (.int .i64 0)).setCell ⟨w.heap.size, 2, none⟩ (.int .i64 0)).setCell ⟨w.heap.size, 3, none⟩ (.int .i64 0)).setCell ⟨w.heap.size, 4, none⟩ (.int .i64 16384)).setCell ⟨w.heap.size, 5, none⟩ (.int .i64 0)).setCell ⟨w.heap.size, 6, none⟩ (.int .i64 0)).setCell ⟨w.heap.size, 7, none⟩ (.int .i64 0)).setCell ⟨w.heap.size, 8, none⟩ (.int .i64 16384)).setCell ⟨w.heap.size, 9, none⟩ (.int .i64 0)).setCell ⟨w.heap.size, 10, none⟩ (.int .i64 0)).setCell ⟨w.heap.size, 11, none⟩ (.int .i64 0)) ⟨w.heap.size, 7, none⟩ = some (.int .i64 0) := kr.cell rfl
    have rc8 : World.cell? ((((((((((((q.w.setCell ⟨w.heap.size, 0, none⟩ (.int .i64 16384)).setCell ⟨w.heap.size, 1, none⟩ (.int .i64 0)).setCell ⟨w.heap.size, 2, none⟩ (.int .i64 0)).setCell ⟨w.heap.size, 3, none⟩ (.int .i64 0)).setCell ⟨w.heap.size, 4, none⟩ (.int .i64 16384)).setCell ⟨w.heap.size, 5, none⟩ (.int .i64 0)).setCell ⟨w.heap.size, 6, none⟩ (.int .i64 0)).setCell ⟨w.heap.size, 7, none⟩ (.int .i64 0)).setCell ⟨w.heap.size, 8, none⟩ (.int .i64 16384)).setCell ⟨w.heap.size, 9, none⟩ (.int .i64 0)).setCell ⟨w.heap.size, 10, none⟩ (.int .i64 0)).setCell ⟨w.heap.size, 11, none⟩ (.int .i64 0)) ⟨w.heap.size, 8, none⟩ = some (.int .i64 16384) := kr.cell rfl
    have rc9 : World.cell? ((((((((((((q.w.setCell ⟨w.heap.size, 0, none⟩ (.int .i64 16384)).setCell ⟨w.heap.size, 1, none⟩ (.int .i64 0)).setCell ⟨w.heap.size, 2, none⟩ (.int .i64 0)).setCell ⟨w.heap.size, 3, none⟩ (.int .i64 0)).setCell ⟨w.heap.size, 4, none⟩ (.int .i64 16384)).setCell ⟨w.heap.size, 5, none⟩ (.int .i64 0)).setCell ⟨w.heap.size, 6, none⟩ (.int .i64 0)).setCell ⟨w.heap.size, 7, none⟩ (.int .i64 0)).setCell ⟨w.heap.size, 8, none⟩ (.int .i64 16384)).setCell ⟨w.heap.size, 9, none⟩ (.int .i64 0)).setCell ⟨w.heap.size, 10, none⟩ (.int .i64 0)).setCell ⟨w.heap.size, 11, none⟩ (.int .i64 0)) ⟨w.heap.size, 9, none⟩ = some (.int .i64 0) := kr.cell rfl
    have rc10 : World.cell? ((((((((((((q.w.setCell ⟨w.heap.size, 0, none⟩ (.int .i64 16384)).setCell ⟨w.heap.size, 1, none⟩ (.int .i64 0)).setCell ⟨w.heap.size, 2, none⟩ (.int .i64 0)).setCell ⟨w.heap.size, 3, none⟩ (.int .i64 0)).setCell ⟨w.heap.size, 4, none⟩ (.int .i64 16384)).setCell ⟨w.heap.size, 5, none⟩ (.int .i64 0)).setCell ⟨w.heap.size, 6, none⟩ (.int .i64 0)).setCell ⟨w.heap.size, 7, none⟩ (.int .i64 0)).setCell ⟨w.heap.size, 8, none⟩ (.int .i64 16384)).setCell ⟨w.heap.size, 9, none⟩ (.int .i64 0)).setCell ⟨w.heap.size, 10, none⟩ (.int .i64 0)).setCell ⟨w.heap.size, 11, none⟩ (.int .i64 0)) ⟨w.heap.size, 10, none⟩ = some (.int .i64 0) := kr.cell rfl
    have rc11 : World.cell? ((((((((((((q.w.setCell ⟨w.heap.size, 0, none⟩ (.int .i64 16384)).setCell ⟨w.heap.size, 1, none⟩ (.int .i64 0)).setCell ⟨w.heap.size, 2, none⟩ (.int .i64 0)).setCell ⟨w.heap.size, 3, none⟩ (.int .i64 0)).setCell ⟨w.heap.size, 4, none⟩ (.int .i64 16384)).setCell ⟨w.heap.size, 5, none⟩ (.int .i64 0)).setCell ⟨w.heap.size, 6, none⟩ (.int .i64 0)).setCell ⟨w.heap.size, 7, none⟩ (.int .i64 0)).setCell ⟨w.heap.size, 8, none⟩ (.int .i64 16384)).setCell ⟨w.heap.size, 9, none⟩ (.int .i64 0)).setCell ⟨w.heap.size, 10, none⟩ (.int .i64 0)).setCell ⟨w.heap.size, 11, none⟩ (.int .i64 0)) ⟨w.heap.size, 11, none⟩ = some (.int .i64 0) := kr.cell rfl
    exact bodyPost_ret (v := .agg #[.int .i64 16384, .int .i64 0, .int .i64 0, .int .i64 0, .int .i64 16384, .int .i64 0, .int .i64 0, .int .i64 0, .int .i64 16384, .int .i64 0, .int .i64 0, .int .i64 0]) (by simp [results, Try.results15, go_sem, rc0, rc1, rc2, rc3, rc4, rc5, rc6, rc7, rc8, rc9, rc10, rc11]) rfl ⟨rfl, (((((((((((((bw_below B1 q).setCell (p := ⟨w.heap.size, 0, none⟩) (by show w.heap.size ≤ w.heap.size; omega) _).setCell (p := ⟨w.heap.size, 1, none⟩) (by show w.heap.size ≤ w.heap.size; omega) _).setCell (p := ⟨w.heap.size, 2, none⟩) (by show w.heap.size ≤ w.heap.size; omega) _).setCell (p := ⟨w.heap.size, 3, none⟩) (by show w.heap.size ≤ w.heap.size; omega) _).setCell (p := ⟨w.heap.size, 4, none⟩) (by show w.heap.size ≤ w.heap.size; omega) _).setCell (p := ⟨w.heap.size, 5, none⟩) (by show w.heap.size ≤ w.heap.size; omega) _).setCell (p := ⟨w.heap.size, 6, none⟩) (by show w.heap.size ≤ w.heap.size; omega) _).setCell (p := ⟨w.heap.size, 7, none⟩) (by show w.heap.size ≤ w.heap.size; omega) _).setCell (p := ⟨w.heap.size, 8, none⟩) (by show w.heap.size ≤ w.heap.size; omega) _).setCell (p := ⟨w.heap.size, 9, none⟩) (by show w.heap.size ≤ w.heap.size; omega) _).setCell (p := ⟨w.heap.size, 10, none⟩) (by show w.heap.size ≤ w.heap.size; omega) _).setCell (p := ⟨w.heap.size, 11, none⟩) (by show w.heap.size ≤ w.heap.size; omega) _)⟩
  · rw [if_neg (by omega)]
    have t1 : decide (n < 1) = false := decide_eq_false h1
    have t2 : decide (d < 1) = false := decide_eq_false h2
    have t3 : decide (64 < n) = false := decide_eq_false h3
    have t4 : decide (64 < d) = true := decide_eq_true h4
    clear h1 h2 h3 h4
    unfold p12 pNone
    dsimp only
    go_enter Try.func15, Try.ntmps15
    go_upto_region 1 with (fail)
    obtain ⟨W1, hW1⟩ : ∃ W, W = w.alloc (.cells #[.int .i64 0, .int .i64 0, .int .i64 0, .int .i64 0, .int .i64 0, .int .i64 0, .int .i64 0, .int .i64 0, .int .i64 0, .int .i64 0, .int .i64 0, .int .i64 0] 25) := ⟨_, rfl⟩
    have B1 : Below w.heap.size w W1 := by rw [hW1]; go_grown
    have k_r : Bk W1 (w.heap.size) 25 #[.int .i64 0, .int .i64 0, .int .i64 0, .int .i64 0, .int .i64 0, .int .i64 0, .int .i64 0, .int .i64 0, .int .i64 0, .int .i64 0, .int .i64 0, .int .i64 0] := by rw [hW1]; exact Bk.new _ _ _
    rw [← hW1]
    clear hW1
    have c_r_0 : ∀ p : BW W1, p.w.cell? ⟨w.heap.size, 0, none⟩ = some (.int .i64 0) := bw_cell (k_r.cell rfl)
    have f_r_0 : ∀ p : BW W1, p.w.frozen? ⟨w.heap.size, 0, none⟩ = false := fun p => (k_r.below p.h).frozen 0
    have c_r_1 : ∀ p : BW W1, p.w.cell? ⟨w.heap.size, 1, none⟩ = some (.int .i64 0) := bw_cell (k_r.cell rfl)
    have f_r_1 : ∀ p : BW W1, p.w.frozen? ⟨w.heap.size, 1, none⟩ = false := fun p => (k_r.below p.h).frozen 1
    have c_r_2 : ∀ p : BW W1, p.w.cell? ⟨w.heap.size, 2, none⟩ = some (.int .i64 0) := bw_cell (k_r.cell rfl)
    have f_r_2 : ∀ p : BW W1, p.w.frozen? ⟨w.heap.size, 2, none⟩ = false := fun p => (k_r.below p.h).frozen 2
    have c_r_3 : ∀ p : BW W1, p.w.cell? ⟨w.heap.size, 3, none⟩ = some (.int .i64 0) := bw_cell (k_r.cell rfl)
    have f_r_3 : ∀ p : BW W1, p.w.frozen? ⟨w.heap.size, 3, none⟩ = false := fun p => (k_r.below p.h).frozen 3
    have c_r_4 : ∀ p : BW W1, p.w.cell? ⟨w.heap.size, 4, none⟩ = some (.int .i64 0) := bw_cell (k_r.cell rfl)
    have f_r_4 : ∀ p : BW W1, p.w.frozen? ⟨w.heap.size, 4, none⟩ = false := fun p => (k_r.below p.h).frozen 4
    have c_r_5 : ∀ p : BW W1, p.w.cell? ⟨w.heap.size, 5, none⟩ = some (.int .i64 0) := bw_cell (k_r.cell rfl)
    have f_r_5 : ∀ p : BW W1, p.w.frozen? ⟨w.heap.size, 5, none⟩ = false := fun p => (k_r.below p.h).frozen 5
    have c_r_6 : ∀ p : BW W1, p.w.cell? ⟨w.heap.size, 6, none⟩ = some (.int .i64 0) := bw_cell (k_r.cell rfl)
    have f_r_6 : ∀ p : BW W1, p.w.frozen? ⟨w.heap.size, 6, none⟩ = false := fun p => (k_r.below p.h).frozen 6
    have c_r_7 : ∀ p : BW W1, p.w.cell? ⟨w.heap.size, 7, none⟩ = some (.int .i64 0) := bw_cell (k_r.cell rfl)
    have f_r_7 : ∀ p : BW W1, p.w.frozen? ⟨w.heap.size, 7, none⟩ = false := fun p => (k_r.below p.h).frozen 7
    have c_r_8 : ∀ p : BW W1, p.w.cell? ⟨w.heap.size, 8, none⟩ = some (.int .i64 0) := bw_cell (k_r.cell rfl)
    have f_r_8 : ∀ p : BW W1, p.w.frozen? ⟨w.heap.size, 8, none⟩ = false := fun p => (k_r.below p.h).frozen 8
    have c_r_9 : ∀ p : BW W1, p.w.cell? ⟨w.heap.size, 9, none⟩ = some (.int .i64 0) := bw_cell (k_r.cell rfl)
    have f_r_9 : ∀ p : BW W1, p.w.frozen? ⟨w.heap.size, 9, none⟩ = false := fun p => (k_r.below p.h).frozen 9
    have c_r_10 : ∀ p : BW W1, p.w.cell? ⟨w.heap.size, 10, none⟩ = some (.int .i64 0) := bw_cell (k_r.cell rfl)
    have f_r_10 : ∀ p : BW W1, p.w.frozen? ⟨w.heap.size, 10, none⟩ = false := fun p => (k_r.below p.h).frozen 10
    have c_r_11 : ∀ p : BW W1, p.w.cell? ⟨w.heap.size, 11, none⟩ = some (.int .i64 0) := bw_cell (k_r.cell rfl)
    have f_r_11 : ∀ p : BW W1, p.w.frozen? ⟨w.heap.size, 11, none⟩ = false := fun p => (k_r.below p.h).frozen 11
    obtain ⟨p1, hp1⟩ : ∃ p : BW W1, p.w = W1 := ⟨BW.start W1, rfl⟩
    rw [← hp1]
    clear hp1
    go_wp2_with (first
      | (go_at_call 11; (first | (with_reducible refine (bw_call K.out _).mono ?_)); rintro e w' ⟨rfl, q, rfl⟩))
    have kr : Bk ((((((((((((q.w.setCell ⟨w.heap.size, 0, none⟩ (.int .i64 16384)).setCell ⟨w.heap.size, 1, none⟩ (.int .i64 0)).setCell ⟨w.heap.size, 2, none⟩ (.int .i64 0)).setCell ⟨w.heap.size, 3, none⟩ (.int .i64 0)).setCell ⟨w.heap.size, 4, none⟩ (.int .i64 16384)).setCell ⟨w.heap.size, 5, none⟩ (.int .i64 0)).setCell ⟨w.heap.size, 6, none⟩ (.int .i64 0)).setCell ⟨w.heap.size, 7, none⟩ (.int .i64 0)).setCell ⟨w.heap.size, 8, none⟩ (.int .i64 16384)).setCell ⟨w.heap.size, 9, none⟩ (.int .i64 0)).setCell ⟨w.heap.size, 10, none⟩ (.int .i64 0)).setCell ⟨w.heap.size, 11, none⟩ (.int .i64 0)) (w.heap.size) 25 #[.int .i64 16384, .int .i64 0, .int .i64 0, .int .i64 0, .int .i64 16384, .int .i64 0, .int .i64 0, .int .i64 0, .int .i64 16384, .int .i64 0, .int .i64 0, .int .i64 0] := (((((((((((((k_r.below q.h).set 0 (.int .i64 16384)).set 1 (.int .i64 0)).set 2 (.int .i64 0)).set 3 (.int .i64 0)).set 4 (.int .i64 16384)).set 5 (.int .i64 0)).set 6 (.int .i64 0)).set 7 (.int .i64 0)).set 8 (.int .i64 16384)).set 9 (.int .i64 0)).set 10 (.int .i64 0)).set 11 (.int .i64 0)).cast (by simp)
    have rc0 : World.cell? ((((((((((((q.w.setCell ⟨w.heap.size, 0, none⟩ (.int .i64 16384)).setCell ⟨w.heap.size, 1, none⟩ (.int .i64 0)).setCell ⟨w.heap.size, 2, none⟩ (.int .i64 0)).setCell ⟨w.heap.size, 3, none⟩ (.int .i64 0)).setCell ⟨w.heap.size, 4, none⟩ (.int .i64 16384)).setCell ⟨w.heap.size, 5, none⟩ (.int .i64 0)).setCell ⟨w.heap.size, 6, none⟩ (.int .i64 0)).setCell ⟨w.heap.size, 7, none⟩ (.int .i64 0)).setCell ⟨w.heap.size, 8, none⟩ (.int .i64 16384)).setCell ⟨w.heap.size, 9, none⟩ (.int .i64 0)).setCell ⟨w.heap.size, 10, none⟩ (.int .i64 0)).setCell ⟨w.heap.size, 11, none⟩ (.int .i64 0)) ⟨w.heap.size, 0, none⟩ = some (.int .i64 16384) := kr.cell rfl
    have rc1 : World.cell? ((((((((((((q.w.setCell ⟨w.heap.size, 0, none⟩ (.int .i64 16384)).setCell ⟨w.heap.size, 1, none⟩ (.int .i64 0)).setCell ⟨w.heap.size, 2, none⟩ (.int .i64 0)).setCell ⟨w.heap.size, 3, none⟩ (.int .i64 0)).setCell ⟨w.heap.size, 4, none⟩ (.int .i64 16384)).setCell ⟨w.heap.size, 5, none⟩ (.int .i64 0)).setCell ⟨w.heap.size, 6, none⟩ (.int .i64 0)).setCell ⟨w.heap.size, 7, none⟩ (.int .i64 0)).setCell ⟨w.heap.size, 8, none⟩ (.int .i64 16384)).setCell ⟨w.heap.size, 9, none⟩ (.int .i64 0)).setCell ⟨w.heap.size, 10, none⟩ (.int .i64 0)).setCell ⟨w.heap.size, 11, none⟩ (.int .i64 0)) ⟨w.heap.size, 1, none⟩ = some (.int .i64 0) := kr.cell rfl
    have rc2 : World.cell? ((((((((((((q.w.setCell ⟨w.heap.size, 0, none⟩ (.int .i64 16384)).setCell ⟨w.heap.size, 1, none⟩ (.int .i64 0)).setCell ⟨w.heap.size, 2, none⟩ (.int .i64 0)).setCell ⟨w.heap.size, 3, none⟩ (.int .i64 0)).setCell ⟨w.heap.size, 4, none⟩ (.int .i64 16384)).setCell ⟨w.heap.size, 5, none⟩ (.int .i64 0)).setCell ⟨w.heap.size, 6, none⟩ (.int .i64 0)).setCell ⟨w.heap.size, 7, none⟩ (.int .i64 0)).setCell ⟨w.heap.size, 8, none⟩ (.int .i64 16384)).setCell ⟨w.heap.size, 9, none⟩ (.int .i64 0)).setCell ⟨w.heap.size, 10, none⟩ (.int .i64 0)).setCell ⟨w.heap.size, 11, none⟩ (.int .i64 0)) ⟨w.heap.size, 2, none⟩ = some (.int .i64 0) := kr.cell rfl
    have rc3 : World.cell? ((((((((((((q.w.setCell ⟨w.heap.size, 0, none⟩ (.int .i64 16384)).setCell ⟨w.heap.size, 1, none⟩ (.int .i64 0)).setCell ⟨w.heap.size, 2, none⟩ (.int .i64 0)).setCell ⟨w.heap.size, 3, none⟩ (.int .i64 0)).setCell ⟨w.heap.size, 4, none⟩ (.int .i64 16384)).setCell ⟨w.heap.size, 5, none⟩ (.int .i64 0)).setCell ⟨w.heap.size, 6, none⟩ (.int .i64 0)).setCell ⟨w.heap.size, 7, none⟩ (.int .i64 0)).setCell ⟨w.heap.size, 8, none⟩ (.int .i64 16384)).setCell ⟨w.heap.size, 9, none⟩ (.int .i64 0)).setCell ⟨w.heap.size, 10, none⟩ (.int .i64 0)).setCell ⟨w.heap.size, 11, none⟩ (.int .i64 0)) ⟨w.heap.size, 3, none⟩ = some (.int .i64 0) := kr.cell rfl
    have rc4 : World.cell? ((((((((((((q.w.setCell ⟨w.heap.size, 0, none⟩ (.int .i64 16384)).setCell ⟨w.heap.size, 1, none⟩ (.int .i64 0)).setCell ⟨w.heap.size, 2, none⟩ (.int .i64 0)).setCell ⟨w.heap.size, 3, none⟩ (.int .i64 0)).setCell ⟨w.heap.size, 4, none⟩ (.int .i64 16384)).setCell ⟨w.heap.size, 5, none⟩ (.int .i64 0)).setCell ⟨w.heap.size, 6, none⟩ (.int .i64 0)).setCell ⟨w.heap.size, 7, none⟩ (.int .i64 0)).setCell ⟨w.heap.size, 8, none⟩ (.int .i64 16384)).setCell ⟨w.heap.size, 9, none⟩ (.int .i64 0)).setCell ⟨w.heap.size, 10, none⟩ (.int .i64 0)).setCell ⟨w.heap.size, 11, none⟩ (.int .i64 0)) ⟨w.heap.size, 4, none⟩ = some (.int .i64 16384) := kr.cell rfl
    have rc5 : World.cell? ((((((((((((q.w.setCell ⟨w.heap.size, 0, none⟩ (.int .i64 16384)).setCell ⟨w.heap.size, 1, none⟩ (.int .i64 0)).setCell ⟨w.heap.size, 2, none⟩ (.int .i64 0)).setCell ⟨w.heap.size, 3, none⟩ (.int .i64 0)).setCell ⟨w.heap.size, 4, none⟩ (.int .i64 16384)).setCell ⟨w.heap.size, 5, none⟩ (.int .i64 0)).setCell ⟨w.heap.size, 6, none⟩ (.int .i64 0)).setCell ⟨w.heap.size, 7, none⟩ (.int .i64 0)).setCell ⟨w.heap.size, 8, none⟩ (.int .i64 16384)).setCell ⟨w.heap.size, 9, none⟩ (.int .i64 0)).setCell ⟨w.heap.size, 10, none⟩ (.int .i64 0)).setCell ⟨w.heap.size, 11, none⟩ (.int .i64 0)) ⟨w.heap.size, 5, none⟩ = some (.int .i64 0) := kr.cell rfl
    have rc6 : World.cell? ((((((((((((q.w.setCell ⟨w.heap.size, 0, none⟩ (.int .i64 16384)).setCell ⟨w.heap.size, 1, none⟩ (.int .i64 0)).setCell ⟨w.heap.size, 2, none⟩ (.int .i64 0)).setCell ⟨w.heap.size, 3, none⟩ (.int .i64 0)).setCell ⟨w.heap.size, 4, none⟩ (.int .i64 16384)).setCell ⟨w.heap.size, 5, none⟩ (.int .i64 0)).setCell ⟨w.heap.size, 6, none⟩ (.int .i64 0)).setCell ⟨w.heap.size, 7, none⟩ (.int .i64 0)).setCell ⟨w.heap.size, 8, none⟩ (.int .i64 16384)).setCell ⟨w.heap.size, 9, none⟩ (.int .i64 0)).setCell ⟨w.heap.size, 10, none⟩ (.int .i64 0)).setCell ⟨w.heap.size, 11, none⟩ (.int .i64 0)) ⟨w.heap.size, 6, none⟩ = some (.int .i64 0) := kr.cell rfl
    have rc7 : World.cell? ((((((((((((q.w.setCell ⟨w.heap.size, 0, none⟩ (.int .i64 16384)).setCell ⟨w.heap.size, 1, none⟩ (.int .i64 0)).setCell ⟨w.heap.size, 2, none⟩ (.int .i64 0)).setCell ⟨w.heap.size, 3, none⟩ (.int .i64 0)).setCell ⟨w.heap.size, 4, none⟩ (.int .i64 16384)).setCell ⟨w.heap.size, 5, none⟩ (.int .i64 0)).setCell ⟨w.heap.size, 6, none⟩ (.int .i64 0)).setCell ⟨w.heap.size, 7, none⟩ (.int .i64 0)).setCell ⟨w.heap.size, 8, none⟩ (.int .i64 16384)).setCell ⟨w.heap.size, 9, none⟩ (.int .i64 0)).setCell ⟨w.heap.size, 10, none⟩ (.int .i64 0)).setCell ⟨w.heap.size, 11, none⟩ (.int .i64 0)) ⟨w.heap.size, 7, none⟩ = some (.int .i64 0) := kr.cell rfl
    have rc8 : World.cell? ((((((((((((q.w.setCell ⟨w.heap.size, 0, none⟩ (.int .i64 16384)).setCell ⟨w.heap.size, 1, none⟩ (.int .i64 0)).setCell ⟨w.heap.size, 2, none⟩ (.int .i64 0)).setCell ⟨w.heap.size, 3, none⟩ (.int .i64 0)).setCell ⟨w.heap.size, 4, none⟩ (.int .i64 16384)).setCell ⟨w.heap.size, 5, none⟩ (.int .i64 0)).setCell ⟨w.heap.size, 6, none⟩ (.int .i64 0)).setCell ⟨w.heap.size, 7, none⟩ (.int .i64 0)).setCell ⟨w.heap.size, 8, none⟩ (.int .i64 16384)).setCell ⟨w.heap.size, 9, none⟩ (.int .i64 0)).setCell ⟨w.heap.size, 10, none⟩ (.int .i64 0)).setCell ⟨w.heap.size, 11, none⟩ (.int .i64 0)) ⟨w.heap.size, 8, none⟩ = some (.int .i64 16384) := kr.cell rfl
    have rc9 : World.cell? ((((((((((((q.w.setCell ⟨w.heap.size, 0, none⟩ (.int .i64 16384)).setCell ⟨w.heap.size, 1, none⟩ (.int .i64 0)).setCell ⟨w.heap.size, 2, none⟩ (.int .i64 0)).setCell ⟨w.heap.size, 3, none⟩ (.int .i64 0)).setCell ⟨w.heap.size, 4, none⟩ (.int .i64 16384)).setCell ⟨w.heap.size, 5, none⟩ (.int .i64 0)).setCell ⟨w.heap.size, 6, none⟩ (.int .i64 0)).setCell ⟨w.heap.size, 7, none⟩ (.int .i64 0)).setCell ⟨w.heap.size, 8, none⟩ (.int .i64 16384)).setCell ⟨w.heap.size, 9, none⟩ (.int .i64 0)).setCell ⟨w.heap.size, 10, none⟩ (.int .i64 0)).setCell ⟨w.heap.size, 11, none⟩ (.int .i64 0)) ⟨w.heap.size, 9, none⟩ = some (.int .i64 0) := kr.cell rfl
    have rc10 : World.cell? ((((((((((((q.w.setCell ⟨w.heap.size, 0, none⟩ (.int .i64 16384)).setCell ⟨w.heap.size, 1, none⟩ (.int .i64 0)).setCell ⟨w.heap.size, 2, none⟩ (.int .i64 0)).setCell ⟨w.heap.size, 3, none⟩ (.int .i64 0)).setCell ⟨w.heap.size, 4, none⟩ (.int .i64 16384)).setCell ⟨w.heap.size, 5, none⟩ (.int .i64 0)).setCell ⟨w.heap.size, 6, none⟩ (.int .i64 0)).setCell ⟨w.heap.size, 7, none⟩ (.int .i64 0)).setCell ⟨w.heap.size, 8, none⟩ (.int .i64 16384)).setCell ⟨w.heap.size, 9, none⟩ (.int .i64 0)).setCell ⟨w.heap.size, 10, none⟩ (.int .i64 0)).setCell ⟨w.heap.size, 11, none⟩ (.int .i64 0)) ⟨w.heap.size, 10, none⟩ = some (.int .i64 0) := kr.cell rfl
    have rc11 : World.cell? ((((((((((((q.w.setCell ⟨w.heap.size, 0, none⟩ (.int .i64 16384)).setCell ⟨w.heap.size, 1, none⟩ (.int .i64 0)).setCell ⟨w.heap.size, 2, none⟩ (.int .i64 0)).setCell ⟨w.heap.size, 3, none⟩ (.int .i64 0)).setCell ⟨w.heap.size, 4, none⟩ (.int .i64 16384)).setCell ⟨w.heap.size, 5, none⟩ (.int .i64 0)).setCell ⟨w.heap.size, 6, none⟩ (.int .i64 0)).setCell ⟨w.heap.size, 7, none⟩ (.int .i64 0)).setCell ⟨w.heap.size, 8, none⟩ (.int .i64 16384)).setCell ⟨w.heap.size, 9, none⟩ (.int .i64 0)).setCell ⟨w.heap.size, 10, none⟩ (.int .i64 0)).setCell ⟨w.heap.size, 11, none⟩ (.int .i64 0)) ⟨w.heap.size, 11, none⟩ = some (.int .i64 0) := kr.cell rfl
    exact bodyPost_ret (v := .agg #[.int .i64 16384, .int .i64 0, .int .i64 0, .int .i64 0, .int .i64 16384, .int .i64 0, .int .i64 0, .int .i64 0, .int .i64 16384, .int .i64 0, .int .i64 0, .int .i64 0]) (by simp [results, Try.results15, go_sem, rc0, rc1, rc2, rc3, rc4, rc5, rc6, rc7, rc8, rc9, rc10, rc11]) rfl ⟨rfl, (((((((((((((bw_below B1 q).setCell (p := ⟨w.heap.size, 0, none⟩) (by show w.heap.size ≤ w.heap.size; omega) _).setCell (p := ⟨w.heap.size, 1, none⟩) (by show w.heap.size ≤ w.heap.size; omega) _).setCell (p := ⟨w.heap.size, 2, none⟩) (by show w.heap.size ≤ w.heap.size; omega) _).setCell (p := ⟨w.heap.size, 3, none⟩) (by show w.heap.size ≤ w.heap.size; omega) _).setCell (p := ⟨w.heap.size, 4, none⟩) (by show w.heap.size ≤ w.heap.size; omega) _).setCell (p := ⟨w.heap.size, 5, none⟩) (by show w.heap.size ≤ w.heap.size; omega) _).setCell (p := ⟨w.heap.size, 6, none⟩) (by show w.heap.size ≤ w.heap.size; omega) _).setCell (p := ⟨w.heap.size, 7, none⟩) (by show w.heap.size ≤ w.heap.size; omega) _).setCell (p := ⟨w.heap.size, 8, none⟩) (by show w.heap.size ≤ w.heap.size; omega) _).setCell (p := ⟨w.heap.size, 9, none⟩) (by show w.heap.size ≤ w.heap.size; omega) _).setCell (p := ⟨w.heap.size, 10, none⟩) (by show w.heap.size ≤ w.heap.size; omega) _).setCell (p := ⟨w.heap.size, 11, none⟩) (by show w.heap.size ≤ w.heap.size; omega) _)⟩
  · rw [if_pos (by omega)]
    have t1 : decide (n < 1) = false := decide_eq_false h1
    have t2 : decide (d < 1) = false := decide_eq_false h2
    have t3 : decide (64 < n) = false := decide_eq_false h3
    have t4 : decide (64 < d) = false := decide_eq_false h4
    have e1 : IntKind.i64.wrap (16384 * n) = 16384 * n := by rw [i64w]; omega
    have e2 : wrap64 (16384 * n) = 16384 * n := by unfold wrap64; omega
    have V := Lib.hid (fun w => below_of_same (fun w => ref_Div (16384 * n) d w (by unfold I64; omega) (by unfold I64; omega)) w)
    have ed : dv (16384 * n) d = 16384 * n / d := by unfold dv; rw [if_neg (by omega)]
    rw [ed] at V
    obtain ⟨u, hu⟩ : ∃ u, u = 16384 * n := ⟨_, rfl⟩
    have e3 : 16384 * n = u := hu.symm
    rw [← hu] at e1 e2 V ⊢
    generalize u / d = r at *
    have K2 := Lib.hid (fun w => ref8_none r w)
    clear ed hu
    clear h1 h2 h3 h4
    unfold p12 pNone
    dsimp only
    go_enter Try.func15, Try.ntmps15
    go_upto_region 1 with (fail)
    obtain ⟨W1, hW1⟩ : ∃ W, W = w.alloc (.cells #[.int .i64 0, .int .i64 0, .int .i64 0, .int .i64 0, .int .i64 0, .int .i64 0, .int .i64 0, .int .i64 0, .int .i64 0, .int .i64 0, .int .i64 0, .int .i64 0] 25) := ⟨_, rfl⟩
    have B1 : Below w.heap.size w W1 := by rw [hW1]; go_grown
    have k_r : Bk W1 (w.heap.size) 25 #[.int .i64 0, .int .i64 0, .int .i64 0, .int .i64 0, .int .i64 0, .int .i64 0, .int .i64 0, .int .i64 0, .int .i64 0, .int .i64 0, .int .i64 0, .int .i64 0] := by rw [hW1]; exact Bk.new _ _ _
    rw [← hW1]
    clear hW1
    have c_r_0 : ∀ p : BW W1, p.w.cell? ⟨w.heap.size, 0, none⟩ = some (.int .i64 0) := bw_cell (k_r.cell rfl)
    have f_r_0 : ∀ p : BW W1, p.w.frozen? ⟨w.heap.size, 0, none⟩ = false := fun p => (k_r.below p.h).frozen 0
    have c_r_1 : ∀ p : BW W1, p.w.cell? ⟨w.heap.size, 1, none⟩ = some (.int .i64 0) := bw_cell (k_r.cell rfl)
    have f_r_1 : ∀ p : BW W1, p.w.frozen? ⟨w.heap.size, 1, none⟩ = false := fun p => (k_r.below p.h).frozen 1
    have c_r_2 : ∀ p : BW W1, p.w.cell? ⟨w.heap.size, 2, none⟩ = some (.int .i64 0) := bw_cell (k_r.cell rfl)
    have f_r_2 : ∀ p : BW W1, p.w.frozen? ⟨w.heap.size, 2, none⟩ = false := fun p => (k_r.below p.h).frozen 2
    have c_r_3 : ∀ p : BW W1, p.w.cell? ⟨w.heap.size, 3, none⟩ = some (.int .i64 0) := bw_cell (k_r.cell rfl)
    have f_r_3 : ∀ p : BW W1, p.w.frozen? ⟨w.heap.size, 3, none⟩ = false := fun p => (k_r.below p.h).frozen 3
    have c_r_4 : ∀ p : BW W1, p.w.cell? ⟨w.heap.size, 4, none⟩ = some (.int .i64 0) := bw_cell (k_r.cell rfl)
    have f_r_4 : ∀ p : BW W1, p.w.frozen? ⟨w.heap.size, 4, none⟩ = false := fun p => (k_r.below p.h).frozen 4
    have c_r_5 : ∀ p : BW W1, p.w.cell? ⟨w.heap.size, 5, none⟩ = some (.int .i64 0) := bw_cell (k_r.cell rfl)
    have f_r_5 : ∀ p : BW W1, p.w.frozen? ⟨w.heap.size, 5, none⟩ = false := fun p => (k_r.below p.h).frozen 5
    have c_r_6 : ∀ p : BW W1, p.w.cell? ⟨w.heap.size, 6, none⟩ = some (.int .i64 0) := bw_cell (k_r.cell rfl)
    have f_r_6 : ∀ p : BW W1, p.w.frozen? ⟨w.heap.size, 6, none⟩ = false := fun p => (k_r.below p.h).frozen 6
    have c_r_7 : ∀ p : BW W1, p.w.cell? ⟨w.heap.size, 7, none⟩ = some (.int .i64 0) := bw_cell (k_r.cell rfl)
    have f_r_7 : ∀ p : BW W1, p.w.frozen? ⟨w.heap.size, 7, none⟩ = false := fun p => (k_r.below p.h).frozen 7
    have c_r_8 : ∀ p : BW W1, p.w.cell? ⟨w.heap.size, 8, none⟩ = some (.int .i64 0) := bw_cell (k_r.cell rfl)
    have f_r_8 : ∀ p : BW W1, p.w.frozen? ⟨w.heap.size, 8, none⟩ = false := fun p => (k_r.below p.h).frozen 8
    have c_r_9 : ∀ p : BW W1, p.w.cell? ⟨w.heap.size, 9, none⟩ = some (.int .i64 0) := bw_cell (k_r.cell rfl)
    have f_r_9 : ∀ p : BW W1, p.w.frozen? ⟨w.heap.size, 9, none⟩ = false := fun p => (k_r.below p.h).frozen 9
    have c_r_10 : ∀ p : BW W1, p.w.cell? ⟨w.heap.size, 10, none⟩ = some (.int .i64 0) := bw_cell (k_r.cell rfl)
    have f_r_10 : ∀ p : BW W1, p.w.frozen? ⟨w.heap.size, 10, none⟩ = false := fun p => (k_r.below p.h).frozen 10
    have c_r_11 : ∀ p : BW W1, p.w.cell? ⟨w.heap.size, 11, none⟩ = some (.int .i64 0) := bw_cell (k_r.cell rfl)
    have f_r_11 : ∀ p : BW W1, p.w.frozen? ⟨w.heap.size, 11, none⟩ = false := fun p => (k_r.below p.h).frozen 11
    obtain ⟨p1, hp1⟩ : ∃ p : BW W1, p.w = W1 := ⟨BW.start W1, rfl⟩
    rw [← hp1]
    clear hp1
    go_wp2_with (first
      | (go_at_call 36; (first | (with_reducible refine (bw_call V.out _).mono ?_)); rintro e w' ⟨rfl, q, rfl⟩)
      | (go_at_call 25; (first | (with_reducible refine (bw_call K2.out _).mono ?_)); rintro e w' ⟨rfl, q, rfl⟩))
    have kr : Bk ((((((((((((q.w.setCell ⟨w.heap.size, 0, none⟩ (.int .i64 r)).setCell ⟨w.heap.size, 1, none⟩ (.int .i64 0)).setCell ⟨w.heap.size, 2, none⟩ (.int .i64 0)).setCell ⟨w.heap.size, 3, none⟩ (.int .i64 0)).setCell ⟨w.heap.size, 4, none⟩ (.int .i64 r)).setCell ⟨w.heap.size, 5, none⟩ (.int .i64 0)).setCell ⟨w.heap.size, 6, none⟩ (.int .i64 0)).setCell ⟨w.heap.size, 7, none⟩ (.int .i64 0)).setCell ⟨w.heap.size, 8, none⟩ (.int .i64 r)).setCell ⟨w.heap.size, 9, none⟩ (.int .i64 0)).setCell ⟨w.heap.size, 10, none⟩ (.int .i64 0)).setCell ⟨w.heap.size, 11, none⟩ (.int .i64 0)) (w.heap.size) 25 #[.int .i64 r, .int .i64 0, .int .i64 0, .int .i64 0, .int .i64 r, .int .i64 0, .int .i64 0, .int .i64 0, .int .i64 r, .int .i64 0, .int .i64 0, .int .i64 0] := (((((((((((((k_r.below q.h).set 0 (.int .i64 r)).set 1 (.int .i64 0)).set 2 (.int .i64 0)).set 3 (.int .i64 0)).set 4 (.int .i64 r)).set 5 (.int .i64 0)).set 6 (.int .i64 0)).set 7 (.int .i64 0)).set 8 (.int .i64 r)).set 9 (.int .i64 0)).set 10 (.int .i64 0)).set 11 (.int .i64 0)).cast (by simp)
    have rc0 : World.cell? ((((((((((((q.w.setCell ⟨w.heap.size, 0, none⟩ (.int .i64 r)).setCell ⟨w.heap.size, 1, none⟩ (.int .i64 0)).setCell ⟨w.heap.size, 2, none⟩ (.int .i64 0)).setCell ⟨w.heap.size, 3, none⟩ (.int .i64 0)).setCell ⟨w.heap.size, 4, none⟩ (.int .i64 r)).setCell ⟨w.heap.size, 5, none⟩ (.int .i64 0)).setCell ⟨w.heap.size, 6, none⟩ (.int .i64 0)).setCell ⟨w.heap.size, 7, none⟩ (.int .i64 0)).setCell ⟨w.heap.size, 8, none⟩ (.int .i64 r)).setCell ⟨w.heap.size, 9, none⟩ (.int .i64 0)).setCell ⟨w.heap.size, 10, none⟩ (.int .i64 0)).setCell ⟨w.heap.size, 11, none⟩ (.int .i64 0)) ⟨w.heap.size, 0, none⟩ = some (.int .i64 r) := kr.cell rfl
    have rc1 : World.cell? ((((((((((((q.w.setCell ⟨w.heap.size, 0, none⟩ (.int .i64 r)).setCell ⟨w.heap.size, 1, none⟩ (.int .i64 0)).setCell ⟨w.heap.size, 2, none⟩ (.int .i64 0)).setCell ⟨w.heap.size, 3, none⟩ (.int .i64 0)).setCell ⟨w.heap.size, 4, none⟩ (.int .i64 r)).setCell ⟨w.heap.size, 5, none⟩ (.int .i64 0)).setCell ⟨w.heap.size, 6, none⟩ (.int .i64 0)).setCell ⟨w.heap.size, 7, none⟩ (.int .i64 0)).setCell ⟨w.heap.size, 8, none⟩ (.int .i64 r)).setCell ⟨w.heap.size, 9, none⟩ (.int .i64 0)).setCell ⟨w.heap.size, 10, none⟩ (.int .i64 0)).setCell ⟨w.heap.size, 11, none⟩ (.int .i64 0)) ⟨w.heap.size, 1, none⟩ = some (.int .i64 0) := kr.cell rfl
    have rc2 : World.cell? ((((((((((((q.w.setCell ⟨w.heap.size, 0, none⟩ (.int .i64 r)).setCell ⟨w.heap.size, 1, none⟩ (.int .i64 0)).setCell ⟨w.heap.size, 2, none⟩ (.int .i64 0)).setCell ⟨w.heap.size, 3, none⟩ (.int .i64 0)).setCell ⟨w.heap.size, 4, none⟩ (.int .i64 r)).setCell ⟨w.heap.size, 5, none⟩ (.int .i64 0)).setCell ⟨w.heap.size, 6, none⟩ (.int .i64 0)).setCell ⟨w.heap.size, 7, none⟩ (.int .i64 0)).setCell ⟨w.heap.size, 8, none⟩ (.int .i64 r)).setCell ⟨w.heap.size, 9, none⟩ (.int .i64 0)).setCell ⟨w.heap.size, 10, none⟩ (.int .i64 0)).setCell ⟨w.heap.size, 11, none⟩ (.int .i64 0)) ⟨w.heap.size, 2, none⟩ = some (.int .i64 0) := kr.cell rfl
    have rc3 : World.cell? ((((((((((((q.w.setCell ⟨w.heap.size, 0, none⟩ (.int .i64 r)).setCell ⟨w.heap.size, 1, none⟩ (.int .i64 0)).setCell ⟨w.heap.size, 2, none⟩ (.int .i64 0)).setCell ⟨w.heap.size, 3, none⟩ (.int .i64 0)).setCell ⟨w.heap.size, 4, none⟩ (.int .i64 r)).setCell ⟨w.heap.size, 5, none⟩ (.int .i64 0)).setCell ⟨w.heap.size, 6, none⟩ (.int .i64 0)).setCell ⟨w.heap.size, 7, none⟩ (.int .i64 0)).setCell ⟨w.heap.size, 8, none⟩ (.int .i64 r)).setCell ⟨w.heap.size, 9, none⟩ (.int .i64 0)).setCell ⟨w.heap.size, 10, none⟩ (.int .i64 0)).setCell ⟨w.heap.size, 11, none⟩ (.int .i64 0)) ⟨w.heap.size, 3, none⟩ = some (.int .i64 0) := kr.cell rfl
    have rc4 : World.cell? ((((((((((((q.w.setCell ⟨w.heap.size, 0, none⟩ (.int .i64 r)).setCell ⟨w.heap.size, 1, none⟩ (.int .i64 0)).setCell ⟨w.heap.size, 2, none⟩ (.int .i64 0)).setCell ⟨w.heap.size, 3, none⟩ (.int .i64 0)).setCell ⟨w.heap.size, 4, none⟩ (.int .i64 r)).setCell ⟨w.heap.size, 5, none⟩ (.int .i64 0)).setCell ⟨w.heap.size, 6, none⟩ (.int .i64 0)).setCell ⟨w.heap.size, 7, none⟩ (.int .i64 0)).setCell ⟨w.heap.size, 8, none⟩ (.int .i64 r)).setCell ⟨w.heap.size, 9, none⟩ (.int .i64 0)).setCell ⟨w.heap.size, 10, none⟩ (.int .i64 0)).setCell ⟨w.heap.size, 11, none⟩ (.int .i64 0)) ⟨w.heap.size, 4, none⟩ = some (.int .i64 r) := kr.cell rfl
    have rc5 : World.cell? ((((((((((((q.w.setCell ⟨w.heap.size, 0, none⟩ (.int .i64 r)).setCell ⟨w.heap.size, 1, none⟩ (.int .i64 0)).setCell ⟨w.heap.size, 2, none⟩ (.int .i64 0)).setCell ⟨w.heap.size, 3, none⟩ (.int .i64 0)).setCell ⟨w.heap.size, 4, none⟩ (.int .i64 r)).setCell ⟨w.heap.size, 5, none⟩ (.int .i64 0)).setCell ⟨w.heap.size, 6, none⟩ (.int .i64 0)).setCell ⟨w.heap.size, 7, none⟩ (.int .i64 0)).setCell ⟨w.heap.size, 8, none⟩ (.int .i64 r)).setCell ⟨w.heap.size, 9, none⟩ (.int .i64 0)).setCell ⟨w.heap.size, 10, none⟩ (.int .i64 0)).setCell ⟨w.heap.size, 11, none⟩ (.int .i64 0)) ⟨w.heap.size, 5, none⟩ = some (.int .i64 0) := kr.cell rfl
    have rc6 : World.cell? ((((((((((((q.w.setCell ⟨w.heap.size, 0, none⟩ (.int .i64 r)).setCell ⟨w.heap.size, 1, none⟩ (.int .i64 0)).setCell ⟨w.heap.size, 2, none⟩ (.int .i64 0)).setCell ⟨w.heap.size, 3, none⟩ (.int .i64 0)).setCell ⟨w.heap.size, 4, none⟩ (.int .i64 r)).setCell ⟨w.heap.size, 5, none⟩ (.int .i64 0)).setCell ⟨w.heap.size, 6, none⟩ (.int .i64 0)).setCell ⟨w.heap.size, 7, none⟩ (.int .i64 0)).setCell ⟨w.heap.size, 8, none⟩ (.int .i64 r)).setCell ⟨w.heap.size, 9, none⟩ (.int .i64 0)).setCell ⟨w.heap.size, 10, none⟩ (.int .i64 0)).setCell ⟨w.heap.size, 11, none⟩ (.int .i64 0)) ⟨w.heap.size, 6, none⟩ = some (.int .i64 0) := kr.cell rfl
    have rc7 : World.cell? ((((((((((((q.w.setCell ⟨w.heap.size, 0, none⟩ (.int .i64 r)).setCell ⟨w.heap.size, 1, none⟩ (.int .i64 0)).setCell ⟨w.heap.size, 2, none⟩ (.int .i64 0)).setCell ⟨w.heap.size, 3, none⟩ (.int .i64 0)).setCell ⟨w.heap.size, 4, none⟩ (.int .i64 r)).setCell ⟨w.heap.size, 5, none⟩ (.int .i64 0)).setCell ⟨w.heap.size, 6, none⟩ (.int .i64 0)).setCell ⟨w.heap.size, 7, none⟩ (.int .i64 0)).setCell ⟨w.heap.size, 8, none⟩ (.int .i64 r)).setCell ⟨w.heap.size, 9, none⟩ (.int .i64 0)).setCell ⟨w.heap.size, 10, none⟩ (.int .i64 0)).setCell ⟨w.heap.size, 11, none⟩ (.int .i64 0)) ⟨w.heap.size, 7, none⟩ = some (.int .i64 0) := kr.cell rfl
    have rc8 : World.cell? ((((((((((((q.w.setCell ⟨w.heap.size, 0, none⟩ (.int .i64 r)).setCell ⟨w.heap.size, 1, none⟩ (.int .i64 0)).setCell ⟨w.heap.size, 2, none⟩ (.int .i64 0)).setCell ⟨w.heap.size, 3, none⟩ (.int .i64 0)).setCell ⟨w.heap.size, 4, none⟩ (.int .i64 r)).setCell ⟨w.heap.size, 5, none⟩ (.int .i64 0)).setCell ⟨w.heap.size, 6, none⟩ (.int .i64 0)).setCell ⟨w.heap.size, 7, none⟩ (.int .i64 0)).setCell ⟨w.heap.size, 8, none⟩ (.int .i64 r)).setCell ⟨w.heap.size, 9, none⟩ (.int .i64 0)).setCell ⟨w.heap.size, 10, none⟩ (.int .i64 0)).setCell ⟨w.heap.size, 11, none⟩ (.int .i64 0)) ⟨w.heap.size, 8, none⟩ = some (.int .i64 r) := kr.cell rfl
    have rc9 : World.cell? ((((((((((((q.w.setCell ⟨w.heap.size, 0, none⟩ (.int .i64 r)).setCell ⟨w.heap.size, 1, none⟩ (.int .i64 0)).setCell ⟨w.heap.size, 2, none⟩ (.int .i64 0)).setCell ⟨w.heap.size, 3, none⟩ (.int .i64 0)).setCell ⟨w.heap.size, 4, none⟩ (.int .i64 r)).setCell ⟨w.heap.size, 5, none⟩ (.int .i64 0)).setCell ⟨w.heap.size, 6, none⟩ (.int .i64 0)).setCell ⟨w.heap.size, 7, none⟩ (.int .i64 0)).setCell ⟨w.heap.size, 8, none⟩ (.int .i64 r)).setCell ⟨w.heap.size, 9, none⟩ (.int .i64 0)).setCell ⟨w.heap.size, 10, none⟩ (.int .i64 0)).setCell ⟨w.heap.size, 11, none⟩ (.int .i64 0)) ⟨w.heap.size, 9, none⟩ = some (.int .i64 0) := kr.cell rfl
    have rc10 : World.cell? ((((((((((((q.w.setCell ⟨w.heap.size, 0, none⟩ (.int .i64 r)).setCell ⟨w.heap.size, 1, none⟩ (.int .i64 0)).setCell ⟨w.heap.size, 2, none⟩ (.int .i64 0)).setCell ⟨w.heap.size, 3, none⟩ (.int .i64 0)).setCell ⟨w.heap.size, 4, none⟩ (.int .i64 r)).setCell ⟨w.heap.size, 5, none⟩ (.int .i64 0)).setCell ⟨w.heap.size, 6, none⟩ (.int .i64 0)).setCell ⟨w.heap.size, 7, none⟩ (.int .i64 0)).setCell ⟨w.heap.size, 8, none⟩ (.int .i64 r)).setCell ⟨w.heap.size, 9, none⟩ (.int .i64 0)).setCell ⟨w.heap.size, 10, none⟩ (.int .i64 0)).setCell ⟨w.heap.size, 11, none⟩ (.int .i64 0)) ⟨w.heap.size, 10, none⟩ = some (.int .i64 0) := kr.cell rfl
    have rc11 : World.cell? ((((((((((((q.w.setCell ⟨w.heap.size, 0, none⟩ (.int .i64 r)).setCell ⟨w.heap.size, 1, none⟩ (.int .i64 0)).setCell ⟨w.heap.size, 2, none⟩ (.int .i64 0)).setCell ⟨w.heap.size, 3, none⟩ (.int .i64 0)).setCell ⟨w.heap.size, 4, none⟩ (.int .i64 r)).setCell ⟨w.heap.size, 5, none⟩ (.int .i64 0)).setCell ⟨w.heap.size, 6, none⟩ (.int .i64 0)).setCell ⟨w.heap.size, 7, none⟩ (.int .i64 0)).setCell ⟨w.heap.size, 8, none⟩ (.int .i64 r)).setCell ⟨w.heap.size, 9, none⟩ (.int .i64 0)).setCell ⟨w.heap.size, 10, none⟩ (.int .i64 0)).setCell ⟨w.heap.size, 11, none⟩ (.int .i64 0)) ⟨w.heap.size, 11, none⟩ = some (.int .i64 0) := kr.cell rfl
    exact bodyPost_ret (v := .agg #[.int .i64 r, .int .i64 0, .int .i64 0, .int .i64 0, .int .i64 r, .int .i64 0, .int .i64 0, .int .i64 0, .int .i64 r, .int .i64 0, .int .i64 0, .int .i64 0]) (by simp [results, Try.results15, go_sem, rc0, rc1, rc2, rc3, rc4, rc5, rc6, rc7, rc8, rc9, rc10, rc11]) rfl ⟨rfl, (((((((((((((bw_below B1 q).setCell (p := ⟨w.heap.size, 0, none⟩) (by show w.heap.size ≤ w.heap.size; omega) _).setCell (p := ⟨w.heap.size, 1, none⟩) (by show w.heap.size ≤ w.heap.size; omega) _).setCell (p := ⟨w.heap.size, 2, none⟩) (by show w.heap.size ≤ w.heap.size; omega) _).setCell (p := ⟨w.heap.size, 3, none⟩) (by show w.heap.size ≤ w.heap.size; omega) _).setCell (p := ⟨w.heap.size, 4, none⟩) (by show w.heap.size ≤ w.heap.size; omega) _).setCell (p := ⟨w.heap.size, 5, none⟩) (by show w.heap.size ≤ w.heap.size; omega) _).setCell (p := ⟨w.heap.size, 6, none⟩) (by show w.heap.size ≤ w.heap.size; omega) _).setCell (p := ⟨w.heap.size, 7, none⟩) (by show w.heap.size ≤ w.heap.size; omega) _).setCell (p := ⟨w.heap.size, 8, none⟩) (by show w.heap.size ≤ w.heap.size; omega) _).setCell (p := ⟨w.heap.size, 9, none⟩) (by show w.heap.size ≤ w.heap.size; omega) _).setCell (p := ⟨w.heap.size, 10, none⟩) (by show w.heap.size ≤ w.heap.size; omega) _).setCell (p := ⟨w.heap.size, 11, none⟩) (by show w.heap.size ≤ w.heap.size; omega) _)⟩

end Go.Proofs.Ytnoaljfdbfbhmaa
