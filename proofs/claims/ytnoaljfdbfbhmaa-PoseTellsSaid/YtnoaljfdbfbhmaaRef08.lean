/- Contracts of the document's own answers, layer 8. -/
import Derived.Test.YtnoaljfdbfbhmaaRefb06
import Derived.Test.YtnoaljfdbfbhmaaRef05
import Derived.Test.YtnoaljfdbfbhmaaMath08
import Derived.Test.YtnoaljfdbfbhmaaEdge
namespace Go.Proofs.Ytnoaljfdbfbhmaa
open Go.RowKit Go.Proofs.Sky
set_option linter.unusedVariables false

set_option maxRecDepth 100000 in
set_option maxHeartbeats 4000000 in
theorem ref8_none (k : Int) (w : World) :
    Calls Try.prog 25 #[.int .i64 k] w fun en w' => en = .returned (.agg #[.int .i64 k, .int .i64 0, .int .i64 0, .int .i64 0, .int .i64 k, .int .i64 0, .int .i64 0, .int .i64 0, .int .i64 k, .int .i64 0, .int .i64 0, .int .i64 0]) ∧ Below w.heap.size w w' := by
  go_enter Try.func25, Try.ntmps25
  go_upto_region 1 with (fail)
  obtain ⟨W1, hW1⟩ : ∃ W, W = w.alloc (.cells #[.int .i64 0, .int .i64 0, .int .i64 0, .int .i64 0, .int .i64 0, .int .i64 0, .int .i64 0, .int .i64 0, .int .i64 0, .int .i64 0, .int .i64 0, .int .i64 0] 25) := ⟨_, rfl⟩
  have B1 : Below w.heap.size w W1 := by rw [hW1]; go_grown
  have k_r : Bk W1 (w.heap.size) 25 #[.int .i64 0, .int .i64 0, .int .i64 0, .int .i64 0, .int .i64 0, .int .i64 0, .int .i64 0, .int .i64 0, .int .i64 0, .int .i64 0, .int .i64 0, .int .i64 0] := by rw [hW1]; exact Bk.new _ _ _
  rw [← hW1]
  clear hW1
  have c_r_0 : ∀ p : BW W1, p.w.cell? ⟨w.heap.size, 0, none⟩ = some (.int .i64 0) := bw_cell (k_r.cell rfl)
  have f_r_0 : ∀ p : BW W1, p.w.frozen? ⟨w.heap.size, 0, none⟩ = false := fun p => (k_r.below p.h).frozen 0
  have c_r_1 : ∀ p : BW W1, p.w.cell? ⟨w.heap.size, 1, none⟩ = some (.int .i64 0) := bw_cell (k_r.cell rfl)
  have f_r_1 : ∀ p : BW W1, p.w.frozen? ⟨w.heap.size, 1, none⟩ = false := fun p => (k_r.below p.h).frozen 1
  have c_r_2 : ∀ p : BW W1, p.w.cell? ⟨w.heap.size, 2, none⟩ = some (.int .i64 0) := bw_cell (k_r.cell rfl)
  have f_r_2 : ∀ p : BW W1, p.w.frozen? ⟨w.heap.size, 2, none⟩ = false := fun p => (k_r.below p.h).frozen 2
  have c_r_3 : ∀ p : BW W1, p.w.cell? ⟨w.heap.size, 3, none⟩ = some (.int .i64 0) := bw_cell (k_r.cell rfl)
  have f_r_3 : ∀ p : BW W1, p.w.frozen? ⟨w.heap.size, 3, none⟩ = false := fun p => (k_r.below p.h).frozen 3
  have c_r_4 : ∀ p : BW W1, p.w.cell? ⟨w.heap.size, 4, none⟩ = some (.int .i64 0) := bw_cell (k_r.cell rfl)
  have f_r_4 : ∀ p : BW W1, p.w.frozen? ⟨w.heap.size, 4, none⟩ = false := fun p => (k_r.below p.h).frozen 4
  have c_r_5 : ∀ p : BW W1, p.w.cell? ⟨w.heap.size, 5, none⟩ = some (.int .i64 0) := bw_cell (k_r.cell rfl)
  have f_r_5 : ∀ p : BW W1, p.w.frozen? ⟨w.heap.size, 5, none⟩ = false := fun p => (k_r.below p.h).frozen 5
  have c_r_6 : ∀ p : BW W1, p.w.cell? ⟨w.heap.size, 6, none⟩ = some (.int .i64 0) := bw_cell (k_r.cell rfl)
  have f_r_6 : ∀ p : BW W1, p.w.frozen? ⟨w.heap.size, 6, none⟩ = false := fun p => (k_r.below p.h).frozen 6
  have c_r_7 : ∀ p : BW W1, p.w.cell? ⟨w.heap.size, 7, none⟩ = some (.int .i64 0) := bw_cell (k_r.cell rfl)
  have f_r_7 : ∀ p : BW W1, p.w.frozen? ⟨w.heap.size, 7, none⟩ = false := fun p => (k_r.below p.h).frozen 7
  have c_r_8 : ∀ p : BW W1, p.w.cell? ⟨w.heap.size, 8, none⟩ = some (.int .i64 0) := bw_cell (k_r.cell rfl)
  have f_r_8 : ∀ p : BW W1, p.w.frozen? ⟨w.heap.size, 8, none⟩ = false := fun p => (k_r.below p.h).frozen 8
  have c_r_9 : ∀ p : BW W1, p.w.cell? ⟨w.heap.size, 9, none⟩ = some (.int .i64 0) := bw_cell (k_r.cell rfl)
  have f_r_9 : ∀ p : BW W1, p.w.frozen? ⟨w.heap.size, 9, none⟩ = false := fun p => (k_r.below p.h).frozen 9
  have c_r_10 : ∀ p : BW W1, p.w.cell? ⟨w.heap.size, 10, none⟩ = some (.int .i64 0) := bw_cell (k_r.cell rfl)
  have f_r_10 : ∀ p : BW W1, p.w.frozen? ⟨w.heap.size, 10, none⟩ = false := fun p => (k_r.below p.h).frozen 10
  have c_r_11 : ∀ p : BW W1, p.w.cell? ⟨w.heap.size, 11, none⟩ = some (.int .i64 0) := bw_cell (k_r.cell rfl)
  have f_r_11 : ∀ p : BW W1, p.w.frozen? ⟨w.heap.size, 11, none⟩ = false := fun p => (k_r.below p.h).frozen 11
  obtain ⟨p1, hp1⟩ : ∃ p : BW W1, p.w = W1 := ⟨BW.start W1, rfl⟩
  rw [← hp1]
  clear hp1
  go_wp2
  have kr : Bk ((((((((((((p1.w.setCell ⟨w.heap.size, 0, none⟩ (.int .i64 k)).setCell ⟨w.heap.size, 1, none⟩ (.int .i64 0)).setCell ⟨w.heap.size, 2, none⟩ (.int .i64 0)).setCell ⟨w.heap.size, 3, none⟩ (.int .i64 0)).setCell ⟨w.heap.size, 4, none⟩ (.int .i64 k)).setCell ⟨w.heap.size, 5, none⟩ (.int .i64 0)).setCell ⟨w.heap.size, 6, none⟩ (.int .i64 0)).setCell ⟨w.heap.size, 7, none⟩ (.int .i64 0)).setCell ⟨w.heap.size, 8, none⟩ (.int .i64 k)).setCell ⟨w.heap.size, 9, none⟩ (.int .i64 0)).setCell ⟨w.heap.size, 10, none⟩ (.int .i64 0)).setCell ⟨w.heap.size, 11, none⟩ (.int .i64 0)) (w.heap.size) 25 #[.int .i64 k, .int .i64 0, .int .i64 0, .int .i64 0, .int .i64 k, .int .i64 0, .int .i64 0, .int .i64 0, .int .i64 k, .int .i64 0, .int .i64 0, .int .i64 0] := (((((((((((((k_r.below p1.h).set 0 (.int .i64 k)).set 1 (.int .i64 0)).set 2 (.int .i64 0)).set 3 (.int .i64 0)).set 4 (.int .i64 k)).set 5 (.int .i64 0)).set 6 (.int .i64 0)).set 7 (.int .i64 0)).set 8 (.int .i64 k)).set 9 (.int .i64 0)).set 10 (.int .i64 0)).set 11 (.int .i64 0)).cast (by simp)
  have rc0 : World.cell? ((((((((((((p1.w.setCell ⟨w.heap.size, 0, none⟩ (.int .i64 k)).setCell ⟨w.heap.size, 1, none⟩ (.int .i64 0)).setCell ⟨w.heap.size, 2, none⟩ (.int .i64 0)).setCell ⟨w.heap.size, 3, none⟩ (.int .i64 0)).setCell ⟨w.heap.size, 4, none⟩ (.int .i64 k)).setCell ⟨w.heap.size, 5, none⟩ (.int .i64 0)).setCell ⟨w.heap.size, 6, none⟩ (.int .i64 0)).setCell ⟨w.heap.size, 7, none⟩ (.int .i64 0)).setCell ⟨w.heap.size, 8, none⟩ (.int .i64 k)).setCell ⟨w.heap.size, 9, none⟩ (.int .i64 0)).setCell ⟨w.heap.size, 10, none⟩ (.int .i64 0)).setCell ⟨w.heap.size, 11, none⟩ (.int .i64 0)) ⟨w.heap.size, 0, none⟩ = some (.int .i64 k) := kr.cell rfl
  have rc1 : World.cell? ((((((((((((p1.w.setCell ⟨w.heap.size, 0, none⟩ (.int .i64 k)).setCell ⟨w.heap.size, 1, none⟩ (.int .i64 0)).setCell ⟨w.heap.size, 2, none⟩ (.int .i64 0)).setCell ⟨w.heap.size, 3, none⟩ (.int .i64 0)).setCell ⟨w.heap.size, 4, none⟩ (.int .i64 k)).setCell ⟨w.heap.size, 5, none⟩ (.int .i64 0)).setCell ⟨w.heap.size, 6, none⟩ (.int .i64 0)).setCell ⟨w.heap.size, 7, none⟩ (.int .i64 0)).setCell ⟨w.heap.size, 8, none⟩ (.int .i64 k)).setCell ⟨w.heap.size, 9, none⟩ (.int .i64 0)).setCell ⟨w.heap.size, 10, none⟩ (.int .i64 0)).setCell ⟨w.heap.size, 11, none⟩ (.int .i64 0)) ⟨w.heap.size, 1, none⟩ = some (.int .i64 0) := kr.cell rfl
  have rc2 : World.cell? ((((((((((((p1.w.setCell ⟨w.heap.size, 0, none⟩ (.int .i64 k)).setCell ⟨w.heap.size, 1, none⟩ (.int .i64 0)).setCell ⟨w.heap.size, 2, none⟩ (.int .i64 0)).setCell ⟨w.heap.size, 3, none⟩ (.int .i64 0)).setCell ⟨w.heap.size, 4, none⟩ (.int .i64 k)).setCell ⟨w.heap.size, 5, none⟩ (.int .i64 0)).setCell ⟨w.heap.size, 6, none⟩ (.int .i64 0)).setCell ⟨w.heap.size, 7, none⟩ (.int .i64 0)).setCell ⟨w.heap.size, 8, none⟩ (.int .i64 k)).setCell ⟨w.heap.size, 9, none⟩ (.int .i64 0)).setCell ⟨w.heap.size, 10, none⟩ (.int .i64 0)).setCell ⟨w.heap.size, 11, none⟩ (.int .i64 0)) ⟨w.heap.size, 2, none⟩ = some (.int .i64 0) := kr.cell rfl
  have rc3 : World.cell? ((((((((((((p1.w.setCell ⟨w.heap.size, 0, none⟩ (.int .i64 k)).setCell ⟨w.heap.size, 1, none⟩ (.int .i64 0)).setCell ⟨w.heap.size, 2, none⟩ (.int .i64 0)).setCell ⟨w.heap.size, 3, none⟩ (.int .i64 0)).setCell ⟨w.heap.size, 4, none⟩ (.int .i64 k)).setCell ⟨w.heap.size, 5, none⟩ (.int .i64 0)).setCell ⟨w.heap.size, 6, none⟩ (.int .i64 0)).setCell ⟨w.heap.size, 7, none⟩ (.int .i64 0)).setCell ⟨w.heap.size, 8, none⟩ (.int .i64 k)).setCell ⟨w.heap.size, 9, none⟩ (.int .i64 0)).setCell ⟨w.heap.size, 10, none⟩ (.int .i64 0)).setCell ⟨w.heap.size, 11, none⟩ (.int .i64 0)) ⟨w.heap.size, 3, none⟩ = some (.int .i64 0) := kr.cell rfl
  have rc4 : World.cell? ((((((((((((p1.w.setCell ⟨w.heap.size, 0, none⟩ (.int .i64 k)).setCell ⟨w.heap.size, 1, none⟩ (.int .i64 0)).setCell ⟨w.heap.size, 2, none⟩ (.int .i64 0)).setCell ⟨w.heap.size, 3, none⟩ (.int .i64 0)).setCell ⟨w.heap.size, 4, none⟩ (.int .i64 k)).setCell ⟨w.heap.size, 5, none⟩ (.int .i64 0)).setCell ⟨w.heap.size, 6, none⟩ (.int .i64 0)).setCell ⟨w.heap.size, 7, none⟩ (.int .i64 0)).setCell ⟨w.heap.size, 8, none⟩ (.int .i64 k)).setCell ⟨w.heap.size, 9, none⟩ (.int .i64 0)).setCell ⟨w.heap.size, 10, none⟩ (.int .i64 0)).setCell ⟨w.heap.size, 11, none⟩ (.int .i64 0)) ⟨w.heap.size, 4, none⟩ = some (.int .i64 k) := kr.cell rfl
  have rc5 : World.cell? ((((((((((((p1.w.setCell ⟨w.heap.size, 0, none⟩ (.int .i64 k)).setCell ⟨w.heap.size, 1, none⟩ (.int .i64 0)).setCell ⟨w.heap.size, 2, none⟩ (.int .i64 0)).setCell ⟨w.heap.size, 3, none⟩ (.int .i64 0)).setCell ⟨w.heap.size, 4, none⟩ (.int .i64 k)).setCell ⟨w.heap.size, 5, none⟩ (.int .i64 0)).setCell ⟨w.heap.size, 6, none⟩ (.int .i64 0)).setCell ⟨w.heap.size, 7, none⟩ (.int .i64 0)).setCell ⟨w.heap.size, 8, none⟩ (.int .i64 k)).setCell ⟨w.heap.size, 9, none⟩ (.int .i64 0)).setCell ⟨w.heap.size, 10, none⟩ (.int .i64 0)).setCell ⟨w.heap.size, 11, none⟩ (.int .i64 0)) ⟨w.heap.size, 5, none⟩ = some (.int .i64 0) := kr.cell rfl
  have rc6 : World.cell? ((((((((((((p1.w.setCell ⟨w.heap.size, 0, none⟩ (.int .i64 k)).setCell ⟨w.heap.size, 1, none⟩ (.int .i64 0)).setCell ⟨w.heap.size, 2, none⟩ (.int .i64 0)).setCell ⟨w.heap.size, 3, none⟩ (.int .i64 0)).setCell ⟨w.heap.size, 4, none⟩ (.int .i64 k)).setCell ⟨w.heap.size, 5, none⟩ (.int .i64 0)).setCell ⟨w.heap.size, 6, none⟩ (.int .i64 0)).setCell ⟨w.heap.size, 7, none⟩ (.int .i64 0)).setCell ⟨w.heap.size, 8, none⟩ (.int .i64 k)).setCell ⟨w.heap.size, 9, none⟩ (.int .i64 0)).setCell ⟨w.heap.size, 10, none⟩ (.int .i64 0)).setCell ⟨w.heap.size, 11, none⟩ (.int .i64 0)) ⟨w.heap.size, 6, none⟩ = some (.int .i64 0) := kr.cell rfl
  have rc7 : World.cell? ((((((((((((p1.w.setCell ⟨w.heap.size, 0, none⟩ (.int .i64 k)).setCell ⟨w.heap.size, 1, none⟩ (.int .i64 0)).setCell ⟨w.heap.size, 2, none⟩ (.int .i64 0)).setCell ⟨w.heap.size, 3, none⟩ (.int .i64 0)).setCell ⟨w.heap.size, 4, none⟩ (.int .i64 k)).setCell ⟨w.heap.size, 5, none⟩ (.int .i64 0)).setCell ⟨w.heap.size, 6, none⟩ (.int .i64 0)).setCell ⟨w.heap.size, 7, none⟩ (.int .i64 0)).setCell ⟨w.heap.size, 8, none⟩ (.int .i64 k)).setCell ⟨w.heap.size, 9, none⟩ (.int .i64 0)).setCell ⟨w.heap.size, 10, none⟩ (.int .i64 0)).setCell ⟨w.heap.size, 11, none⟩ (.int .i64 0)) ⟨w.heap.size, 7, none⟩ = some (.int .i64 0) := kr.cell rfl
  have rc8 : World.cell? ((((((((((((p1.w.setCell ⟨w.heap.size, 0, none⟩ (.int .i64 k)).setCell ⟨w.heap.size, 1, none⟩ (.int .i64 0)).setCell ⟨w.heap.size, 2, none⟩ (.int .i64 0)).setCell ⟨w.heap.size, 3, none⟩ (.int .i64 0)).setCell ⟨w.heap.size, 4, none⟩ (.int .i64 k)).setCell ⟨w.heap.size, 5, none⟩ (.int .i64 0)).setCell ⟨w.heap.size, 6, none⟩ (.int .i64 0)).setCell ⟨w.heap.size, 7, none⟩ (.int .i64 0)).setCell ⟨w.heap.size, 8, none⟩ (.int .i64 k)).setCell ⟨w.heap.size, 9, none⟩ (.int .i64 0)).setCell ⟨w.heap.size, 10, none⟩ (.int .i64 0)).setCell ⟨w.heap.size, 11, none⟩ (.int .i64 0)) ⟨w.heap.size, 8, none⟩ = some (.int .i64 k) := kr.cell rfl
  have rc9 : World.cell? ((((((((((((p1.w.setCell ⟨w.heap.size, 0, none⟩ (.int .i64 k)).setCell ⟨w.heap.size, 1, none⟩ (.int .i64 0)).setCell ⟨w.heap.size, 2, none⟩ (.int .i64 0)).setCell ⟨w.heap.size, 3, none⟩ (.int .i64 0)).setCell ⟨w.heap.size, 4, none⟩ (.int .i64 k)).setCell ⟨w.heap.size, 5, none⟩ (.int .i64 0)).setCell ⟨w.heap.size, 6, none⟩ (.int .i64 0)).setCell ⟨w.heap.size, 7, none⟩ (.int .i64 0)).setCell ⟨w.heap.size, 8, none⟩ (.int .i64 k)).setCell ⟨w.heap.size, 9, none⟩ (.int .i64 0)).setCell ⟨w.heap.size, 10, none⟩ (.int .i64 0)).setCell ⟨w.heap.size, 11, none⟩ (.int .i64 0)) ⟨w.heap.size, 9, none⟩ = some (.int .i64 0) := kr.cell rfl
  have rc10 : World.cell? ((((((((((((p1.w.setCell ⟨w.heap.size, 0, none⟩ (.int .i64 k)).setCell ⟨w.heap.size, 1, none⟩ (.int .i64 0)).setCell ⟨w.heap.size, 2, none⟩ (.int .i64 0)).setCell ⟨w.heap.size, 3, none⟩ (.int .i64 0)).setCell ⟨w.heap.size, 4, none⟩ (.int .i64 k)).setCell ⟨w.heap.size, 5, none⟩ (.int .i64 0)).setCell ⟨w.heap.size, 6, none⟩ (.int .i64 0)).setCell ⟨w.heap.size, 7, none⟩ (.int .i64 0)).setCell ⟨w.heap.size, 8, none⟩ (.int .i64 k)).setCell ⟨w.heap.size, 9, none⟩ (.int .i64 0)).setCell ⟨w.heap.size, 10, none⟩ (.int .i64 0)).setCell ⟨w.heap.size, 11, none⟩ (.int .i64 0)) ⟨w.heap.size, 10, none⟩ = some (.int .i64 0) := kr.cell rfl
  have rc11 : World.cell? ((((((((((((p1.w.setCell ⟨w.heap.size, 0, none⟩ (.int .i64 k)).setCell ⟨w.heap.size, 1, none⟩ (.int .i64 0)).setCell ⟨w.heap.size, 2, none⟩ (.int .i64 0)).setCell ⟨w.heap.size, 3, none⟩ (.int .i64 0)).setCell ⟨w.heap.size, 4, none⟩ (.int .i64 k)).setCell ⟨w.heap.size, 5, none⟩ (.int .i64 0)).setCell ⟨w.heap.size, 6, none⟩ (.int .i64 0)).setCell ⟨w.heap.size, 7, none⟩ (.int .i64 0)).setCell ⟨w.heap.size, 8, none⟩ (.int .i64 k)).setCell ⟨w.heap.size, 9, none⟩ (.int .i64 0)).setCell ⟨w.heap.size, 10, none⟩ (.int .i64 0)).setCell ⟨w.heap.size, 11, none⟩ (.int .i64 0)) ⟨w.heap.size, 11, none⟩ = some (.int .i64 0) := kr.cell rfl
  exact bodyPost_ret (v := .agg #[.int .i64 k, .int .i64 0, .int .i64 0, .int .i64 0, .int .i64 k, .int .i64 0, .int .i64 0, .int .i64 0, .int .i64 k, .int .i64 0, .int .i64 0, .int .i64 0]) (by simp [results, Try.results25, go_sem, rc0, rc1, rc2, rc3, rc4, rc5, rc6, rc7, rc8, rc9, rc10, rc11]) rfl ⟨rfl, (((((((((((((bw_below B1 p1).setCell (p := ⟨w.heap.size, 0, none⟩) (by show w.heap.size ≤ w.heap.size; omega) _).setCell (p := ⟨w.heap.size, 1, none⟩) (by show w.heap.size ≤ w.heap.size; omega) _).setCell (p := ⟨w.heap.size, 2, none⟩) (by show w.heap.size ≤ w.heap.size; omega) _).setCell (p := ⟨w.heap.size, 3, none⟩) (by show w.heap.size ≤ w.heap.size; omega) _).setCell (p := ⟨w.heap.size, 4, none⟩) (by show w.heap.size ≤ w.heap.size; omega) _).setCell (p := ⟨w.heap.size, 5, none⟩) (by show w.heap.size ≤ w.heap.size; omega) _).setCell (p := ⟨w.heap.size, 6, none⟩) (by show w.heap.size ≤ w.heap.size; omega) _).setCell (p := ⟨w.heap.size, 7, none⟩) (by show w.heap.size ≤ w.heap.size; omega) _).setCell (p := ⟨w.heap.size, 8, none⟩) (by show w.heap.size ≤ w.heap.size; omega) _).setCell (p := ⟨w.heap.size, 9, none⟩) (by show w.heap.size ≤ w.heap.size; omega) _).setCell (p := ⟨w.heap.size, 10, none⟩) (by show w.heap.size ≤ w.heap.size; omega) _).setCell (p := ⟨w.heap.size, 11, none⟩) (by show w.heap.size ≤ w.heap.size; omega) _)⟩

set_option maxRecDepth 100000 in
set_option maxHeartbeats 4000000 in
theorem ref8_None (w : World) :
    Calls Try.prog 11 #[] w fun en w' => en = .returned (.agg #[.int .i64 16384, .int .i64 0, .int .i64 0, .int .i64 0, .int .i64 16384, .int .i64 0, .int .i64 0, .int .i64 0, .int .i64 16384, .int .i64 0, .int .i64 0, .int .i64 0]) ∧ Below w.heap.size w w' := by
  have K := Lib.hid (fun w => ref8_none 16384 w)
  go_enter Try.func11, Try.ntmps11
  go_upto_region 1 with (fail)
  obtain ⟨W1, hW1⟩ : ∃ W, W = w.alloc (.cells #[.int .i64 0, .int .i64 0, .int .i64 0, .int .i64 0, .int .i64 0, .int .i64 0, .int .i64 0, .int .i64 0, .int .i64 0, .int .i64 0, .int .i64 0, .int .i64 0] 25) := ⟨_, rfl⟩
  have B1 : Below w.heap.size w W1 := by rw [hW1]; go_grown
  have k_r : Bk W1 (w.heap.size) 25 #[.int .i64 0, .int .i64 0, .int .i64 0, .int .i64 0, .int .i64 0, .int .i64 0, .int .i64 0, .int .i64 0, .int .i64 0, .int .i64 0, .int .i64 0, .int .i64 0] := by rw [hW1]; exact Bk.new _ _ _
  rw [← hW1]
  clear hW1
  have c_r_0 : ∀ p : BW W1, p.w.cell? ⟨w.heap.size, 0, none⟩ = some (.int .i64 0) := bw_cell (k_r.cell rfl)
  have f_r_0 : ∀ p : BW W1, p.w.frozen? ⟨w.heap.size, 0, none⟩ = false := fun p => (k_r.below p.h).frozen 0
  have c_r_1 : ∀ p : BW W1, p.w.cell? ⟨w.heap.size, 1, none⟩ = some (.int .i64 0) := bw_cell (k_r.cell rfl)
  have f_r_1 : ∀ p : BW W1, p.w.frozen? ⟨w.heap.size, 1, none⟩ = false := fun p => (k_r.below p.h).frozen 1
  have c_r_2 : ∀ p : BW W1, p.w.cell? ⟨w.heap.size, 2, none⟩ = some (.int .i64 0) := bw_cell (k_r.cell rfl)
  have f_r_2 : ∀ p : BW W1, p.w.frozen? ⟨w.heap.size, 2, none⟩ = false := fun p => (k_r.below p.h).frozen 2
  have c_r_3 : ∀ p : BW W1, p.w.cell? ⟨w.heap.size, 3, none⟩ = some (.int .i64 0) := bw_cell (k_r.cell rfl)
  have f_r_3 : ∀ p : BW W1, p.w.frozen? ⟨w.heap.size, 3, none⟩ = false := fun p => (k_r.below p.h).frozen 3
  have c_r_4 : ∀ p : BW W1, p.w.cell? ⟨w.heap.size, 4, none⟩ = some (.int .i64 0) := bw_cell (k_r.cell rfl)
  have f_r_4 : ∀ p : BW W1, p.w.frozen? ⟨w.heap.size, 4, none⟩ = false := fun p => (k_r.below p.h).frozen 4
  have c_r_5 : ∀ p : BW W1, p.w.cell? ⟨w.heap.size, 5, none⟩ = some (.int .i64 0) := bw_cell (k_r.cell rfl)
  have f_r_5 : ∀ p : BW W1, p.w.frozen? ⟨w.heap.size, 5, none⟩ = false := fun p => (k_r.below p.h).frozen 5
  have c_r_6 : ∀ p : BW W1, p.w.cell? ⟨w.heap.size, 6, none⟩ = some (.int .i64 0) := bw_cell (k_r.cell rfl)
  have f_r_6 : ∀ p : BW W1, p.w.frozen? ⟨w.heap.size, 6, none⟩ = false := fun p => (k_r.below p.h).frozen 6
  have c_r_7 : ∀ p : BW W1, p.w.cell? ⟨w.heap.size, 7, none⟩ = some (.int .i64 0) := bw_cell (k_r.cell rfl)
  have f_r_7 : ∀ p : BW W1, p.w.frozen? ⟨w.heap.size, 7, none⟩ = false := fun p => (k_r.below p.h).frozen 7
  have c_r_8 : ∀ p : BW W1, p.w.cell? ⟨w.heap.size, 8, none⟩ = some (.int .i64 0) := bw_cell (k_r.cell rfl)
  have f_r_8 : ∀ p : BW W1, p.w.frozen? ⟨w.heap.size, 8, none⟩ = false := fun p => (k_r.below p.h).frozen 8
  have c_r_9 : ∀ p : BW W1, p.w.cell? ⟨w.heap.size, 9, none⟩ = some (.int .i64 0) := bw_cell (k_r.cell rfl)
  have f_r_9 : ∀ p : BW W1, p.w.frozen? ⟨w.heap.size, 9, none⟩ = false := fun p => (k_r.below p.h).frozen 9
  have c_r_10 : ∀ p : BW W1, p.w.cell? ⟨w.heap.size, 10, none⟩ = some (.int .i64 0) := bw_cell (k_r.cell rfl)
  have f_r_10 : ∀ p : BW W1, p.w.frozen? ⟨w.heap.size, 10, none⟩ = false := fun p => (k_r.below p.h).frozen 10
  have c_r_11 : ∀ p : BW W1, p.w.cell? ⟨w.heap.size, 11, none⟩ = some (.int .i64 0) := bw_cell (k_r.cell rfl)
  have f_r_11 : ∀ p : BW W1, p.w.frozen? ⟨w.heap.size, 11, none⟩ = false := fun p => (k_r.below p.h).frozen 11
  obtain ⟨p1, hp1⟩ : ∃ p : BW W1, p.w = W1 := ⟨BW.start W1, rfl⟩
  rw [← hp1]
  clear hp1
  go_wp2_with (first
    | (go_at_call 25; (first | (with_reducible refine (bw_call K.out _).mono ?_)); rintro e w' ⟨rfl, q, rfl⟩))
  have kr : Bk ((((((((((((q.w.setCell ⟨w.heap.size, 0, none⟩ (.int .i64 16384)).setCell ⟨w.heap.size, 1, none⟩ (.int .i64 0)).setCell ⟨w.heap.size, 2, none⟩ (.int .i64 0)).setCell ⟨w.heap.size, 3, none⟩ (.int .i64 0)).setCell ⟨w.heap.size, 4, none⟩ (.int .i64 16384)).setCell ⟨w.heap.size, 5, none⟩ (.int .i64 0)).setCell ⟨w.heap.size, 6, none⟩ (.int .i64 0)).setCell ⟨w.heap.size, 7, none⟩ (.int .i64 0)).setCell ⟨w.heap.size, 8, none⟩ (.int .i64 16384)).setCell ⟨w.heap.size, 9, none⟩ (.int .i64 0)).setCell ⟨w.heap.size, 10, none⟩ (.int .i64 0)).setCell ⟨w.heap.size, 11, none⟩ (.int .i64 0)) (w.heap.size) 25 #[.int .i64 16384, .int .i64 0, .int .i64 0, .int .i64 0, .int .i64 16384, .int .i64 0, .int .i64 0, .int .i64 0, .int .i64 16384, .int .i64 0, .int .i64 0, .int .i64 0] := (((((((((((((k_r.below q.h).set 0 (.int .i64 16384)).set 1 (.int .i64 0)).set 2 (.int .i64 0)).set 3 (.int .i64 0)).set 4 (.int .i64 16384)).set 5 (.int .i64 0)).set 6 (.int .i64 0)).set 7 (.int .i64 0)).set 8 (.int .i64 16384)).set 9 (.int .i64 0)).set 10 (.int .i64 0)).set 11 (.int .i64 0)).cast (by simp)
  have rc0 : World.cell? ((((((((((((q.w.setCell ⟨w.heap.size, 0, none⟩ (.int .i64 16384)).setCell ⟨w.heap.size, 1, none⟩ (.int .i64 0)).setCell ⟨w.heap.size, 2, none⟩ (.int .i64 0)).setCell ⟨w.heap.size, 3, none⟩ (.int .i64 0)).setCell ⟨w.heap.size, 4, none⟩ (.int .i64 16384)).setCell ⟨w.heap.size, 5, none⟩ (.int .i64 0)).setCell ⟨w.heap.size, 6, none⟩ (.int .i64 0)).setCell ⟨w.heap.size, 7, none⟩ (.int .i64 0)).setCell ⟨w.heap.size, 8, none⟩ (.int .i64 16384)).setCell ⟨w.heap.size, 9, none⟩ (.int .i64 0)).setCell ⟨w.heap.size, 10, none⟩ (.int .i64 0)).setCell ⟨w.heap.size, 11, none⟩ (.int .i64 0)) ⟨w.heap.size, 0, none⟩ = some (.int .i64 16384) := kr.cell rfl
  have rc1 : World.cell? ((((((((((((q.w.setCell ⟨w.heap.size, 0, none⟩ (.int .i64 16384)).setCell ⟨w.heap.size, 1, none⟩ (.int .i64 0)).setCell ⟨w.heap.size, 2, none⟩ (.int .i64 0)).setCell ⟨w.heap.size, 3, none⟩ (.int .i64 0)).setCell ⟨w.heap.size, 4, none⟩ (.int .i64 16384)).setCell ⟨w.heap.size, 5, none⟩ (.int .i64 0)).setCell ⟨w.heap.size, 6, none⟩ (.int .i64 0)).setCell ⟨w.heap.size, 7, none⟩ (.int .i64 0)).setCell ⟨w.heap.size, 8, none⟩ (.int .i64 16384)).setCell ⟨w.heap.size, 9, none⟩ (.int .i64 0)).setCell ⟨w.heap.size, 10, none⟩ (.int .i64 0)).setCell ⟨w.heap.size, 11, none⟩ (.int .i64 0)) ⟨w.heap.size, 1, none⟩ = some (.int .i64 0) := kr.cell rfl
  have rc2 : World.cell? ((((((((((((q.w.setCell ⟨w.heap.size, 0, none⟩ (.int .i64 16384)).setCell ⟨w.heap.size, 1, none⟩ (.int .i64 0)).setCell ⟨w.heap.size, 2, none⟩ (.int .i64 0)).setCell ⟨w.heap.size, 3, none⟩ (.int .i64 0)).setCell ⟨w.heap.size, 4, none⟩ (.int .i64 16384)).setCell ⟨w.heap.size, 5, none⟩ (.int .i64 0)).setCell ⟨w.heap.size, 6, none⟩ (.int .i64 0)).setCell ⟨w.heap.size, 7, none⟩ (.int .i64 0)).setCell ⟨w.heap.size, 8, none⟩ (.int .i64 16384)).setCell ⟨w.heap.size, 9, none⟩ (.int .i64 0)).setCell ⟨w.heap.size, 10, none⟩ (.int .i64 0)).setCell ⟨w.heap.size, 11, none⟩ (.int .i64 0)) ⟨w.heap.size, 2, none⟩ = some (.int .i64 0) := kr.cell rfl
  have rc3 : World.cell? ((((((((((((q.w.setCell ⟨w.heap.size, 0, none⟩ (.int .i64 16384)).setCell ⟨w.heap.size, 1, none⟩ (.int .i64 0)).setCell ⟨w.heap.size, 2, none⟩ (.int .i64 0)).setCell ⟨w.heap.size, 3, none⟩ (.int .i64 0)).setCell ⟨w.heap.size, 4, none⟩ (.int .i64 16384)).setCell ⟨w.heap.size, 5, none⟩ (.int .i64 0)).setCell ⟨w.heap.size, 6, none⟩ (.int .i64 0)).setCell ⟨w.heap.size, 7, none⟩ (.int .i64 0)).setCell ⟨w.heap.size, 8, none⟩ (.int .i64 16384)).setCell ⟨w.heap.size, 9, none⟩ (.int .i64 0)).setCell ⟨w.heap.size, 10, none⟩ (.int .i64 0)).setCell ⟨w.heap.size, 11, none⟩ (.int .i64 0)) ⟨w.heap.size, 3, none⟩ = some (.int .i64 0) := kr.cell rfl
  have rc4 : World.cell? ((((((((((((q.w.setCell ⟨w.heap.size, 0, none⟩ (.int .i64 16384)).setCell ⟨w.heap.size, 1, none⟩ (.int .i64 0)).setCell ⟨w.heap.size, 2, none⟩ (.int .i64 0)).setCell ⟨w.heap.size, 3, none⟩ (.int .i64 0)).setCell ⟨w.heap.size, 4, none⟩ (.int .i64 16384)).setCell ⟨w.heap.size, 5, none⟩ (.int .i64 0)).setCell ⟨w.heap.size, 6, none⟩ (.int .i64 0)).setCell ⟨w.heap.size, 7, none⟩ (.int .i64 0)).setCell ⟨w.heap.size, 8, none⟩ (.int .i64 16384)).setCell ⟨w.heap.size, 9, none⟩ (.int .i64 0)).setCell ⟨w.heap.size, 10, none⟩ (.int .i64 0)).setCell ⟨w.heap.size, 11, none⟩ (.int .i64 0)) ⟨w.heap.size, 4, none⟩ = some (.int .i64 16384) := kr.cell rfl
  have rc5 : World.cell? ((((((((((((q.w.setCell ⟨w.heap.size, 0, none⟩ (.int .i64 16384)).setCell ⟨w.heap.size, 1, none⟩ (.int .i64 0)).setCell ⟨w.heap.size, 2, none⟩ (.int .i64 0)).setCell ⟨w.heap.size, 3, none⟩ (.int .i64 0)).setCell ⟨w.heap.size, 4, none⟩ (.int .i64 16384)).setCell ⟨w.heap.size, 5, none⟩ (.int .i64 0)).setCell ⟨w.heap.size, 6, none⟩ (.int .i64 0)).setCell ⟨w.heap.size, 7, none⟩ (.int .i64 0)).setCell ⟨w.heap.size, 8, none⟩ (.int .i64 16384)).setCell ⟨w.heap.size, 9, none⟩ (.int .i64 0)).setCell ⟨w.heap.size, 10, none⟩ (.int .i64 0)).setCell ⟨w.heap.size, 11, none⟩ (.int .i64 0)) ⟨w.heap.size, 5, none⟩ = some (.int .i64 0) := kr.cell rfl
  have rc6 : World.cell? ((((((((((((q.w.setCell ⟨w.heap.size, 0, none⟩ (.int .i64 16384)).setCell ⟨w.heap.size, 1, none⟩ (.int .i64 0)).setCell ⟨w.heap.size, 2, none⟩ (.int .i64 0)).setCell ⟨w.heap.size, 3, none⟩ (.int .i64 0)).setCell ⟨w.heap.size, 4, none⟩ (.int .i64 16384)).setCell ⟨w.heap.size, 5, none⟩ (.int .i64 0)).setCell ⟨w.heap.size, 6, none⟩ (.int .i64 0)).setCell ⟨w.heap.size, 7, none⟩ (.int .i64 0)).setCell ⟨w.heap.size, 8, none⟩ (.int .i64 16384)).setCell ⟨w.heap.size, 9, none⟩ (.int .i64 0)).setCell ⟨w.heap.size, 10, none⟩ (.int .i64 0)).setCell ⟨w.heap.size, 11, none⟩ (.int .i64 0)) ⟨w.heap.size, 6, none⟩ = some (.int .i64 0) := kr.cell rfl
  have rc7 : World.cell? ((((((((((((q.w.setCell ⟨w.heap.size, 0, none⟩ (.int .i64 16384)).setCell ⟨w.heap.size, 1, none⟩ (.int .i64 0)).setCell ⟨w.heap.size, 2, none⟩ (.int .i64 0)).setCell ⟨w.heap.size, 3, none⟩ (.int .i64 0)).setCell ⟨w.heap.size, 4, none⟩ (.int .i64 16384)).setCell ⟨w.heap.size, 5, none⟩ (.int .i64 0)).setCell ⟨w.heap.size, 6, none⟩ (.int .i64 0)).setCell ⟨w.heap.size, 7, none⟩ (.int .i64 0)).setCell ⟨w.heap.size, 8, none⟩ (.int .i64 16384)).setCell ⟨w.heap.size, 9, none⟩ (.int .i64 0)).setCell ⟨w.heap.size, 10, none⟩ (.int .i64 0)).setCell ⟨w.heap.size, 11, none⟩ (.int .i64 0)) ⟨w.heap.size, 7, none⟩ = some (.int .i64 0) := kr.cell rfl
  have rc8 : World.cell? ((((((((((((q.w.setCell ⟨w.heap.size, 0, none⟩ (.int .i64 16384)).setCell ⟨w.heap.size, 1, none⟩ (.int .i64 0)).setCell ⟨w.heap.size, 2, none⟩ (.int .i64 0)).setCell ⟨w.heap.size, 3, none⟩ (.int .i64 0)).setCell ⟨w.heap.size, 4, none⟩ (.int .i64 16384)).setCell ⟨w.heap.size, 5, none⟩ (.int .i64 0)).setCell ⟨w.heap.size, 6, none⟩ (.int .i64 0)).setCell ⟨w.heap.size, 7, none⟩ (.int .i64 0)).setCell ⟨w.heap.size, 8, none⟩ (.int .i64 16384)).setCell ⟨w.heap.size, 9, none⟩ (.int .i64 0)).setCell ⟨w.heap.size, 10, none⟩ (.int .i64 0)).setCell ⟨w.heap.size, 11, none⟩ (.int .i64 0)) ⟨w.heap.size, 8, none⟩ = some (.int .i64 16384) := kr.cell rfl
  have rc9 : World.cell? ((((((((((((q.w.setCell ⟨w.heap.size, 0, none⟩ (.int .i64 16384)).setCell ⟨w.heap.size, 1, none⟩ (.int .i64 0)).setCell ⟨w.heap.size, 2, none⟩ (.int .i64 0)).setCell ⟨w.heap.size, 3, none⟩ (.int .i64 0)).setCell ⟨w.heap.size, 4, none⟩ (.int .i64 16384)).setCell ⟨w.heap.size, 5, none⟩ (.int .i64 0)).setCell ⟨w.heap.size, 6, none⟩ (.int .i64 0)).setCell ⟨w.heap.size, 7, none⟩ (.int .i64 0)).setCell ⟨w.heap.size, 8, none⟩ (.int .i64 16384)).setCell ⟨w.heap.size, 9, none⟩ (.int .i64 0)).setCell ⟨w.heap.size, 10, none⟩ (.int .i64 0)).setCell ⟨w.heap.size, 11, none⟩ (.int .i64 0)) ⟨w.heap.size, 9, none⟩ = some (.int .i64 0) := kr.cell rfl
  have rc10 : World.cell? ((((((((((((q.w.setCell ⟨w.heap.size, 0, none⟩ (.int .i64 16384)).setCell ⟨w.heap.size, 1, none⟩ (.int .i64 0)).setCell ⟨w.heap.size, 2, none⟩ (.int .i64 0)).setCell ⟨w.heap.size, 3, none⟩ (.int .i64 0)).setCell ⟨w.heap.size, 4, none⟩ (.int .i64 16384)).setCell ⟨w.heap.size, 5, none⟩ (.int .i64 0)).setCell ⟨w.heap.size, 6, none⟩ (.int .i64 0)).setCell ⟨w.heap.size, 7, none⟩ (.int .i64 0)).setCell ⟨w.heap.size, 8, none⟩ (.int .i64 16384)).setCell ⟨w.heap.size, 9, none⟩ (.int .i64 0)).setCell ⟨w.heap.size, 10, none⟩ (.int .i64 0)).setCell ⟨w.heap.size, 11, none⟩ (.int .i64 0)) ⟨w.heap.size, 10, none⟩ = some (.int .i64 0) := kr.cell rfl
  have rc11 : World.cell? ((((((((((((q.w.setCell ⟨w.heap.size, 0, none⟩ (.int .i64 16384)).setCell ⟨w.heap.size, 1, none⟩ (.int .i64 0)).setCell ⟨w.heap.size, 2, none⟩ (.int .i64 0)).setCell ⟨w.heap.size, 3, none⟩ (.int .i64 0)).setCell ⟨w.heap.size, 4, none⟩ (.int .i64 16384)).setCell ⟨w.heap.size, 5, none⟩ (.int .i64 0)).setCell ⟨w.heap.size, 6, none⟩ (.int .i64 0)).setCell ⟨w.heap.size, 7, none⟩ (.int .i64 0)).setCell ⟨w.heap.size, 8, none⟩ (.int .i64 16384)).setCell ⟨w.heap.size, 9, none⟩ (.int .i64 0)).setCell ⟨w.heap.size, 10, none⟩ (.int .i64 0)).setCell ⟨w.heap.size, 11, none⟩ (.int .i64 0)) ⟨w.heap.size, 11, none⟩ = some (.int .i64 0) := kr.cell rfl
  exact bodyPost_ret (v := .agg #[.int .i64 16384, .int .i64 0, .int .i64 0, .int .i64 0, .int .i64 16384, .int .i64 0, .int .i64 0, .int .i64 0, .int .i64 16384, .int .i64 0, .int .i64 0, .int .i64 0]) (by simp [results, Try.results11, go_sem, rc0, rc1, rc2, rc3, rc4, rc5, rc6, rc7, rc8, rc9, rc10, rc11]) rfl ⟨rfl, (((((((((((((bw_below B1 q).setCell (p := ⟨w.heap.size, 0, none⟩) (by show w.heap.size ≤ w.heap.size; omega) _).setCell (p := ⟨w.heap.size, 1, none⟩) (by show w.heap.size ≤ w.heap.size; omega) _).setCell (p := ⟨w.heap.size, 2, none⟩) (by show w.heap.size ≤ w.heap.size; omega) _).setCell (p := ⟨w.heap.size, 3, none⟩) (by show w.heap.size ≤ w.heap.size; omega) _).setCell (p := ⟨w.heap.size, 4, none⟩) (by show w.heap.size ≤ w.heap.size; omega) _).setCell (p := ⟨w.heap.size, 5, none⟩) (by show w.heap.size ≤ w.heap.size; omega) _).setCell (p := ⟨w.heap.size, 6, none⟩) (by show w.heap.size ≤ w.heap.size; omega) _).setCell (p := ⟨w.heap.size, 7, none⟩) (by show w.heap.size ≤ w.heap.size; omega) _).setCell (p := ⟨w.heap.size, 8, none⟩) (by show w.heap.size ≤ w.heap.size; omega) _).setCell (p := ⟨w.heap.size, 9, none⟩) (by show w.heap.size ≤ w.heap.size; omega) _).setCell (p := ⟨w.heap.size, 10, none⟩) (by show w.heap.size ≤ w.heap.size; omega) _).setCell (p := ⟨w.heap.size, 11, none⟩) (by show w.heap.size ≤ w.heap.size; omega) _)⟩

set_option maxRecDepth 100000 in
set_option maxHeartbeats 4000000 in
theorem ref8_row (a b c d e f : Int) (w : World) :
    Calls Try.prog 40 #[.agg #[.int .i64 a, .int .i64 b, .int .i64 c], .agg #[.int .i64 d, .int .i64 e, .int .i64 f]] w fun en w' => en = .returned (.int .i64 (pRow (a, b, c) (d, e, f))) ∧ Below w.heap.size w w' := by
  have D := Lib.hid (fun w => ref6_Dot a b c d e f w)
  unfold pRow
  dsimp only
  have i : -3298534883328 ≤ vdot a b c d e f ∧ vdot a b c d e f ≤ 3298534883328 := by
    unfold vdot
    split
    · rename_i h
      obtain ⟨h1, h2⟩ := h
      rw [vnear_iff] at h1 h2
      have p := near_mul (x := a) (a := d) (by omega) (by omega)
      have q := near_mul (x := b) (a := e) (by omega) (by omega)
      have s := near_mul (x := c) (a := f) (by omega) (by omega)
      omega
    · omega
  generalize vdot a b c d e f = s at *
  have V := Lib.hid (fun w => below_of_same (fun w => ref_Div s 16384 w (by unfold I64; omega) (by unfold I64; omega)) w)
  have ed : dv s 16384 = s / 16384 := by unfold dv; rw [if_neg (by omega)]
  rw [ed] at V
  generalize s / 16384 = r at *
  clear i ed
  go_enter Try.func40, Try.ntmps40
  go_upto_region 1 with (fail)
  obtain ⟨W1, hW1⟩ : ∃ W, W = (w.alloc (.cells #[.int .i64 a, .int .i64 b, .int .i64 c] 23)).alloc (.cells #[.int .i64 d, .int .i64 e, .int .i64 f] 23) := ⟨_, rfl⟩
  have B1 : Below w.heap.size w W1 := by rw [hW1]; go_grown
  have k_a : Bk W1 (w.heap.size) 23 #[.int .i64 a, .int .i64 b, .int .i64 c] := by rw [hW1]; exact (Bk.new _ _ _).alloc _
  have k_b : Bk W1 (w.heap.size + 1) 23 #[.int .i64 d, .int .i64 e, .int .i64 f] := by rw [hW1]; exact Bk.new_at _ _ _ _ (by simp)
  rw [← hW1]
  clear hW1
  have l_b : w.heap.size < w.heap.size + 1 := by omega
  generalize w.heap.size + 1 = g_b at *
  have c_a_0 : ∀ p : BW W1, p.w.cell? ⟨w.heap.size, 0, none⟩ = some (.int .i64 a) := bw_cell (k_a.cell rfl)
  have c_a_1 : ∀ p : BW W1, p.w.cell? ⟨w.heap.size, 1, none⟩ = some (.int .i64 b) := bw_cell (k_a.cell rfl)
  have c_a_2 : ∀ p : BW W1, p.w.cell? ⟨w.heap.size, 2, none⟩ = some (.int .i64 c) := bw_cell (k_a.cell rfl)
  have c_b_0 : ∀ p : BW W1, p.w.cell? ⟨g_b, 0, none⟩ = some (.int .i64 d) := bw_cell (k_b.cell rfl)
  have c_b_1 : ∀ p : BW W1, p.w.cell? ⟨g_b, 1, none⟩ = some (.int .i64 e) := bw_cell (k_b.cell rfl)
  have c_b_2 : ∀ p : BW W1, p.w.cell? ⟨g_b, 2, none⟩ = some (.int .i64 f) := bw_cell (k_b.cell rfl)
  obtain ⟨p1, hp1⟩ : ∃ p : BW W1, p.w = W1 := ⟨BW.start W1, rfl⟩
  rw [← hp1]
  clear hp1
  go_wp2_with (first
    | (go_at_call 49; (first | (with_reducible refine (bw_call D.out _).mono ?_)); rintro e w' ⟨rfl, q, rfl⟩)
    | (go_at_call 36; (first | (with_reducible refine (bw_call V.out _).mono ?_)); rintro e w' ⟨rfl, q, rfl⟩))
  go_ret
  exact ⟨rfl, bw_below B1 _⟩

set_option maxRecDepth 100000 in
set_option maxHeartbeats 4000000 in
theorem ref8_Right (x1 x2 x3 y1 y2 y3 z1 z2 z3 m1 m2 m3 : Int) (w : World) :
    Calls Try.prog 9 #[.agg #[.int .i64 x1, .int .i64 x2, .int .i64 x3, .int .i64 y1, .int .i64 y2, .int .i64 y3, .int .i64 z1, .int .i64 z2, .int .i64 z3, .int .i64 m1, .int .i64 m2, .int .i64 m3]] w fun en w' => en = .returned (.bool (pRight ((x1, x2, x3), (y1, y2, y3), (z1, z2, z3), (m1, m2, m3)))) ∧ Below w.heap.size w w' := by
  have N0 := Lib.hid (fun w => ref6_Near x1 x2 x3 w)
  have N1 := Lib.hid (fun w => ref6_Near y1 y2 y3 w)
  have N2 := Lib.hid (fun w => ref6_Near z1 z2 z3 w)
  have N3 := Lib.hid (fun w => ref6_Near m1 m2 m3 w)
  unfold pRight nrT
  dsimp only
  generalize vnear x1 x2 x3 = b0 at *
  generalize vnear y1 y2 y3 = b1 at *
  generalize vnear z1 z2 z3 = b2 at *
  generalize vnear m1 m2 m3 = b3 at *
  have hc : (b0 = false) ∨ (b0 = true ∧ b1 = false) ∨ (b0 = true ∧ b1 = true ∧ b2 = false) ∨ (b0 = true ∧ b1 = true ∧ b2 = true) := by cases b0 <;> cases b1 <;> cases b2 <;> simp
  go_enter Try.func9, Try.ntmps9
  go_upto_region 1 with (fail)
  obtain ⟨W1, hW1⟩ : ∃ W, W = w.alloc (.cells #[.int .i64 x1, .int .i64 x2, .int .i64 x3, .int .i64 y1, .int .i64 y2, .int .i64 y3, .int .i64 z1, .int .i64 z2, .int .i64 z3, .int .i64 m1, .int .i64 m2, .int .i64 m3] 25) := ⟨_, rfl⟩
  have B1 : Below w.heap.size w W1 := by rw [hW1]; go_grown
  have k_p : Bk W1 (w.heap.size) 25 #[.int .i64 x1, .int .i64 x2, .int .i64 x3, .int .i64 y1, .int .i64 y2, .int .i64 y3, .int .i64 z1, .int .i64 z2, .int .i64 z3, .int .i64 m1, .int .i64 m2, .int .i64 m3] := by rw [hW1]; exact Bk.new _ _ _
  rw [← hW1]
  clear hW1
  have c_p_0 : ∀ p : BW W1, p.w.cell? ⟨w.heap.size, 0, none⟩ = some (.int .i64 x1) := bw_cell (k_p.cell rfl)
  have c_p_1 : ∀ p : BW W1, p.w.cell? ⟨w.heap.size, 1, none⟩ = some (.int .i64 x2) := bw_cell (k_p.cell rfl)
  have c_p_2 : ∀ p : BW W1, p.w.cell? ⟨w.heap.size, 2, none⟩ = some (.int .i64 x3) := bw_cell (k_p.cell rfl)
  have c_p_3 : ∀ p : BW W1, p.w.cell? ⟨w.heap.size, 3, none⟩ = some (.int .i64 y1) := bw_cell (k_p.cell rfl)
  have c_p_4 : ∀ p : BW W1, p.w.cell? ⟨w.heap.size, 4, none⟩ = some (.int .i64 y2) := bw_cell (k_p.cell rfl)
  have c_p_5 : ∀ p : BW W1, p.w.cell? ⟨w.heap.size, 5, none⟩ = some (.int .i64 y3) := bw_cell (k_p.cell rfl)
  have c_p_6 : ∀ p : BW W1, p.w.cell? ⟨w.heap.size, 6, none⟩ = some (.int .i64 z1) := bw_cell (k_p.cell rfl)
  have c_p_7 : ∀ p : BW W1, p.w.cell? ⟨w.heap.size, 7, none⟩ = some (.int .i64 z2) := bw_cell (k_p.cell rfl)
  have c_p_8 : ∀ p : BW W1, p.w.cell? ⟨w.heap.size, 8, none⟩ = some (.int .i64 z3) := bw_cell (k_p.cell rfl)
  have c_p_9 : ∀ p : BW W1, p.w.cell? ⟨w.heap.size, 9, none⟩ = some (.int .i64 m1) := bw_cell (k_p.cell rfl)
  have c_p_10 : ∀ p : BW W1, p.w.cell? ⟨w.heap.size, 10, none⟩ = some (.int .i64 m2) := bw_cell (k_p.cell rfl)
  have c_p_11 : ∀ p : BW W1, p.w.cell? ⟨w.heap.size, 11, none⟩ = some (.int .i64 m3) := bw_cell (k_p.cell rfl)
  obtain ⟨p1, hp1⟩ : ∃ p : BW W1, p.w = W1 := ⟨BW.start W1, rfl⟩
  rw [← hp1]
  clear hp1
  rcases hc with rfl | ⟨rfl, rfl⟩ | ⟨rfl, rfl, rfl⟩ | ⟨rfl, rfl, rfl⟩
  all_goals
    go_wp2_with (first
      | (go_at_call 23; (first | (with_reducible refine (bw_call N0.out _).mono ?_) | (with_reducible refine (bw_call N1.out _).mono ?_) | (with_reducible refine (bw_call N2.out _).mono ?_) | (with_reducible refine (bw_call N3.out _).mono ?_)); rintro e w' ⟨rfl, q, rfl⟩))
    go_ret
    exact ⟨rfl, bw_below B1 _⟩

set_option maxRecDepth 100000 in
set_option maxHeartbeats 4000000 in
theorem ref8_rows (a b c x1 x2 x3 y1 y2 y3 z1 z2 z3 m1 m2 m3 : Int) (w : World) :
    Calls Try.prog 39 #[.agg #[.int .i64 a, .int .i64 b, .int .i64 c], .agg #[.int .i64 x1, .int .i64 x2, .int .i64 x3, .int .i64 y1, .int .i64 y2, .int .i64 y3, .int .i64 z1, .int .i64 z2, .int .i64 z3, .int .i64 m1, .int .i64 m2, .int .i64 m3]] w fun en w' => en = .returned (.agg #[.int .i64 (pRows (a, b, c) ((x1, x2, x3), (y1, y2, y3), (z1, z2, z3), (m1, m2, m3))).1, .int .i64 (pRows (a, b, c) ((x1, x2, x3), (y1, y2, y3), (z1, z2, z3), (m1, m2, m3))).2.1, .int .i64 (pRows (a, b, c) ((x1, x2, x3), (y1, y2, y3), (z1, z2, z3), (m1, m2, m3))).2.2]) ∧ Below w.heap.size w w' := by
  have R0 := Lib.hid (fun w => ref8_row a b c x1 y1 z1 w)
  have R1 := Lib.hid (fun w => ref8_row a b c x2 y2 z2 w)
  have R2 := Lib.hid (fun w => ref8_row a b c x3 y3 z3 w)
  unfold pRows
  dsimp only
  generalize pRow (a, b, c) (x1, y1, z1) = r0 at *
  generalize pRow (a, b, c) (x2, y2, z2) = r1 at *
  generalize pRow (a, b, c) (x3, y3, z3) = r2 at *
  go_enter Try.func39, Try.ntmps39
  go_upto_region 1 with (fail)
  obtain ⟨W1, hW1⟩ : ∃ W, W = ((w.alloc (.cells #[.int .i64 a, .int .i64 b, .int .i64 c] 23)).alloc (.cells #[.int .i64 x1, .int .i64 x2, .int .i64 x3, .int .i64 y1, .int .i64 y2, .int .i64 y3, .int .i64 z1, .int .i64 z2, .int .i64 z3, .int .i64 m1, .int .i64 m2, .int .i64 m3] 25)).alloc (.cells #[.int .i64 0, .int .i64 0, .int .i64 0] 23) := ⟨_, rfl⟩
  have B1 : Below w.heap.size w W1 := by rw [hW1]; go_grown
  have k_v : Bk W1 (w.heap.size) 23 #[.int .i64 a, .int .i64 b, .int .i64 c] := by rw [hW1]; exact ((Bk.new _ _ _).alloc _).alloc _
  have k_p : Bk W1 (w.heap.size + 1) 25 #[.int .i64 x1, .int .i64 x2, .int .i64 x3, .int .i64 y1, .int .i64 y2, .int .i64 y3, .int .i64 z1, .int .i64 z2, .int .i64 z3, .int .i64 m1, .int .i64 m2, .int .i64 m3] := by rw [hW1]; exact (Bk.new_at _ _ _ _ (by simp)).alloc _
  have k_r : Bk W1 (w.heap.size + 1 + 1) 23 #[.int .i64 0, .int .i64 0, .int .i64 0] := by rw [hW1]; exact Bk.new_at _ _ _ _ (by simp)
  rw [← hW1]
  clear hW1
  have l_p : w.heap.size < w.heap.size + 1 := by omega
  have l_r : w.heap.size + 1 < w.heap.size + 1 + 1 := by omega
  generalize w.heap.size + 1 + 1 = g_r at *
  generalize w.heap.size + 1 = g_p at *
  have c_v_0 : ∀ p : BW W1, p.w.cell? ⟨w.heap.size, 0, none⟩ = some (.int .i64 a) := bw_cell (k_v.cell rfl)
  have c_v_1 : ∀ p : BW W1, p.w.cell? ⟨w.heap.size, 1, none⟩ = some (.int .i64 b) := bw_cell (k_v.cell rfl)
  have c_v_2 : ∀ p : BW W1, p.w.cell? ⟨w.heap.size, 2, none⟩ = some (.int .i64 c) := bw_cell (k_v.cell rfl)
  have c_p_0 : ∀ p : BW W1, p.w.cell? ⟨g_p, 0, none⟩ = some (.int .i64 x1) := bw_cell (k_p.cell rfl)
  have c_p_1 : ∀ p : BW W1, p.w.cell? ⟨g_p, 1, none⟩ = some (.int .i64 x2) := bw_cell (k_p.cell rfl)
  have c_p_2 : ∀ p : BW W1, p.w.cell? ⟨g_p, 2, none⟩ = some (.int .i64 x3) := bw_cell (k_p.cell rfl)
  have c_p_3 : ∀ p : BW W1, p.w.cell? ⟨g_p, 3, none⟩ = some (.int .i64 y1) := bw_cell (k_p.cell rfl)
  have c_p_4 : ∀ p : BW W1, p.w.cell? ⟨g_p, 4, none⟩ = some (.int .i64 y2) := bw_cell (k_p.cell rfl)
  have c_p_5 : ∀ p : BW W1, p.w.cell? ⟨g_p, 5, none⟩ = some (.int .i64 y3) := bw_cell (k_p.cell rfl)
  have c_p_6 : ∀ p : BW W1, p.w.cell? ⟨g_p, 6, none⟩ = some (.int .i64 z1) := bw_cell (k_p.cell rfl)
  have c_p_7 : ∀ p : BW W1, p.w.cell? ⟨g_p, 7, none⟩ = some (.int .i64 z2) := bw_cell (k_p.cell rfl)
  have c_p_8 : ∀ p : BW W1, p.w.cell? ⟨g_p, 8, none⟩ = some (.int .i64 z3) := bw_cell (k_p.cell rfl)
  have c_p_9 : ∀ p : BW W1, p.w.cell? ⟨g_p, 9, none⟩ = some (.int .i64 m1) := bw_cell (k_p.cell rfl)
  have c_p_10 : ∀ p : BW W1, p.w.cell? ⟨g_p, 10, none⟩ = some (.int .i64 m2) := bw_cell (k_p.cell rfl)
  have c_p_11 : ∀ p : BW W1, p.w.cell? ⟨g_p, 11, none⟩ = some (.int .i64 m3) := bw_cell (k_p.cell rfl)
  have c_r_0 : ∀ p : BW W1, p.w.cell? ⟨g_r, 0, none⟩ = some (.int .i64 0) := bw_cell (k_r.cell rfl)
  have f_r_0 : ∀ p : BW W1, p.w.frozen? ⟨g_r, 0, none⟩ = false := fun p => (k_r.below p.h).frozen 0
  have c_r_1 : ∀ p : BW W1, p.w.cell? ⟨g_r, 1, none⟩ = some (.int .i64 0) := bw_cell (k_r.cell rfl)
  have f_r_1 : ∀ p : BW W1, p.w.frozen? ⟨g_r, 1, none⟩ = false := fun p => (k_r.below p.h).frozen 1
  have c_r_2 : ∀ p : BW W1, p.w.cell? ⟨g_r, 2, none⟩ = some (.int .i64 0) := bw_cell (k_r.cell rfl)
  have f_r_2 : ∀ p : BW W1, p.w.frozen? ⟨g_r, 2, none⟩ = false := fun p => (k_r.below p.h).frozen 2
  obtain ⟨p1, hp1⟩ : ∃ p : BW W1, p.w = W1 := ⟨BW.start W1, rfl⟩
  rw [← hp1]
  clear hp1
  go_wp2_with (first
    | (go_at_call 40; (first | (with_reducible refine (bw_call R0.out _).mono ?_) | (with_reducible refine (bw_call R1.out _).mono ?_) | (with_reducible refine (bw_call R2.out _).mono ?_)); rintro e w' ⟨rfl, q, rfl⟩))
  have kr : Bk (((q.w.setCell ⟨g_r, 0, none⟩ (.int .i64 r0)).setCell ⟨g_r, 1, none⟩ (.int .i64 r1)).setCell ⟨g_r, 2, none⟩ (.int .i64 r2)) (g_r) 23 #[.int .i64 r0, .int .i64 r1, .int .i64 r2] := ((((k_r.below q.h).set 0 (.int .i64 r0)).set 1 (.int .i64 r1)).set 2 (.int .i64 r2))
  have rc0 : World.cell? (((q.w.setCell ⟨g_r, 0, none⟩ (.int .i64 r0)).setCell ⟨g_r, 1, none⟩ (.int .i64 r1)).setCell ⟨g_r, 2, none⟩ (.int .i64 r2)) ⟨g_r, 0, none⟩ = some (.int .i64 r0) := kr.cell rfl
  have rc1 : World.cell? (((q.w.setCell ⟨g_r, 0, none⟩ (.int .i64 r0)).setCell ⟨g_r, 1, none⟩ (.int .i64 r1)).setCell ⟨g_r, 2, none⟩ (.int .i64 r2)) ⟨g_r, 1, none⟩ = some (.int .i64 r1) := kr.cell rfl
  have rc2 : World.cell? (((q.w.setCell ⟨g_r, 0, none⟩ (.int .i64 r0)).setCell ⟨g_r, 1, none⟩ (.int .i64 r1)).setCell ⟨g_r, 2, none⟩ (.int .i64 r2)) ⟨g_r, 2, none⟩ = some (.int .i64 r2) := kr.cell rfl
  exact bodyPost_ret (v := .agg #[.int .i64 r0, .int .i64 r1, .int .i64 r2]) (by simp [results, Try.results39, go_sem, rc0, rc1, rc2]) rfl ⟨rfl, ((((bw_below B1 q).setCell (p := ⟨g_r, 0, none⟩) (by show w.heap.size ≤ g_r; omega) _).setCell (p := ⟨g_r, 1, none⟩) (by show w.heap.size ≤ g_r; omega) _).setCell (p := ⟨g_r, 2, none⟩) (by show w.heap.size ≤ g_r; omega) _)⟩

set_option maxRecDepth 100000 in
set_option maxHeartbeats 4000000 in
theorem ref8_Put (x1 x2 x3 y1 y2 y3 z1 z2 z3 m1 m2 m3 a b c : Int) (w : World) :
    Calls Try.prog 19 #[.agg #[.int .i64 x1, .int .i64 x2, .int .i64 x3, .int .i64 y1, .int .i64 y2, .int .i64 y3, .int .i64 z1, .int .i64 z2, .int .i64 z3, .int .i64 m1, .int .i64 m2, .int .i64 m3], .agg #[.int .i64 a, .int .i64 b, .int .i64 c]] w fun en w' => en = .returned (.agg #[.int .i64 (pPut ((x1, x2, x3), (y1, y2, y3), (z1, z2, z3), (m1, m2, m3)) (a, b, c)).1, .int .i64 (pPut ((x1, x2, x3), (y1, y2, y3), (z1, z2, z3), (m1, m2, m3)) (a, b, c)).2.1, .int .i64 (pPut ((x1, x2, x3), (y1, y2, y3), (z1, z2, z3), (m1, m2, m3)) (a, b, c)).2.2]) ∧ Below w.heap.size w w' := by
  have N1 := Lib.hid (fun w => ref8_Right x1 x2 x3 y1 y2 y3 z1 z2 z3 m1 m2 m3 w)
  have N2 := Lib.hid (fun w => ref6_Near a b c w)
  unfold pPut
  have en : nrT (a, b, c) = vnear a b c := rfl
  rw [en]
  clear en
  have R0 := Lib.hid (fun w => ref8_row x1 x2 x3 a b c w)
  have R1 := Lib.hid (fun w => ref8_row y1 y2 y3 a b c w)
  have R2 := Lib.hid (fun w => ref8_row z1 z2 z3 a b c w)
  by_cases h : pRight ((x1, x2, x3), (y1, y2, y3), (z1, z2, z3), (m1, m2, m3)) = true ∧ vnear a b c = true
  rotate_left
  · rw [if_neg h]
    have hc : (pRight ((x1, x2, x3), (y1, y2, y3), (z1, z2, z3), (m1, m2, m3)) = false) ∨ (pRight ((x1, x2, x3), (y1, y2, y3), (z1, z2, z3), (m1, m2, m3)) = true ∧ vnear a b c = false) := by
      cases h1 : pRight ((x1, x2, x3), (y1, y2, y3), (z1, z2, z3), (m1, m2, m3)) <;> cases h2 : vnear a b c <;> simp [h1, h2] at h ⊢
    clear h R0 R1 R2
    generalize pRight ((x1, x2, x3), (y1, y2, y3), (z1, z2, z3), (m1, m2, m3)) = n1 at *
    generalize vnear a b c = n2 at *
    go_enter Try.func19, Try.ntmps19
    go_upto_region 1 with (fail)
    obtain ⟨W1, hW1⟩ : ∃ W, W = ((w.alloc (.cells #[.int .i64 x1, .int .i64 x2, .int .i64 x3, .int .i64 y1, .int .i64 y2, .int .i64 y3, .int .i64 z1, .int .i64 z2, .int .i64 z3, .int .i64 m1, .int .i64 m2, .int .i64 m3] 25)).alloc (.cells #[.int .i64 a, .int .i64 b, .int .i64 c] 23)).alloc (.cells #[.int .i64 0, .int .i64 0, .int .i64 0] 23) := ⟨_, rfl⟩
    have B1 : Below w.heap.size w W1 := by rw [hW1]; go_grown
    have k_p : Bk W1 (w.heap.size) 25 #[.int .i64 x1, .int .i64 x2, .int .i64 x3, .int .i64 y1, .int .i64 y2, .int .i64 y3, .int .i64 z1, .int .i64 z2, .int .i64 z3, .int .i64 m1, .int .i64 m2, .int .i64 m3] := by rw [hW1]; exact ((Bk.new _ _ _).alloc _).alloc _
    have k_v : Bk W1 (w.heap.size + 1) 23 #[.int .i64 a, .int .i64 b, .int .i64 c] := by rw [hW1]; exact (Bk.new_at _ _ _ _ (by simp)).alloc _
    have k_r : Bk W1 (w.heap.size + 1 + 1) 23 #[.int .i64 0, .int .i64 0, .int .i64 0] := by rw [hW1]; exact Bk.new_at _ _ _ _ (by simp)
    rw [← hW1]
    clear hW1
    have l_v : w.heap.size < w.heap.size + 1 := by omega
    have l_r : w.heap.size + 1 < w.heap.size + 1 + 1 := by omega
    generalize w.heap.size + 1 + 1 = g_r at *
    generalize w.heap.size + 1 = g_v at *
    have c_p_0 : ∀ p : BW W1, p.w.cell? ⟨w.heap.size, 0, none⟩ = some (.int .i64 x1) := bw_cell (k_p.cell rfl)
    have c_p_1 : ∀ p : BW W1, p.w.cell? ⟨w.heap.size, 1, none⟩ = some (.int .i64 x2) := bw_cell (k_p.cell rfl)
    have c_p_2 : ∀ p : BW W1, p.w.cell? ⟨w.heap.size, 2, none⟩ = some (.int .i64 x3) := bw_cell (k_p.cell rfl)
    have c_p_3 : ∀ p : BW W1, p.w.cell? ⟨w.heap.size, 3, none⟩ = some (.int .i64 y1) := bw_cell (k_p.cell rfl)
    have c_p_4 : ∀ p : BW W1, p.w.cell? ⟨w.heap.size, 4, none⟩ = some (.int .i64 y2) := bw_cell (k_p.cell rfl)
    have c_p_5 : ∀ p : BW W1, p.w.cell? ⟨w.heap.size, 5, none⟩ = some (.int .i64 y3) := bw_cell (k_p.cell rfl)
    have c_p_6 : ∀ p : BW W1, p.w.cell? ⟨w.heap.size, 6, none⟩ = some (.int .i64 z1) := bw_cell (k_p.cell rfl)
    have c_p_7 : ∀ p : BW W1, p.w.cell? ⟨w.heap.size, 7, none⟩ = some (.int .i64 z2) := bw_cell (k_p.cell rfl)
    have c_p_8 : ∀ p : BW W1, p.w.cell? ⟨w.heap.size, 8, none⟩ = some (.int .i64 z3) := bw_cell (k_p.cell rfl)
    have c_p_9 : ∀ p : BW W1, p.w.cell? ⟨w.heap.size, 9, none⟩ = some (.int .i64 m1) := bw_cell (k_p.cell rfl)
    have c_p_10 : ∀ p : BW W1, p.w.cell? ⟨w.heap.size, 10, none⟩ = some (.int .i64 m2) := bw_cell (k_p.cell rfl)
    have c_p_11 : ∀ p : BW W1, p.w.cell? ⟨w.heap.size, 11, none⟩ = some (.int .i64 m3) := bw_cell (k_p.cell rfl)
    have c_v_0 : ∀ p : BW W1, p.w.cell? ⟨g_v, 0, none⟩ = some (.int .i64 a) := bw_cell (k_v.cell rfl)
    have c_v_1 : ∀ p : BW W1, p.w.cell? ⟨g_v, 1, none⟩ = some (.int .i64 b) := bw_cell (k_v.cell rfl)
    have c_v_2 : ∀ p : BW W1, p.w.cell? ⟨g_v, 2, none⟩ = some (.int .i64 c) := bw_cell (k_v.cell rfl)
    have c_r_0 : ∀ p : BW W1, p.w.cell? ⟨g_r, 0, none⟩ = some (.int .i64 0) := bw_cell (k_r.cell rfl)
    have f_r_0 : ∀ p : BW W1, p.w.frozen? ⟨g_r, 0, none⟩ = false := fun p => (k_r.below p.h).frozen 0
    have c_r_1 : ∀ p : BW W1, p.w.cell? ⟨g_r, 1, none⟩ = some (.int .i64 0) := bw_cell (k_r.cell rfl)
    have f_r_1 : ∀ p : BW W1, p.w.frozen? ⟨g_r, 1, none⟩ = false := fun p => (k_r.below p.h).frozen 1
    have c_r_2 : ∀ p : BW W1, p.w.cell? ⟨g_r, 2, none⟩ = some (.int .i64 0) := bw_cell (k_r.cell rfl)
    have f_r_2 : ∀ p : BW W1, p.w.frozen? ⟨g_r, 2, none⟩ = false := fun p => (k_r.below p.h).frozen 2
    obtain ⟨p1, hp1⟩ : ∃ p : BW W1, p.w = W1 := ⟨BW.start W1, rfl⟩
    rw [← hp1]
    clear hp1
    rcases hc with rfl | ⟨rfl, rfl⟩
    · clear k_p k_v
      go_wp2_with (first
        | (go_at_call 9; (first | (with_reducible refine (bw_call N1.out _).mono ?_)); rintro e w' ⟨rfl, q, rfl⟩)
        | (go_at_call 23; (first | (with_reducible refine (bw_call N2.out _).mono ?_)); rintro e w' ⟨rfl, q, rfl⟩))
      have kr : Bk (((q.w.setCell ⟨g_r, 0, none⟩ (.int .i64 0)).setCell ⟨g_r, 1, none⟩ (.int .i64 0)).setCell ⟨g_r, 2, none⟩ (.int .i64 0)) (g_r) 23 #[.int .i64 0, .int .i64 0, .int .i64 0] := ((((k_r.below q.h).set 0 (.int .i64 0)).set 1 (.int .i64 0)).set 2 (.int .i64 0))
      have rc0 : World.cell? (((q.w.setCell ⟨g_r, 0, none⟩ (.int .i64 0)).setCell ⟨g_r, 1, none⟩ (.int .i64 0)).setCell ⟨g_r, 2, none⟩ (.int .i64 0)) ⟨g_r, 0, none⟩ = some (.int .i64 0) := kr.cell rfl
      have rc1 : World.cell? (((q.w.setCell ⟨g_r, 0, none⟩ (.int .i64 0)).setCell ⟨g_r, 1, none⟩ (.int .i64 0)).setCell ⟨g_r, 2, none⟩ (.int .i64 0)) ⟨g_r, 1, none⟩ = some (.int .i64 0) := kr.cell rfl
      have rc2 : World.cell? (((q.w.setCell ⟨g_r, 0, none⟩ (.int .i64 0)).setCell ⟨g_r, 1, none⟩ (.int .i64 0)).setCell ⟨g_r, 2, none⟩ (.int .i64 0)) ⟨g_r, 2, none⟩ = some (.int .i64 0) := kr.cell rfl
      exact bodyPost_ret (v := .agg #[.int .i64 0, .int .i64 0, .int .i64 0]) (by simp [results, Try.results19, go_sem, rc0, rc1, rc2]) rfl ⟨rfl, ((((bw_below B1 q).setCell (p := ⟨g_r, 0, none⟩) (by show w.heap.size ≤ g_r; omega) _).setCell (p := ⟨g_r, 1, none⟩) (by show w.heap.size ≤ g_r; omega) _).setCell (p := ⟨g_r, 2, none⟩) (by show w.heap.size ≤ g_r; omega) _)⟩
    · clear k_p k_v
      go_wp2_with (first
        | (go_at_call 9; (first | (with_reducible refine (bw_call N1.out _).mono ?_)); rintro e w' ⟨rfl, q, rfl⟩)
        | (go_at_call 23; (first | (with_reducible refine (bw_call N2.out _).mono ?_)); rintro e w' ⟨rfl, q, rfl⟩))
      have kr : Bk (((q.w.setCell ⟨g_r, 0, none⟩ (.int .i64 0)).setCell ⟨g_r, 1, none⟩ (.int .i64 0)).setCell ⟨g_r, 2, none⟩ (.int .i64 0)) (g_r) 23 #[.int .i64 0, .int .i64 0, .int .i64 0] := ((((k_r.below q.h).set 0 (.int .i64 0)).set 1 (.int .i64 0)).set 2 (.int .i64 0))
      have rc0 : World.cell? (((q.w.setCell ⟨g_r, 0, none⟩ (.int .i64 0)).setCell ⟨g_r, 1, none⟩ (.int .i64 0)).setCell ⟨g_r, 2, none⟩ (.int .i64 0)) ⟨g_r, 0, none⟩ = some (.int .i64 0) := kr.cell rfl
      have rc1 : World.cell? (((q.w.setCell ⟨g_r, 0, none⟩ (.int .i64 0)).setCell ⟨g_r, 1, none⟩ (.int .i64 0)).setCell ⟨g_r, 2, none⟩ (.int .i64 0)) ⟨g_r, 1, none⟩ = some (.int .i64 0) := kr.cell rfl
      have rc2 : World.cell? (((q.w.setCell ⟨g_r, 0, none⟩ (.int .i64 0)).setCell ⟨g_r, 1, none⟩ (.int .i64 0)).setCell ⟨g_r, 2, none⟩ (.int .i64 0)) ⟨g_r, 2, none⟩ = some (.int .i64 0) := kr.cell rfl
      exact bodyPost_ret (v := .agg #[.int .i64 0, .int .i64 0, .int .i64 0]) (by simp [results, Try.results19, go_sem, rc0, rc1, rc2]) rfl ⟨rfl, ((((bw_below B1 q).setCell (p := ⟨g_r, 0, none⟩) (by show w.heap.size ≤ g_r; omega) _).setCell (p := ⟨g_r, 1, none⟩) (by show w.heap.size ≤ g_r; omega) _).setCell (p := ⟨g_r, 2, none⟩) (by show w.heap.size ≤ g_r; omega) _)⟩
  · rw [if_pos h]
    rw [h.1] at N1
    rw [h.2] at N2
    have hn := h.1
    unfold pRight nrT at hn
    dsimp only at hn ⊢
    simp only [Bool.and_eq_true] at hn
    obtain ⟨_, _, _, hm⟩ := hn
    rw [vnear_iff] at hm
    clear h
    have s0 := pRow_small (x1, x2, x3) (a, b, c)
    generalize pRow (x1, x2, x3) (a, b, c) = t0 at *
    have e0 : IntKind.i64.wrap (t0 + m1) = t0 + m1 := by rw [i64w]; omega
    obtain ⟨r0, hr0⟩ : ∃ r, r = t0 + m1 := ⟨_, rfl⟩
    have f0 : t0 + m1 = r0 := hr0.symm
    rw [← hr0] at e0 ⊢
    clear hr0 s0
    have s1 := pRow_small (y1, y2, y3) (a, b, c)
    generalize pRow (y1, y2, y3) (a, b, c) = t1 at *
    have e1 : IntKind.i64.wrap (t1 + m2) = t1 + m2 := by rw [i64w]; omega
    obtain ⟨r1, hr1⟩ : ∃ r, r = t1 + m2 := ⟨_, rfl⟩
    have f1 : t1 + m2 = r1 := hr1.symm
    rw [← hr1] at e1 ⊢
    clear hr1 s1
    have s2 := pRow_small (z1, z2, z3) (a, b, c)
    generalize pRow (z1, z2, z3) (a, b, c) = t2 at *
    have e2 : IntKind.i64.wrap (t2 + m3) = t2 + m3 := by rw [i64w]; omega
    obtain ⟨r2, hr2⟩ : ∃ r, r = t2 + m3 := ⟨_, rfl⟩
    have f2 : t2 + m3 = r2 := hr2.symm
    rw [← hr2] at e2 ⊢
    clear hr2 s2
    clear hm
    go_enter Try.func19, Try.ntmps19
    go_upto_region 1 with (fail)
    obtain ⟨W1, hW1⟩ : ∃ W, W = ((w.alloc (.cells #[.int .i64 x1, .int .i64 x2, .int .i64 x3, .int .i64 y1, .int .i64 y2, .int .i64 y3, .int .i64 z1, .int .i64 z2, .int .i64 z3, .int .i64 m1, .int .i64 m2, .int .i64 m3] 25)).alloc (.cells #[.int .i64 a, .int .i64 b, .int .i64 c] 23)).alloc (.cells #[.int .i64 0, .int .i64 0, .int .i64 0] 23) := ⟨_, rfl⟩
    have B1 : Below w.heap.size w W1 := by rw [hW1]; go_grown
    have k_p : Bk W1 (w.heap.size) 25 #[.int .i64 x1, .int .i64 x2, .int .i64 x3, .int .i64 y1, .int .i64 y2, .int .i64 y3, .int .i64 z1, .int .i64 z2, .int .i64 z3, .int .i64 m1, .int .i64 m2, .int .i64 m3] := by rw [hW1]; exact ((Bk.new _ _ _).alloc _).alloc _
    have k_v : Bk W1 (w.heap.size + 1) 23 #[.int .i64 a, .int .i64 b, .int .i64 c] := by rw [hW1]; exact (Bk.new_at _ _ _ _ (by simp)).alloc _
    have k_r : Bk W1 (w.heap.size + 1 + 1) 23 #[.int .i64 0, .int .i64 0, .int .i64 0] := by rw [hW1]; exact Bk.new_at _ _ _ _ (by simp)
    rw [← hW1]
    clear hW1
    have l_v : w.heap.size < w.heap.size + 1 := by omega
    have l_r : w.heap.size + 1 < w.heap.size + 1 + 1 := by omega
    generalize w.heap.size + 1 + 1 = g_r at *
    generalize w.heap.size + 1 = g_v at *
    have c_p_0 : ∀ p : BW W1, p.w.cell? ⟨w.heap.size, 0, none⟩ = some (.int .i64 x1) := bw_cell (k_p.cell rfl)
    have c_p_1 : ∀ p : BW W1, p.w.cell? ⟨w.heap.size, 1, none⟩ = some (.int .i64 x2) := bw_cell (k_p.cell rfl)
    have c_p_2 : ∀ p : BW W1, p.w.cell? ⟨w.heap.size, 2, none⟩ = some (.int .i64 x3) := bw_cell (k_p.cell rfl)
    have c_p_3 : ∀ p : BW W1, p.w.cell? ⟨w.heap.size, 3, none⟩ = some (.int .i64 y1) := bw_cell (k_p.cell rfl)
    have c_p_4 : ∀ p : BW W1, p.w.cell? ⟨w.heap.size, 4, none⟩ = some (.int .i64 y2) := bw_cell (k_p.cell rfl)
    have c_p_5 : ∀ p : BW W1, p.w.cell? ⟨w.heap.size, 5, none⟩ = some (.int .i64 y3) := bw_cell (k_p.cell rfl)
    have c_p_6 : ∀ p : BW W1, p.w.cell? ⟨w.heap.size, 6, none⟩ = some (.int .i64 z1) := bw_cell (k_p.cell rfl)
    have c_p_7 : ∀ p : BW W1, p.w.cell? ⟨w.heap.size, 7, none⟩ = some (.int .i64 z2) := bw_cell (k_p.cell rfl)
    have c_p_8 : ∀ p : BW W1, p.w.cell? ⟨w.heap.size, 8, none⟩ = some (.int .i64 z3) := bw_cell (k_p.cell rfl)
    have c_p_9 : ∀ p : BW W1, p.w.cell? ⟨w.heap.size, 9, none⟩ = some (.int .i64 m1) := bw_cell (k_p.cell rfl)
    have c_p_10 : ∀ p : BW W1, p.w.cell? ⟨w.heap.size, 10, none⟩ = some (.int .i64 m2) := bw_cell (k_p.cell rfl)
    have c_p_11 : ∀ p : BW W1, p.w.cell? ⟨w.heap.size, 11, none⟩ = some (.int .i64 m3) := bw_cell (k_p.cell rfl)
    have c_v_0 : ∀ p : BW W1, p.w.cell? ⟨g_v, 0, none⟩ = some (.int .i64 a) := bw_cell (k_v.cell rfl)
    have c_v_1 : ∀ p : BW W1, p.w.cell? ⟨g_v, 1, none⟩ = some (.int .i64 b) := bw_cell (k_v.cell rfl)
    have c_v_2 : ∀ p : BW W1, p.w.cell? ⟨g_v, 2, none⟩ = some (.int .i64 c) := bw_cell (k_v.cell rfl)
    have c_r_0 : ∀ p : BW W1, p.w.cell? ⟨g_r, 0, none⟩ = some (.int .i64 0) := bw_cell (k_r.cell rfl)
    have f_r_0 : ∀ p : BW W1, p.w.frozen? ⟨g_r, 0, none⟩ = false := fun p => (k_r.below p.h).frozen 0
    have c_r_1 : ∀ p : BW W1, p.w.cell? ⟨g_r, 1, none⟩ = some (.int .i64 0) := bw_cell (k_r.cell rfl)
    have f_r_1 : ∀ p : BW W1, p.w.frozen? ⟨g_r, 1, none⟩ = false := fun p => (k_r.below p.h).frozen 1
    have c_r_2 : ∀ p : BW W1, p.w.cell? ⟨g_r, 2, none⟩ = some (.int .i64 0) := bw_cell (k_r.cell rfl)
    have f_r_2 : ∀ p : BW W1, p.w.frozen? ⟨g_r, 2, none⟩ = false := fun p => (k_r.below p.h).frozen 2
    obtain ⟨p1, hp1⟩ : ∃ p : BW W1, p.w = W1 := ⟨BW.start W1, rfl⟩
    rw [← hp1]
    clear hp1
    go_upto_region 3 with (first
      | (go_at_call 9; (first | (with_reducible refine (bw_call N1.out _).mono ?_)); rintro e w' ⟨rfl, q, rfl⟩)
      | (go_at_call 23; (first | (with_reducible refine (bw_call N2.out _).mono ?_)); rintro e w' ⟨rfl, q, rfl⟩))
    refine wp_region_bw_tail 24 (by kernel_rfl) (by kernel_rfl) (by kernel_rfl) ?_
    simp only [List.take_succ_cons, List.take_zero, List.drop_succ_cons, List.drop_zero]
    repeat (go_big_quiet_step (first
      | (go_at_call 40; (first | (with_reducible exact bw_call R0.out _) | (with_reducible exact bw_call R1.out _) | (with_reducible exact bw_call R2.out _)))))
    refine wpQuiet_nil ?_
    intro _ hw'
    obtain ⟨q, rfl⟩ := hw'
    go_wp2
    have kr : Bk (((q.w.setCell ⟨g_r, 0, none⟩ (.int .i64 r0)).setCell ⟨g_r, 1, none⟩ (.int .i64 r1)).setCell ⟨g_r, 2, none⟩ (.int .i64 r2)) (g_r) 23 #[.int .i64 r0, .int .i64 r1, .int .i64 r2] := ((((k_r.below q.h).set 0 (.int .i64 r0)).set 1 (.int .i64 r1)).set 2 (.int .i64 r2))
    have rc0 : World.cell? (((q.w.setCell ⟨g_r, 0, none⟩ (.int .i64 r0)).setCell ⟨g_r, 1, none⟩ (.int .i64 r1)).setCell ⟨g_r, 2, none⟩ (.int .i64 r2)) ⟨g_r, 0, none⟩ = some (.int .i64 r0) := kr.cell rfl
    have rc1 : World.cell? (((q.w.setCell ⟨g_r, 0, none⟩ (.int .i64 r0)).setCell ⟨g_r, 1, none⟩ (.int .i64 r1)).setCell ⟨g_r, 2, none⟩ (.int .i64 r2)) ⟨g_r, 1, none⟩ = some (.int .i64 r1) := kr.cell rfl
    have rc2 : World.cell? (((q.w.setCell ⟨g_r, 0, none⟩ (.int .i64 r0)).setCell ⟨g_r, 1, none⟩ (.int .i64 r1)).setCell ⟨g_r, 2, none⟩ (.int .i64 r2)) ⟨g_r, 2, none⟩ = some (.int .i64 r2) := kr.cell rfl
    exact bodyPost_ret (v := .agg #[.int .i64 r0, .int .i64 r1, .int .i64 r2]) (by simp [results, Try.results19, go_sem, rc0, rc1, rc2]) rfl ⟨rfl, ((((bw_below B1 q).setCell (p := ⟨g_r, 0, none⟩) (by show w.heap.size ≤ g_r; omega) _).setCell (p := ⟨g_r, 1, none⟩) (by show w.heap.size ≤ g_r; omega) _).setCell (p := ⟨g_r, 2, none⟩) (by show w.heap.size ≤ g_r; omega) _)⟩

end Go.Proofs.Ytnoaljfdbfbhmaa
