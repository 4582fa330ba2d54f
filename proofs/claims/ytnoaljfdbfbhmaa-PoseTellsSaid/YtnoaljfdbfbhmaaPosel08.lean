/- Contracts of package pose, below: None, Right, isSize, part, parts, columns, the changes, changed. -/
import Derived.Test.YtnoaljfdbfbhmaaNum01
import Derived.Test.YtnoaljfdbfbhmaaTrig05
import Derived.Test.YtnoaljfdbfbhmaaMathb08
import Derived.Test.YtnoaljfdbfbhmaaMem08
import Derived.Test.YtnoaljfdbfbhmaaVec06
import Derived.Test.YtnoaljfdbfbhmaaTail
import Derived.Test.YtnoaljfdbfbhmaaEdge
import Derived.Deep.DeepCutAuto
import Derived.LoopN
import Derived.Shelf.Abstract
import Derived.Laws.EntriesVeiled
namespace Go.Proofs.Ytnoaljfdbfbhmaa
open Go.RowKit Go.Shelf Go.Proofs.Sky
set_option linter.unusedVariables false

set_option maxRecDepth 100000 in
set_option maxHeartbeats 4000000 in
theorem pose_None (w : World) :
    Calls Try.prog 10 #[] w fun e w' => e = .returned (.agg #[.int .i64 16384, .int .i64 0, .int .i64 0, .int .i64 0, .int .i64 16384, .int .i64 0, .int .i64 0, .int .i64 0, .int .i64 16384, .int .i64 0, .int .i64 0, .int .i64 0]) ∧ Below w.heap.size w w' := by
  go_enter Try.func10, Try.ntmps10
  go_upto_region 1 with (fail)
  obtain ⟨W1, hW1⟩ : ∃ W, W = w.alloc (.cells #[.int .i64 0, .int .i64 0, .int .i64 0, .int .i64 0, .int .i64 0, .int .i64 0, .int .i64 0, .int .i64 0, .int .i64 0, .int .i64 0, .int .i64 0, .int .i64 0] 29) := ⟨_, rfl⟩
  have B1 : Below w.heap.size w W1 := by rw [hW1]; go_grown
  have k_r : Bk W1 (w.heap.size) 29 #[.int .i64 0, .int .i64 0, .int .i64 0, .int .i64 0, .int .i64 0, .int .i64 0, .int .i64 0, .int .i64 0, .int .i64 0, .int .i64 0, .int .i64 0, .int .i64 0] := by rw [hW1]; exact Bk.new _ _ _
  rw [← hW1]
  clear hW1
  have c_r_0 : ∀ p : BW W1, p.w.cell? ⟨w.heap.size, 0, none⟩ = some (.int .i64 0) := bw_cell (k_r.cell rfl)
  have f_r_0 : ∀ p : BW W1, p.w.frozen? ⟨w.heap.size, 0, none⟩ = false := fun p => (k_r.below p.h).frozen 0
  have c_r_1 : ∀ p : BW W1, p.w.cell? ⟨w.heap.size, 1, none⟩ = some (.int .i64 0) := bw_cell (k_r.cell rfl)
  have f_r_1 : ∀ p : BW W1, p.w.frozen? ⟨w.heap.size, 1, none⟩ = false := fun p => (k_r.below p.h).frozen 1
  have c_r_2 : ∀ p : BW W1, p.w.cell? ⟨w.heap.size, 2, none⟩ = some (.int .i64 0) := bw_cell (k_r.cell rfl)
  have f_r_2 : ∀ p : BW W1, p.w.frozen? ⟨w.heap.size, 2, none⟩ = false := fun p => (k_r.below p.h).frozen 2
  have c_r_3 : ∀ p : BW W1, p.w.cell? ⟨w.heap.size, 3, none⟩ = some (.int .i64 0) := bw_cell (k_r.cell rfl)
  have f_r_3 : ∀ p : BW W1, p.w.frozen? ⟨w.heap.size, 3, none⟩ = false := fun p => (k_r.below p.h).frozen 3
  have c_r_4 : ∀ p : BW W1, p.w.cell? ⟨w.heap.size, 4, none⟩ = some (.int .i64 0) := bw_cell (k_r.cell rfl)
  have f_r_4 : ∀ p : BW W1, p.w.frozen? ⟨w.heap.size, 4, none⟩ = false := fun p => (k_r.below p.h).frozen 4
  have c_r_5 : ∀ p : BW W1, p.w.cell? ⟨w.heap.size, 5, none⟩ = some (.int .i64 0) := bw_cell (k_r.cell rfl)
  have f_r_5 : ∀ p : BW W1, p.w.frozen? ⟨w.heap.size, 5, none⟩ = false := fun p => (k_r.below p.h).frozen 5
  have c_r_6 : ∀ p : BW W1, p.w.cell? ⟨w.heap.size, 6, none⟩ = some (.int .i64 0) := bw_cell (k_r.cell rfl)
  have f_r_6 : ∀ p : BW W1, p.w.frozen? ⟨w.heap.size, 6, none⟩ = false := fun p => (k_r.below p.h).frozen 6
  have c_r_7 : ∀ p : BW W1, p.w.cell? ⟨w.heap.size, 7, none⟩ = some (.int .i64 0) := bw_cell (k_r.cell rfl)
  have f_r_7 : ∀ p : BW W1, p.w.frozen? ⟨w.heap.size, 7, none⟩ = false := fun p => (k_r.below p.h).frozen 7
  have c_r_8 : ∀ p : BW W1, p.w.cell? ⟨w.heap.size, 8, none⟩ = some (.int .i64 0) := bw_cell (k_r.cell rfl)
  have f_r_8 : ∀ p : BW W1, p.w.frozen? ⟨w.heap.size, 8, none⟩ = false := fun p => (k_r.below p.h).frozen 8
  have c_r_9 : ∀ p : BW W1, p.w.cell? ⟨w.heap.size, 9, none⟩ = some (.int .i64 0) := bw_cell (k_r.cell rfl)
  have f_r_9 : ∀ p : BW W1, p.w.frozen? ⟨w.heap.size, 9, none⟩ = false := fun p => (k_r.below p.h).frozen 9
  have c_r_10 : ∀ p : BW W1, p.w.cell? ⟨w.heap.size, 10, none⟩ = some (.int .i64 0) := bw_cell (k_r.cell rfl)
  have f_r_10 : ∀ p : BW W1, p.w.frozen? ⟨w.heap.size, 10, none⟩ = false := fun p => (k_r.below p.h).frozen 10
  have c_r_11 : ∀ p : BW W1, p.w.cell? ⟨w.heap.size, 11, none⟩ = some (.int .i64 0) := bw_cell (k_r.cell rfl)
  have f_r_11 : ∀ p : BW W1, p.w.frozen? ⟨w.heap.size, 11, none⟩ = false := fun p => (k_r.below p.h).frozen 11
  obtain ⟨p1, hp1⟩ : ∃ p : BW W1, p.w = W1 := ⟨BW.start W1, rfl⟩
  rw [← hp1]
  clear hp1
  go_wp2
  have kr : Bk ((((((((((((p1.w.setCell ⟨w.heap.size, 0, none⟩ (.int .i64 16384)).setCell ⟨w.heap.size, 1, none⟩ (.int .i64 0)).setCell ⟨w.heap.size, 2, none⟩ (.int .i64 0)).setCell ⟨w.heap.size, 3, none⟩ (.int .i64 0)).setCell ⟨w.heap.size, 4, none⟩ (.int .i64 16384)).setCell ⟨w.heap.size, 5, none⟩ (.int .i64 0)).setCell ⟨w.heap.size, 6, none⟩ (.int .i64 0)).setCell ⟨w.heap.size, 7, none⟩ (.int .i64 0)).setCell ⟨w.heap.size, 8, none⟩ (.int .i64 16384)).setCell ⟨w.heap.size, 9, none⟩ (.int .i64 0)).setCell ⟨w.heap.size, 10, none⟩ (.int .i64 0)).setCell ⟨w.heap.size, 11, none⟩ (.int .i64 0)) (w.heap.size) 29 #[.int .i64 16384, .int .i64 0, .int .i64 0, .int .i64 0, .int .i64 16384, .int .i64 0, .int .i64 0, .int .i64 0, .int .i64 16384, .int .i64 0, .int .i64 0, .int .i64 0] := (((((((((((((k_r.below p1.h).set 0 (.int .i64 16384)).set 1 (.int .i64 0)).set 2 (.int .i64 0)).set 3 (.int .i64 0)).set 4 (.int .i64 16384)).set 5 (.int .i64 0)).set 6 (.int .i64 0)).set 7 (.int .i64 0)).set 8 (.int .i64 16384)).set 9 (.int .i64 0)).set 10 (.int .i64 0)).set 11 (.int .i64 0)).cast (by simp)
  have rc0 : World.cell? ((((((((((((p1.w.setCell ⟨w.heap.size, 0, none⟩ (.int .i64 16384)).setCell ⟨w.heap.size, 1, none⟩ (.int .i64 0)).setCell ⟨w.heap.size, 2, none⟩ (.int .i64 0)).setCell ⟨w.heap.size, 3, none⟩ (.int .i64 0)).setCell ⟨w.heap.size, 4, none⟩ (.int .i64 16384)).setCell ⟨w.heap.size, 5, none⟩ (.int .i64 0)).setCell ⟨w.heap.size, 6, none⟩ (.int .i64 0)).setCell ⟨w.heap.size, 7, none⟩ (.int .i64 0)).setCell ⟨w.heap.size, 8, none⟩ (.int .i64 16384)).setCell ⟨w.heap.size, 9, none⟩ (.int .i64 0)).setCell ⟨w.heap.size, 10, none⟩ (.int .i64 0)).setCell ⟨w.heap.size, 11, none⟩ (.int .i64 0)) ⟨w.heap.size, 0, none⟩ = some (.int .i64 16384) := kr.cell rfl
  have rc1 : World.cell? ((((((((((((p1.w.setCell ⟨w.heap.size, 0, none⟩ (.int .i64 16384)).setCell ⟨w.heap.size, 1, none⟩ (.int .i64 0)).setCell ⟨w.heap.size, 2, none⟩ (.int .i64 0)).setCell ⟨w.heap.size, 3, none⟩ (.int .i64 0)).setCell ⟨w.heap.size, 4, none⟩ (.int .i64 16384)).setCell ⟨w.heap.size, 5, none⟩ (.int .i64 0)).setCell ⟨w.heap.size, 6, none⟩ (.int .i64 0)).setCell ⟨w.heap.size, 7, none⟩ (.int .i64 0)).setCell ⟨w.heap.size, 8, none⟩ (.int .i64 16384)).setCell ⟨w.heap.size, 9, none⟩ (.int .i64 0)).setCell ⟨w.heap.size, 10, none⟩ (.int .i64 0)).setCell ⟨w.heap.size, 11, none⟩ (.int .i64 0)) ⟨w.heap.size, 1, none⟩ = some (.int .i64 0) := kr.cell rfl
  have rc2 : World.cell? ((((((((((((p1.w.setCell ⟨w.heap.size, 0, none⟩ (.int .i64 16384)).setCell ⟨w.heap.size, 1, none⟩ (.int .i64 0)).setCell ⟨w.heap.size, 2, none⟩ (.int .i64 0)).setCell ⟨w.heap.size, 3, none⟩ (.int .i64 0)).setCell ⟨w.heap.size, 4, none⟩ (.int .i64 16384)).setCell ⟨w.heap.size, 5, none⟩ (.int .i64 0)).setCell ⟨w.heap.size, 6, none⟩ (.int .i64 0)).setCell ⟨w.heap.size, 7, none⟩ (.int .i64 0)).setCell ⟨w.heap.size, 8, none⟩ (.int .i64 16384)).setCell ⟨w.heap.size, 9, none⟩ (.int .i64 0)).setCell ⟨w.heap.size, 10, none⟩ (.int .i64 0)).setCell ⟨w.heap.size, 11, none⟩ (.int .i64 0)) ⟨w.heap.size, 2, none⟩ = some (.int .i64 0) := kr.cell rfl
  have rc3 : World.cell? ((((((((((((p1.w.setCell ⟨w.heap.size, 0, none⟩ (.int .i64 16384)).setCell ⟨w.heap.size, 1, none⟩ (.int .i64 0)).setCell ⟨w.heap.size, 2, none⟩ (.int .i64 0)).setCell ⟨w.heap.size, 3, none⟩ (.int .i64 0)).setCell ⟨w.heap.size, 4, none⟩ (.int .i64 16384)).setCell ⟨w.heap.size, 5, none⟩ (.int .i64 0)).setCell ⟨w.heap.size, 6, none⟩ (.int .i64 0)).setCell ⟨w.heap.size, 7, none⟩ (.int .i64 0)).setCell ⟨w.heap.size, 8, none⟩ (.int .i64 16384)).setCell ⟨w.heap.size, 9, none⟩ (.int .i64 0)).setCell ⟨w.heap.size, 10, none⟩ (.int .i64 0)).setCell ⟨w.heap.size, 11, none⟩ (.int .i64 0)) ⟨w.heap.size, 3, none⟩ = some (.int .i64 0) := kr.cell rfl
  have rc4 : World.cell? ((((((((((((p1.w.setCell ⟨w.heap.size, 0, none⟩ (.int .i64 16384)).setCell ⟨w.heap.size, 1, none⟩ (.int .i64 0)).setCell ⟨w.heap.size, 2, none⟩ (.int .i64 0)).setCell ⟨w.heap.size, 3, none⟩ (.int .i64 0)).setCell ⟨w.heap.size, 4, none⟩ (.int .i64 16384)).setCell ⟨w.heap.size, 5, none⟩ (.int .i64 0)).setCell ⟨w.heap.size, 6, none⟩ (.int .i64 0)).setCell ⟨w.heap.size, 7, none⟩ (.int .i64 0)).setCell ⟨w.heap.size, 8, none⟩ (.int .i64 16384)).setCell ⟨w.heap.size, 9, none⟩ (.int .i64 0)).setCell ⟨w.heap.size, 10, none⟩ (.int .i64 0)).setCell ⟨w.heap.size, 11, none⟩ (.int .i64 0)) ⟨w.heap.size, 4, none⟩ = some (.int .i64 16384) := kr.cell rfl
  have rc5 : World.cell? ((((((((((((p1.w.setCell ⟨w.heap.size, 0, none⟩ (.int .i64 16384)).setCell ⟨w.heap.size, 1, none⟩ (.int .i64 0)).setCell ⟨w.heap.size, 2, none⟩ (.int .i64 0)).setCell ⟨w.heap.size, 3, none⟩ (.int .i64 0)).setCell ⟨w.heap.size, 4, none⟩ (.int .i64 16384)).setCell ⟨w.heap.size, 5, none⟩ (.int .i64 0)).setCell ⟨w.heap.size, 6, none⟩ (.int .i64 0)).setCell ⟨w.heap.size, 7, none⟩ (.int .i64 0)).setCell ⟨w.heap.size, 8, none⟩ (.int .i64 16384)).setCell ⟨w.heap.size, 9, none⟩ (.int .i64 0)).setCell ⟨w.heap.size, 10, none⟩ (.int .i64 0)).setCell ⟨w.heap.size, 11, none⟩ (.int .i64 0)) ⟨w.heap.size, 5, none⟩ = some (.int .i64 0) := kr.cell rfl
  have rc6 : World.cell? ((((((((((((p1.w.setCell ⟨w.heap.size, 0, none⟩ (.int .i64 16384)).setCell ⟨w.heap.size, 1, none⟩ (.int .i64 0)).setCell ⟨w.heap.size, 2, none⟩ (.int .i64 0)).setCell ⟨w.heap.size, 3, none⟩ (.int .i64 0)).setCell ⟨w.heap.size, 4, none⟩ (.int .i64 16384)).setCell ⟨w.heap.size, 5, none⟩ (.int .i64 0)).setCell ⟨w.heap.size, 6, none⟩ (.int .i64 0)).setCell ⟨w.heap.size, 7, none⟩ (.int .i64 0)).setCell ⟨w.heap.size, 8, none⟩ (.int .i64 16384)).setCell ⟨w.heap.size, 9, none⟩ (.int .i64 0)).setCell ⟨w.heap.size, 10, none⟩ (.int .i64 0)).setCell ⟨w.heap.size, 11, none⟩ (.int .i64 0)) ⟨w.heap.size, 6, none⟩ = some (.int .i64 0) := kr.cell rfl
  have rc7 : World.cell? ((((((((((((p1.w.setCell ⟨w.heap.size, 0, none⟩ (.int .i64 16384)).setCell ⟨w.heap.size, 1, none⟩ (.int .i64 0)).setCell ⟨w.heap.size, 2, none⟩ (.int .i64 0)).setCell ⟨w.heap.size, 3, none⟩ (.int .i64 0)).setCell ⟨w.heap.size, 4, none⟩ (.int .i64 16384)).setCell ⟨w.heap.size, 5, none⟩ (.int .i64 0)).setCell ⟨w.heap.size, 6, none⟩ (.int .i64 0)).setCell ⟨w.heap.size, 7, none⟩ (.int .i64 0)).setCell ⟨w.heap.size, 8, none⟩ (.int .i64 16384)).setCell ⟨w.heap.size, 9, none⟩ (.int .i64 0)).setCell ⟨w.heap.size, 10, none⟩ (.int .i64 0)).setCell ⟨w.heap.size, 11, none⟩ (.int .i64 0)) ⟨w.heap.size, 7, none⟩ = some (.int .i64 0) := kr.cell rfl
  have rc8 : World.cell? ((((((((((((p1.w.setCell ⟨w.heap.size, 0, none⟩ (.int .i64 16384)).setCell ⟨w.heap.size, 1, none⟩ (.int .i64 0)).setCell ⟨w.heap.size, 2, none⟩ (.int .i64 0)).setCell ⟨w.heap.size, 3, none⟩ (.int .i64 0)).setCell ⟨w.heap.size, 4, none⟩ (.int .i64 16384)).setCell ⟨w.heap.size, 5, none⟩ (.int .i64 0)).setCell ⟨w.heap.size, 6, none⟩ (.int .i64 0)).setCell ⟨w.heap.size, 7, none⟩ (.int .i64 0)).setCell ⟨w.heap.size, 8, none⟩ (.int .i64 16384)).setCell ⟨w.heap.size, 9, none⟩ (.int .i64 0)).setCell ⟨w.heap.size, 10, none⟩ (.int .i64 0)).setCell ⟨w.heap.size, 11, none⟩ (.int .i64 0)) ⟨w.heap.size, 8, none⟩ = some (.int .i64 16384) := kr.cell rfl
  have rc9 : World.cell? ((((((((((((p1.w.setCell ⟨w.heap.size, 0, none⟩ (.int .i64 16384)).setCell ⟨w.heap.size, 1, none⟩ (.int .i64 0)).setCell ⟨w.heap.size, 2, none⟩ (.int .i64 0)).setCell ⟨w.heap.size, 3, none⟩ (.int .i64 0)).setCell ⟨w.heap.size, 4, none⟩ (.int .i64 16384)).setCell ⟨w.heap.size, 5, none⟩ (.int .i64 0)).setCell ⟨w.heap.size, 6, none⟩ (.int .i64 0)).setCell ⟨w.heap.size, 7, none⟩ (.int .i64 0)).setCell ⟨w.heap.size, 8, none⟩ (.int .i64 16384)).setCell ⟨w.heap.size, 9, none⟩ (.int .i64 0)).setCell ⟨w.heap.size, 10, none⟩ (.int .i64 0)).setCell ⟨w.heap.size, 11, none⟩ (.int .i64 0)) ⟨w.heap.size, 9, none⟩ = some (.int .i64 0) := kr.cell rfl
  have rc10 : World.cell? ((((((((((((p1.w.setCell ⟨w.heap.size, 0, none⟩ (.int .i64 16384)).setCell ⟨w.heap.size, 1, none⟩ (.int .i64 0)).setCell ⟨w.heap.size, 2, none⟩ (.int .i64 0)).setCell ⟨w.heap.size, 3, none⟩ (.int .i64 0)).setCell ⟨w.heap.size, 4, none⟩ (.int .i64 16384)).setCell ⟨w.heap.size, 5, none⟩ (.int .i64 0)).setCell ⟨w.heap.size, 6, none⟩ (.int .i64 0)).setCell ⟨w.heap.size, 7, none⟩ (.int .i64 0)).setCell ⟨w.heap.size, 8, none⟩ (.int .i64 16384)).setCell ⟨w.heap.size, 9, none⟩ (.int .i64 0)).setCell ⟨w.heap.size, 10, none⟩ (.int .i64 0)).setCell ⟨w.heap.size, 11, none⟩ (.int .i64 0)) ⟨w.heap.size, 10, none⟩ = some (.int .i64 0) := kr.cell rfl
  have rc11 : World.cell? ((((((((((((p1.w.setCell ⟨w.heap.size, 0, none⟩ (.int .i64 16384)).setCell ⟨w.heap.size, 1, none⟩ (.int .i64 0)).setCell ⟨w.heap.size, 2, none⟩ (.int .i64 0)).setCell ⟨w.heap.size, 3, none⟩ (.int .i64 0)).setCell ⟨w.heap.size, 4, none⟩ (.int .i64 16384)).setCell ⟨w.heap.size, 5, none⟩ (.int .i64 0)).setCell ⟨w.heap.size, 6, none⟩ (.int .i64 0)).setCell ⟨w.heap.size, 7, none⟩ (.int .i64 0)).setCell ⟨w.heap.size, 8, none⟩ (.int .i64 16384)).setCell ⟨w.heap.size, 9, none⟩ (.int .i64 0)).setCell ⟨w.heap.size, 10, none⟩ (.int .i64 0)).setCell ⟨w.heap.size, 11, none⟩ (.int .i64 0)) ⟨w.heap.size, 11, none⟩ = some (.int .i64 0) := kr.cell rfl
  exact bodyPost_ret (v := .agg #[.int .i64 16384, .int .i64 0, .int .i64 0, .int .i64 0, .int .i64 16384, .int .i64 0, .int .i64 0, .int .i64 0, .int .i64 16384, .int .i64 0, .int .i64 0, .int .i64 0]) (by simp [results, Try.results10, go_sem, rc0, rc1, rc2, rc3, rc4, rc5, rc6, rc7, rc8, rc9, rc10, rc11]) rfl ⟨rfl, (((((((((((((bw_below B1 p1).setCell (p := ⟨w.heap.size, 0, none⟩) (by show w.heap.size ≤ w.heap.size; omega) _).setCell (p := ⟨w.heap.size, 1, none⟩) (by show w.heap.size ≤ w.heap.size; omega) _).setCell (p := ⟨w.heap.size, 2, none⟩) (by show w.heap.size ≤ w.heap.size; omega) _).setCell (p := ⟨w.heap.size, 3, none⟩) (by show w.heap.size ≤ w.heap.size; omega) _).setCell (p := ⟨w.heap.size, 4, none⟩) (by show w.heap.size ≤ w.heap.size; omega) _).setCell (p := ⟨w.heap.size, 5, none⟩) (by show w.heap.size ≤ w.heap.size; omega) _).setCell (p := ⟨w.heap.size, 6, none⟩) (by show w.heap.size ≤ w.heap.size; omega) _).setCell (p := ⟨w.heap.size, 7, none⟩) (by show w.heap.size ≤ w.heap.size; omega) _).setCell (p := ⟨w.heap.size, 8, none⟩) (by show w.heap.size ≤ w.heap.size; omega) _).setCell (p := ⟨w.heap.size, 9, none⟩) (by show w.heap.size ≤ w.heap.size; omega) _).setCell (p := ⟨w.heap.size, 10, none⟩) (by show w.heap.size ≤ w.heap.size; omega) _).setCell (p := ⟨w.heap.size, 11, none⟩) (by show w.heap.size ≤ w.heap.size; omega) _)⟩

set_option maxRecDepth 100000 in
set_option maxHeartbeats 4000000 in
theorem pose_Right (a1 a2 a3 a4 a5 a6 a7 a8 a9 a10 a11 a12 : Int) (w : World) :
    Calls Try.prog 7 #[.agg #[.int .i64 a1, .int .i64 a2, .int .i64 a3, .int .i64 a4, .int .i64 a5, .int .i64 a6, .int .i64 a7, .int .i64 a8, .int .i64 a9, .int .i64 a10, .int .i64 a11, .int .i64 a12]] w fun e w' => e = .returned (.bool (pRight ((a1, a2, a3), (a4, a5, a6), (a7, a8, a9), (a10, a11, a12)))) ∧ Below w.heap.size w w' := by
  have N0 := Lib.hid (fun w => vec_Near a1 a2 a3 w)
  have N1 := Lib.hid (fun w => vec_Near a4 a5 a6 w)
  have N2 := Lib.hid (fun w => vec_Near a7 a8 a9 w)
  have N3 := Lib.hid (fun w => vec_Near a10 a11 a12 w)
  unfold pRight nrT
  dsimp only
  generalize vnear a1 a2 a3 = b0 at *
  generalize vnear a4 a5 a6 = b1 at *
  generalize vnear a7 a8 a9 = b2 at *
  generalize vnear a10 a11 a12 = b3 at *
  have hc : (b0 = false) ∨ (b0 = true ∧ b1 = false) ∨ (b0 = true ∧ b1 = true ∧ b2 = false) ∨ (b0 = true ∧ b1 = true ∧ b2 = true) := by cases b0 <;> cases b1 <;> cases b2 <;> simp
  go_enter Try.func7, Try.ntmps7
  go_upto_region 1 with (fail)
  obtain ⟨W1, hW1⟩ : ∃ W, W = w.alloc (.cells #[.int .i64 a1, .int .i64 a2, .int .i64 a3, .int .i64 a4, .int .i64 a5, .int .i64 a6, .int .i64 a7, .int .i64 a8, .int .i64 a9, .int .i64 a10, .int .i64 a11, .int .i64 a12] 29) := ⟨_, rfl⟩
  have B1 : Below w.heap.size w W1 := by rw [hW1]; go_grown
  have k_p : Bk W1 (w.heap.size) 29 #[.int .i64 a1, .int .i64 a2, .int .i64 a3, .int .i64 a4, .int .i64 a5, .int .i64 a6, .int .i64 a7, .int .i64 a8, .int .i64 a9, .int .i64 a10, .int .i64 a11, .int .i64 a12] := by rw [hW1]; exact Bk.new _ _ _
  rw [← hW1]
  clear hW1
  have c_p_0 : ∀ p : BW W1, p.w.cell? ⟨w.heap.size, 0, none⟩ = some (.int .i64 a1) := bw_cell (k_p.cell rfl)
  have c_p_1 : ∀ p : BW W1, p.w.cell? ⟨w.heap.size, 1, none⟩ = some (.int .i64 a2) := bw_cell (k_p.cell rfl)
  have c_p_2 : ∀ p : BW W1, p.w.cell? ⟨w.heap.size, 2, none⟩ = some (.int .i64 a3) := bw_cell (k_p.cell rfl)
  have c_p_3 : ∀ p : BW W1, p.w.cell? ⟨w.heap.size, 3, none⟩ = some (.int .i64 a4) := bw_cell (k_p.cell rfl)
  have c_p_4 : ∀ p : BW W1, p.w.cell? ⟨w.heap.size, 4, none⟩ = some (.int .i64 a5) := bw_cell (k_p.cell rfl)
  have c_p_5 : ∀ p : BW W1, p.w.cell? ⟨w.heap.size, 5, none⟩ = some (.int .i64 a6) := bw_cell (k_p.cell rfl)
  have c_p_6 : ∀ p : BW W1, p.w.cell? ⟨w.heap.size, 6, none⟩ = some (.int .i64 a7) := bw_cell (k_p.cell rfl)
  have c_p_7 : ∀ p : BW W1, p.w.cell? ⟨w.heap.size, 7, none⟩ = some (.int .i64 a8) := bw_cell (k_p.cell rfl)
  have c_p_8 : ∀ p : BW W1, p.w.cell? ⟨w.heap.size, 8, none⟩ = some (.int .i64 a9) := bw_cell (k_p.cell rfl)
  have c_p_9 : ∀ p : BW W1, p.w.cell? ⟨w.heap.size, 9, none⟩ = some (.int .i64 a10) := bw_cell (k_p.cell rfl)
  have c_p_10 : ∀ p : BW W1, p.w.cell? ⟨w.heap.size, 10, none⟩ = some (.int .i64 a11) := bw_cell (k_p.cell rfl)
  have c_p_11 : ∀ p : BW W1, p.w.cell? ⟨w.heap.size, 11, none⟩ = some (.int .i64 a12) := bw_cell (k_p.cell rfl)
  obtain ⟨p1, hp1⟩ : ∃ p : BW W1, p.w = W1 := ⟨BW.start W1, rfl⟩
  rw [← hp1]
  clear hp1
  rcases hc with rfl | ⟨rfl, rfl⟩ | ⟨rfl, rfl, rfl⟩ | ⟨rfl, rfl, rfl⟩
  all_goals
    go_wp2_with (first
      | (go_at_call 24; (first | (with_reducible refine (bw_call N0.out _).mono ?_) | (with_reducible refine (bw_call N1.out _).mono ?_) | (with_reducible refine (bw_call N2.out _).mono ?_) | (with_reducible refine (bw_call N3.out _).mono ?_)); rintro e w' ⟨rfl, q, rfl⟩))
    go_ret
    exact ⟨rfl, bw_below B1 _⟩

theorem pose_isSize (n : Int) (w : World) :
    Calls Try.prog 33 #[.int .i64 n] w fun e w' => e = .returned (.bool (decide (1 ≤ n ∧ n ≤ 64))) ∧ w = w' := by
  by_cases h1 : 1 ≤ n
  · by_cases h2 : n ≤ 64
    · rw [decide_eq_true (show 1 ≤ n ∧ n ≤ 64 from ⟨h1, h2⟩)]
      have t1 : decide (1 ≤ n) = true := decide_eq_true h1
      have t2 : decide (n ≤ 64) = true := decide_eq_true h2
      clear h1 h2
      go_enter Try.func33, Try.ntmps33
      go_wp2
      go_ret
      exact ⟨rfl, rfl⟩
    · rw [decide_eq_false (show ¬ (1 ≤ n ∧ n ≤ 64) from fun h => h2 h.2)]
      have t1 : decide (1 ≤ n) = true := decide_eq_true h1
      have t2 : decide (n ≤ 64) = false := decide_eq_false h2
      clear h1 h2
      go_enter Try.func33, Try.ntmps33
      go_wp2
      go_ret
      exact ⟨rfl, rfl⟩
  · rw [decide_eq_false (show ¬ (1 ≤ n ∧ n ≤ 64) from fun h => h1 h.1)]
    have t1 : decide (1 ≤ n) = false := decide_eq_false h1
    clear h1
    go_enter Try.func33, Try.ntmps33
    go_wp2
    go_ret
    exact ⟨rfl, rfl⟩

set_option maxRecDepth 100000 in
set_option maxHeartbeats 4000000 in
theorem pose_part (a b c x y z : Int) (w : World) :
    Calls Try.prog 48 #[.agg #[.int .i64 a, .int .i64 b, .int .i64 c], .agg #[.int .i64 x, .int .i64 y, .int .i64 z]] w fun e w' => e = .returned (.int .i64 (pRow (a, b, c) (x, y, z))) ∧ Below w.heap.size w w' := by
  have D := Lib.hid (fun w => vec_Dot a b c x y z w)
  unfold pRow
  dsimp only
  have i : -3298534883328 ≤ vdot a b c x y z ∧ vdot a b c x y z ≤ 3298534883328 := by
    unfold vdot
    split
    · rename_i h
      obtain ⟨h1, h2⟩ := h
      rw [vnear_iff] at h1 h2
      have p := near_mul (x := a) (a := x) (by omega) (by omega)
      have q := near_mul (x := b) (a := y) (by omega) (by omega)
      have s := near_mul (x := c) (a := z) (by omega) (by omega)
      omega
    · omega
  generalize vdot a b c x y z = s at *
  have V := Lib.hid (fun w => below_of_same (fun w => num_Div s 16384 w (by unfold I64; omega) (by unfold I64; omega)) w)
  have ed : dv s 16384 = s / 16384 := by unfold dv; rw [if_neg (by omega)]
  rw [ed] at V
  generalize s / 16384 = r at *
  clear i ed
  go_enter Try.func48, Try.ntmps48
  go_upto_region 1 with (fail)
  obtain ⟨W1, hW1⟩ : ∃ W, W = (w.alloc (.cells #[.int .i64 a, .int .i64 b, .int .i64 c] 23)).alloc (.cells #[.int .i64 x, .int .i64 y, .int .i64 z] 23) := ⟨_, rfl⟩
  have B1 : Below w.heap.size w W1 := by rw [hW1]; go_grown
  have k_a : Bk W1 (w.heap.size) 23 #[.int .i64 a, .int .i64 b, .int .i64 c] := by rw [hW1]; exact (Bk.new _ _ _).alloc _
  have k_b : Bk W1 (w.heap.size + 1) 23 #[.int .i64 x, .int .i64 y, .int .i64 z] := by rw [hW1]; exact Bk.new_at _ _ _ _ (by simp)
  rw [← hW1]
  clear hW1
  have l_b : w.heap.size < w.heap.size + 1 := by omega
  generalize w.heap.size + 1 = g_b at *
  have c_a_0 : ∀ p : BW W1, p.w.cell? ⟨w.heap.size, 0, none⟩ = some (.int .i64 a) := bw_cell (k_a.cell rfl)
  have c_a_1 : ∀ p : BW W1, p.w.cell? ⟨w.heap.size, 1, none⟩ = some (.int .i64 b) := bw_cell (k_a.cell rfl)
  have c_a_2 : ∀ p : BW W1, p.w.cell? ⟨w.heap.size, 2, none⟩ = some (.int .i64 c) := bw_cell (k_a.cell rfl)
  have c_b_0 : ∀ p : BW W1, p.w.cell? ⟨g_b, 0, none⟩ = some (.int .i64 x) := bw_cell (k_b.cell rfl)
  have c_b_1 : ∀ p : BW W1, p.w.cell? ⟨g_b, 1, none⟩ = some (.int .i64 y) := bw_cell (k_b.cell rfl)
  have c_b_2 : ∀ p : BW W1, p.w.cell? ⟨g_b, 2, none⟩ = some (.int .i64 z) := bw_cell (k_b.cell rfl)
  obtain ⟨p1, hp1⟩ : ∃ p : BW W1, p.w = W1 := ⟨BW.start W1, rfl⟩
  rw [← hp1]
  clear hp1
  go_wp2_with (first
    | (go_at_call 55; (first | (with_reducible refine (bw_call D.out _).mono ?_)); rintro e w' ⟨rfl, q, rfl⟩)
    | (go_at_call 35; (first | (with_reducible refine (bw_call V.out _).mono ?_)); rintro e w' ⟨rfl, q, rfl⟩))
  go_ret
  exact ⟨rfl, bw_below B1 _⟩

set_option maxRecDepth 100000 in
set_option maxHeartbeats 4000000 in
theorem pose_parts (a1 a2 a3 a4 a5 a6 a7 a8 a9 a10 a11 a12 x y z : Int) (w : World) :
    Calls Try.prog 38 #[.agg #[.int .i64 a1, .int .i64 a2, .int .i64 a3, .int .i64 a4, .int .i64 a5, .int .i64 a6, .int .i64 a7, .int .i64 a8, .int .i64 a9, .int .i64 a10, .int .i64 a11, .int .i64 a12], .agg #[.int .i64 x, .int .i64 y, .int .i64 z]] w fun e w' => e = .returned (.agg #[.int .i64 (pRow (a1, a2, a3) (x, y, z)), .int .i64 (pRow (a4, a5, a6) (x, y, z)), .int .i64 (pRow (a7, a8, a9) (x, y, z))]) ∧ Below w.heap.size w w' := by
  have R0 := Lib.hid (fun w => pose_part a1 a2 a3 x y z w)
  have R1 := Lib.hid (fun w => pose_part a4 a5 a6 x y z w)
  have R2 := Lib.hid (fun w => pose_part a7 a8 a9 x y z w)
  generalize pRow (a1, a2, a3) (x, y, z) = r0 at *
  generalize pRow (a4, a5, a6) (x, y, z) = r1 at *
  generalize pRow (a7, a8, a9) (x, y, z) = r2 at *
  go_enter Try.func38, Try.ntmps38
  go_upto_region 1 with (fail)
  obtain ⟨W1, hW1⟩ : ∃ W, W = ((w.alloc (.cells #[.int .i64 a1, .int .i64 a2, .int .i64 a3, .int .i64 a4, .int .i64 a5, .int .i64 a6, .int .i64 a7, .int .i64 a8, .int .i64 a9, .int .i64 a10, .int .i64 a11, .int .i64 a12] 29)).alloc (.cells #[.int .i64 x, .int .i64 y, .int .i64 z] 23)).alloc (.cells #[.int .i64 0, .int .i64 0, .int .i64 0] 23) := ⟨_, rfl⟩
  have B1 : Below w.heap.size w W1 := by rw [hW1]; go_grown
  have k_p : Bk W1 (w.heap.size) 29 #[.int .i64 a1, .int .i64 a2, .int .i64 a3, .int .i64 a4, .int .i64 a5, .int .i64 a6, .int .i64 a7, .int .i64 a8, .int .i64 a9, .int .i64 a10, .int .i64 a11, .int .i64 a12] := by rw [hW1]; exact ((Bk.new _ _ _).alloc _).alloc _
  have k_v : Bk W1 (w.heap.size + 1) 23 #[.int .i64 x, .int .i64 y, .int .i64 z] := by rw [hW1]; exact (Bk.new_at _ _ _ _ (by simp)).alloc _
  have k_r : Bk W1 (w.heap.size + 1 + 1) 23 #[.int .i64 0, .int .i64 0, .int .i64 0] := by rw [hW1]; exact Bk.new_at _ _ _ _ (by simp)
  rw [← hW1]
  clear hW1
  have l_v : w.heap.size < w.heap.size + 1 := by omega
  have l_r : w.heap.size + 1 < w.heap.size + 1 + 1 := by omega
  generalize w.heap.size + 1 + 1 = g_r at *
  generalize w.heap.size + 1 = g_v at *
  have c_p_0 : ∀ p : BW W1, p.w.cell? ⟨w.heap.size, 0, none⟩ = some (.int .i64 a1) := bw_cell (k_p.cell rfl)
  have c_p_1 : ∀ p : BW W1, p.w.cell? ⟨w.heap.size, 1, none⟩ = some (.int .i64 a2) := bw_cell (k_p.cell rfl)
  have c_p_2 : ∀ p : BW W1, p.w.cell? ⟨w.heap.size, 2, none⟩ = some (.int .i64 a3) := bw_cell (k_p.cell rfl)
  have c_p_3 : ∀ p : BW W1, p.w.cell? ⟨w.heap.size, 3, none⟩ = some (.int .i64 a4) := bw_cell (k_p.cell rfl)
  have c_p_4 : ∀ p : BW W1, p.w.cell? ⟨w.heap.size, 4, none⟩ = some (.int .i64 a5) := bw_cell (k_p.cell rfl)
  have c_p_5 : ∀ p : BW W1, p.w.cell? ⟨w.heap.size, 5, none⟩ = some (.int .i64 a6) := bw_cell (k_p.cell rfl)
  have c_p_6 : ∀ p : BW W1, p.w.cell? ⟨w.heap.size, 6, none⟩ = some (.int .i64 a7) := bw_cell (k_p.cell rfl)
  have c_p_7 : ∀ p : BW W1, p.w.cell? ⟨w.heap.size, 7, none⟩ = some (.int .i64 a8) := bw_cell (k_p.cell rfl)
  have c_p_8 : ∀ p : BW W1, p.w.cell? ⟨w.heap.size, 8, none⟩ = some (.int .i64 a9) := bw_cell (k_p.cell rfl)
  have c_p_9 : ∀ p : BW W1, p.w.cell? ⟨w.heap.size, 9, none⟩ = some (.int .i64 a10) := bw_cell (k_p.cell rfl)
  have c_p_10 : ∀ p : BW W1, p.w.cell? ⟨w.heap.size, 10, none⟩ = some (.int .i64 a11) := bw_cell (k_p.cell rfl)
  have c_p_11 : ∀ p : BW W1, p.w.cell? ⟨w.heap.size, 11, none⟩ = some (.int .i64 a12) := bw_cell (k_p.cell rfl)
  have c_v_0 : ∀ p : BW W1, p.w.cell? ⟨g_v, 0, none⟩ = some (.int .i64 x) := bw_cell (k_v.cell rfl)
  have c_v_1 : ∀ p : BW W1, p.w.cell? ⟨g_v, 1, none⟩ = some (.int .i64 y) := bw_cell (k_v.cell rfl)
  have c_v_2 : ∀ p : BW W1, p.w.cell? ⟨g_v, 2, none⟩ = some (.int .i64 z) := bw_cell (k_v.cell rfl)
  have c_r_0 : ∀ p : BW W1, p.w.cell? ⟨g_r, 0, none⟩ = some (.int .i64 0) := bw_cell (k_r.cell rfl)
  have f_r_0 : ∀ p : BW W1, p.w.frozen? ⟨g_r, 0, none⟩ = false := fun p => (k_r.below p.h).frozen 0
  have c_r_1 : ∀ p : BW W1, p.w.cell? ⟨g_r, 1, none⟩ = some (.int .i64 0) := bw_cell (k_r.cell rfl)
  have f_r_1 : ∀ p : BW W1, p.w.frozen? ⟨g_r, 1, none⟩ = false := fun p => (k_r.below p.h).frozen 1
  have c_r_2 : ∀ p : BW W1, p.w.cell? ⟨g_r, 2, none⟩ = some (.int .i64 0) := bw_cell (k_r.cell rfl)
  have f_r_2 : ∀ p : BW W1, p.w.frozen? ⟨g_r, 2, none⟩ = false := fun p => (k_r.below p.h).frozen 2
  obtain ⟨p1, hp1⟩ : ∃ p : BW W1, p.w = W1 := ⟨BW.start W1, rfl⟩
  rw [← hp1]
  clear hp1
  refine wp_region_bw_tail 12 (by kernel_rfl) (by kernel_rfl) (by kernel_rfl) ?_
  simp only [List.take_succ_cons, List.take_zero, List.drop_succ_cons, List.drop_zero]
  repeat (go_big_quiet_step (first
    | (go_at_call 48; (first | (with_reducible exact bw_call R0.out _) | (with_reducible exact bw_call R1.out _) | (with_reducible exact bw_call R2.out _)))))
  refine wpQuiet_nil ?_
  intro _ hw'
  obtain ⟨q, rfl⟩ := hw'
  go_wp2
  have kr : Bk (((q.w.setCell ⟨g_r, 0, none⟩ (.int .i64 r0)).setCell ⟨g_r, 1, none⟩ (.int .i64 r1)).setCell ⟨g_r, 2, none⟩ (.int .i64 r2)) (g_r) 23 #[.int .i64 r0, .int .i64 r1, .int .i64 r2] := ((((k_r.below q.h).set 0 (.int .i64 r0)).set 1 (.int .i64 r1)).set 2 (.int .i64 r2))
  have rc0 : World.cell? (((q.w.setCell ⟨g_r, 0, none⟩ (.int .i64 r0)).setCell ⟨g_r, 1, none⟩ (.int .i64 r1)).setCell ⟨g_r, 2, none⟩ (.int .i64 r2)) ⟨g_r, 0, none⟩ = some (.int .i64 r0) := kr.cell rfl
  have rc1 : World.cell? (((q.w.setCell ⟨g_r, 0, none⟩ (.int .i64 r0)).setCell ⟨g_r, 1, none⟩ (.int .i64 r1)).setCell ⟨g_r, 2, none⟩ (.int .i64 r2)) ⟨g_r, 1, none⟩ = some (.int .i64 r1) := kr.cell rfl
  have rc2 : World.cell? (((q.w.setCell ⟨g_r, 0, none⟩ (.int .i64 r0)).setCell ⟨g_r, 1, none⟩ (.int .i64 r1)).setCell ⟨g_r, 2, none⟩ (.int .i64 r2)) ⟨g_r, 2, none⟩ = some (.int .i64 r2) := kr.cell rfl
  exact bodyPost_ret (v := .agg #[.int .i64 r0, .int .i64 r1, .int .i64 r2]) (by simp [results, Try.results38, go_sem, rc0, rc1, rc2]) rfl ⟨rfl, ((((bw_below B1 q).setCell (p := ⟨g_r, 0, none⟩) (by show w.heap.size ≤ g_r; omega) _).setCell (p := ⟨g_r, 1, none⟩) (by show w.heap.size ≤ g_r; omega) _).setCell (p := ⟨g_r, 2, none⟩) (by show w.heap.size ≤ g_r; omega) _)⟩

set_option maxRecDepth 100000 in
set_option maxHeartbeats 4000000 in
theorem pose_columns (a1 a2 a3 a4 a5 a6 a7 a8 a9 a10 a11 a12 : Int) (w : World) :
    Calls Try.prog 37 #[.agg #[.int .i64 a1, .int .i64 a2, .int .i64 a3, .int .i64 a4, .int .i64 a5, .int .i64 a6, .int .i64 a7, .int .i64 a8, .int .i64 a9, .int .i64 a10, .int .i64 a11, .int .i64 a12]] w fun e w' => e = .returned (.agg #[.int .i64 a1, .int .i64 a4, .int .i64 a7, .int .i64 a2, .int .i64 a5, .int .i64 a8, .int .i64 a3, .int .i64 a6, .int .i64 a9, .int .i64 0, .int .i64 0, .int .i64 0]) ∧ Below w.heap.size w w' := by
  go_enter Try.func37, Try.ntmps37
  go_upto_region 1 with (fail)
  obtain ⟨W1, hW1⟩ : ∃ W, W = (w.alloc (.cells #[.int .i64 a1, .int .i64 a2, .int .i64 a3, .int .i64 a4, .int .i64 a5, .int .i64 a6, .int .i64 a7, .int .i64 a8, .int .i64 a9, .int .i64 a10, .int .i64 a11, .int .i64 a12] 29)).alloc (.cells #[.int .i64 0, .int .i64 0, .int .i64 0, .int .i64 0, .int .i64 0, .int .i64 0, .int .i64 0, .int .i64 0, .int .i64 0, .int .i64 0, .int .i64 0, .int .i64 0] 29) := ⟨_, rfl⟩
  have B1 : Below w.heap.size w W1 := by rw [hW1]; go_grown
  have k_p : Bk W1 (w.heap.size) 29 #[.int .i64 a1, .int .i64 a2, .int .i64 a3, .int .i64 a4, .int .i64 a5, .int .i64 a6, .int .i64 a7, .int .i64 a8, .int .i64 a9, .int .i64 a10, .int .i64 a11, .int .i64 a12] := by rw [hW1]; exact (Bk.new _ _ _).alloc _
  have k_r : Bk W1 (w.heap.size + 1) 29 #[.int .i64 0, .int .i64 0, .int .i64 0, .int .i64 0, .int .i64 0, .int .i64 0, .int .i64 0, .int .i64 0, .int .i64 0, .int .i64 0, .int .i64 0, .int .i64 0] := by rw [hW1]; exact Bk.new_at _ _ _ _ (by simp)
  rw [← hW1]
  clear hW1
  have l_r : w.heap.size < w.heap.size + 1 := by omega
  generalize w.heap.size + 1 = g_r at *
  have c_p_0 : ∀ p : BW W1, p.w.cell? ⟨w.heap.size, 0, none⟩ = some (.int .i64 a1) := bw_cell (k_p.cell rfl)
  have c_p_1 : ∀ p : BW W1, p.w.cell? ⟨w.heap.size, 1, none⟩ = some (.int .i64 a2) := bw_cell (k_p.cell rfl)
  have c_p_2 : ∀ p : BW W1, p.w.cell? ⟨w.heap.size, 2, none⟩ = some (.int .i64 a3) := bw_cell (k_p.cell rfl)
  have c_p_3 : ∀ p : BW W1, p.w.cell? ⟨w.heap.size, 3, none⟩ = some (.int .i64 a4) := bw_cell (k_p.cell rfl)
  have c_p_4 : ∀ p : BW W1, p.w.cell? ⟨w.heap.size, 4, none⟩ = some (.int .i64 a5) := bw_cell (k_p.cell rfl)
  have c_p_5 : ∀ p : BW W1, p.w.cell? ⟨w.heap.size, 5, none⟩ = some (.int .i64 a6) := bw_cell (k_p.cell rfl)
  have c_p_6 : ∀ p : BW W1, p.w.cell? ⟨w.heap.size, 6, none⟩ = some (.int .i64 a7) := bw_cell (k_p.cell rfl)
  have c_p_7 : ∀ p : BW W1, p.w.cell? ⟨w.heap.size, 7, none⟩ = some (.int .i64 a8) := bw_cell (k_p.cell rfl)
  have c_p_8 : ∀ p : BW W1, p.w.cell? ⟨w.heap.size, 8, none⟩ = some (.int .i64 a9) := bw_cell (k_p.cell rfl)
  have c_p_9 : ∀ p : BW W1, p.w.cell? ⟨w.heap.size, 9, none⟩ = some (.int .i64 a10) := bw_cell (k_p.cell rfl)
  have c_p_10 : ∀ p : BW W1, p.w.cell? ⟨w.heap.size, 10, none⟩ = some (.int .i64 a11) := bw_cell (k_p.cell rfl)
  have c_p_11 : ∀ p : BW W1, p.w.cell? ⟨w.heap.size, 11, none⟩ = some (.int .i64 a12) := bw_cell (k_p.cell rfl)
  have c_r_0 : ∀ p : BW W1, p.w.cell? ⟨g_r, 0, none⟩ = some (.int .i64 0) := bw_cell (k_r.cell rfl)
  have f_r_0 : ∀ p : BW W1, p.w.frozen? ⟨g_r, 0, none⟩ = false := fun p => (k_r.below p.h).frozen 0
  have c_r_1 : ∀ p : BW W1, p.w.cell? ⟨g_r, 1, none⟩ = some (.int .i64 0) := bw_cell (k_r.cell rfl)
  have f_r_1 : ∀ p : BW W1, p.w.frozen? ⟨g_r, 1, none⟩ = false := fun p => (k_r.below p.h).frozen 1
  have c_r_2 : ∀ p : BW W1, p.w.cell? ⟨g_r, 2, none⟩ = some (.int .i64 0) := bw_cell (k_r.cell rfl)
  have f_r_2 : ∀ p : BW W1, p.w.frozen? ⟨g_r, 2, none⟩ = false := fun p => (k_r.below p.h).frozen 2
  have c_r_3 : ∀ p : BW W1, p.w.cell? ⟨g_r, 3, none⟩ = some (.int .i64 0) := bw_cell (k_r.cell rfl)
  have f_r_3 : ∀ p : BW W1, p.w.frozen? ⟨g_r, 3, none⟩ = false := fun p => (k_r.below p.h).frozen 3
  have c_r_4 : ∀ p : BW W1, p.w.cell? ⟨g_r, 4, none⟩ = some (.int .i64 0) := bw_cell (k_r.cell rfl)
  have f_r_4 : ∀ p : BW W1, p.w.frozen? ⟨g_r, 4, none⟩ = false := fun p => (k_r.below p.h).frozen 4
  have c_r_5 : ∀ p : BW W1, p.w.cell? ⟨g_r, 5, none⟩ = some (.int .i64 0) := bw_cell (k_r.cell rfl)
  have f_r_5 : ∀ p : BW W1, p.w.frozen? ⟨g_r, 5, none⟩ = false := fun p => (k_r.below p.h).frozen 5
  have c_r_6 : ∀ p : BW W1, p.w.cell? ⟨g_r, 6, none⟩ = some (.int .i64 0) := bw_cell (k_r.cell rfl)
  have f_r_6 : ∀ p : BW W1, p.w.frozen? ⟨g_r, 6, none⟩ = false := fun p => (k_r.below p.h).frozen 6
  have c_r_7 : ∀ p : BW W1, p.w.cell? ⟨g_r, 7, none⟩ = some (.int .i64 0) := bw_cell (k_r.cell rfl)
  have f_r_7 : ∀ p : BW W1, p.w.frozen? ⟨g_r, 7, none⟩ = false := fun p => (k_r.below p.h).frozen 7
  have c_r_8 : ∀ p : BW W1, p.w.cell? ⟨g_r, 8, none⟩ = some (.int .i64 0) := bw_cell (k_r.cell rfl)
  have f_r_8 : ∀ p : BW W1, p.w.frozen? ⟨g_r, 8, none⟩ = false := fun p => (k_r.below p.h).frozen 8
  have c_r_9 : ∀ p : BW W1, p.w.cell? ⟨g_r, 9, none⟩ = some (.int .i64 0) := bw_cell (k_r.cell rfl)
  have f_r_9 : ∀ p : BW W1, p.w.frozen? ⟨g_r, 9, none⟩ = false := fun p => (k_r.below p.h).frozen 9
  have c_r_10 : ∀ p : BW W1, p.w.cell? ⟨g_r, 10, none⟩ = some (.int .i64 0) := bw_cell (k_r.cell rfl)
  have f_r_10 : ∀ p : BW W1, p.w.frozen? ⟨g_r, 10, none⟩ = false := fun p => (k_r.below p.h).frozen 10
  have c_r_11 : ∀ p : BW W1, p.w.cell? ⟨g_r, 11, none⟩ = some (.int .i64 0) := bw_cell (k_r.cell rfl)
  have f_r_11 : ∀ p : BW W1, p.w.frozen? ⟨g_r, 11, none⟩ = false := fun p => (k_r.below p.h).frozen 11
  obtain ⟨p1, hp1⟩ : ∃ p : BW W1, p.w = W1 := ⟨BW.start W1, rfl⟩
  rw [← hp1]
  clear hp1
  go_wp2
  have kr : Bk ((((((((((((p1.w.setCell ⟨g_r, 0, none⟩ (.int .i64 a1)).setCell ⟨g_r, 1, none⟩ (.int .i64 a4)).setCell ⟨g_r, 2, none⟩ (.int .i64 a7)).setCell ⟨g_r, 3, none⟩ (.int .i64 a2)).setCell ⟨g_r, 4, none⟩ (.int .i64 a5)).setCell ⟨g_r, 5, none⟩ (.int .i64 a8)).setCell ⟨g_r, 6, none⟩ (.int .i64 a3)).setCell ⟨g_r, 7, none⟩ (.int .i64 a6)).setCell ⟨g_r, 8, none⟩ (.int .i64 a9)).setCell ⟨g_r, 9, none⟩ (.int .i64 0)).setCell ⟨g_r, 10, none⟩ (.int .i64 0)).setCell ⟨g_r, 11, none⟩ (.int .i64 0)) (g_r) 29 #[.int .i64 a1, .int .i64 a4, .int .i64 a7, .int .i64 a2, .int .i64 a5, .int .i64 a8, .int .i64 a3, .int .i64 a6, .int .i64 a9, .int .i64 0, .int .i64 0, .int .i64 0] := (((((((((((((k_r.below p1.h).set 0 (.int .i64 a1)).set 1 (.int .i64 a4)).set 2 (.int .i64 a7)).set 3 (.int .i64 a2)).set 4 (.int .i64 a5)).set 5 (.int .i64 a8)).set 6 (.int .i64 a3)).set 7 (.int .i64 a6)).set 8 (.int .i64 a9)).set 9 (.int .i64 0)).set 10 (.int .i64 0)).set 11 (.int .i64 0)).cast (by simp)
  have rc0 : World.cell? ((((((((((((p1.w.setCell ⟨g_r, 0, none⟩ (.int .i64 a1)).setCell ⟨g_r, 1, none⟩ (.int .i64 a4)).setCell ⟨g_r, 2, none⟩ (.int .i64 a7)).setCell ⟨g_r, 3, none⟩ (.int .i64 a2)).setCell ⟨g_r, 4, none⟩ (.int .i64 a5)).setCell ⟨g_r, 5, none⟩ (.int .i64 a8)).setCell ⟨g_r, 6, none⟩ (.int .i64 a3)).setCell ⟨g_r, 7, none⟩ (.int .i64 a6)).setCell ⟨g_r, 8, none⟩ (.int .i64 a9)).setCell ⟨g_r, 9, none⟩ (.int .i64 0)).setCell ⟨g_r, 10, none⟩ (.int .i64 0)).setCell ⟨g_r, 11, none⟩ (.int .i64 0)) ⟨g_r, 0, none⟩ = some (.int .i64 a1) := kr.cell rfl
  have rc1 : World.cell? ((((((((((((p1.w.setCell ⟨g_r, 0, none⟩ (.int .i64 a1)).setCell ⟨g_r, 1, none⟩ (.int .i64 a4)).setCell ⟨g_r, 2, none⟩ (.int .i64 a7)).setCell ⟨g_r, 3, none⟩ (.int .i64 a2)).setCell ⟨g_r, 4, none⟩ (.int .i64 a5)).setCell ⟨g_r, 5, none⟩ (.int .i64 a8)).setCell ⟨g_r, 6, none⟩ (.int .i64 a3)).setCell ⟨g_r, 7, none⟩ (.int .i64 a6)).setCell ⟨g_r, 8, none⟩ (.int .i64 a9)).setCell ⟨g_r, 9, none⟩ (.int .i64 0)).setCell ⟨g_r, 10, none⟩ (.int .i64 0)).setCell ⟨g_r, 11, none⟩ (.int .i64 0)) ⟨g_r, 1, none⟩ = some (.int .i64 a4) := kr.cell rfl
  have rc2 : World.cell? ((((((((((((p1.w.setCell ⟨g_r, 0, none⟩ (.int .i64 a1)).setCell ⟨g_r, 1, none⟩ (.int .i64 a4)).setCell ⟨g_r, 2, none⟩ (.int .i64 a7)).setCell ⟨g_r, 3, none⟩ (.int .i64 a2)).setCell ⟨g_r, 4, none⟩ (.int .i64 a5)).setCell ⟨g_r, 5, none⟩ (.int .i64 a8)).setCell ⟨g_r, 6, none⟩ (.int .i64 a3)).setCell ⟨g_r, 7, none⟩ (.int .i64 a6)).setCell ⟨g_r, 8, none⟩ (.int .i64 a9)).setCell ⟨g_r, 9, none⟩ (.int .i64 0)).setCell ⟨g_r, 10, none⟩ (.int .i64 0)).setCell ⟨g_r, 11, none⟩ (.int .i64 0)) ⟨g_r, 2, none⟩ = some (.int .i64 a7) := kr.cell rfl
  have rc3 : World.cell? ((((((((((((p1.w.setCell ⟨g_r, 0, none⟩ (.int .i64 a1)).setCell ⟨g_r, 1, none⟩ (.int .i64 a4)).setCell ⟨g_r, 2, none⟩ (.int .i64 a7)).setCell ⟨g_r, 3, none⟩ (.int .i64 a2)).setCell ⟨g_r, 4, none⟩ (.int .i64 a5)).setCell ⟨g_r, 5, none⟩ (.int .i64 a8)).setCell ⟨g_r, 6, none⟩ (.int .i64 a3)).setCell ⟨g_r, 7, none⟩ (.int .i64 a6)).setCell ⟨g_r, 8, none⟩ (.int .i64 a9)).setCell ⟨g_r, 9, none⟩ (.int .i64 0)).setCell ⟨g_r, 10, none⟩ (.int .i64 0)).setCell ⟨g_r, 11, none⟩ (.int .i64 0)) ⟨g_r, 3, none⟩ = some (.int .i64 a2) := kr.cell rfl
  have rc4 : World.cell? ((((((((((((p1.w.setCell ⟨g_r, 0, none⟩ (.int .i64 a1)).setCell ⟨g_r, 1, none⟩ (.int .i64 a4)).setCell ⟨g_r, 2, none⟩ (.int .i64 a7)).setCell ⟨g_r, 3, none⟩ (.int .i64 a2)).setCell ⟨g_r, 4, none⟩ (.int .i64 a5)).setCell ⟨g_r, 5, none⟩ (.int .i64 a8)).setCell ⟨g_r, 6, none⟩ (.int .i64 a3)).setCell ⟨g_r, 7, none⟩ (.int .i64 a6)).setCell ⟨g_r, 8, none⟩ (.int .i64 a9)).setCell ⟨g_r, 9, none⟩ (.int .i64 0)).setCell ⟨g_r, 10, none⟩ (.int .i64 0)).setCell ⟨g_r, 11, none⟩ (.int .i64 0)) ⟨g_r, 4, none⟩ = some (.int .i64 a5) := kr.cell rfl
  have rc5 : World.cell? ((((((((((((p1.w.setCell ⟨g_r, 0, none⟩ (.int .i64 a1)).setCell ⟨g_r, 1, none⟩ (.int .i64 a4)).setCell ⟨g_r, 2, none⟩ (.int .i64 a7)).setCell ⟨g_r, 3, none⟩ (.int .i64 a2)).setCell ⟨g_r, 4, none⟩ (.int .i64 a5)).setCell ⟨g_r, 5, none⟩ (.int .i64 a8)).setCell ⟨g_r, 6, none⟩ (.int .i64 a3)).setCell ⟨g_r, 7, none⟩ (.int .i64 a6)).setCell ⟨g_r, 8, none⟩ (.int .i64 a9)).setCell ⟨g_r, 9, none⟩ (.int .i64 0)).setCell ⟨g_r, 10, none⟩ (.int .i64 0)).setCell ⟨g_r, 11, none⟩ (.int .i64 0)) ⟨g_r, 5, none⟩ = some (.int .i64 a8) := kr.cell rfl
  have rc6 : World.cell? ((((((((((((p1.w.setCell ⟨g_r, 0, none⟩ (.int .i64 a1)).setCell ⟨g_r, 1, none⟩ (.int .i64 a4)).setCell ⟨g_r, 2, none⟩ (.int .i64 a7)).setCell ⟨g_r, 3, none⟩ (.int .i64 a2)).setCell ⟨g_r, 4, none⟩ (.int .i64 a5)).setCell ⟨g_r, 5, none⟩ (.int .i64 a8)).setCell ⟨g_r, 6, none⟩ (.int .i64 a3)).setCell ⟨g_r, 7, none⟩ (.int .i64 a6)).setCell ⟨g_r, 8, none⟩ (.int .i64 a9)).setCell ⟨g_r, 9, none⟩ (.int .i64 0)).setCell ⟨g_r, 10, none⟩ (.int .i64 0)).setCell ⟨g_r, 11, none⟩ (.int .i64 0)) ⟨g_r, 6, none⟩ = some (.int .i64 a3) := kr.cell rfl
  have rc7 : World.cell? ((((((((((((p1.w.setCell ⟨g_r, 0, none⟩ (.int .i64 a1)).setCell ⟨g_r, 1, none⟩ (.int .i64 a4)).setCell ⟨g_r, 2, none⟩ (.int .i64 a7)).setCell ⟨g_r, 3, none⟩ (.int .i64 a2)).setCell ⟨g_r, 4, none⟩ (.int .i64 a5)).setCell ⟨g_r, 5, none⟩ (.int .i64 a8)).setCell ⟨g_r, 6, none⟩ (.int .i64 a3)).setCell ⟨g_r, 7, none⟩ (.int .i64 a6)).setCell ⟨g_r, 8, none⟩ (.int .i64 a9)).setCell ⟨g_r, 9, none⟩ (.int .i64 0)).setCell ⟨g_r, 10, none⟩ (.int .i64 0)).setCell ⟨g_r, 11, none⟩ (.int .i64 0)) ⟨g_r, 7, none⟩ = some (.int .i64 a6) := kr.cell rfl
  have rc8 : World.cell? ((((((((((((p1.w.setCell ⟨g_r, 0, none⟩ (.int .i64 a1)).setCell ⟨g_r, 1, none⟩ (.int .i64 a4)).setCell ⟨g_r, 2, none⟩ (.int .i64 a7)).setCell ⟨g_r, 3, none⟩ (.int .i64 a2)).setCell ⟨g_r, 4, none⟩ (.int .i64 a5)).setCell ⟨g_r, 5, none⟩ (.int .i64 a8)).setCell ⟨g_r, 6, none⟩ (.int .i64 a3)).setCell ⟨g_r, 7, none⟩ (.int .i64 a6)).setCell ⟨g_r, 8, none⟩ (.int .i64 a9)).setCell ⟨g_r, 9, none⟩ (.int .i64 0)).setCell ⟨g_r, 10, none⟩ (.int .i64 0)).setCell ⟨g_r, 11, none⟩ (.int .i64 0)) ⟨g_r, 8, none⟩ = some (.int .i64 a9) := kr.cell rfl
  have rc9 : World.cell? ((((((((((((p1.w.setCell ⟨g_r, 0, none⟩ (.int .i64 a1)).setCell ⟨g_r, 1, none⟩ (.int .i64 a4)).setCell ⟨g_r, 2, none⟩ (.int .i64 a7)).setCell ⟨g_r, 3, none⟩ (.int .i64 a2)).setCell ⟨g_r, 4, none⟩ (.int .i64 a5)).setCell ⟨g_r, 5, none⟩ (.int .i64 a8)).setCell ⟨g_r, 6, none⟩ (.int .i64 a3)).setCell ⟨g_r, 7, none⟩ (.int .i64 a6)).setCell ⟨g_r, 8, none⟩ (.int .i64 a9)).setCell ⟨g_r, 9, none⟩ (.int .i64 0)).setCell ⟨g_r, 10, none⟩ (.int .i64 0)).setCell ⟨g_r, 11, none⟩ (.int .i64 0)) ⟨g_r, 9, none⟩ = some (.int .i64 0) := kr.cell rfl
  have rc10 : World.cell? ((((((((((((p1.w.setCell ⟨g_r, 0, none⟩ (.int .i64 a1)).setCell ⟨g_r, 1, none⟩ (.int .i64 a4)).setCell ⟨g_r, 2, none⟩ (.int .i64 a7)).setCell ⟨g_r, 3, none⟩ (.int .i64 a2)).setCell ⟨g_r, 4, none⟩ (.int .i64 a5)).setCell ⟨g_r, 5, none⟩ (.int .i64 a8)).setCell ⟨g_r, 6, none⟩ (.int .i64 a3)).setCell ⟨g_r, 7, none⟩ (.int .i64 a6)).setCell ⟨g_r, 8, none⟩ (.int .i64 a9)).setCell ⟨g_r, 9, none⟩ (.int .i64 0)).setCell ⟨g_r, 10, none⟩ (.int .i64 0)).setCell ⟨g_r, 11, none⟩ (.int .i64 0)) ⟨g_r, 10, none⟩ = some (.int .i64 0) := kr.cell rfl
  have rc11 : World.cell? ((((((((((((p1.w.setCell ⟨g_r, 0, none⟩ (.int .i64 a1)).setCell ⟨g_r, 1, none⟩ (.int .i64 a4)).setCell ⟨g_r, 2, none⟩ (.int .i64 a7)).setCell ⟨g_r, 3, none⟩ (.int .i64 a2)).setCell ⟨g_r, 4, none⟩ (.int .i64 a5)).setCell ⟨g_r, 5, none⟩ (.int .i64 a8)).setCell ⟨g_r, 6, none⟩ (.int .i64 a3)).setCell ⟨g_r, 7, none⟩ (.int .i64 a6)).setCell ⟨g_r, 8, none⟩ (.int .i64 a9)).setCell ⟨g_r, 9, none⟩ (.int .i64 0)).setCell ⟨g_r, 10, none⟩ (.int .i64 0)).setCell ⟨g_r, 11, none⟩ (.int .i64 0)) ⟨g_r, 11, none⟩ = some (.int .i64 0) := kr.cell rfl
  exact bodyPost_ret (v := .agg #[.int .i64 a1, .int .i64 a4, .int .i64 a7, .int .i64 a2, .int .i64 a5, .int .i64 a8, .int .i64 a3, .int .i64 a6, .int .i64 a9, .int .i64 0, .int .i64 0, .int .i64 0]) (by simp [results, Try.results37, go_sem, rc0, rc1, rc2, rc3, rc4, rc5, rc6, rc7, rc8, rc9, rc10, rc11]) rfl ⟨rfl, (((((((((((((bw_below B1 p1).setCell (p := ⟨g_r, 0, none⟩) (by show w.heap.size ≤ g_r; omega) _).setCell (p := ⟨g_r, 1, none⟩) (by show w.heap.size ≤ g_r; omega) _).setCell (p := ⟨g_r, 2, none⟩) (by show w.heap.size ≤ g_r; omega) _).setCell (p := ⟨g_r, 3, none⟩) (by show w.heap.size ≤ g_r; omega) _).setCell (p := ⟨g_r, 4, none⟩) (by show w.heap.size ≤ g_r; omega) _).setCell (p := ⟨g_r, 5, none⟩) (by show w.heap.size ≤ g_r; omega) _).setCell (p := ⟨g_r, 6, none⟩) (by show w.heap.size ≤ g_r; omega) _).setCell (p := ⟨g_r, 7, none⟩) (by show w.heap.size ≤ g_r; omega) _).setCell (p := ⟨g_r, 8, none⟩) (by show w.heap.size ≤ g_r; omega) _).setCell (p := ⟨g_r, 9, none⟩) (by show w.heap.size ≤ g_r; omega) _).setCell (p := ⟨g_r, 10, none⟩) (by show w.heap.size ≤ g_r; omega) _).setCell (p := ⟨g_r, 11, none⟩) (by show w.heap.size ≤ g_r; omega) _)⟩

set_option maxRecDepth 100000 in
set_option maxHeartbeats 4000000 in
theorem pose_turn0 (p c s : Nat) (n m u1 u2 u3 u4 u5 u6 u7 u8 u9 u10 u11 u12 : Int) (w : World) (hm : -16384 ≤ m ∧ m ≤ 16384) (kc : Bk w c 3 #[.int .i64 n]) (l_c : c < p) (ks : Bk w s 3 #[.int .i64 m]) (l_s : s < p) (kp : Bk w p 29 #[.int .i64 u1, .int .i64 u2, .int .i64 u3, .int .i64 u4, .int .i64 u5, .int .i64 u6, .int .i64 u7, .int .i64 u8, .int .i64 u9, .int .i64 u10, .int .i64 u11, .int .i64 u12]) :
    Calls Try.prog 28 (#[.pointer (some ⟨p, 0, none⟩)] ++ #[.pointer (some ⟨c, 0, none⟩), .pointer (some ⟨s, 0, none⟩)]) w fun e w' => (∃ v, e = .returned v) ∧ Below p w w' ∧ Bk w' p 29 #[.int .i64 u1, .int .i64 u2, .int .i64 u3, .int .i64 0, .int .i64 n, .int .i64 (-m), .int .i64 0, .int .i64 m, .int .i64 n, .int .i64 u10, .int .i64 u11, .int .i64 u12] := by
  have e1 : wrap64 (-m) = -m := by unfold wrap64; omega
  clear hm
  have B : Below p w w := Below.refl _ _
  simp only [List.append_toArray, List.cons_append, List.nil_append]
  go_enter Try.func28, Try.ntmps28
  have c_c_0 : w.cell? ⟨c, 0, none⟩ = some (.int .i64 n) := kc.cell rfl
  have c_s_0 : w.cell? ⟨s, 0, none⟩ = some (.int .i64 m) := ks.cell rfl
  have d_3 : w.cell? ⟨p, 3, none⟩ = some (.int .i64 u4) := kp.cell rfl
  have d_4 : w.cell? ⟨p, 4, none⟩ = some (.int .i64 u5) := kp.cell rfl
  have d_5 : w.cell? ⟨p, 5, none⟩ = some (.int .i64 u6) := kp.cell rfl
  have f_3 : w.frozen? ⟨p, 3, none⟩ = false := kp.frozen 3
  have f_4 : w.frozen? ⟨p, 4, none⟩ = false := kp.frozen 4
  have f_5 : w.frozen? ⟨p, 5, none⟩ = false := kp.frozen 5
  go_upto_region 1 with (fail)
  obtain ⟨V1, hV1⟩ : ∃ W, W = ((w.setCell ⟨p, 3, none⟩ (.int .i64 0)).setCell ⟨p, 4, none⟩ (.int .i64 n)).setCell ⟨p, 5, none⟩ (.int .i64 (-m)) := ⟨_, rfl⟩
  replace kp : Bk V1 p 29 #[.int .i64 u1, .int .i64 u2, .int .i64 u3, .int .i64 0, .int .i64 n, .int .i64 (-m), .int .i64 u7, .int .i64 u8, .int .i64 u9, .int .i64 u10, .int .i64 u11, .int .i64 u12] := by rw [hV1]; exact (((kp.set 3 (.int .i64 0)).set 4 (.int .i64 n)).set 5 (.int .i64 (-m))).cast (by simp)
  replace kc : Bk V1 c 3 #[.int .i64 n] := by rw [hV1]; exact (((kc.other (a := ⟨p, 3, none⟩) (by show ¬ c = p; omega) (.int .i64 0)).other (a := ⟨p, 4, none⟩) (by show ¬ c = p; omega) (.int .i64 n)).other (a := ⟨p, 5, none⟩) (by show ¬ c = p; omega) (.int .i64 (-m)))
  replace ks : Bk V1 s 3 #[.int .i64 m] := by rw [hV1]; exact (((ks.other (a := ⟨p, 3, none⟩) (by show ¬ s = p; omega) (.int .i64 0)).other (a := ⟨p, 4, none⟩) (by show ¬ s = p; omega) (.int .i64 n)).other (a := ⟨p, 5, none⟩) (by show ¬ s = p; omega) (.int .i64 (-m)))
  replace B : Below p w V1 := by rw [hV1]; exact (((B.setCell (p := ⟨p, 3, none⟩) (by show p ≤ p; omega) _).setCell (p := ⟨p, 4, none⟩) (by show p ≤ p; omega) _).setCell (p := ⟨p, 5, none⟩) (by show p ≤ p; omega) _)
  rw [← hV1]
  clear hV1
  clear c_c_0 c_s_0 d_3 d_4 d_5 f_3 f_4 f_5
  have c_c_0 : V1.cell? ⟨c, 0, none⟩ = some (.int .i64 n) := kc.cell rfl
  have c_s_0 : V1.cell? ⟨s, 0, none⟩ = some (.int .i64 m) := ks.cell rfl
  have d_6 : V1.cell? ⟨p, 6, none⟩ = some (.int .i64 u7) := kp.cell rfl
  have d_7 : V1.cell? ⟨p, 7, none⟩ = some (.int .i64 u8) := kp.cell rfl
  have d_8 : V1.cell? ⟨p, 8, none⟩ = some (.int .i64 u9) := kp.cell rfl
  have f_6 : V1.frozen? ⟨p, 6, none⟩ = false := kp.frozen 6
  have f_7 : V1.frozen? ⟨p, 7, none⟩ = false := kp.frozen 7
  have f_8 : V1.frozen? ⟨p, 8, none⟩ = false := kp.frozen 8
  go_wp2
  obtain ⟨V2, hV2⟩ : ∃ W, W = ((V1.setCell ⟨p, 6, none⟩ (.int .i64 0)).setCell ⟨p, 7, none⟩ (.int .i64 m)).setCell ⟨p, 8, none⟩ (.int .i64 n) := ⟨_, rfl⟩
  replace kp : Bk V2 p 29 #[.int .i64 u1, .int .i64 u2, .int .i64 u3, .int .i64 0, .int .i64 n, .int .i64 (-m), .int .i64 0, .int .i64 m, .int .i64 n, .int .i64 u10, .int .i64 u11, .int .i64 u12] := by rw [hV2]; exact (((kp.set 6 (.int .i64 0)).set 7 (.int .i64 m)).set 8 (.int .i64 n)).cast (by simp)
  replace kc : Bk V2 c 3 #[.int .i64 n] := by rw [hV2]; exact (((kc.other (a := ⟨p, 6, none⟩) (by show ¬ c = p; omega) (.int .i64 0)).other (a := ⟨p, 7, none⟩) (by show ¬ c = p; omega) (.int .i64 m)).other (a := ⟨p, 8, none⟩) (by show ¬ c = p; omega) (.int .i64 n))
  replace ks : Bk V2 s 3 #[.int .i64 m] := by rw [hV2]; exact (((ks.other (a := ⟨p, 6, none⟩) (by show ¬ s = p; omega) (.int .i64 0)).other (a := ⟨p, 7, none⟩) (by show ¬ s = p; omega) (.int .i64 m)).other (a := ⟨p, 8, none⟩) (by show ¬ s = p; omega) (.int .i64 n))
  replace B : Below p w V2 := by rw [hV2]; exact (((B.setCell (p := ⟨p, 6, none⟩) (by show p ≤ p; omega) _).setCell (p := ⟨p, 7, none⟩) (by show p ≤ p; omega) _).setCell (p := ⟨p, 8, none⟩) (by show p ≤ p; omega) _)
  rw [← hV2]
  clear hV2
  clear c_c_0 c_s_0 d_6 d_7 d_8 f_6 f_7 f_8
  go_end0
  exact ⟨⟨_, rfl⟩, B, kp⟩

set_option maxRecDepth 100000 in
set_option maxHeartbeats 4000000 in
theorem pose_turn1 (p s c : Nat) (n m u1 u2 u3 u4 u5 u6 u7 u8 u9 u10 u11 u12 : Int) (w : World) (hm : -16384 ≤ m ∧ m ≤ 16384) (ks : Bk w s 3 #[.int .i64 m]) (l_s : s < p) (kc : Bk w c 3 #[.int .i64 n]) (l_c : c < p) (kp : Bk w p 29 #[.int .i64 u1, .int .i64 u2, .int .i64 u3, .int .i64 u4, .int .i64 u5, .int .i64 u6, .int .i64 u7, .int .i64 u8, .int .i64 u9, .int .i64 u10, .int .i64 u11, .int .i64 u12]) :
    Calls Try.prog 29 (#[.pointer (some ⟨p, 0, none⟩)] ++ #[.pointer (some ⟨s, 0, none⟩), .pointer (some ⟨c, 0, none⟩)]) w fun e w' => (∃ v, e = .returned v) ∧ Below p w w' ∧ Bk w' p 29 #[.int .i64 n, .int .i64 0, .int .i64 m, .int .i64 u4, .int .i64 u5, .int .i64 u6, .int .i64 (-m), .int .i64 0, .int .i64 n, .int .i64 u10, .int .i64 u11, .int .i64 u12] := by
  have e1 : wrap64 (-m) = -m := by unfold wrap64; omega
  clear hm
  have B : Below p w w := Below.refl _ _
  simp only [List.append_toArray, List.cons_append, List.nil_append]
  go_enter Try.func29, Try.ntmps29
  have c_s_0 : w.cell? ⟨s, 0, none⟩ = some (.int .i64 m) := ks.cell rfl
  have c_c_0 : w.cell? ⟨c, 0, none⟩ = some (.int .i64 n) := kc.cell rfl
  have d_6 : w.cell? ⟨p, 6, none⟩ = some (.int .i64 u7) := kp.cell rfl
  have d_7 : w.cell? ⟨p, 7, none⟩ = some (.int .i64 u8) := kp.cell rfl
  have d_8 : w.cell? ⟨p, 8, none⟩ = some (.int .i64 u9) := kp.cell rfl
  have f_6 : w.frozen? ⟨p, 6, none⟩ = false := kp.frozen 6
  have f_7 : w.frozen? ⟨p, 7, none⟩ = false := kp.frozen 7
  have f_8 : w.frozen? ⟨p, 8, none⟩ = false := kp.frozen 8
  go_upto_region 1 with (fail)
  obtain ⟨V1, hV1⟩ : ∃ W, W = ((w.setCell ⟨p, 6, none⟩ (.int .i64 (-m))).setCell ⟨p, 7, none⟩ (.int .i64 0)).setCell ⟨p, 8, none⟩ (.int .i64 n) := ⟨_, rfl⟩
  replace kp : Bk V1 p 29 #[.int .i64 u1, .int .i64 u2, .int .i64 u3, .int .i64 u4, .int .i64 u5, .int .i64 u6, .int .i64 (-m), .int .i64 0, .int .i64 n, .int .i64 u10, .int .i64 u11, .int .i64 u12] := by rw [hV1]; exact (((kp.set 6 (.int .i64 (-m))).set 7 (.int .i64 0)).set 8 (.int .i64 n)).cast (by simp)
  replace ks : Bk V1 s 3 #[.int .i64 m] := by rw [hV1]; exact (((ks.other (a := ⟨p, 6, none⟩) (by show ¬ s = p; omega) (.int .i64 (-m))).other (a := ⟨p, 7, none⟩) (by show ¬ s = p; omega) (.int .i64 0)).other (a := ⟨p, 8, none⟩) (by show ¬ s = p; omega) (.int .i64 n))
  replace kc : Bk V1 c 3 #[.int .i64 n] := by rw [hV1]; exact (((kc.other (a := ⟨p, 6, none⟩) (by show ¬ c = p; omega) (.int .i64 (-m))).other (a := ⟨p, 7, none⟩) (by show ¬ c = p; omega) (.int .i64 0)).other (a := ⟨p, 8, none⟩) (by show ¬ c = p; omega) (.int .i64 n))
  replace B : Below p w V1 := by rw [hV1]; exact (((B.setCell (p := ⟨p, 6, none⟩) (by show p ≤ p; omega) _).setCell (p := ⟨p, 7, none⟩) (by show p ≤ p; omega) _).setCell (p := ⟨p, 8, none⟩) (by show p ≤ p; omega) _)
  rw [← hV1]
  clear hV1
  clear c_s_0 c_c_0 d_6 d_7 d_8 f_6 f_7 f_8
  have c_s_0 : V1.cell? ⟨s, 0, none⟩ = some (.int .i64 m) := ks.cell rfl
  have c_c_0 : V1.cell? ⟨c, 0, none⟩ = some (.int .i64 n) := kc.cell rfl
  have d_0 : V1.cell? ⟨p, 0, none⟩ = some (.int .i64 u1) := kp.cell rfl
  have d_1 : V1.cell? ⟨p, 1, none⟩ = some (.int .i64 u2) := kp.cell rfl
  have d_2 : V1.cell? ⟨p, 2, none⟩ = some (.int .i64 u3) := kp.cell rfl
  have f_0 : V1.frozen? ⟨p, 0, none⟩ = false := kp.frozen 0
  have f_1 : V1.frozen? ⟨p, 1, none⟩ = false := kp.frozen 1
  have f_2 : V1.frozen? ⟨p, 2, none⟩ = false := kp.frozen 2
  go_wp2
  obtain ⟨V2, hV2⟩ : ∃ W, W = ((V1.setCell ⟨p, 0, none⟩ (.int .i64 n)).setCell ⟨p, 1, none⟩ (.int .i64 0)).setCell ⟨p, 2, none⟩ (.int .i64 m) := ⟨_, rfl⟩
  replace kp : Bk V2 p 29 #[.int .i64 n, .int .i64 0, .int .i64 m, .int .i64 u4, .int .i64 u5, .int .i64 u6, .int .i64 (-m), .int .i64 0, .int .i64 n, .int .i64 u10, .int .i64 u11, .int .i64 u12] := by rw [hV2]; exact (((kp.set 0 (.int .i64 n)).set 1 (.int .i64 0)).set 2 (.int .i64 m)).cast (by simp)
  replace ks : Bk V2 s 3 #[.int .i64 m] := by rw [hV2]; exact (((ks.other (a := ⟨p, 0, none⟩) (by show ¬ s = p; omega) (.int .i64 n)).other (a := ⟨p, 1, none⟩) (by show ¬ s = p; omega) (.int .i64 0)).other (a := ⟨p, 2, none⟩) (by show ¬ s = p; omega) (.int .i64 m))
  replace kc : Bk V2 c 3 #[.int .i64 n] := by rw [hV2]; exact (((kc.other (a := ⟨p, 0, none⟩) (by show ¬ c = p; omega) (.int .i64 n)).other (a := ⟨p, 1, none⟩) (by show ¬ c = p; omega) (.int .i64 0)).other (a := ⟨p, 2, none⟩) (by show ¬ c = p; omega) (.int .i64 m))
  replace B : Below p w V2 := by rw [hV2]; exact (((B.setCell (p := ⟨p, 0, none⟩) (by show p ≤ p; omega) _).setCell (p := ⟨p, 1, none⟩) (by show p ≤ p; omega) _).setCell (p := ⟨p, 2, none⟩) (by show p ≤ p; omega) _)
  rw [← hV2]
  clear hV2
  clear c_s_0 c_c_0 d_0 d_1 d_2 f_0 f_1 f_2
  go_end0
  exact ⟨⟨_, rfl⟩, B, kp⟩

set_option maxRecDepth 100000 in
set_option maxHeartbeats 4000000 in
theorem pose_turn2 (p c s : Nat) (n m u1 u2 u3 u4 u5 u6 u7 u8 u9 u10 u11 u12 : Int) (w : World) (hm : -16384 ≤ m ∧ m ≤ 16384) (kc : Bk w c 3 #[.int .i64 n]) (l_c : c < p) (ks : Bk w s 3 #[.int .i64 m]) (l_s : s < p) (kp : Bk w p 29 #[.int .i64 u1, .int .i64 u2, .int .i64 u3, .int .i64 u4, .int .i64 u5, .int .i64 u6, .int .i64 u7, .int .i64 u8, .int .i64 u9, .int .i64 u10, .int .i64 u11, .int .i64 u12]) :
    Calls Try.prog 30 (#[.pointer (some ⟨p, 0, none⟩)] ++ #[.pointer (some ⟨c, 0, none⟩), .pointer (some ⟨s, 0, none⟩)]) w fun e w' => (∃ v, e = .returned v) ∧ Below p w w' ∧ Bk w' p 29 #[.int .i64 n, .int .i64 (-m), .int .i64 0, .int .i64 m, .int .i64 n, .int .i64 0, .int .i64 u7, .int .i64 u8, .int .i64 u9, .int .i64 u10, .int .i64 u11, .int .i64 u12] := by
  have e1 : wrap64 (-m) = -m := by unfold wrap64; omega
  clear hm
  have B : Below p w w := Below.refl _ _
  simp only [List.append_toArray, List.cons_append, List.nil_append]
  go_enter Try.func30, Try.ntmps30
  have c_c_0 : w.cell? ⟨c, 0, none⟩ = some (.int .i64 n) := kc.cell rfl
  have c_s_0 : w.cell? ⟨s, 0, none⟩ = some (.int .i64 m) := ks.cell rfl
  have d_0 : w.cell? ⟨p, 0, none⟩ = some (.int .i64 u1) := kp.cell rfl
  have d_1 : w.cell? ⟨p, 1, none⟩ = some (.int .i64 u2) := kp.cell rfl
  have d_2 : w.cell? ⟨p, 2, none⟩ = some (.int .i64 u3) := kp.cell rfl
  have f_0 : w.frozen? ⟨p, 0, none⟩ = false := kp.frozen 0
  have f_1 : w.frozen? ⟨p, 1, none⟩ = false := kp.frozen 1
  have f_2 : w.frozen? ⟨p, 2, none⟩ = false := kp.frozen 2
  go_upto_region 1 with (fail)
  obtain ⟨V1, hV1⟩ : ∃ W, W = ((w.setCell ⟨p, 0, none⟩ (.int .i64 n)).setCell ⟨p, 1, none⟩ (.int .i64 (-m))).setCell ⟨p, 2, none⟩ (.int .i64 0) := ⟨_, rfl⟩
  replace kp : Bk V1 p 29 #[.int .i64 n, .int .i64 (-m), .int .i64 0, .int .i64 u4, .int .i64 u5, .int .i64 u6, .int .i64 u7, .int .i64 u8, .int .i64 u9, .int .i64 u10, .int .i64 u11, .int .i64 u12] := by rw [hV1]; exact (((kp.set 0 (.int .i64 n)).set 1 (.int .i64 (-m))).set 2 (.int .i64 0)).cast (by simp)
  replace kc : Bk V1 c 3 #[.int .i64 n] := by rw [hV1]; exact (((kc.other (a := ⟨p, 0, none⟩) (by show ¬ c = p; omega) (.int .i64 n)).other (a := ⟨p, 1, none⟩) (by show ¬ c = p; omega) (.int .i64 (-m))).other (a := ⟨p, 2, none⟩) (by show ¬ c = p; omega) (.int .i64 0))
  replace ks : Bk V1 s 3 #[.int .i64 m] := by rw [hV1]; exact (((ks.other (a := ⟨p, 0, none⟩) (by show ¬ s = p; omega) (.int .i64 n)).other (a := ⟨p, 1, none⟩) (by show ¬ s = p; omega) (.int .i64 (-m))).other (a := ⟨p, 2, none⟩) (by show ¬ s = p; omega) (.int .i64 0))
  replace B : Below p w V1 := by rw [hV1]; exact (((B.setCell (p := ⟨p, 0, none⟩) (by show p ≤ p; omega) _).setCell (p := ⟨p, 1, none⟩) (by show p ≤ p; omega) _).setCell (p := ⟨p, 2, none⟩) (by show p ≤ p; omega) _)
  rw [← hV1]
  clear hV1
  clear c_c_0 c_s_0 d_0 d_1 d_2 f_0 f_1 f_2
  have c_c_0 : V1.cell? ⟨c, 0, none⟩ = some (.int .i64 n) := kc.cell rfl
  have c_s_0 : V1.cell? ⟨s, 0, none⟩ = some (.int .i64 m) := ks.cell rfl
  have d_3 : V1.cell? ⟨p, 3, none⟩ = some (.int .i64 u4) := kp.cell rfl
  have d_4 : V1.cell? ⟨p, 4, none⟩ = some (.int .i64 u5) := kp.cell rfl
  have d_5 : V1.cell? ⟨p, 5, none⟩ = some (.int .i64 u6) := kp.cell rfl
  have f_3 : V1.frozen? ⟨p, 3, none⟩ = false := kp.frozen 3
  have f_4 : V1.frozen? ⟨p, 4, none⟩ = false := kp.frozen 4
  have f_5 : V1.frozen? ⟨p, 5, none⟩ = false := kp.frozen 5
  go_wp2
  obtain ⟨V2, hV2⟩ : ∃ W, W = ((V1.setCell ⟨p, 3, none⟩ (.int .i64 m)).setCell ⟨p, 4, none⟩ (.int .i64 n)).setCell ⟨p, 5, none⟩ (.int .i64 0) := ⟨_, rfl⟩
  replace kp : Bk V2 p 29 #[.int .i64 n, .int .i64 (-m), .int .i64 0, .int .i64 m, .int .i64 n, .int .i64 0, .int .i64 u7, .int .i64 u8, .int .i64 u9, .int .i64 u10, .int .i64 u11, .int .i64 u12] := by rw [hV2]; exact (((kp.set 3 (.int .i64 m)).set 4 (.int .i64 n)).set 5 (.int .i64 0)).cast (by simp)
  replace kc : Bk V2 c 3 #[.int .i64 n] := by rw [hV2]; exact (((kc.other (a := ⟨p, 3, none⟩) (by show ¬ c = p; omega) (.int .i64 m)).other (a := ⟨p, 4, none⟩) (by show ¬ c = p; omega) (.int .i64 n)).other (a := ⟨p, 5, none⟩) (by show ¬ c = p; omega) (.int .i64 0))
  replace ks : Bk V2 s 3 #[.int .i64 m] := by rw [hV2]; exact (((ks.other (a := ⟨p, 3, none⟩) (by show ¬ s = p; omega) (.int .i64 m)).other (a := ⟨p, 4, none⟩) (by show ¬ s = p; omega) (.int .i64 n)).other (a := ⟨p, 5, none⟩) (by show ¬ s = p; omega) (.int .i64 0))
  replace B : Below p w V2 := by rw [hV2]; exact (((B.setCell (p := ⟨p, 3, none⟩) (by show p ≤ p; omega) _).setCell (p := ⟨p, 4, none⟩) (by show p ≤ p; omega) _).setCell (p := ⟨p, 5, none⟩) (by show p ≤ p; omega) _)
  rw [← hV2]
  clear hV2
  clear c_c_0 c_s_0 d_3 d_4 d_5 f_3 f_4 f_5
  go_end0
  exact ⟨⟨_, rfl⟩, B, kp⟩

set_option maxRecDepth 100000 in
set_option maxHeartbeats 4000000 in
theorem pose_move (p c : Nat) (x y z u1 u2 u3 u4 u5 u6 u7 u8 u9 u10 u11 u12 : Int) (w : World) (kc : Bk w c 23 #[.int .i64 x, .int .i64 y, .int .i64 z]) (l_c : c < p) (kp : Bk w p 29 #[.int .i64 u1, .int .i64 u2, .int .i64 u3, .int .i64 u4, .int .i64 u5, .int .i64 u6, .int .i64 u7, .int .i64 u8, .int .i64 u9, .int .i64 u10, .int .i64 u11, .int .i64 u12]) :
    Calls Try.prog 42 (#[.pointer (some ⟨p, 0, none⟩)] ++ #[.pointer (some ⟨c, 0, none⟩)]) w fun e w' => (∃ v, e = .returned v) ∧ Below p w w' ∧ Bk w' p 29 #[.int .i64 u1, .int .i64 u2, .int .i64 u3, .int .i64 u4, .int .i64 u5, .int .i64 u6, .int .i64 u7, .int .i64 u8, .int .i64 u9, .int .i64 x, .int .i64 y, .int .i64 z] := by
  have B : Below p w w := Below.refl _ _
  simp only [List.append_toArray, List.cons_append, List.nil_append]
  go_enter Try.func42, Try.ntmps42
  have c_c_0 : w.cell? ⟨c, 0, none⟩ = some (.int .i64 x) := kc.cell rfl
  have c_c_1 : w.cell? ⟨c, 1, none⟩ = some (.int .i64 y) := kc.cell rfl
  have c_c_2 : w.cell? ⟨c, 2, none⟩ = some (.int .i64 z) := kc.cell rfl
  have d_9 : w.cell? ⟨p, 9, none⟩ = some (.int .i64 u10) := kp.cell rfl
  have d_10 : w.cell? ⟨p, 10, none⟩ = some (.int .i64 u11) := kp.cell rfl
  have d_11 : w.cell? ⟨p, 11, none⟩ = some (.int .i64 u12) := kp.cell rfl
  have f_9 : w.frozen? ⟨p, 9, none⟩ = false := kp.frozen 9
  have f_10 : w.frozen? ⟨p, 10, none⟩ = false := kp.frozen 10
  have f_11 : w.frozen? ⟨p, 11, none⟩ = false := kp.frozen 11
  go_wp2
  obtain ⟨V1, hV1⟩ : ∃ W, W = ((w.setCell ⟨p, 9, none⟩ (.int .i64 x)).setCell ⟨p, 10, none⟩ (.int .i64 y)).setCell ⟨p, 11, none⟩ (.int .i64 z) := ⟨_, rfl⟩
  replace kp : Bk V1 p 29 #[.int .i64 u1, .int .i64 u2, .int .i64 u3, .int .i64 u4, .int .i64 u5, .int .i64 u6, .int .i64 u7, .int .i64 u8, .int .i64 u9, .int .i64 x, .int .i64 y, .int .i64 z] := by rw [hV1]; exact (((kp.set 9 (.int .i64 x)).set 10 (.int .i64 y)).set 11 (.int .i64 z)).cast (by simp)
  replace kc : Bk V1 c 23 #[.int .i64 x, .int .i64 y, .int .i64 z] := by rw [hV1]; exact (((kc.other (a := ⟨p, 9, none⟩) (by show ¬ c = p; omega) (.int .i64 x)).other (a := ⟨p, 10, none⟩) (by show ¬ c = p; omega) (.int .i64 y)).other (a := ⟨p, 11, none⟩) (by show ¬ c = p; omega) (.int .i64 z))
  replace B : Below p w V1 := by rw [hV1]; exact (((B.setCell (p := ⟨p, 9, none⟩) (by show p ≤ p; omega) _).setCell (p := ⟨p, 10, none⟩) (by show p ≤ p; omega) _).setCell (p := ⟨p, 11, none⟩) (by show p ≤ p; omega) _)
  rw [← hV1]
  clear hV1
  clear c_c_0 c_c_1 c_c_2 d_9 d_10 d_11 f_9 f_10 f_11
  go_end0
  exact ⟨⟨_, rfl⟩, B, kp⟩

set_option maxRecDepth 100000 in
set_option maxHeartbeats 4000000 in
theorem pose_size (p c s : Nat) (n m r u1 u2 u3 u4 u5 u6 u7 u8 u9 u10 u11 u12 : Int) (w : World) (hn : 1 ≤ n ∧ n ≤ 64) (hm : 1 ≤ m ∧ m ≤ 64) (hr : 16384 * n / m = r) (kc : Bk w c 3 #[.int .i64 n]) (l_c : c < p) (ks : Bk w s 3 #[.int .i64 m]) (l_s : s < p) (kp : Bk w p 29 #[.int .i64 u1, .int .i64 u2, .int .i64 u3, .int .i64 u4, .int .i64 u5, .int .i64 u6, .int .i64 u7, .int .i64 u8, .int .i64 u9, .int .i64 u10, .int .i64 u11, .int .i64 u12]) :
    Calls Try.prog 34 (#[.pointer (some ⟨p, 0, none⟩)] ++ #[.pointer (some ⟨c, 0, none⟩), .pointer (some ⟨s, 0, none⟩)]) w fun e w' => (∃ v, e = .returned v) ∧ Below p w w' ∧ Bk w' p 29 #[.int .i64 r, .int .i64 u2, .int .i64 u3, .int .i64 u4, .int .i64 r, .int .i64 u6, .int .i64 u7, .int .i64 u8, .int .i64 r, .int .i64 u10, .int .i64 u11, .int .i64 u12] := by
  have e1 : wrap64 (16384 * n) = 16384 * n := by unfold wrap64; omega
  have e2 : IntKind.i64.wrap (16384 * n) = 16384 * n := by rw [i64w]; omega
  have V := Lib.hid (fun w => num_Div (16384 * n) m w (by unfold I64; omega) (by unfold I64; omega))
  rw [show dv (16384 * n) m = r by unfold dv; rw [if_neg (by omega)]; exact hr] at V
  obtain ⟨u, hu⟩ : ∃ u, u = 16384 * n := ⟨_, rfl⟩
  rw [← hu] at e1 e2 V
  have e3 : 16384 * n = u := hu.symm
  clear hu hr hn hm
  have B : Below p w w := Below.refl _ _
  simp only [List.append_toArray, List.cons_append, List.nil_append]
  go_enter Try.func34, Try.ntmps34
  have c_c_0 : w.cell? ⟨c, 0, none⟩ = some (.int .i64 n) := kc.cell rfl
  have c_s_0 : w.cell? ⟨s, 0, none⟩ = some (.int .i64 m) := ks.cell rfl
  have d_0 : w.cell? ⟨p, 0, none⟩ = some (.int .i64 u1) := kp.cell rfl
  have d_4 : w.cell? ⟨p, 4, none⟩ = some (.int .i64 u5) := kp.cell rfl
  have d_8 : w.cell? ⟨p, 8, none⟩ = some (.int .i64 u9) := kp.cell rfl
  have f_0 : w.frozen? ⟨p, 0, none⟩ = false := kp.frozen 0
  have f_4 : w.frozen? ⟨p, 4, none⟩ = false := kp.frozen 4
  have f_8 : w.frozen? ⟨p, 8, none⟩ = false := kp.frozen 8
  go_wp2_with (go_at_call 35; (with_reducible refine (V.out _).mono ?_); rintro e w' ⟨rfl, rfl⟩)
  obtain ⟨V1, hV1⟩ : ∃ W, W = ((w.setCell ⟨p, 0, none⟩ (.int .i64 r)).setCell ⟨p, 4, none⟩ (.int .i64 r)).setCell ⟨p, 8, none⟩ (.int .i64 r) := ⟨_, rfl⟩
  replace kp : Bk V1 p 29 #[.int .i64 r, .int .i64 u2, .int .i64 u3, .int .i64 u4, .int .i64 r, .int .i64 u6, .int .i64 u7, .int .i64 u8, .int .i64 r, .int .i64 u10, .int .i64 u11, .int .i64 u12] := by rw [hV1]; exact (((kp.set 0 (.int .i64 r)).set 4 (.int .i64 r)).set 8 (.int .i64 r)).cast (by simp)
  replace kc : Bk V1 c 3 #[.int .i64 n] := by rw [hV1]; exact (((kc.other (a := ⟨p, 0, none⟩) (by show ¬ c = p; omega) (.int .i64 r)).other (a := ⟨p, 4, none⟩) (by show ¬ c = p; omega) (.int .i64 r)).other (a := ⟨p, 8, none⟩) (by show ¬ c = p; omega) (.int .i64 r))
  replace ks : Bk V1 s 3 #[.int .i64 m] := by rw [hV1]; exact (((ks.other (a := ⟨p, 0, none⟩) (by show ¬ s = p; omega) (.int .i64 r)).other (a := ⟨p, 4, none⟩) (by show ¬ s = p; omega) (.int .i64 r)).other (a := ⟨p, 8, none⟩) (by show ¬ s = p; omega) (.int .i64 r))
  replace B : Below p w V1 := by rw [hV1]; exact (((B.setCell (p := ⟨p, 0, none⟩) (by show p ≤ p; omega) _).setCell (p := ⟨p, 4, none⟩) (by show p ≤ p; omega) _).setCell (p := ⟨p, 8, none⟩) (by show p ≤ p; omega) _)
  rw [← hV1]
  clear hV1
  clear c_c_0 c_s_0 d_0 d_4 d_8 f_0 f_4 f_8
  go_end0
  exact ⟨⟨_, rfl⟩, B, kp⟩

set_option maxRecDepth 100000 in
set_option maxHeartbeats 4000000 in
theorem pose_changed (b off cap n : Nat) (f : Nat → Bool) (g : Nat → FuncId) (bd : Nat → Array Value) (U : Nat → P4) (w : World) (hb : b < w.heap.size) (hn : n ≤ 8)
    (hc : ∀ k, k < n → w.cell? ⟨b, off + k * 2, none⟩ = some (.bool (f k)) ∧ w.cell? ⟨b, off + k * 2 + 1, none⟩ = some (.func (.func (g k)) #[] (bd k)))
    (hg : ∀ k, k < n → Enters Try.prog (g k)) (h0 : U 0 = pNone 16384) (hno : ∀ k, k < n → f k = false → U (k + 1) = U k)
    (hx : ∀ k, k < n → f k = true → ∀ (w' : World) (p : Nat), Below w.heap.size w w' → w.heap.size ≤ p → Bk w' p 29 (p12 (U k)) → Calls Try.prog (g k) (#[.pointer (some ⟨p, 0, none⟩)] ++ bd k) w' fun e w'' => (∃ v, e = .returned v) ∧ Below p w' w'' ∧ Bk w'' p 29 (p12 (U (k + 1)))) :
    Calls Try.prog 27 #[.slice (some ⟨b, off, none⟩) n cap] w fun e w' => e = .returned (.agg (p12 (U n))) ∧ Below w.heap.size w w' := by
  have HC := Lib.hid hc
  have HG := Lib.hid hg
  have HNO := Lib.hid hno
  have HX := Lib.hid hx
  have N := Lib.hid (fun w => pose_None w)
  clear hc hg hno hx
  go_enter Try.func27, Try.ntmps27
  go_upto_region 1 with (fail)
  obtain ⟨W1, hW1⟩ : ∃ W, W = w.alloc (.cells #[.int .i64 0, .int .i64 0, .int .i64 0, .int .i64 0, .int .i64 0, .int .i64 0, .int .i64 0, .int .i64 0, .int .i64 0, .int .i64 0, .int .i64 0, .int .i64 0] 29) := ⟨_, rfl⟩
  have B1 : Below w.heap.size w W1 := by rw [hW1]; go_grown
  have k_r : Bk W1 (w.heap.size) 29 #[.int .i64 0, .int .i64 0, .int .i64 0, .int .i64 0, .int .i64 0, .int .i64 0, .int .i64 0, .int .i64 0, .int .i64 0, .int .i64 0, .int .i64 0, .int .i64 0] := by rw [hW1]; exact Bk.new _ _ _
  rw [← hW1]
  clear hW1
  have c_r_0 : ∀ p : BW W1, p.w.cell? ⟨w.heap.size, 0, none⟩ = some (.int .i64 0) := bw_cell (k_r.cell rfl)
  have c_r_1 : ∀ p : BW W1, p.w.cell? ⟨w.heap.size, 1, none⟩ = some (.int .i64 0) := bw_cell (k_r.cell rfl)
  have c_r_2 : ∀ p : BW W1, p.w.cell? ⟨w.heap.size, 2, none⟩ = some (.int .i64 0) := bw_cell (k_r.cell rfl)
  have c_r_3 : ∀ p : BW W1, p.w.cell? ⟨w.heap.size, 3, none⟩ = some (.int .i64 0) := bw_cell (k_r.cell rfl)
  have c_r_4 : ∀ p : BW W1, p.w.cell? ⟨w.heap.size, 4, none⟩ = some (.int .i64 0) := bw_cell (k_r.cell rfl)
  have c_r_5 : ∀ p : BW W1, p.w.cell? ⟨w.heap.size, 5, none⟩ = some (.int .i64 0) := bw_cell (k_r.cell rfl)
  have c_r_6 : ∀ p : BW W1, p.w.cell? ⟨w.heap.size, 6, none⟩ = some (.int .i64 0) := bw_cell (k_r.cell rfl)
  have c_r_7 : ∀ p : BW W1, p.w.cell? ⟨w.heap.size, 7, none⟩ = some (.int .i64 0) := bw_cell (k_r.cell rfl)
  have c_r_8 : ∀ p : BW W1, p.w.cell? ⟨w.heap.size, 8, none⟩ = some (.int .i64 0) := bw_cell (k_r.cell rfl)
  have c_r_9 : ∀ p : BW W1, p.w.cell? ⟨w.heap.size, 9, none⟩ = some (.int .i64 0) := bw_cell (k_r.cell rfl)
  have c_r_10 : ∀ p : BW W1, p.w.cell? ⟨w.heap.size, 10, none⟩ = some (.int .i64 0) := bw_cell (k_r.cell rfl)
  have c_r_11 : ∀ p : BW W1, p.w.cell? ⟨w.heap.size, 11, none⟩ = some (.int .i64 0) := bw_cell (k_r.cell rfl)
  obtain ⟨p1, hp1⟩ : ∃ p : BW W1, p.w = W1 := ⟨BW.start W1, rfl⟩
  rw [← hp1]
  clear hp1
  go_upto_region 2 with (first
    | (go_at_call 10; (first | (with_reducible refine (bw_call N.out _).mono ?_)); rintro e w' ⟨rfl, q, rfl⟩))
  obtain ⟨W2, hW2⟩ : ∃ W, W = q.w.alloc (.cells #[.int .i64 16384, .int .i64 0, .int .i64 0, .int .i64 0, .int .i64 16384, .int .i64 0, .int .i64 0, .int .i64 0, .int .i64 16384, .int .i64 0, .int .i64 0, .int .i64 0] 29) := ⟨_, rfl⟩
  have B2 : Below w.heap.size w W2 := by rw [hW2]; exact (bw_below B1 q).alloc (bw_below B1 q).size _
  have l_p : w.heap.size < q.w.heap.size := (k_r.below q.h).lt
  have o_p : w.heap.size ≤ q.w.heap.size := (bw_below B1 q).size
  have k_r := (k_r.below q.h).alloc (.cells #[.int .i64 16384, .int .i64 0, .int .i64 0, .int .i64 0, .int .i64 16384, .int .i64 0, .int .i64 0, .int .i64 0, .int .i64 16384, .int .i64 0, .int .i64 0, .int .i64 0] 29)
  rw [← hW2] at k_r
  have k_p : Bk W2 q.w.heap.size 29 #[.int .i64 16384, .int .i64 0, .int .i64 0, .int .i64 0, .int .i64 16384, .int .i64 0, .int .i64 0, .int .i64 0, .int .i64 16384, .int .i64 0, .int .i64 0, .int .i64 0] := by rw [hW2]; exact Bk.new _ _ _
  rw [← hW2]
  clear hW2
  clear B1
  clear c_r_0 c_r_1 c_r_2 c_r_3 c_r_4 c_r_5 c_r_6 c_r_7 c_r_8 c_r_9 c_r_10 c_r_11
  generalize q.w.heap.size = g_p at *
  go_wp2
  go_loopw [9] (fun i wr => ∃ k : Nat, k ≤ n ∧ i = .int .i64 k ∧ Bk wr w.heap.size 29 #[.int .i64 0, .int .i64 0, .int .i64 0, .int .i64 0, .int .i64 0, .int .i64 0, .int .i64 0, .int .i64 0, .int .i64 0, .int .i64 0, .int .i64 0, .int .i64 0] ∧ Bk wr g_p 29 (p12 (U k)) ∧ Below w.heap.size w wr) (fun i _ => n - (intOf i).toNat)
  case atStart => exact ⟨0, Nat.zero_le _, rfl, k_r, by rw [h0]; exact k_p, B2⟩
  case round =>
    clear k_r k_p B2
    obtain ⟨k, hk, rfl, k_r, k_p, B20⟩ := hrel
    by_cases hlt : k < n
    · obtain ⟨x0, x1⟩ := HC.out k hlt
      have hgk := HG.out k hlt
      have hnk := HNO.out k hlt
      have hxk := HX.out k hlt
      generalize f k = fk at *
      generalize g k = gk at *
      generalize bd k = bk at *
      have eg : ∀ args w, (callFunc gk args).run Try.prog w = .ok (.enter gk args) w := hgk
      have y0 : wr.cell? ⟨b, off + k * 2, none⟩ = some (.bool fk) := (B20.cell (p := ⟨b, off + k * 2, none⟩) hb).trans x0
      have y1 : wr.cell? ⟨b, off + k * 2 + 1, none⟩ = some (.func (.func gk) #[] bk) := (B20.cell (p := ⟨b, off + k * 2 + 1, none⟩) hb).trans x1
      clear x0 x1
      have HXK := Lib.hid hxk
      have HNK := Lib.hid hnk
      clear hxk hnk hgk
      cases fk with
      | false =>
        have z0 : ∀ p : BW wr, p.w.cell? ⟨b, off + k * 2, none⟩ = some (.bool false) := bw_cell y0
        have z1 : ∀ p : BW wr, p.w.cell? ⟨b, off + k * 2 + 1, none⟩ = some (.func (.func gk) #[] bk) := bw_cell y1
        obtain ⟨p20, hp20⟩ : ∃ p : BW wr, p.w = wr := ⟨BW.start wr, rfl⟩
        rw [← hp20]
        clear hp20
        go_upto_region 5 with (fail)
        obtain ⟨W21, hW21⟩ : ∃ W, W = p20.w.alloc (.cells #[.bool false, .func (.func gk) #[] bk] 55) := ⟨_, rfl⟩
        have B21 : Below w.heap.size w W21 := by rw [hW21]; exact (bw_below B20 p20).alloc (bw_below B20 p20).size _
        have k_d : Bk W21 p20.w.heap.size 55 #[.bool false, .func (.func gk) #[] bk] := by rw [hW21]; exact Bk.new _ _ _
        replace k_r := (k_r.below p20.h).alloc (.cells #[.bool false, .func (.func gk) #[] bk] 55)
        replace k_p := (k_p.below p20.h).alloc (.cells #[.bool false, .func (.func gk) #[] bk] 55)
        rw [← hW21] at k_r k_p
        rw [← hW21]
        clear hW21 B20 z0 z1
        generalize p20.w.heap.size = g_d at *
        have c0 : W21.cell? ⟨g_d, 0, none⟩ = some (.bool false) := k_d.cell rfl
        have c1 : W21.cell? ⟨g_d, 1, none⟩ = some (.func (.func gk) #[] bk) := k_d.cell rfl
        clear k_d
        go_wp2
        go_roundw
        case rel => exact ⟨k + 1, by omega, by go_num, k_r, by rw [HNK.out rfl]; exact k_p, B21⟩
        case measure => simp [intOf]; omega
      | true =>
        have z0 : ∀ p : BW wr, p.w.cell? ⟨b, off + k * 2, none⟩ = some (.bool true) := bw_cell y0
        have z1 : ∀ p : BW wr, p.w.cell? ⟨b, off + k * 2 + 1, none⟩ = some (.func (.func gk) #[] bk) := bw_cell y1
        obtain ⟨p20, hp20⟩ : ∃ p : BW wr, p.w = wr := ⟨BW.start wr, rfl⟩
        rw [← hp20]
        clear hp20
        go_upto_region 5 with (fail)
        obtain ⟨W21, hW21⟩ : ∃ W, W = p20.w.alloc (.cells #[.bool true, .func (.func gk) #[] bk] 55) := ⟨_, rfl⟩
        have B21 : Below w.heap.size w W21 := by rw [hW21]; exact (bw_below B20 p20).alloc (bw_below B20 p20).size _
        have k_d : Bk W21 p20.w.heap.size 55 #[.bool true, .func (.func gk) #[] bk] := by rw [hW21]; exact Bk.new _ _ _
        replace k_r := (k_r.below p20.h).alloc (.cells #[.bool true, .func (.func gk) #[] bk] 55)
        replace k_p := (k_p.below p20.h).alloc (.cells #[.bool true, .func (.func gk) #[] bk] 55)
        rw [← hW21] at k_r k_p
        rw [← hW21]
        clear hW21 B20 z0 z1
        generalize p20.w.heap.size = g_d at *
        have c0 : W21.cell? ⟨g_d, 0, none⟩ = some (.bool true) := k_d.cell rfl
        have c1 : W21.cell? ⟨g_d, 1, none⟩ = some (.func (.func gk) #[] bk) := k_d.cell rfl
        clear k_d
        have KX := HXK.out rfl W21 g_p B21 (by omega) k_p
        go_upto_region 7 with (with_reducible refine KX.mono ?_; rintro e w1 ⟨⟨v, rfl⟩, hb1, kp1⟩)
        replace k_r := k_r.belowB hb1 l_p
        replace B21 := B21.trans (hb1.mono (Nat.le_of_lt l_p))
        clear KX c0 c1 hb1 k_p
        go_wp2
        go_roundw
        case rel => exact ⟨k + 1, by omega, by go_num, k_r, kp1, B21⟩
        case measure => simp [intOf]; omega
    · obtain rfl : k = n := by omega
      obtain ⟨Q, hQ⟩ : ∃ Q, Q = U k := ⟨_, rfl⟩
      rw [← hQ] at k_p
      obtain ⟨⟨u1, u2, u3⟩, ⟨u4, u5, u6⟩, ⟨u7, u8, u9⟩, ⟨u10, u11, u12⟩⟩ := Q
      unfold p12 at k_p
      dsimp only at k_p
      have HQ := Lib.hid hQ
      clear hQ
      have c_r_0 : ∀ p : BW wr, p.w.cell? ⟨w.heap.size, 0, none⟩ = some (.int .i64 0) := bw_cell (k_r.cell rfl)
      have f_r_0 : ∀ p : BW wr, p.w.frozen? ⟨w.heap.size, 0, none⟩ = false := fun p => (k_r.below p.h).frozen 0
      have c_r_1 : ∀ p : BW wr, p.w.cell? ⟨w.heap.size, 1, none⟩ = some (.int .i64 0) := bw_cell (k_r.cell rfl)
      have f_r_1 : ∀ p : BW wr, p.w.frozen? ⟨w.heap.size, 1, none⟩ = false := fun p => (k_r.below p.h).frozen 1
      have c_r_2 : ∀ p : BW wr, p.w.cell? ⟨w.heap.size, 2, none⟩ = some (.int .i64 0) := bw_cell (k_r.cell rfl)
      have f_r_2 : ∀ p : BW wr, p.w.frozen? ⟨w.heap.size, 2, none⟩ = false := fun p => (k_r.below p.h).frozen 2
      have c_r_3 : ∀ p : BW wr, p.w.cell? ⟨w.heap.size, 3, none⟩ = some (.int .i64 0) := bw_cell (k_r.cell rfl)
      have f_r_3 : ∀ p : BW wr, p.w.frozen? ⟨w.heap.size, 3, none⟩ = false := fun p => (k_r.below p.h).frozen 3
      have c_r_4 : ∀ p : BW wr, p.w.cell? ⟨w.heap.size, 4, none⟩ = some (.int .i64 0) := bw_cell (k_r.cell rfl)
      have f_r_4 : ∀ p : BW wr, p.w.frozen? ⟨w.heap.size, 4, none⟩ = false := fun p => (k_r.below p.h).frozen 4
      have c_r_5 : ∀ p : BW wr, p.w.cell? ⟨w.heap.size, 5, none⟩ = some (.int .i64 0) := bw_cell (k_r.cell rfl)
      have f_r_5 : ∀ p : BW wr, p.w.frozen? ⟨w.heap.size, 5, none⟩ = false := fun p => (k_r.below p.h).frozen 5
      have c_r_6 : ∀ p : BW wr, p.w.cell? ⟨w.heap.size, 6, none⟩ = some (.int .i64 0) := bw_cell (k_r.cell rfl)
      have f_r_6 : ∀ p : BW wr, p.w.frozen? ⟨w.heap.size, 6, none⟩ = false := fun p => (k_r.below p.h).frozen 6
      have c_r_7 : ∀ p : BW wr, p.w.cell? ⟨w.heap.size, 7, none⟩ = some (.int .i64 0) := bw_cell (k_r.cell rfl)
      have f_r_7 : ∀ p : BW wr, p.w.frozen? ⟨w.heap.size, 7, none⟩ = false := fun p => (k_r.below p.h).frozen 7
      have c_r_8 : ∀ p : BW wr, p.w.cell? ⟨w.heap.size, 8, none⟩ = some (.int .i64 0) := bw_cell (k_r.cell rfl)
      have f_r_8 : ∀ p : BW wr, p.w.frozen? ⟨w.heap.size, 8, none⟩ = false := fun p => (k_r.below p.h).frozen 8
      have c_r_9 : ∀ p : BW wr, p.w.cell? ⟨w.heap.size, 9, none⟩ = some (.int .i64 0) := bw_cell (k_r.cell rfl)
      have f_r_9 : ∀ p : BW wr, p.w.frozen? ⟨w.heap.size, 9, none⟩ = false := fun p => (k_r.below p.h).frozen 9
      have c_r_10 : ∀ p : BW wr, p.w.cell? ⟨w.heap.size, 10, none⟩ = some (.int .i64 0) := bw_cell (k_r.cell rfl)
      have f_r_10 : ∀ p : BW wr, p.w.frozen? ⟨w.heap.size, 10, none⟩ = false := fun p => (k_r.below p.h).frozen 10
      have c_r_11 : ∀ p : BW wr, p.w.cell? ⟨w.heap.size, 11, none⟩ = some (.int .i64 0) := bw_cell (k_r.cell rfl)
      have f_r_11 : ∀ p : BW wr, p.w.frozen? ⟨w.heap.size, 11, none⟩ = false := fun p => (k_r.below p.h).frozen 11
      have c_p_0 : ∀ p : BW wr, p.w.cell? ⟨g_p, 0, none⟩ = some (.int .i64 u1) := bw_cell (k_p.cell rfl)
      have c_p_1 : ∀ p : BW wr, p.w.cell? ⟨g_p, 1, none⟩ = some (.int .i64 u2) := bw_cell (k_p.cell rfl)
      have c_p_2 : ∀ p : BW wr, p.w.cell? ⟨g_p, 2, none⟩ = some (.int .i64 u3) := bw_cell (k_p.cell rfl)
      have c_p_3 : ∀ p : BW wr, p.w.cell? ⟨g_p, 3, none⟩ = some (.int .i64 u4) := bw_cell (k_p.cell rfl)
      have c_p_4 : ∀ p : BW wr, p.w.cell? ⟨g_p, 4, none⟩ = some (.int .i64 u5) := bw_cell (k_p.cell rfl)
      have c_p_5 : ∀ p : BW wr, p.w.cell? ⟨g_p, 5, none⟩ = some (.int .i64 u6) := bw_cell (k_p.cell rfl)
      have c_p_6 : ∀ p : BW wr, p.w.cell? ⟨g_p, 6, none⟩ = some (.int .i64 u7) := bw_cell (k_p.cell rfl)
      have c_p_7 : ∀ p : BW wr, p.w.cell? ⟨g_p, 7, none⟩ = some (.int .i64 u8) := bw_cell (k_p.cell rfl)
      have c_p_8 : ∀ p : BW wr, p.w.cell? ⟨g_p, 8, none⟩ = some (.int .i64 u9) := bw_cell (k_p.cell rfl)
      have c_p_9 : ∀ p : BW wr, p.w.cell? ⟨g_p, 9, none⟩ = some (.int .i64 u10) := bw_cell (k_p.cell rfl)
      have c_p_10 : ∀ p : BW wr, p.w.cell? ⟨g_p, 10, none⟩ = some (.int .i64 u11) := bw_cell (k_p.cell rfl)
      have c_p_11 : ∀ p : BW wr, p.w.cell? ⟨g_p, 11, none⟩ = some (.int .i64 u12) := bw_cell (k_p.cell rfl)
      obtain ⟨p20, hp20⟩ : ∃ p : BW wr, p.w = wr := ⟨BW.start wr, rfl⟩
      rw [← hp20]
      clear hp20
      go_wp2
      have kr : Bk ((((((((((((p20.w.setCell ⟨w.heap.size, 0, none⟩ (.int .i64 u1)).setCell ⟨w.heap.size, 1, none⟩ (.int .i64 u2)).setCell ⟨w.heap.size, 2, none⟩ (.int .i64 u3)).setCell ⟨w.heap.size, 3, none⟩ (.int .i64 u4)).setCell ⟨w.heap.size, 4, none⟩ (.int .i64 u5)).setCell ⟨w.heap.size, 5, none⟩ (.int .i64 u6)).setCell ⟨w.heap.size, 6, none⟩ (.int .i64 u7)).setCell ⟨w.heap.size, 7, none⟩ (.int .i64 u8)).setCell ⟨w.heap.size, 8, none⟩ (.int .i64 u9)).setCell ⟨w.heap.size, 9, none⟩ (.int .i64 u10)).setCell ⟨w.heap.size, 10, none⟩ (.int .i64 u11)).setCell ⟨w.heap.size, 11, none⟩ (.int .i64 u12)) (w.heap.size) 29 #[.int .i64 u1, .int .i64 u2, .int .i64 u3, .int .i64 u4, .int .i64 u5, .int .i64 u6, .int .i64 u7, .int .i64 u8, .int .i64 u9, .int .i64 u10, .int .i64 u11, .int .i64 u12] := (((((((((((((k_r.below p20.h).set 0 (.int .i64 u1)).set 1 (.int .i64 u2)).set 2 (.int .i64 u3)).set 3 (.int .i64 u4)).set 4 (.int .i64 u5)).set 5 (.int .i64 u6)).set 6 (.int .i64 u7)).set 7 (.int .i64 u8)).set 8 (.int .i64 u9)).set 9 (.int .i64 u10)).set 10 (.int .i64 u11)).set 11 (.int .i64 u12)).cast (by simp)
      have rc0 : World.cell? ((((((((((((p20.w.setCell ⟨w.heap.size, 0, none⟩ (.int .i64 u1)).setCell ⟨w.heap.size, 1, none⟩ (.int .i64 u2)).setCell ⟨w.heap.size, 2, none⟩ (.int .i64 u3)).setCell ⟨w.heap.size, 3, none⟩ (.int .i64 u4)).setCell ⟨w.heap.size, 4, none⟩ (.int .i64 u5)).setCell ⟨w.heap.size, 5, none⟩ (.int .i64 u6)).setCell ⟨w.heap.size, 6, none⟩ (.int .i64 u7)).setCell ⟨w.heap.size, 7, none⟩ (.int .i64 u8)).setCell ⟨w.heap.size, 8, none⟩ (.int .i64 u9)).setCell ⟨w.heap.size, 9, none⟩ (.int .i64 u10)).setCell ⟨w.heap.size, 10, none⟩ (.int .i64 u11)).setCell ⟨w.heap.size, 11, none⟩ (.int .i64 u12)) ⟨w.heap.size, 0, none⟩ = some (.int .i64 u1) := kr.cell rfl
      have rc1 : World.cell? ((((((((((((p20.w.setCell ⟨w.heap.size, 0, none⟩ (.int .i64 u1)).setCell ⟨w.heap.size, 1, none⟩ (.int .i64 u2)).setCell ⟨w.heap.size, 2, none⟩ (.int .i64 u3)).setCell ⟨w.heap.size, 3, none⟩ (.int .i64 u4)).setCell ⟨w.heap.size, 4, none⟩ (.int .i64 u5)).setCell ⟨w.heap.size, 5, none⟩ (.int .i64 u6)).setCell ⟨w.heap.size, 6, none⟩ (.int .i64 u7)).setCell ⟨w.heap.size, 7, none⟩ (.int .i64 u8)).setCell ⟨w.heap.size, 8, none⟩ (.int .i64 u9)).setCell ⟨w.heap.size, 9, none⟩ (.int .i64 u10)).setCell ⟨w.heap.size, 10, none⟩ (.int .i64 u11)).setCell ⟨w.heap.size, 11, none⟩ (.int .i64 u12)) ⟨w.heap.size, 1, none⟩ = some (.int .i64 u2) := kr.cell rfl
      have rc2 : World.cell? ((((((((((((p20.w.setCell ⟨w.heap.size, 0, none⟩ (.int .i64 u1)).setCell ⟨w.heap.size, 1, none⟩ (.int .i64 u2)).setCell ⟨w.heap.size, 2, none⟩ (.int .i64 u3)).setCell ⟨w.heap.size, 3, none⟩ (.int .i64 u4)).setCell ⟨w.heap.size, 4, none⟩ (.int .i64 u5)).setCell ⟨w.heap.size, 5, none⟩ (.int .i64 u6)).setCell ⟨w.heap.size, 6, none⟩ (.int .i64 u7)).setCell ⟨w.heap.size, 7, none⟩ (.int .i64 u8)).setCell ⟨w.heap.size, 8, none⟩ (.int .i64 u9)).setCell ⟨w.heap.size, 9, none⟩ (.int .i64 u10)).setCell ⟨w.heap.size, 10, none⟩ (.int .i64 u11)).setCell ⟨w.heap.size, 11, none⟩ (.int .i64 u12)) ⟨w.heap.size, 2, none⟩ = some (.int .i64 u3) := kr.cell rfl
      have rc3 : World.cell? ((((((((((((p20.w.setCell ⟨w.heap.size, 0, none⟩ (.int .i64 u1)).setCell ⟨w.heap.size, 1, none⟩ (.int .i64 u2)).setCell ⟨w.heap.size, 2, none⟩ (.int .i64 u3)).setCell ⟨w.heap.size, 3, none⟩ (.int .i64 u4)).setCell ⟨w.heap.size, 4, none⟩ (.int .i64 u5)).setCell ⟨w.heap.size, 5, none⟩ (.int .i64 u6)).setCell ⟨w.heap.size, 6, none⟩ (.int .i64 u7)).setCell ⟨w.heap.size, 7, none⟩ (.int .i64 u8)).setCell ⟨w.heap.size, 8, none⟩ (.int .i64 u9)).setCell ⟨w.heap.size, 9, none⟩ (.int .i64 u10)).setCell ⟨w.heap.size, 10, none⟩ (.int .i64 u11)).setCell ⟨w.heap.size, 11, none⟩ (.int .i64 u12)) ⟨w.heap.size, 3, none⟩ = some (.int .i64 u4) := kr.cell rfl
      have rc4 : World.cell? ((((((((((((p20.w.setCell ⟨w.heap.size, 0, none⟩ (.int .i64 u1)).setCell ⟨w.heap.size, 1, none⟩ (.int .i64 u2)).setCell ⟨w.heap.size, 2, none⟩ (.int .i64 u3)).setCell ⟨w.heap.size, 3, none⟩ (.int .i64 u4)).setCell ⟨w.heap.size, 4, none⟩ (.int .i64 u5)).setCell ⟨w.heap.size, 5, none⟩ (.int .i64 u6)).setCell ⟨w.heap.size, 6, none⟩ (.int .i64 u7)).setCell ⟨w.heap.size, 7, none⟩ (.int .i64 u8)).setCell ⟨w.heap.size, 8, none⟩ (.int .i64 u9)).setCell ⟨w.heap.size, 9, none⟩ (.int .i64 u10)).setCell ⟨w.heap.size, 10, none⟩ (.int .i64 u11)).setCell ⟨w.heap.size, 11, none⟩ (.int .i64 u12)) ⟨w.heap.size, 4, none⟩ = some (.int .i64 u5) := kr.cell rfl
      have rc5 : World.cell? ((((((((((((p20.w.setCell ⟨w.heap.size, 0, none⟩ (.int .i64 u1)).setCell ⟨w.heap.size, 1, none⟩ (.int .i64 u2)).setCell ⟨w.heap.size, 2, none⟩ (.int .i64 u3)).setCell ⟨w.heap.size, 3, none⟩ (.int .i64 u4)).setCell ⟨w.heap.size, 4, none⟩ (.int .i64 u5)).setCell ⟨w.heap.size, 5, none⟩ (.int .i64 u6)).setCell ⟨w.heap.size, 6, none⟩ (.int .i64 u7)).setCell ⟨w.heap.size, 7, none⟩ (.int .i64 u8)).setCell ⟨w.heap.size, 8, none⟩ (.int .i64 u9)).setCell ⟨w.heap.size, 9, none⟩ (.int .i64 u10)).setCell ⟨w.heap.size, 10, none⟩ (.int .i64 u11)).setCell ⟨w.heap.size, 11, none⟩ (.int .i64 u12)) ⟨w.heap.size, 5, none⟩ = some (.int .i64 u6) := kr.cell rfl
      have rc6 : World.cell? ((((((((((((p20.w.setCell ⟨w.heap.size, 0, none⟩ (.int .i64 u1)).setCell ⟨w.heap.size, 1, none⟩ (.int .i64 u2)).setCell ⟨w.heap.size, 2, none⟩ (.int .i64 u3)).setCell ⟨w.heap.size, 3, none⟩ (.int .i64 u4)).setCell ⟨w.heap.size, 4, none⟩ (.int .i64 u5)).setCell ⟨w.heap.size, 5, none⟩ (.int .i64 u6)).setCell ⟨w.heap.size, 6, none⟩ (.int .i64 u7)).setCell ⟨w.heap.size, 7, none⟩ (.int .i64 u8)).setCell ⟨w.heap.size, 8, none⟩ (.int .i64 u9)).setCell ⟨w.heap.size, 9, none⟩ (.int .i64 u10)).setCell ⟨w.heap.size, 10, none⟩ (.int .i64 u11)).setCell ⟨w.heap.size, 11, none⟩ (.int .i64 u12)) ⟨w.heap.size, 6, none⟩ = some (.int .i64 u7) := kr.cell rfl
      have rc7 : World.cell? ((((((((((((p20.w.setCell ⟨w.heap.size, 0, none⟩ (.int .i64 u1)).setCell ⟨w.heap.size, 1, none⟩ (.int .i64 u2)).setCell ⟨w.heap.size, 2, none⟩ (.int .i64 u3)).setCell ⟨w.heap.size, 3, none⟩ (.int .i64 u4)).setCell ⟨w.heap.size, 4, none⟩ (.int .i64 u5)).setCell ⟨w.heap.size, 5, none⟩ (.int .i64 u6)).setCell ⟨w.heap.size, 6, none⟩ (.int .i64 u7)).setCell ⟨w.heap.size, 7, none⟩ (.int .i64 u8)).setCell ⟨w.heap.size, 8, none⟩ (.int .i64 u9)).setCell ⟨w.heap.size, 9, none⟩ (.int .i64 u10)).setCell ⟨w.heap.size, 10, none⟩ (.int .i64 u11)).setCell ⟨w.heap.size, 11, none⟩ (.int .i64 u12)) ⟨w.heap.size, 7, none⟩ = some (.int .i64 u8) := kr.cell rfl
      have rc8 : World.cell? ((((((((((((p20.w.setCell ⟨w.heap.size, 0, none⟩ (.int .i64 u1)).setCell ⟨w.heap.size, 1, none⟩ (.int .i64 u2)).setCell ⟨w.heap.size, 2, none⟩ (.int .i64 u3)).setCell ⟨w.heap.size, 3, none⟩ (.int .i64 u4)).setCell ⟨w.heap.size, 4, none⟩ (.int .i64 u5)).setCell ⟨w.heap.size, 5, none⟩ (.int .i64 u6)).setCell ⟨w.heap.size, 6, none⟩ (.int .i64 u7)).setCell ⟨w.heap.size, 7, none⟩ (.int .i64 u8)).setCell ⟨w.heap.size, 8, none⟩ (.int .i64 u9)).setCell ⟨w.heap.size, 9, none⟩ (.int .i64 u10)).setCell ⟨w.heap.size, 10, none⟩ (.int .i64 u11)).setCell ⟨w.heap.size, 11, none⟩ (.int .i64 u12)) ⟨w.heap.size, 8, none⟩ = some (.int .i64 u9) := kr.cell rfl
      have rc9 : World.cell? ((((((((((((p20.w.setCell ⟨w.heap.size, 0, none⟩ (.int .i64 u1)).setCell ⟨w.heap.size, 1, none⟩ (.int .i64 u2)).setCell ⟨w.heap.size, 2, none⟩ (.int .i64 u3)).setCell ⟨w.heap.size, 3, none⟩ (.int .i64 u4)).setCell ⟨w.heap.size, 4, none⟩ (.int .i64 u5)).setCell ⟨w.heap.size, 5, none⟩ (.int .i64 u6)).setCell ⟨w.heap.size, 6, none⟩ (.int .i64 u7)).setCell ⟨w.heap.size, 7, none⟩ (.int .i64 u8)).setCell ⟨w.heap.size, 8, none⟩ (.int .i64 u9)).setCell ⟨w.heap.size, 9, none⟩ (.int .i64 u10)).setCell ⟨w.heap.size, 10, none⟩ (.int .i64 u11)).setCell ⟨w.heap.size, 11, none⟩ (.int .i64 u12)) ⟨w.heap.size, 9, none⟩ = some (.int .i64 u10) := kr.cell rfl
      have rc10 : World.cell? ((((((((((((p20.w.setCell ⟨w.heap.size, 0, none⟩ (.int .i64 u1)).setCell ⟨w.heap.size, 1, none⟩ (.int .i64 u2)).setCell ⟨w.heap.size, 2, none⟩ (.int .i64 u3)).setCell ⟨w.heap.size, 3, none⟩ (.int .i64 u4)).setCell ⟨w.heap.size, 4, none⟩ (.int .i64 u5)).setCell ⟨w.heap.size, 5, none⟩ (.int .i64 u6)).setCell ⟨w.heap.size, 6, none⟩ (.int .i64 u7)).setCell ⟨w.heap.size, 7, none⟩ (.int .i64 u8)).setCell ⟨w.heap.size, 8, none⟩ (.int .i64 u9)).setCell ⟨w.heap.size, 9, none⟩ (.int .i64 u10)).setCell ⟨w.heap.size, 10, none⟩ (.int .i64 u11)).setCell ⟨w.heap.size, 11, none⟩ (.int .i64 u12)) ⟨w.heap.size, 10, none⟩ = some (.int .i64 u11) := kr.cell rfl
      have rc11 : World.cell? ((((((((((((p20.w.setCell ⟨w.heap.size, 0, none⟩ (.int .i64 u1)).setCell ⟨w.heap.size, 1, none⟩ (.int .i64 u2)).setCell ⟨w.heap.size, 2, none⟩ (.int .i64 u3)).setCell ⟨w.heap.size, 3, none⟩ (.int .i64 u4)).setCell ⟨w.heap.size, 4, none⟩ (.int .i64 u5)).setCell ⟨w.heap.size, 5, none⟩ (.int .i64 u6)).setCell ⟨w.heap.size, 6, none⟩ (.int .i64 u7)).setCell ⟨w.heap.size, 7, none⟩ (.int .i64 u8)).setCell ⟨w.heap.size, 8, none⟩ (.int .i64 u9)).setCell ⟨w.heap.size, 9, none⟩ (.int .i64 u10)).setCell ⟨w.heap.size, 10, none⟩ (.int .i64 u11)).setCell ⟨w.heap.size, 11, none⟩ (.int .i64 u12)) ⟨w.heap.size, 11, none⟩ = some (.int .i64 u12) := kr.cell rfl
      exact bodyPost_ret (v := .agg #[.int .i64 u1, .int .i64 u2, .int .i64 u3, .int .i64 u4, .int .i64 u5, .int .i64 u6, .int .i64 u7, .int .i64 u8, .int .i64 u9, .int .i64 u10, .int .i64 u11, .int .i64 u12]) (by simp [results, Try.results27, go_sem, rc0, rc1, rc2, rc3, rc4, rc5, rc6, rc7, rc8, rc9, rc10, rc11]) rfl ⟨by rw [← HQ.out]; rfl, (((((((((((((bw_below B20 p20).setCell (p := ⟨w.heap.size, 0, none⟩) (by show w.heap.size ≤ w.heap.size; omega) _).setCell (p := ⟨w.heap.size, 1, none⟩) (by show w.heap.size ≤ w.heap.size; omega) _).setCell (p := ⟨w.heap.size, 2, none⟩) (by show w.heap.size ≤ w.heap.size; omega) _).setCell (p := ⟨w.heap.size, 3, none⟩) (by show w.heap.size ≤ w.heap.size; omega) _).setCell (p := ⟨w.heap.size, 4, none⟩) (by show w.heap.size ≤ w.heap.size; omega) _).setCell (p := ⟨w.heap.size, 5, none⟩) (by show w.heap.size ≤ w.heap.size; omega) _).setCell (p := ⟨w.heap.size, 6, none⟩) (by show w.heap.size ≤ w.heap.size; omega) _).setCell (p := ⟨w.heap.size, 7, none⟩) (by show w.heap.size ≤ w.heap.size; omega) _).setCell (p := ⟨w.heap.size, 8, none⟩) (by show w.heap.size ≤ w.heap.size; omega) _).setCell (p := ⟨w.heap.size, 9, none⟩) (by show w.heap.size ≤ w.heap.size; omega) _).setCell (p := ⟨w.heap.size, 10, none⟩) (by show w.heap.size ≤ w.heap.size; omega) _).setCell (p := ⟨w.heap.size, 11, none⟩) (by show w.heap.size ≤ w.heap.size; omega) _)⟩

def at3 {α : Type} (a b c : α) : Nat → α | 0 => a | 1 => b | _ => c
def at4 {α : Type} (a b c d : α) : Nat → α | 0 => a | 1 => b | 2 => c | _ => d

/-- As pose_changed, of 1, in the block that was made last. -/
theorem pose_changed1 (cap : Nat) (f0 : Bool) (g0 : FuncId) (bd0 : Array Value) (U0 U1 : P4) (wb w0 w : World) (hw : w = w0.alloc (.cells #[.bool f0, .func (.func g0) #[] bd0] 55)) (hB : Below wb.heap.size wb w0)
    (hg0 : Enters Try.prog g0) (h0 : U0 = pNone 16384) (hn0 : f0 = false → U1 = U0)
    (hx0 : f0 = true → ∀ (w' : World) (p : Nat), Below w.heap.size w w' → w.heap.size ≤ p → Bk w' p 29 (p12 U0) → Calls Try.prog g0 (#[.pointer (some ⟨p, 0, none⟩)] ++ bd0) w' fun e w'' => (∃ v, e = .returned v) ∧ Below p w' w'' ∧ Bk w'' p 29 (p12 U1)) :
    Calls Try.prog 27 #[.slice (some ⟨w0.heap.size, 0, none⟩) 1 cap] w fun e w' => e = .returned (.agg (p12 U1)) ∧ Below wb.heap.size wb w' := by
  have kb : Bk w w0.heap.size 55 #[.bool f0, .func (.func g0) #[] bd0] := by rw [hw]; exact Bk.new _ _ _
  have B0 : Below wb.heap.size wb w := by rw [hw]; exact hB.alloc hB.size _
  clear hw
  refine (pose_changed w0.heap.size 0 cap 1 (at3 f0 f0 f0) (at3 g0 g0 g0) (at3 bd0 bd0 bd0) (at4 U0 U1 U1 U1) w kb.lt (by omega) (fun k hk => ?_) (fun k hk => ?_) h0 (fun k hk => ?_) (fun k hk => ?_)).mono (fun e w' h => ⟨h.1, B0.trans (h.2.mono B0.size)⟩)
  · match k, hk with
    | 0, _ => exact ⟨kb.cell rfl, kb.cell rfl⟩
  · match k, hk with
    | 0, _ => exact hg0
  · match k, hk with
    | 0, _ => exact hn0
  · match k, hk with
    | 0, _ => exact hx0

/-- As pose_changed, of 3, in the block that was made last. -/
theorem pose_changed3 (cap : Nat) (f0 f1 f2 : Bool) (g0 g1 g2 : FuncId) (bd0 bd1 bd2 : Array Value) (U0 U1 U2 U3 : P4) (wb w0 w : World) (hw : w = w0.alloc (.cells #[.bool f0, .func (.func g0) #[] bd0, .bool f1, .func (.func g1) #[] bd1, .bool f2, .func (.func g2) #[] bd2] 55)) (hB : Below wb.heap.size wb w0)
    (hg0 : Enters Try.prog g0) (hg1 : Enters Try.prog g1) (hg2 : Enters Try.prog g2) (h0 : U0 = pNone 16384) (hn0 : f0 = false → U1 = U0) (hn1 : f1 = false → U2 = U1) (hn2 : f2 = false → U3 = U2)
    (hx0 : f0 = true → ∀ (w' : World) (p : Nat), Below w.heap.size w w' → w.heap.size ≤ p → Bk w' p 29 (p12 U0) → Calls Try.prog g0 (#[.pointer (some ⟨p, 0, none⟩)] ++ bd0) w' fun e w'' => (∃ v, e = .returned v) ∧ Below p w' w'' ∧ Bk w'' p 29 (p12 U1))
    (hx1 : f1 = true → ∀ (w' : World) (p : Nat), Below w.heap.size w w' → w.heap.size ≤ p → Bk w' p 29 (p12 U1) → Calls Try.prog g1 (#[.pointer (some ⟨p, 0, none⟩)] ++ bd1) w' fun e w'' => (∃ v, e = .returned v) ∧ Below p w' w'' ∧ Bk w'' p 29 (p12 U2))
    (hx2 : f2 = true → ∀ (w' : World) (p : Nat), Below w.heap.size w w' → w.heap.size ≤ p → Bk w' p 29 (p12 U2) → Calls Try.prog g2 (#[.pointer (some ⟨p, 0, none⟩)] ++ bd2) w' fun e w'' => (∃ v, e = .returned v) ∧ Below p w' w'' ∧ Bk w'' p 29 (p12 U3)) :
    Calls Try.prog 27 #[.slice (some ⟨w0.heap.size, 0, none⟩) 3 cap] w fun e w' => e = .returned (.agg (p12 U3)) ∧ Below wb.heap.size wb w' := by
  have kb : Bk w w0.heap.size 55 #[.bool f0, .func (.func g0) #[] bd0, .bool f1, .func (.func g1) #[] bd1, .bool f2, .func (.func g2) #[] bd2] := by rw [hw]; exact Bk.new _ _ _
  have B0 : Below wb.heap.size wb w := by rw [hw]; exact hB.alloc hB.size _
  clear hw
  refine (pose_changed w0.heap.size 0 cap 3 (at3 f0 f1 f2) (at3 g0 g1 g2) (at3 bd0 bd1 bd2) (at4 U0 U1 U2 U3) w kb.lt (by omega) (fun k hk => ?_) (fun k hk => ?_) h0 (fun k hk => ?_) (fun k hk => ?_)).mono (fun e w' h => ⟨h.1, B0.trans (h.2.mono B0.size)⟩)
  · match k, hk with
    | 0, _ => exact ⟨kb.cell rfl, kb.cell rfl⟩
    | 1, _ => exact ⟨kb.cell rfl, kb.cell rfl⟩
    | 2, _ => exact ⟨kb.cell rfl, kb.cell rfl⟩
  · match k, hk with
    | 0, _ => exact hg0
    | 1, _ => exact hg1
    | 2, _ => exact hg2
  · match k, hk with
    | 0, _ => exact hn0
    | 1, _ => exact hn1
    | 2, _ => exact hn2
  · match k, hk with
    | 0, _ => exact hx0
    | 1, _ => exact hx1
    | 2, _ => exact hx2

end Go.Proofs.Ytnoaljfdbfbhmaa
