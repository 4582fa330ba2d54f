/- Contracts of package basis, below: directions, near, times, over, extent, leastAxis, across. -/
import Derived.Test.YtijphipinjlmbaaVec06
import Derived.Test.YtijphipinjlmbaaMathb07
import Derived.Test.YtijphipinjlmbaaFloatl
import Derived.Deep.DeepCutAuto
namespace Go.Proofs.Ytijphipinjlmbaa
open Go.RowKit Go.Shelf Go.Proofs.Sky
set_option linter.unusedVariables false

set_option maxRecDepth 100000 in
set_option maxHeartbeats 4000000 in
theorem basis_directions (u1 u2 u3 v1 v2 v3 m1 m2 m3 : Int) (w : World) :
    Calls Try.prog 30 #[.agg #[.int .i64 u1, .int .i64 u2, .int .i64 u3, .int .i64 v1, .int .i64 v2, .int .i64 v3, .int .i64 m1, .int .i64 m2, .int .i64 m3]] w fun e w' => e = .returned (.agg #[.int .i64 u1, .int .i64 u2, .int .i64 u3, .int .i64 v1, .int .i64 v2, .int .i64 v3, .int .i64 m1, .int .i64 m2, .int .i64 m3]) ∧ Below w.heap.size w w' := by
  go_enter Try.func30, Try.ntmps30
  go_upto_region 1 with (fail)
  obtain ⟨W1, hW1⟩ : ∃ W, W = (w.alloc (.cells #[.int .i64 u1, .int .i64 u2, .int .i64 u3, .int .i64 v1, .int .i64 v2, .int .i64 v3, .int .i64 m1, .int .i64 m2, .int .i64 m3] 26)).alloc (.cells #[.int .i64 0, .int .i64 0, .int .i64 0, .int .i64 0, .int .i64 0, .int .i64 0, .int .i64 0, .int .i64 0, .int .i64 0] 45) := ⟨_, rfl⟩
  have B1 : Below w.heap.size w W1 := by rw [hW1]; go_grown
  have k_b : Bk W1 (w.heap.size) 26 #[.int .i64 u1, .int .i64 u2, .int .i64 u3, .int .i64 v1, .int .i64 v2, .int .i64 v3, .int .i64 m1, .int .i64 m2, .int .i64 m3] := by rw [hW1]; exact (Bk.new _ _ _).alloc _
  have k_r : Bk W1 (w.heap.size + 1) 45 #[.int .i64 0, .int .i64 0, .int .i64 0, .int .i64 0, .int .i64 0, .int .i64 0, .int .i64 0, .int .i64 0, .int .i64 0] := by rw [hW1]; exact Bk.new_at _ _ _ _ (by simp)
  rw [← hW1]
  clear hW1
  have l_r : w.heap.size < w.heap.size + 1 := by omega
  generalize w.heap.size + 1 = g_r at *
  have c_b_0 : ∀ p : BW W1, p.w.cell? ⟨w.heap.size, 0, none⟩ = some (.int .i64 u1) := bw_cell (k_b.cell rfl)
  have c_b_1 : ∀ p : BW W1, p.w.cell? ⟨w.heap.size, 1, none⟩ = some (.int .i64 u2) := bw_cell (k_b.cell rfl)
  have c_b_2 : ∀ p : BW W1, p.w.cell? ⟨w.heap.size, 2, none⟩ = some (.int .i64 u3) := bw_cell (k_b.cell rfl)
  have c_b_3 : ∀ p : BW W1, p.w.cell? ⟨w.heap.size, 3, none⟩ = some (.int .i64 v1) := bw_cell (k_b.cell rfl)
  have c_b_4 : ∀ p : BW W1, p.w.cell? ⟨w.heap.size, 4, none⟩ = some (.int .i64 v2) := bw_cell (k_b.cell rfl)
  have c_b_5 : ∀ p : BW W1, p.w.cell? ⟨w.heap.size, 5, none⟩ = some (.int .i64 v3) := bw_cell (k_b.cell rfl)
  have c_b_6 : ∀ p : BW W1, p.w.cell? ⟨w.heap.size, 6, none⟩ = some (.int .i64 m1) := bw_cell (k_b.cell rfl)
  have c_b_7 : ∀ p : BW W1, p.w.cell? ⟨w.heap.size, 7, none⟩ = some (.int .i64 m2) := bw_cell (k_b.cell rfl)
  have c_b_8 : ∀ p : BW W1, p.w.cell? ⟨w.heap.size, 8, none⟩ = some (.int .i64 m3) := bw_cell (k_b.cell rfl)
  have c_r_0 : ∀ p : BW W1, p.w.cell? ⟨g_r, 0, none⟩ = some (.int .i64 0) := bw_cell (k_r.cell rfl)
  have f_r_0 : ∀ p : BW W1, p.w.frozen? ⟨g_r, 0, none⟩ = false := fun p => (k_r.below p.h).frozen 0
  have c_r_1 : ∀ p : BW W1, p.w.cell? ⟨g_r, 1, none⟩ = some (.int .i64 0) := bw_cell (k_r.cell rfl)
  have f_r_1 : ∀ p : BW W1, p.w.frozen? ⟨g_r, 1, none⟩ = false := fun p => (k_r.below p.h).frozen 1
  have c_r_2 : ∀ p : BW W1, p.w.cell? ⟨g_r, 2, none⟩ = some (.int .i64 0) := bw_cell (k_r.cell rfl)
  have f_r_2 : ∀ p : BW W1, p.w.frozen? ⟨g_r, 2, none⟩ = false := fun p => (k_r.below p.h).frozen 2
  have c_r_3 : ∀ p : BW W1, p.w.cell? ⟨g_r, 3, none⟩ = some (.int .i64 0) := bw_cell (k_r.cell rfl)
  have f_r_3 : ∀ p : BW W1, p.w.frozen? ⟨g_r, 3, none⟩ = false := fun p => (k_r.below p.h).frozen 3
  have c_r_4 : ∀ p : BW W1, p.w.cell? ⟨g_r, 4, none⟩ = some (.int .i64 0) := bw_cell (k_r.cell rfl)
  have f_r_4 : ∀ p : BW W1, p.w.frozen? ⟨g_r, 4, none⟩ = false := fun p => (k_r.below p.h).frozen 4
  have c_r_5 : ∀ p : BW W1, p.w.cell? ⟨g_r, 5, none⟩ = some (.int .i64 0) := bw_cell (k_r.cell rfl)
  have f_r_5 : ∀ p : BW W1, p.w.frozen? ⟨g_r, 5, none⟩ = false := fun p => (k_r.below p.h).frozen 5
  have c_r_6 : ∀ p : BW W1, p.w.cell? ⟨g_r, 6, none⟩ = some (.int .i64 0) := bw_cell (k_r.cell rfl)
  have f_r_6 : ∀ p : BW W1, p.w.frozen? ⟨g_r, 6, none⟩ = false := fun p => (k_r.below p.h).frozen 6
  have c_r_7 : ∀ p : BW W1, p.w.cell? ⟨g_r, 7, none⟩ = some (.int .i64 0) := bw_cell (k_r.cell rfl)
  have f_r_7 : ∀ p : BW W1, p.w.frozen? ⟨g_r, 7, none⟩ = false := fun p => (k_r.below p.h).frozen 7
  have c_r_8 : ∀ p : BW W1, p.w.cell? ⟨g_r, 8, none⟩ = some (.int .i64 0) := bw_cell (k_r.cell rfl)
  have f_r_8 : ∀ p : BW W1, p.w.frozen? ⟨g_r, 8, none⟩ = false := fun p => (k_r.below p.h).frozen 8
  obtain ⟨p1, hp1⟩ : ∃ p : BW W1, p.w = W1 := ⟨BW.start W1, rfl⟩
  rw [← hp1]
  clear hp1
  go_wp2
  have kr : Bk (((((((((p1.w.setCell ⟨g_r, 0, none⟩ (.int .i64 u1)).setCell ⟨g_r, 1, none⟩ (.int .i64 u2)).setCell ⟨g_r, 2, none⟩ (.int .i64 u3)).setCell ⟨g_r, 3, none⟩ (.int .i64 v1)).setCell ⟨g_r, 4, none⟩ (.int .i64 v2)).setCell ⟨g_r, 5, none⟩ (.int .i64 v3)).setCell ⟨g_r, 6, none⟩ (.int .i64 m1)).setCell ⟨g_r, 7, none⟩ (.int .i64 m2)).setCell ⟨g_r, 8, none⟩ (.int .i64 m3)) (g_r) 45 #[.int .i64 u1, .int .i64 u2, .int .i64 u3, .int .i64 v1, .int .i64 v2, .int .i64 v3, .int .i64 m1, .int .i64 m2, .int .i64 m3] := ((((((((((k_r.below p1.h).set 0 (.int .i64 u1)).set 1 (.int .i64 u2)).set 2 (.int .i64 u3)).set 3 (.int .i64 v1)).set 4 (.int .i64 v2)).set 5 (.int .i64 v3)).set 6 (.int .i64 m1)).set 7 (.int .i64 m2)).set 8 (.int .i64 m3)).cast (by simp)
  have rc0 : World.cell? (((((((((p1.w.setCell ⟨g_r, 0, none⟩ (.int .i64 u1)).setCell ⟨g_r, 1, none⟩ (.int .i64 u2)).setCell ⟨g_r, 2, none⟩ (.int .i64 u3)).setCell ⟨g_r, 3, none⟩ (.int .i64 v1)).setCell ⟨g_r, 4, none⟩ (.int .i64 v2)).setCell ⟨g_r, 5, none⟩ (.int .i64 v3)).setCell ⟨g_r, 6, none⟩ (.int .i64 m1)).setCell ⟨g_r, 7, none⟩ (.int .i64 m2)).setCell ⟨g_r, 8, none⟩ (.int .i64 m3)) ⟨g_r, 0, none⟩ = some (.int .i64 u1) := kr.cell rfl
  have rc1 : World.cell? (((((((((p1.w.setCell ⟨g_r, 0, none⟩ (.int .i64 u1)).setCell ⟨g_r, 1, none⟩ (.int .i64 u2)).setCell ⟨g_r, 2, none⟩ (.int .i64 u3)).setCell ⟨g_r, 3, none⟩ (.int .i64 v1)).setCell ⟨g_r, 4, none⟩ (.int .i64 v2)).setCell ⟨g_r, 5, none⟩ (.int .i64 v3)).setCell ⟨g_r, 6, none⟩ (.int .i64 m1)).setCell ⟨g_r, 7, none⟩ (.int .i64 m2)).setCell ⟨g_r, 8, none⟩ (.int .i64 m3)) ⟨g_r, 1, none⟩ = some (.int .i64 u2) := kr.cell rfl
  have rc2 : World.cell? (((((((((p1.w.setCell ⟨g_r, 0, none⟩ (.int .i64 u1)).setCell ⟨g_r, 1, none⟩ (.int .i64 u2)).setCell ⟨g_r, 2, none⟩ (.int .i64 u3)).setCell ⟨g_r, 3, none⟩ (.int .i64 v1)).setCell ⟨g_r, 4, none⟩ (.int .i64 v2)).setCell ⟨g_r, 5, none⟩ (.int .i64 v3)).setCell ⟨g_r, 6, none⟩ (.int .i64 m1)).setCell ⟨g_r, 7, none⟩ (.int .i64 m2)).setCell ⟨g_r, 8, none⟩ (.int .i64 m3)) ⟨g_r, 2, none⟩ = some (.int .i64 u3) := kr.cell rfl
  have rc3 : World.cell? (((((((((p1.w.setCell ⟨g_r, 0, none⟩ (.int .i64 u1)).setCell ⟨g_r, 1, none⟩ (.int .i64 u2)).setCell ⟨g_r, 2, none⟩ (.int .i64 u3)).setCell ⟨g_r, 3, none⟩ (.int .i64 v1)).setCell ⟨g_r, 4, none⟩ (.int .i64 v2)).setCell ⟨g_r, 5, none⟩ (.int .i64 v3)).setCell ⟨g_r, 6, none⟩ (.int .i64 m1)).setCell ⟨g_r, 7, none⟩ (.int .i64 m2)).setCell ⟨g_r, 8, none⟩ (.int .i64 m3)) ⟨g_r, 3, none⟩ = some (.int .i64 v1) := kr.cell rfl
  have rc4 : World.cell? (((((((((p1.w.setCell ⟨g_r, 0, none⟩ (.int .i64 u1)).setCell ⟨g_r, 1, none⟩ (.int .i64 u2)).setCell ⟨g_r, 2, none⟩ (.int .i64 u3)).setCell ⟨g_r, 3, none⟩ (.int .i64 v1)).setCell ⟨g_r, 4, none⟩ (.int .i64 v2)).setCell ⟨g_r, 5, none⟩ (.int .i64 v3)).setCell ⟨g_r, 6, none⟩ (.int .i64 m1)).setCell ⟨g_r, 7, none⟩ (.int .i64 m2)).setCell ⟨g_r, 8, none⟩ (.int .i64 m3)) ⟨g_r, 4, none⟩ = some (.int .i64 v2) := kr.cell rfl
  have rc5 : World.cell? (((((((((p1.w.setCell ⟨g_r, 0, none⟩ (.int .i64 u1)).setCell ⟨g_r, 1, none⟩ (.int .i64 u2)).setCell ⟨g_r, 2, none⟩ (.int .i64 u3)).setCell ⟨g_r, 3, none⟩ (.int .i64 v1)).setCell ⟨g_r, 4, none⟩ (.int .i64 v2)).setCell ⟨g_r, 5, none⟩ (.int .i64 v3)).setCell ⟨g_r, 6, none⟩ (.int .i64 m1)).setCell ⟨g_r, 7, none⟩ (.int .i64 m2)).setCell ⟨g_r, 8, none⟩ (.int .i64 m3)) ⟨g_r, 5, none⟩ = some (.int .i64 v3) := kr.cell rfl
  have rc6 : World.cell? (((((((((p1.w.setCell ⟨g_r, 0, none⟩ (.int .i64 u1)).setCell ⟨g_r, 1, none⟩ (.int .i64 u2)).setCell ⟨g_r, 2, none⟩ (.int .i64 u3)).setCell ⟨g_r, 3, none⟩ (.int .i64 v1)).setCell ⟨g_r, 4, none⟩ (.int .i64 v2)).setCell ⟨g_r, 5, none⟩ (.int .i64 v3)).setCell ⟨g_r, 6, none⟩ (.int .i64 m1)).setCell ⟨g_r, 7, none⟩ (.int .i64 m2)).setCell ⟨g_r, 8, none⟩ (.int .i64 m3)) ⟨g_r, 6, none⟩ = some (.int .i64 m1) := kr.cell rfl
  have rc7 : World.cell? (((((((((p1.w.setCell ⟨g_r, 0, none⟩ (.int .i64 u1)).setCell ⟨g_r, 1, none⟩ (.int .i64 u2)).setCell ⟨g_r, 2, none⟩ (.int .i64 u3)).setCell ⟨g_r, 3, none⟩ (.int .i64 v1)).setCell ⟨g_r, 4, none⟩ (.int .i64 v2)).setCell ⟨g_r, 5, none⟩ (.int .i64 v3)).setCell ⟨g_r, 6, none⟩ (.int .i64 m1)).setCell ⟨g_r, 7, none⟩ (.int .i64 m2)).setCell ⟨g_r, 8, none⟩ (.int .i64 m3)) ⟨g_r, 7, none⟩ = some (.int .i64 m2) := kr.cell rfl
  have rc8 : World.cell? (((((((((p1.w.setCell ⟨g_r, 0, none⟩ (.int .i64 u1)).setCell ⟨g_r, 1, none⟩ (.int .i64 u2)).setCell ⟨g_r, 2, none⟩ (.int .i64 u3)).setCell ⟨g_r, 3, none⟩ (.int .i64 v1)).setCell ⟨g_r, 4, none⟩ (.int .i64 v2)).setCell ⟨g_r, 5, none⟩ (.int .i64 v3)).setCell ⟨g_r, 6, none⟩ (.int .i64 m1)).setCell ⟨g_r, 7, none⟩ (.int .i64 m2)).setCell ⟨g_r, 8, none⟩ (.int .i64 m3)) ⟨g_r, 8, none⟩ = some (.int .i64 m3) := kr.cell rfl
  exact bodyPost_ret (v := .agg #[.int .i64 u1, .int .i64 u2, .int .i64 u3, .int .i64 v1, .int .i64 v2, .int .i64 v3, .int .i64 m1, .int .i64 m2, .int .i64 m3]) (by simp [results, Try.results30, go_sem, rc0, rc1, rc2, rc3, rc4, rc5, rc6, rc7, rc8]) rfl ⟨rfl, ((((((((((bw_below B1 p1).setCell (p := ⟨g_r, 0, none⟩) (by show w.heap.size ≤ g_r; omega) _).setCell (p := ⟨g_r, 1, none⟩) (by show w.heap.size ≤ g_r; omega) _).setCell (p := ⟨g_r, 2, none⟩) (by show w.heap.size ≤ g_r; omega) _).setCell (p := ⟨g_r, 3, none⟩) (by show w.heap.size ≤ g_r; omega) _).setCell (p := ⟨g_r, 4, none⟩) (by show w.heap.size ≤ g_r; omega) _).setCell (p := ⟨g_r, 5, none⟩) (by show w.heap.size ≤ g_r; omega) _).setCell (p := ⟨g_r, 6, none⟩) (by show w.heap.size ≤ g_r; omega) _).setCell (p := ⟨g_r, 7, none⟩) (by show w.heap.size ≤ g_r; omega) _).setCell (p := ⟨g_r, 8, none⟩) (by show w.heap.size ≤ g_r; omega) _)⟩

set_option maxRecDepth 100000 in
set_option maxHeartbeats 4000000 in
theorem basis_near (u1 u2 u3 v1 v2 v3 m1 m2 m3 : Int) (w : World) :
    Calls Try.prog 28 #[.agg #[.int .i64 u1, .int .i64 u2, .int .i64 u3, .int .i64 v1, .int .i64 v2, .int .i64 v3, .int .i64 m1, .int .i64 m2, .int .i64 m3]] w fun e w' => e = .returned (.bool (vnear u1 u2 u3 && (vnear v1 v2 v3 && vnear m1 m2 m3))) ∧ Below w.heap.size w w' := by
  have D := Lib.hid (fun w => basis_directions u1 u2 u3 v1 v2 v3 m1 m2 m3 w)
  have N1 := Lib.hid (fun w => vec_Near u1 u2 u3 w)
  have N2 := Lib.hid (fun w => vec_Near v1 v2 v3 w)
  have N3 := Lib.hid (fun w => vec_Near m1 m2 m3 w)
  generalize vnear u1 u2 u3 = n1 at *
  generalize vnear v1 v2 v3 = n2 at *
  generalize vnear m1 m2 m3 = n3 at *
  have i0 : ∀ w, (Instr.index 45 (.agg #[.int .i64 u1, .int .i64 u2, .int .i64 u3, .int .i64 v1, .int .i64 v2, .int .i64 v3, .int .i64 m1, .int .i64 m2, .int .i64 m3]) (.int .i64 0)).run Try.prog w = .ok (.agg #[.int .i64 u1, .int .i64 u2, .int .i64 u3]) w := fun _ => by kernel_rfl
  have i1 : ∀ w, (Instr.index 45 (.agg #[.int .i64 u1, .int .i64 u2, .int .i64 u3, .int .i64 v1, .int .i64 v2, .int .i64 v3, .int .i64 m1, .int .i64 m2, .int .i64 m3]) (.int .i64 1)).run Try.prog w = .ok (.agg #[.int .i64 v1, .int .i64 v2, .int .i64 v3]) w := fun _ => by kernel_rfl
  have i2 : ∀ w, (Instr.index 45 (.agg #[.int .i64 u1, .int .i64 u2, .int .i64 u3, .int .i64 v1, .int .i64 v2, .int .i64 v3, .int .i64 m1, .int .i64 m2, .int .i64 m3]) (.int .i64 2)).run Try.prog w = .ok (.agg #[.int .i64 m1, .int .i64 m2, .int .i64 m3]) w := fun _ => by kernel_rfl
  cases n1 with
  | false =>
    go_enter Try.func28, Try.ntmps28
    go_upto_region 1 with (fail)
    obtain ⟨W1, hW1⟩ : ∃ W, W = w.alloc (.cells #[.int .i64 u1, .int .i64 u2, .int .i64 u3, .int .i64 v1, .int .i64 v2, .int .i64 v3, .int .i64 m1, .int .i64 m2, .int .i64 m3] 26) := ⟨_, rfl⟩
    have B1 : Below w.heap.size w W1 := by rw [hW1]; go_grown
    have k_b : Bk W1 (w.heap.size) 26 #[.int .i64 u1, .int .i64 u2, .int .i64 u3, .int .i64 v1, .int .i64 v2, .int .i64 v3, .int .i64 m1, .int .i64 m2, .int .i64 m3] := by rw [hW1]; exact Bk.new _ _ _
    rw [← hW1]
    clear hW1
    have c_b_0 : ∀ p : BW W1, p.w.cell? ⟨w.heap.size, 0, none⟩ = some (.int .i64 u1) := bw_cell (k_b.cell rfl)
    have c_b_1 : ∀ p : BW W1, p.w.cell? ⟨w.heap.size, 1, none⟩ = some (.int .i64 u2) := bw_cell (k_b.cell rfl)
    have c_b_2 : ∀ p : BW W1, p.w.cell? ⟨w.heap.size, 2, none⟩ = some (.int .i64 u3) := bw_cell (k_b.cell rfl)
    have c_b_3 : ∀ p : BW W1, p.w.cell? ⟨w.heap.size, 3, none⟩ = some (.int .i64 v1) := bw_cell (k_b.cell rfl)
    have c_b_4 : ∀ p : BW W1, p.w.cell? ⟨w.heap.size, 4, none⟩ = some (.int .i64 v2) := bw_cell (k_b.cell rfl)
    have c_b_5 : ∀ p : BW W1, p.w.cell? ⟨w.heap.size, 5, none⟩ = some (.int .i64 v3) := bw_cell (k_b.cell rfl)
    have c_b_6 : ∀ p : BW W1, p.w.cell? ⟨w.heap.size, 6, none⟩ = some (.int .i64 m1) := bw_cell (k_b.cell rfl)
    have c_b_7 : ∀ p : BW W1, p.w.cell? ⟨w.heap.size, 7, none⟩ = some (.int .i64 m2) := bw_cell (k_b.cell rfl)
    have c_b_8 : ∀ p : BW W1, p.w.cell? ⟨w.heap.size, 8, none⟩ = some (.int .i64 m3) := bw_cell (k_b.cell rfl)
    obtain ⟨p1, hp1⟩ : ∃ p : BW W1, p.w = W1 := ⟨BW.start W1, rfl⟩
    rw [← hp1]
    clear hp1
    go_upto_region 2 with (first
      | (go_at_call 30; (first | (with_reducible refine (bw_call D.out _).mono ?_)); rintro e w' ⟨rfl, q, rfl⟩))
    refine wp_loop_rounds 4 ?_
    rw [rounds_succ]
    go_upto_region 4 with (fail)
    obtain ⟨W2, hW2⟩ : ∃ W, W = q.w.alloc (.cells #[.int .i64 u1, .int .i64 u2, .int .i64 u3] 23) := ⟨_, rfl⟩
    have B2 : Below w.heap.size w W2 := by rw [hW2]; exact (bw_below B1 q).alloc (bw_below B1 q).size _
    have l_d0 : w.heap.size < q.w.heap.size := (k_b.below q.h).lt
    have k_b := (k_b.below q.h).alloc (.cells #[.int .i64 u1, .int .i64 u2, .int .i64 u3] 23)
    rw [← hW2] at k_b
    have k_d0 : Bk W2 q.w.heap.size 23 #[.int .i64 u1, .int .i64 u2, .int .i64 u3] := by rw [hW2]; exact Bk.new _ _ _
    rw [← hW2]
    clear hW2
    clear B1
    clear c_b_0 c_b_1 c_b_2 c_b_3 c_b_4 c_b_5 c_b_6 c_b_7 c_b_8
    generalize q.w.heap.size = g_d0 at *
    have c_b_0 : ∀ p : BW W2, p.w.cell? ⟨w.heap.size, 0, none⟩ = some (.int .i64 u1) := bw_cell (k_b.cell rfl)
    have c_b_1 : ∀ p : BW W2, p.w.cell? ⟨w.heap.size, 1, none⟩ = some (.int .i64 u2) := bw_cell (k_b.cell rfl)
    have c_b_2 : ∀ p : BW W2, p.w.cell? ⟨w.heap.size, 2, none⟩ = some (.int .i64 u3) := bw_cell (k_b.cell rfl)
    have c_b_3 : ∀ p : BW W2, p.w.cell? ⟨w.heap.size, 3, none⟩ = some (.int .i64 v1) := bw_cell (k_b.cell rfl)
    have c_b_4 : ∀ p : BW W2, p.w.cell? ⟨w.heap.size, 4, none⟩ = some (.int .i64 v2) := bw_cell (k_b.cell rfl)
    have c_b_5 : ∀ p : BW W2, p.w.cell? ⟨w.heap.size, 5, none⟩ = some (.int .i64 v3) := bw_cell (k_b.cell rfl)
    have c_b_6 : ∀ p : BW W2, p.w.cell? ⟨w.heap.size, 6, none⟩ = some (.int .i64 m1) := bw_cell (k_b.cell rfl)
    have c_b_7 : ∀ p : BW W2, p.w.cell? ⟨w.heap.size, 7, none⟩ = some (.int .i64 m2) := bw_cell (k_b.cell rfl)
    have c_b_8 : ∀ p : BW W2, p.w.cell? ⟨w.heap.size, 8, none⟩ = some (.int .i64 m3) := bw_cell (k_b.cell rfl)
    have c_d0_0 : ∀ p : BW W2, p.w.cell? ⟨g_d0, 0, none⟩ = some (.int .i64 u1) := bw_cell (k_d0.cell rfl)
    have c_d0_1 : ∀ p : BW W2, p.w.cell? ⟨g_d0, 1, none⟩ = some (.int .i64 u2) := bw_cell (k_d0.cell rfl)
    have c_d0_2 : ∀ p : BW W2, p.w.cell? ⟨g_d0, 2, none⟩ = some (.int .i64 u3) := bw_cell (k_d0.cell rfl)
    obtain ⟨p2, hp2⟩ : ∃ p : BW W2, p.w = W2 := ⟨BW.start W2, rfl⟩
    rw [← hp2]
    clear hp2
    go_wp2_with (first
      | (go_at_call 29; (first | (with_reducible refine (bw_call N1.out _).mono ?_)); rintro e w' ⟨rfl, q, rfl⟩))
    go_ret
    exact ⟨rfl, bw_below B2 q⟩
  | true =>
    cases n2 with
    | false =>
      go_enter Try.func28, Try.ntmps28
      go_upto_region 1 with (fail)
      obtain ⟨W1, hW1⟩ : ∃ W, W = w.alloc (.cells #[.int .i64 u1, .int .i64 u2, .int .i64 u3, .int .i64 v1, .int .i64 v2, .int .i64 v3, .int .i64 m1, .int .i64 m2, .int .i64 m3] 26) := ⟨_, rfl⟩
      have B1 : Below w.heap.size w W1 := by rw [hW1]; go_grown
      have k_b : Bk W1 (w.heap.size) 26 #[.int .i64 u1, .int .i64 u2, .int .i64 u3, .int .i64 v1, .int .i64 v2, .int .i64 v3, .int .i64 m1, .int .i64 m2, .int .i64 m3] := by rw [hW1]; exact Bk.new _ _ _
      rw [← hW1]
      clear hW1
      have c_b_0 : ∀ p : BW W1, p.w.cell? ⟨w.heap.size, 0, none⟩ = some (.int .i64 u1) := bw_cell (k_b.cell rfl)
      have c_b_1 : ∀ p : BW W1, p.w.cell? ⟨w.heap.size, 1, none⟩ = some (.int .i64 u2) := bw_cell (k_b.cell rfl)
      have c_b_2 : ∀ p : BW W1, p.w.cell? ⟨w.heap.size, 2, none⟩ = some (.int .i64 u3) := bw_cell (k_b.cell rfl)
      have c_b_3 : ∀ p : BW W1, p.w.cell? ⟨w.heap.size, 3, none⟩ = some (.int .i64 v1) := bw_cell (k_b.cell rfl)
      have c_b_4 : ∀ p : BW W1, p.w.cell? ⟨w.heap.size, 4, none⟩ = some (.int .i64 v2) := bw_cell (k_b.cell rfl)
      have c_b_5 : ∀ p : BW W1, p.w.cell? ⟨w.heap.size, 5, none⟩ = some (.int .i64 v3) := bw_cell (k_b.cell rfl)
      have c_b_6 : ∀ p : BW W1, p.w.cell? ⟨w.heap.size, 6, none⟩ = some (.int .i64 m1) := bw_cell (k_b.cell rfl)
      have c_b_7 : ∀ p : BW W1, p.w.cell? ⟨w.heap.size, 7, none⟩ = some (.int .i64 m2) := bw_cell (k_b.cell rfl)
      have c_b_8 : ∀ p : BW W1, p.w.cell? ⟨w.heap.size, 8, none⟩ = some (.int .i64 m3) := bw_cell (k_b.cell rfl)
      obtain ⟨p1, hp1⟩ : ∃ p : BW W1, p.w = W1 := ⟨BW.start W1, rfl⟩
      rw [← hp1]
      clear hp1
      go_upto_region 2 with (first
        | (go_at_call 30; (first | (with_reducible refine (bw_call D.out _).mono ?_)); rintro e w' ⟨rfl, q, rfl⟩))
      refine wp_loop_rounds 4 ?_
      rw [rounds_succ]
      go_upto_region 4 with (fail)
      obtain ⟨W2, hW2⟩ : ∃ W, W = q.w.alloc (.cells #[.int .i64 u1, .int .i64 u2, .int .i64 u3] 23) := ⟨_, rfl⟩
      have B2 : Below w.heap.size w W2 := by rw [hW2]; exact (bw_below B1 q).alloc (bw_below B1 q).size _
      have l_d0 : w.heap.size < q.w.heap.size := (k_b.below q.h).lt
      have k_b := (k_b.below q.h).alloc (.cells #[.int .i64 u1, .int .i64 u2, .int .i64 u3] 23)
      rw [← hW2] at k_b
      have k_d0 : Bk W2 q.w.heap.size 23 #[.int .i64 u1, .int .i64 u2, .int .i64 u3] := by rw [hW2]; exact Bk.new _ _ _
      rw [← hW2]
      clear hW2
      clear B1
      clear c_b_0 c_b_1 c_b_2 c_b_3 c_b_4 c_b_5 c_b_6 c_b_7 c_b_8
      generalize q.w.heap.size = g_d0 at *
      have c_b_0 : ∀ p : BW W2, p.w.cell? ⟨w.heap.size, 0, none⟩ = some (.int .i64 u1) := bw_cell (k_b.cell rfl)
      have c_b_1 : ∀ p : BW W2, p.w.cell? ⟨w.heap.size, 1, none⟩ = some (.int .i64 u2) := bw_cell (k_b.cell rfl)
      have c_b_2 : ∀ p : BW W2, p.w.cell? ⟨w.heap.size, 2, none⟩ = some (.int .i64 u3) := bw_cell (k_b.cell rfl)
      have c_b_3 : ∀ p : BW W2, p.w.cell? ⟨w.heap.size, 3, none⟩ = some (.int .i64 v1) := bw_cell (k_b.cell rfl)
      have c_b_4 : ∀ p : BW W2, p.w.cell? ⟨w.heap.size, 4, none⟩ = some (.int .i64 v2) := bw_cell (k_b.cell rfl)
      have c_b_5 : ∀ p : BW W2, p.w.cell? ⟨w.heap.size, 5, none⟩ = some (.int .i64 v3) := bw_cell (k_b.cell rfl)
      have c_b_6 : ∀ p : BW W2, p.w.cell? ⟨w.heap.size, 6, none⟩ = some (.int .i64 m1) := bw_cell (k_b.cell rfl)
      have c_b_7 : ∀ p : BW W2, p.w.cell? ⟨w.heap.size, 7, none⟩ = some (.int .i64 m2) := bw_cell (k_b.cell rfl)
      have c_b_8 : ∀ p : BW W2, p.w.cell? ⟨w.heap.size, 8, none⟩ = some (.int .i64 m3) := bw_cell (k_b.cell rfl)
      have c_d0_0 : ∀ p : BW W2, p.w.cell? ⟨g_d0, 0, none⟩ = some (.int .i64 u1) := bw_cell (k_d0.cell rfl)
      have c_d0_1 : ∀ p : BW W2, p.w.cell? ⟨g_d0, 1, none⟩ = some (.int .i64 u2) := bw_cell (k_d0.cell rfl)
      have c_d0_2 : ∀ p : BW W2, p.w.cell? ⟨g_d0, 2, none⟩ = some (.int .i64 u3) := bw_cell (k_d0.cell rfl)
      obtain ⟨p2, hp2⟩ : ∃ p : BW W2, p.w = W2 := ⟨BW.start W2, rfl⟩
      rw [← hp2]
      clear hp2
      go_wp2_with (first
        | (go_at_call 29; (first | (with_reducible refine (bw_call N1.out _).mono ?_)); rintro e w' ⟨rfl, q, rfl⟩))
      rw [rounds_succ]
      go_upto_region 4 with (fail)
      obtain ⟨W3, hW3⟩ : ∃ W, W = q.w.alloc (.cells #[.int .i64 v1, .int .i64 v2, .int .i64 v3] 23) := ⟨_, rfl⟩
      have B3 : Below w.heap.size w W3 := by rw [hW3]; exact (bw_below B2 q).alloc (bw_below B2 q).size _
      have l_d1 : g_d0 < q.w.heap.size := (k_d0.below q.h).lt
      have k_b := (k_b.below q.h).alloc (.cells #[.int .i64 v1, .int .i64 v2, .int .i64 v3] 23)
      rw [← hW3] at k_b
      have k_d0 := (k_d0.below q.h).alloc (.cells #[.int .i64 v1, .int .i64 v2, .int .i64 v3] 23)
      rw [← hW3] at k_d0
      have k_d1 : Bk W3 q.w.heap.size 23 #[.int .i64 v1, .int .i64 v2, .int .i64 v3] := by rw [hW3]; exact Bk.new _ _ _
      rw [← hW3]
      clear hW3
      clear B2
      clear c_b_0 c_b_1 c_b_2 c_b_3 c_b_4 c_b_5 c_b_6 c_b_7 c_b_8 c_d0_0 c_d0_1 c_d0_2
      generalize q.w.heap.size = g_d1 at *
      have c_b_0 : ∀ p : BW W3, p.w.cell? ⟨w.heap.size, 0, none⟩ = some (.int .i64 u1) := bw_cell (k_b.cell rfl)
      have c_b_1 : ∀ p : BW W3, p.w.cell? ⟨w.heap.size, 1, none⟩ = some (.int .i64 u2) := bw_cell (k_b.cell rfl)
      have c_b_2 : ∀ p : BW W3, p.w.cell? ⟨w.heap.size, 2, none⟩ = some (.int .i64 u3) := bw_cell (k_b.cell rfl)
      have c_b_3 : ∀ p : BW W3, p.w.cell? ⟨w.heap.size, 3, none⟩ = some (.int .i64 v1) := bw_cell (k_b.cell rfl)
      have c_b_4 : ∀ p : BW W3, p.w.cell? ⟨w.heap.size, 4, none⟩ = some (.int .i64 v2) := bw_cell (k_b.cell rfl)
      have c_b_5 : ∀ p : BW W3, p.w.cell? ⟨w.heap.size, 5, none⟩ = some (.int .i64 v3) := bw_cell (k_b.cell rfl)
      have c_b_6 : ∀ p : BW W3, p.w.cell? ⟨w.heap.size, 6, none⟩ = some (.int .i64 m1) := bw_cell (k_b.cell rfl)
      have c_b_7 : ∀ p : BW W3, p.w.cell? ⟨w.heap.size, 7, none⟩ = some (.int .i64 m2) := bw_cell (k_b.cell rfl)
      have c_b_8 : ∀ p : BW W3, p.w.cell? ⟨w.heap.size, 8, none⟩ = some (.int .i64 m3) := bw_cell (k_b.cell rfl)
      have c_d0_0 : ∀ p : BW W3, p.w.cell? ⟨g_d0, 0, none⟩ = some (.int .i64 u1) := bw_cell (k_d0.cell rfl)
      have c_d0_1 : ∀ p : BW W3, p.w.cell? ⟨g_d0, 1, none⟩ = some (.int .i64 u2) := bw_cell (k_d0.cell rfl)
      have c_d0_2 : ∀ p : BW W3, p.w.cell? ⟨g_d0, 2, none⟩ = some (.int .i64 u3) := bw_cell (k_d0.cell rfl)
      have c_d1_0 : ∀ p : BW W3, p.w.cell? ⟨g_d1, 0, none⟩ = some (.int .i64 v1) := bw_cell (k_d1.cell rfl)
      have c_d1_1 : ∀ p : BW W3, p.w.cell? ⟨g_d1, 1, none⟩ = some (.int .i64 v2) := bw_cell (k_d1.cell rfl)
      have c_d1_2 : ∀ p : BW W3, p.w.cell? ⟨g_d1, 2, none⟩ = some (.int .i64 v3) := bw_cell (k_d1.cell rfl)
      obtain ⟨p3, hp3⟩ : ∃ p : BW W3, p.w = W3 := ⟨BW.start W3, rfl⟩
      rw [← hp3]
      clear hp3
      go_wp2_with (first
        | (go_at_call 29; (first | (with_reducible refine (bw_call N2.out _).mono ?_)); rintro e w' ⟨rfl, q, rfl⟩))
      go_ret
      exact ⟨rfl, bw_below B3 q⟩
    | true =>
      cases n3 with
      | false =>
        go_enter Try.func28, Try.ntmps28
        go_upto_region 1 with (fail)
        obtain ⟨W1, hW1⟩ : ∃ W, W = w.alloc (.cells #[.int .i64 u1, .int .i64 u2, .int .i64 u3, .int .i64 v1, .int .i64 v2, .int .i64 v3, .int .i64 m1, .int .i64 m2, .int .i64 m3] 26) := ⟨_, rfl⟩
        have B1 : Below w.heap.size w W1 := by rw [hW1]; go_grown
        have k_b : Bk W1 (w.heap.size) 26 #[.int .i64 u1, .int .i64 u2, .int .i64 u3, .int .i64 v1, .int .i64 v2, .int .i64 v3, .int .i64 m1, .int .i64 m2, .int .i64 m3] := by rw [hW1]; exact Bk.new _ _ _
        rw [← hW1]
        clear hW1
        have c_b_0 : ∀ p : BW W1, p.w.cell? ⟨w.heap.size, 0, none⟩ = some (.int .i64 u1) := bw_cell (k_b.cell rfl)
        have c_b_1 : ∀ p : BW W1, p.w.cell? ⟨w.heap.size, 1, none⟩ = some (.int .i64 u2) := bw_cell (k_b.cell rfl)
        have c_b_2 : ∀ p : BW W1, p.w.cell? ⟨w.heap.size, 2, none⟩ = some (.int .i64 u3) := bw_cell (k_b.cell rfl)
        have c_b_3 : ∀ p : BW W1, p.w.cell? ⟨w.heap.size, 3, none⟩ = some (.int .i64 v1) := bw_cell (k_b.cell rfl)
        have c_b_4 : ∀ p : BW W1, p.w.cell? ⟨w.heap.size, 4, none⟩ = some (.int .i64 v2) := bw_cell (k_b.cell rfl)
        have c_b_5 : ∀ p : BW W1, p.w.cell? ⟨w.heap.size, 5, none⟩ = some (.int .i64 v3) := bw_cell (k_b.cell rfl)
        have c_b_6 : ∀ p : BW W1, p.w.cell? ⟨w.heap.size, 6, none⟩ = some (.int .i64 m1) := bw_cell (k_b.cell rfl)
        have c_b_7 : ∀ p : BW W1, p.w.cell? ⟨w.heap.size, 7, none⟩ = some (.int .i64 m2) := bw_cell (k_b.cell rfl)
        have c_b_8 : ∀ p : BW W1, p.w.cell? ⟨w.heap.size, 8, none⟩ = some (.int .i64 m3) := bw_cell (k_b.cell rfl)
        obtain ⟨p1, hp1⟩ : ∃ p : BW W1, p.w = W1 := ⟨BW.start W1, rfl⟩
        rw [← hp1]
        clear hp1
        go_upto_region 2 with (first
          | (go_at_call 30; (first | (with_reducible refine (bw_call D.out _).mono ?_)); rintro e w' ⟨rfl, q, rfl⟩))
        refine wp_loop_rounds 4 ?_
        rw [rounds_succ]
        go_upto_region 4 with (fail)
        obtain ⟨W2, hW2⟩ : ∃ W, W = q.w.alloc (.cells #[.int .i64 u1, .int .i64 u2, .int .i64 u3] 23) := ⟨_, rfl⟩
        have B2 : Below w.heap.size w W2 := by rw [hW2]; exact (bw_below B1 q).alloc (bw_below B1 q).size _
        have l_d0 : w.heap.size < q.w.heap.size := (k_b.below q.h).lt
        have k_b := (k_b.below q.h).alloc (.cells #[.int .i64 u1, .int .i64 u2, .int .i64 u3] 23)
        rw [← hW2] at k_b
        have k_d0 : Bk W2 q.w.heap.size 23 #[.int .i64 u1, .int .i64 u2, .int .i64 u3] := by rw [hW2]; exact Bk.new _ _ _
        rw [← hW2]
        clear hW2
        clear B1
        clear c_b_0 c_b_1 c_b_2 c_b_3 c_b_4 c_b_5 c_b_6 c_b_7 c_b_8
        generalize q.w.heap.size = g_d0 at *
        have c_b_0 : ∀ p : BW W2, p.w.cell? ⟨w.heap.size, 0, none⟩ = some (.int .i64 u1) := bw_cell (k_b.cell rfl)
        have c_b_1 : ∀ p : BW W2, p.w.cell? ⟨w.heap.size, 1, none⟩ = some (.int .i64 u2) := bw_cell (k_b.cell rfl)
        have c_b_2 : ∀ p : BW W2, p.w.cell? ⟨w.heap.size, 2, none⟩ = some (.int .i64 u3) := bw_cell (k_b.cell rfl)
        have c_b_3 : ∀ p : BW W2, p.w.cell? ⟨w.heap.size, 3, none⟩ = some (.int .i64 v1) := bw_cell (k_b.cell rfl)
        have c_b_4 : ∀ p : BW W2, p.w.cell? ⟨w.heap.size, 4, none⟩ = some (.int .i64 v2) := bw_cell (k_b.cell rfl)
        have c_b_5 : ∀ p : BW W2, p.w.cell? ⟨w.heap.size, 5, none⟩ = some (.int .i64 v3) := bw_cell (k_b.cell rfl)
        have c_b_6 : ∀ p : BW W2, p.w.cell? ⟨w.heap.size, 6, none⟩ = some (.int .i64 m1) := bw_cell (k_b.cell rfl)
        have c_b_7 : ∀ p : BW W2, p.w.cell? ⟨w.heap.size, 7, none⟩ = some (.int .i64 m2) := bw_cell (k_b.cell rfl)
        have c_b_8 : ∀ p : BW W2, p.w.cell? ⟨w.heap.size, 8, none⟩ = some (.int .i64 m3) := bw_cell (k_b.cell rfl)
        have c_d0_0 : ∀ p : BW W2, p.w.cell? ⟨g_d0, 0, none⟩ = some (.int .i64 u1) := bw_cell (k_d0.cell rfl)
        have c_d0_1 : ∀ p : BW W2, p.w.cell? ⟨g_d0, 1, none⟩ = some (.int .i64 u2) := bw_cell (k_d0.cell rfl)
        have c_d0_2 : ∀ p : BW W2, p.w.cell? ⟨g_d0, 2, none⟩ = some (.int .i64 u3) := bw_cell (k_d0.cell rfl)
        obtain ⟨p2, hp2⟩ : ∃ p : BW W2, p.w = W2 := ⟨BW.start W2, rfl⟩
        rw [← hp2]
        clear hp2
        go_wp2_with (first
          | (go_at_call 29; (first | (with_reducible refine (bw_call N1.out _).mono ?_)); rintro e w' ⟨rfl, q, rfl⟩))
        rw [rounds_succ]
        go_upto_region 4 with (fail)
        obtain ⟨W3, hW3⟩ : ∃ W, W = q.w.alloc (.cells #[.int .i64 v1, .int .i64 v2, .int .i64 v3] 23) := ⟨_, rfl⟩
        have B3 : Below w.heap.size w W3 := by rw [hW3]; exact (bw_below B2 q).alloc (bw_below B2 q).size _
        have l_d1 : g_d0 < q.w.heap.size := (k_d0.below q.h).lt
        have k_b := (k_b.below q.h).alloc (.cells #[.int .i64 v1, .int .i64 v2, .int .i64 v3] 23)
        rw [← hW3] at k_b
        have k_d0 := (k_d0.below q.h).alloc (.cells #[.int .i64 v1, .int .i64 v2, .int .i64 v3] 23)
        rw [← hW3] at k_d0
        have k_d1 : Bk W3 q.w.heap.size 23 #[.int .i64 v1, .int .i64 v2, .int .i64 v3] := by rw [hW3]; exact Bk.new _ _ _
        rw [← hW3]
        clear hW3
        clear B2
        clear c_b_0 c_b_1 c_b_2 c_b_3 c_b_4 c_b_5 c_b_6 c_b_7 c_b_8 c_d0_0 c_d0_1 c_d0_2
        generalize q.w.heap.size = g_d1 at *
        have c_b_0 : ∀ p : BW W3, p.w.cell? ⟨w.heap.size, 0, none⟩ = some (.int .i64 u1) := bw_cell (k_b.cell rfl)
        have c_b_1 : ∀ p : BW W3, p.w.cell? ⟨w.heap.size, 1, none⟩ = some (.int .i64 u2) := bw_cell (k_b.cell rfl)
        have c_b_2 : ∀ p : BW W3, p.w.cell? ⟨w.heap.size, 2, none⟩ = some (.int .i64 u3) := bw_cell (k_b.cell rfl)
        have c_b_3 : ∀ p : BW W3, p.w.cell? ⟨w.heap.size, 3, none⟩ = some (.int .i64 v1) := bw_cell (k_b.cell rfl)
        have c_b_4 : ∀ p : BW W3, p.w.cell? ⟨w.heap.size, 4, none⟩ = some (.int .i64 v2) := bw_cell (k_b.cell rfl)
        have c_b_5 : ∀ p : BW W3, p.w.cell? ⟨w.heap.size, 5, none⟩ = some (.int .i64 v3) := bw_cell (k_b.cell rfl)
        have c_b_6 : ∀ p : BW W3, p.w.cell? ⟨w.heap.size, 6, none⟩ = some (.int .i64 m1) := bw_cell (k_b.cell rfl)
        have c_b_7 : ∀ p : BW W3, p.w.cell? ⟨w.heap.size, 7, none⟩ = some (.int .i64 m2) := bw_cell (k_b.cell rfl)
        have c_b_8 : ∀ p : BW W3, p.w.cell? ⟨w.heap.size, 8, none⟩ = some (.int .i64 m3) := bw_cell (k_b.cell rfl)
        have c_d0_0 : ∀ p : BW W3, p.w.cell? ⟨g_d0, 0, none⟩ = some (.int .i64 u1) := bw_cell (k_d0.cell rfl)
        have c_d0_1 : ∀ p : BW W3, p.w.cell? ⟨g_d0, 1, none⟩ = some (.int .i64 u2) := bw_cell (k_d0.cell rfl)
        have c_d0_2 : ∀ p : BW W3, p.w.cell? ⟨g_d0, 2, none⟩ = some (.int .i64 u3) := bw_cell (k_d0.cell rfl)
        have c_d1_0 : ∀ p : BW W3, p.w.cell? ⟨g_d1, 0, none⟩ = some (.int .i64 v1) := bw_cell (k_d1.cell rfl)
        have c_d1_1 : ∀ p : BW W3, p.w.cell? ⟨g_d1, 1, none⟩ = some (.int .i64 v2) := bw_cell (k_d1.cell rfl)
        have c_d1_2 : ∀ p : BW W3, p.w.cell? ⟨g_d1, 2, none⟩ = some (.int .i64 v3) := bw_cell (k_d1.cell rfl)
        obtain ⟨p3, hp3⟩ : ∃ p : BW W3, p.w = W3 := ⟨BW.start W3, rfl⟩
        rw [← hp3]
        clear hp3
        go_wp2_with (first
          | (go_at_call 29; (first | (with_reducible refine (bw_call N2.out _).mono ?_)); rintro e w' ⟨rfl, q, rfl⟩))
        rw [rounds_succ]
        go_upto_region 4 with (fail)
        obtain ⟨W4, hW4⟩ : ∃ W, W = q.w.alloc (.cells #[.int .i64 m1, .int .i64 m2, .int .i64 m3] 23) := ⟨_, rfl⟩
        have B4 : Below w.heap.size w W4 := by rw [hW4]; exact (bw_below B3 q).alloc (bw_below B3 q).size _
        have l_d2 : g_d1 < q.w.heap.size := (k_d1.below q.h).lt
        have k_b := (k_b.below q.h).alloc (.cells #[.int .i64 m1, .int .i64 m2, .int .i64 m3] 23)
        rw [← hW4] at k_b
        have k_d0 := (k_d0.below q.h).alloc (.cells #[.int .i64 m1, .int .i64 m2, .int .i64 m3] 23)
        rw [← hW4] at k_d0
        have k_d1 := (k_d1.below q.h).alloc (.cells #[.int .i64 m1, .int .i64 m2, .int .i64 m3] 23)
        rw [← hW4] at k_d1
        have k_d2 : Bk W4 q.w.heap.size 23 #[.int .i64 m1, .int .i64 m2, .int .i64 m3] := by rw [hW4]; exact Bk.new _ _ _
        rw [← hW4]
        clear hW4
        clear B3
        clear c_b_0 c_b_1 c_b_2 c_b_3 c_b_4 c_b_5 c_b_6 c_b_7 c_b_8 c_d0_0 c_d0_1 c_d0_2 c_d1_0 c_d1_1 c_d1_2
        generalize q.w.heap.size = g_d2 at *
        have c_b_0 : ∀ p : BW W4, p.w.cell? ⟨w.heap.size, 0, none⟩ = some (.int .i64 u1) := bw_cell (k_b.cell rfl)
        have c_b_1 : ∀ p : BW W4, p.w.cell? ⟨w.heap.size, 1, none⟩ = some (.int .i64 u2) := bw_cell (k_b.cell rfl)
        have c_b_2 : ∀ p : BW W4, p.w.cell? ⟨w.heap.size, 2, none⟩ = some (.int .i64 u3) := bw_cell (k_b.cell rfl)
        have c_b_3 : ∀ p : BW W4, p.w.cell? ⟨w.heap.size, 3, none⟩ = some (.int .i64 v1) := bw_cell (k_b.cell rfl)
        have c_b_4 : ∀ p : BW W4, p.w.cell? ⟨w.heap.size, 4, none⟩ = some (.int .i64 v2) := bw_cell (k_b.cell rfl)
        have c_b_5 : ∀ p : BW W4, p.w.cell? ⟨w.heap.size, 5, none⟩ = some (.int .i64 v3) := bw_cell (k_b.cell rfl)
        have c_b_6 : ∀ p : BW W4, p.w.cell? ⟨w.heap.size, 6, none⟩ = some (.int .i64 m1) := bw_cell (k_b.cell rfl)
        have c_b_7 : ∀ p : BW W4, p.w.cell? ⟨w.heap.size, 7, none⟩ = some (.int .i64 m2) := bw_cell (k_b.cell rfl)
        have c_b_8 : ∀ p : BW W4, p.w.cell? ⟨w.heap.size, 8, none⟩ = some (.int .i64 m3) := bw_cell (k_b.cell rfl)
        have c_d0_0 : ∀ p : BW W4, p.w.cell? ⟨g_d0, 0, none⟩ = some (.int .i64 u1) := bw_cell (k_d0.cell rfl)
        have c_d0_1 : ∀ p : BW W4, p.w.cell? ⟨g_d0, 1, none⟩ = some (.int .i64 u2) := bw_cell (k_d0.cell rfl)
        have c_d0_2 : ∀ p : BW W4, p.w.cell? ⟨g_d0, 2, none⟩ = some (.int .i64 u3) := bw_cell (k_d0.cell rfl)
        have c_d1_0 : ∀ p : BW W4, p.w.cell? ⟨g_d1, 0, none⟩ = some (.int .i64 v1) := bw_cell (k_d1.cell rfl)
        have c_d1_1 : ∀ p : BW W4, p.w.cell? ⟨g_d1, 1, none⟩ = some (.int .i64 v2) := bw_cell (k_d1.cell rfl)
        have c_d1_2 : ∀ p : BW W4, p.w.cell? ⟨g_d1, 2, none⟩ = some (.int .i64 v3) := bw_cell (k_d1.cell rfl)
        have c_d2_0 : ∀ p : BW W4, p.w.cell? ⟨g_d2, 0, none⟩ = some (.int .i64 m1) := bw_cell (k_d2.cell rfl)
        have c_d2_1 : ∀ p : BW W4, p.w.cell? ⟨g_d2, 1, none⟩ = some (.int .i64 m2) := bw_cell (k_d2.cell rfl)
        have c_d2_2 : ∀ p : BW W4, p.w.cell? ⟨g_d2, 2, none⟩ = some (.int .i64 m3) := bw_cell (k_d2.cell rfl)
        obtain ⟨p4, hp4⟩ : ∃ p : BW W4, p.w = W4 := ⟨BW.start W4, rfl⟩
        rw [← hp4]
        clear hp4
        go_wp2_with (first
          | (go_at_call 29; (first | (with_reducible refine (bw_call N3.out _).mono ?_)); rintro e w' ⟨rfl, q, rfl⟩))
        go_ret
        exact ⟨rfl, bw_below B4 q⟩
      | true =>
        go_enter Try.func28, Try.ntmps28
        go_upto_region 1 with (fail)
        obtain ⟨W1, hW1⟩ : ∃ W, W = w.alloc (.cells #[.int .i64 u1, .int .i64 u2, .int .i64 u3, .int .i64 v1, .int .i64 v2, .int .i64 v3, .int .i64 m1, .int .i64 m2, .int .i64 m3] 26) := ⟨_, rfl⟩
        have B1 : Below w.heap.size w W1 := by rw [hW1]; go_grown
        have k_b : Bk W1 (w.heap.size) 26 #[.int .i64 u1, .int .i64 u2, .int .i64 u3, .int .i64 v1, .int .i64 v2, .int .i64 v3, .int .i64 m1, .int .i64 m2, .int .i64 m3] := by rw [hW1]; exact Bk.new _ _ _
        rw [← hW1]
        clear hW1
        have c_b_0 : ∀ p : BW W1, p.w.cell? ⟨w.heap.size, 0, none⟩ = some (.int .i64 u1) := bw_cell (k_b.cell rfl)
        have c_b_1 : ∀ p : BW W1, p.w.cell? ⟨w.heap.size, 1, none⟩ = some (.int .i64 u2) := bw_cell (k_b.cell rfl)
        have c_b_2 : ∀ p : BW W1, p.w.cell? ⟨w.heap.size, 2, none⟩ = some (.int .i64 u3) := bw_cell (k_b.cell rfl)
        have c_b_3 : ∀ p : BW W1, p.w.cell? ⟨w.heap.size, 3, none⟩ = some (.int .i64 v1) := bw_cell (k_b.cell rfl)
        have c_b_4 : ∀ p : BW W1, p.w.cell? ⟨w.heap.size, 4, none⟩ = some (.int .i64 v2) := bw_cell (k_b.cell rfl)
        have c_b_5 : ∀ p : BW W1, p.w.cell? ⟨w.heap.size, 5, none⟩ = some (.int .i64 v3) := bw_cell (k_b.cell rfl)
        have c_b_6 : ∀ p : BW W1, p.w.cell? ⟨w.heap.size, 6, none⟩ = some (.int .i64 m1) := bw_cell (k_b.cell rfl)
        have c_b_7 : ∀ p : BW W1, p.w.cell? ⟨w.heap.size, 7, none⟩ = some (.int .i64 m2) := bw_cell (k_b.cell rfl)
        have c_b_8 : ∀ p : BW W1, p.w.cell? ⟨w.heap.size, 8, none⟩ = some (.int .i64 m3) := bw_cell (k_b.cell rfl)
        obtain ⟨p1, hp1⟩ : ∃ p : BW W1, p.w = W1 := ⟨BW.start W1, rfl⟩
        rw [← hp1]
        clear hp1
        go_upto_region 2 with (first
          | (go_at_call 30; (first | (with_reducible refine (bw_call D.out _).mono ?_)); rintro e w' ⟨rfl, q, rfl⟩))
        refine wp_loop_rounds 4 ?_
        rw [rounds_succ]
        go_upto_region 4 with (fail)
        obtain ⟨W2, hW2⟩ : ∃ W, W = q.w.alloc (.cells #[.int .i64 u1, .int .i64 u2, .int .i64 u3] 23) := ⟨_, rfl⟩
        have B2 : Below w.heap.size w W2 := by rw [hW2]; exact (bw_below B1 q).alloc (bw_below B1 q).size _
        have l_d0 : w.heap.size < q.w.heap.size := (k_b.below q.h).lt
        have k_b := (k_b.below q.h).alloc (.cells #[.int .i64 u1, .int .i64 u2, .int .i64 u3] 23)
        rw [← hW2] at k_b
        have k_d0 : Bk W2 q.w.heap.size 23 #[.int .i64 u1, .int .i64 u2, .int .i64 u3] := by rw [hW2]; exact Bk.new _ _ _
        rw [← hW2]
        clear hW2
        clear B1
        clear c_b_0 c_b_1 c_b_2 c_b_3 c_b_4 c_b_5 c_b_6 c_b_7 c_b_8
        generalize q.w.heap.size = g_d0 at *
        have c_b_0 : ∀ p : BW W2, p.w.cell? ⟨w.heap.size, 0, none⟩ = some (.int .i64 u1) := bw_cell (k_b.cell rfl)
        have c_b_1 : ∀ p : BW W2, p.w.cell? ⟨w.heap.size, 1, none⟩ = some (.int .i64 u2) := bw_cell (k_b.cell rfl)
        have c_b_2 : ∀ p : BW W2, p.w.cell? ⟨w.heap.size, 2, none⟩ = some (.int .i64 u3) := bw_cell (k_b.cell rfl)
        have c_b_3 : ∀ p : BW W2, p.w.cell? ⟨w.heap.size, 3, none⟩ = some (.int .i64 v1) := bw_cell (k_b.cell rfl)
        have c_b_4 : ∀ p : BW W2, p.w.cell? ⟨w.heap.size, 4, none⟩ = some (.int .i64 v2) := bw_cell (k_b.cell rfl)
        have c_b_5 : ∀ p : BW W2, p.w.cell? ⟨w.heap.size, 5, none⟩ = some (.int .i64 v3) := bw_cell (k_b.cell rfl)
        have c_b_6 : ∀ p : BW W2, p.w.cell? ⟨w.heap.size, 6, none⟩ = some (.int .i64 m1) := bw_cell (k_b.cell rfl)
        have c_b_7 : ∀ p : BW W2, p.w.cell? ⟨w.heap.size, 7, none⟩ = some (.int .i64 m2) := bw_cell (k_b.cell rfl)
        have c_b_8 : ∀ p : BW W2, p.w.cell? ⟨w.heap.size, 8, none⟩ = some (.int .i64 m3) := bw_cell (k_b.cell rfl)
        have c_d0_0 : ∀ p : BW W2, p.w.cell? ⟨g_d0, 0, none⟩ = some (.int .i64 u1) := bw_cell (k_d0.cell rfl)
        have c_d0_1 : ∀ p : BW W2, p.w.cell? ⟨g_d0, 1, none⟩ = some (.int .i64 u2) := bw_cell (k_d0.cell rfl)
        have c_d0_2 : ∀ p : BW W2, p.w.cell? ⟨g_d0, 2, none⟩ = some (.int .i64 u3) := bw_cell (k_d0.cell rfl)
        obtain ⟨p2, hp2⟩ : ∃ p : BW W2, p.w = W2 := ⟨BW.start W2, rfl⟩
        rw [← hp2]
        clear hp2
        go_wp2_with (first
          | (go_at_call 29; (first | (with_reducible refine (bw_call N1.out _).mono ?_)); rintro e w' ⟨rfl, q, rfl⟩))
        rw [rounds_succ]
        go_upto_region 4 with (fail)
        obtain ⟨W3, hW3⟩ : ∃ W, W = q.w.alloc (.cells #[.int .i64 v1, .int .i64 v2, .int .i64 v3] 23) := ⟨_, rfl⟩
        have B3 : Below w.heap.size w W3 := by rw [hW3]; exact (bw_below B2 q).alloc (bw_below B2 q).size _
        have l_d1 : g_d0 < q.w.heap.size := (k_d0.below q.h).lt
        have k_b := (k_b.below q.h).alloc (.cells #[.int .i64 v1, .int .i64 v2, .int .i64 v3] 23)
        rw [← hW3] at k_b
        have k_d0 := (k_d0.below q.h).alloc (.cells #[.int .i64 v1, .int .i64 v2, .int .i64 v3] 23)
        rw [← hW3] at k_d0
        have k_d1 : Bk W3 q.w.heap.size 23 #[.int .i64 v1, .int .i64 v2, .int .i64 v3] := by rw [hW3]; exact Bk.new _ _ _
        rw [← hW3]
        clear hW3
        clear B2
        clear c_b_0 c_b_1 c_b_2 c_b_3 c_b_4 c_b_5 c_b_6 c_b_7 c_b_8 c_d0_0 c_d0_1 c_d0_2
        generalize q.w.heap.size = g_d1 at *
        have c_b_0 : ∀ p : BW W3, p.w.cell? ⟨w.heap.size, 0, none⟩ = some (.int .i64 u1) := bw_cell (k_b.cell rfl)
        have c_b_1 : ∀ p : BW W3, p.w.cell? ⟨w.heap.size, 1, none⟩ = some (.int .i64 u2) := bw_cell (k_b.cell rfl)
        have c_b_2 : ∀ p : BW W3, p.w.cell? ⟨w.heap.size, 2, none⟩ = some (.int .i64 u3) := bw_cell (k_b.cell rfl)
        have c_b_3 : ∀ p : BW W3, p.w.cell? ⟨w.heap.size, 3, none⟩ = some (.int .i64 v1) := bw_cell (k_b.cell rfl)
        have c_b_4 : ∀ p : BW W3, p.w.cell? ⟨w.heap.size, 4, none⟩ = some (.int .i64 v2) := bw_cell (k_b.cell rfl)
        have c_b_5 : ∀ p : BW W3, p.w.cell? ⟨w.heap.size, 5, none⟩ = some (.int .i64 v3) := bw_cell (k_b.cell rfl)
        have c_b_6 : ∀ p : BW W3, p.w.cell? ⟨w.heap.size, 6, none⟩ = some (.int .i64 m1) := bw_cell (k_b.cell rfl)
        have c_b_7 : ∀ p : BW W3, p.w.cell? ⟨w.heap.size, 7, none⟩ = some (.int .i64 m2) := bw_cell (k_b.cell rfl)
        have c_b_8 : ∀ p : BW W3, p.w.cell? ⟨w.heap.size, 8, none⟩ = some (.int .i64 m3) := bw_cell (k_b.cell rfl)
        have c_d0_0 : ∀ p : BW W3, p.w.cell? ⟨g_d0, 0, none⟩ = some (.int .i64 u1) := bw_cell (k_d0.cell rfl)
        have c_d0_1 : ∀ p : BW W3, p.w.cell? ⟨g_d0, 1, none⟩ = some (.int .i64 u2) := bw_cell (k_d0.cell rfl)
        have c_d0_2 : ∀ p : BW W3, p.w.cell? ⟨g_d0, 2, none⟩ = some (.int .i64 u3) := bw_cell (k_d0.cell rfl)
        have c_d1_0 : ∀ p : BW W3, p.w.cell? ⟨g_d1, 0, none⟩ = some (.int .i64 v1) := bw_cell (k_d1.cell rfl)
        have c_d1_1 : ∀ p : BW W3, p.w.cell? ⟨g_d1, 1, none⟩ = some (.int .i64 v2) := bw_cell (k_d1.cell rfl)
        have c_d1_2 : ∀ p : BW W3, p.w.cell? ⟨g_d1, 2, none⟩ = some (.int .i64 v3) := bw_cell (k_d1.cell rfl)
        obtain ⟨p3, hp3⟩ : ∃ p : BW W3, p.w = W3 := ⟨BW.start W3, rfl⟩
        rw [← hp3]
        clear hp3
        go_wp2_with (first
          | (go_at_call 29; (first | (with_reducible refine (bw_call N2.out _).mono ?_)); rintro e w' ⟨rfl, q, rfl⟩))
        rw [rounds_succ]
        go_upto_region 4 with (fail)
        obtain ⟨W4, hW4⟩ : ∃ W, W = q.w.alloc (.cells #[.int .i64 m1, .int .i64 m2, .int .i64 m3] 23) := ⟨_, rfl⟩
        have B4 : Below w.heap.size w W4 := by rw [hW4]; exact (bw_below B3 q).alloc (bw_below B3 q).size _
        have l_d2 : g_d1 < q.w.heap.size := (k_d1.below q.h).lt
        have k_b := (k_b.below q.h).alloc (.cells #[.int .i64 m1, .int .i64 m2, .int .i64 m3] 23)
        rw [← hW4] at k_b
        have k_d0 := (k_d0.below q.h).alloc (.cells #[.int .i64 m1, .int .i64 m2, .int .i64 m3] 23)
        rw [← hW4] at k_d0
        have k_d1 := (k_d1.below q.h).alloc (.cells #[.int .i64 m1, .int .i64 m2, .int .i64 m3] 23)
        rw [← hW4] at k_d1
        have k_d2 : Bk W4 q.w.heap.size 23 #[.int .i64 m1, .int .i64 m2, .int .i64 m3] := by rw [hW4]; exact Bk.new _ _ _
        rw [← hW4]
        clear hW4
        clear B3
        clear c_b_0 c_b_1 c_b_2 c_b_3 c_b_4 c_b_5 c_b_6 c_b_7 c_b_8 c_d0_0 c_d0_1 c_d0_2 c_d1_0 c_d1_1 c_d1_2
        generalize q.w.heap.size = g_d2 at *
        have c_b_0 : ∀ p : BW W4, p.w.cell? ⟨w.heap.size, 0, none⟩ = some (.int .i64 u1) := bw_cell (k_b.cell rfl)
        have c_b_1 : ∀ p : BW W4, p.w.cell? ⟨w.heap.size, 1, none⟩ = some (.int .i64 u2) := bw_cell (k_b.cell rfl)
        have c_b_2 : ∀ p : BW W4, p.w.cell? ⟨w.heap.size, 2, none⟩ = some (.int .i64 u3) := bw_cell (k_b.cell rfl)
        have c_b_3 : ∀ p : BW W4, p.w.cell? ⟨w.heap.size, 3, none⟩ = some (.int .i64 v1) := bw_cell (k_b.cell rfl)
        have c_b_4 : ∀ p : BW W4, p.w.cell? ⟨w.heap.size, 4, none⟩ = some (.int .i64 v2) := bw_cell (k_b.cell rfl)
        have c_b_5 : ∀ p : BW W4, p.w.cell? ⟨w.heap.size, 5, none⟩ = some (.int .i64 v3) := bw_cell (k_b.cell rfl)
        have c_b_6 : ∀ p : BW W4, p.w.cell? ⟨w.heap.size, 6, none⟩ = some (.int .i64 m1) := bw_cell (k_b.cell rfl)
        have c_b_7 : ∀ p : BW W4, p.w.cell? ⟨w.heap.size, 7, none⟩ = some (.int .i64 m2) := bw_cell (k_b.cell rfl)
        have c_b_8 : ∀ p : BW W4, p.w.cell? ⟨w.heap.size, 8, none⟩ = some (.int .i64 m3) := bw_cell (k_b.cell rfl)
        have c_d0_0 : ∀ p : BW W4, p.w.cell? ⟨g_d0, 0, none⟩ = some (.int .i64 u1) := bw_cell (k_d0.cell rfl)
        have c_d0_1 : ∀ p : BW W4, p.w.cell? ⟨g_d0, 1, none⟩ = some (.int .i64 u2) := bw_cell (k_d0.cell rfl)
        have c_d0_2 : ∀ p : BW W4, p.w.cell? ⟨g_d0, 2, none⟩ = some (.int .i64 u3) := bw_cell (k_d0.cell rfl)
        have c_d1_0 : ∀ p : BW W4, p.w.cell? ⟨g_d1, 0, none⟩ = some (.int .i64 v1) := bw_cell (k_d1.cell rfl)
        have c_d1_1 : ∀ p : BW W4, p.w.cell? ⟨g_d1, 1, none⟩ = some (.int .i64 v2) := bw_cell (k_d1.cell rfl)
        have c_d1_2 : ∀ p : BW W4, p.w.cell? ⟨g_d1, 2, none⟩ = some (.int .i64 v3) := bw_cell (k_d1.cell rfl)
        have c_d2_0 : ∀ p : BW W4, p.w.cell? ⟨g_d2, 0, none⟩ = some (.int .i64 m1) := bw_cell (k_d2.cell rfl)
        have c_d2_1 : ∀ p : BW W4, p.w.cell? ⟨g_d2, 1, none⟩ = some (.int .i64 m2) := bw_cell (k_d2.cell rfl)
        have c_d2_2 : ∀ p : BW W4, p.w.cell? ⟨g_d2, 2, none⟩ = some (.int .i64 m3) := bw_cell (k_d2.cell rfl)
        obtain ⟨p4, hp4⟩ : ∃ p : BW W4, p.w = W4 := ⟨BW.start W4, rfl⟩
        rw [← hp4]
        clear hp4
        go_wp2_with (first
          | (go_at_call 29; (first | (with_reducible refine (bw_call N3.out _).mono ?_)); rintro e w' ⟨rfl, q, rfl⟩))
        rw [rounds_succ]
        go_wp2
        go_ret
        exact ⟨rfl, bw_below B4 q⟩

set_option maxRecDepth 100000 in
set_option maxHeartbeats 4000000 in
theorem basis_times (x y z n a b c : Int) (w : World) (h1 : x * n = a) (h2 : y * n = b) (h3 : z * n = c) (i1 : I64 a) (i2 : I64 b) (i3 : I64 c) :
    Calls Try.prog 32 #[.agg #[.int .i64 x, .int .i64 y, .int .i64 z], .int .i64 n] w fun e w' => e = .returned (.agg #[.int .i64 a, .int .i64 b, .int .i64 c]) ∧ Below w.heap.size w w' := by
  have e1 : wrap64 a = a := IntWalk.wrap64_in _ (by unfold I64 at i1; omega)
  have e2 : wrap64 b = b := IntWalk.wrap64_in _ (by unfold I64 at i2; omega)
  have e3 : wrap64 c = c := IntWalk.wrap64_in _ (by unfold I64 at i3; omega)
  clear i1 i2 i3
  go_enter Try.func32, Try.ntmps32
  go_upto_region 1 with (fail)
  obtain ⟨W1, hW1⟩ : ∃ W, W = (w.alloc (.cells #[.int .i64 x, .int .i64 y, .int .i64 z] 23)).alloc (.cells #[.int .i64 0, .int .i64 0, .int .i64 0] 23) := ⟨_, rfl⟩
  have B1 : Below w.heap.size w W1 := by rw [hW1]; go_grown
  have k_v : Bk W1 (w.heap.size) 23 #[.int .i64 x, .int .i64 y, .int .i64 z] := by rw [hW1]; exact (Bk.new _ _ _).alloc _
  have k_r : Bk W1 (w.heap.size + 1) 23 #[.int .i64 0, .int .i64 0, .int .i64 0] := by rw [hW1]; exact Bk.new_at _ _ _ _ (by simp)
  rw [← hW1]
  clear hW1
  have l_r : w.heap.size < w.heap.size + 1 := by omega
  generalize w.heap.size + 1 = g_r at *
  have c_v_0 : ∀ p : BW W1, p.w.cell? ⟨w.heap.size, 0, none⟩ = some (.int .i64 x) := bw_cell (k_v.cell rfl)
  have c_v_1 : ∀ p : BW W1, p.w.cell? ⟨w.heap.size, 1, none⟩ = some (.int .i64 y) := bw_cell (k_v.cell rfl)
  have c_v_2 : ∀ p : BW W1, p.w.cell? ⟨w.heap.size, 2, none⟩ = some (.int .i64 z) := bw_cell (k_v.cell rfl)
  have c_r_0 : ∀ p : BW W1, p.w.cell? ⟨g_r, 0, none⟩ = some (.int .i64 0) := bw_cell (k_r.cell rfl)
  have f_r_0 : ∀ p : BW W1, p.w.frozen? ⟨g_r, 0, none⟩ = false := fun p => (k_r.below p.h).frozen 0
  have c_r_1 : ∀ p : BW W1, p.w.cell? ⟨g_r, 1, none⟩ = some (.int .i64 0) := bw_cell (k_r.cell rfl)
  have f_r_1 : ∀ p : BW W1, p.w.frozen? ⟨g_r, 1, none⟩ = false := fun p => (k_r.below p.h).frozen 1
  have c_r_2 : ∀ p : BW W1, p.w.cell? ⟨g_r, 2, none⟩ = some (.int .i64 0) := bw_cell (k_r.cell rfl)
  have f_r_2 : ∀ p : BW W1, p.w.frozen? ⟨g_r, 2, none⟩ = false := fun p => (k_r.below p.h).frozen 2
  obtain ⟨p1, hp1⟩ : ∃ p : BW W1, p.w = W1 := ⟨BW.start W1, rfl⟩
  rw [← hp1]
  clear hp1
  go_wp2
  have kr : Bk (((p1.w.setCell ⟨g_r, 0, none⟩ (.int .i64 a)).setCell ⟨g_r, 1, none⟩ (.int .i64 b)).setCell ⟨g_r, 2, none⟩ (.int .i64 c)) (g_r) 23 #[.int .i64 a, .int .i64 b, .int .i64 c] := ((((k_r.below p1.h).set 0 (.int .i64 a)).set 1 (.int .i64 b)).set 2 (.int .i64 c))
  have rc0 : World.cell? (((p1.w.setCell ⟨g_r, 0, none⟩ (.int .i64 a)).setCell ⟨g_r, 1, none⟩ (.int .i64 b)).setCell ⟨g_r, 2, none⟩ (.int .i64 c)) ⟨g_r, 0, none⟩ = some (.int .i64 a) := kr.cell rfl
  have rc1 : World.cell? (((p1.w.setCell ⟨g_r, 0, none⟩ (.int .i64 a)).setCell ⟨g_r, 1, none⟩ (.int .i64 b)).setCell ⟨g_r, 2, none⟩ (.int .i64 c)) ⟨g_r, 1, none⟩ = some (.int .i64 b) := kr.cell rfl
  have rc2 : World.cell? (((p1.w.setCell ⟨g_r, 0, none⟩ (.int .i64 a)).setCell ⟨g_r, 1, none⟩ (.int .i64 b)).setCell ⟨g_r, 2, none⟩ (.int .i64 c)) ⟨g_r, 2, none⟩ = some (.int .i64 c) := kr.cell rfl
  exact bodyPost_ret (v := .agg #[.int .i64 a, .int .i64 b, .int .i64 c]) (by simp [results, Try.results32, go_sem, rc0, rc1, rc2]) rfl ⟨rfl, ((((bw_below B1 p1).setCell (p := ⟨g_r, 0, none⟩) (by show w.heap.size ≤ g_r; omega) _).setCell (p := ⟨g_r, 1, none⟩) (by show w.heap.size ≤ g_r; omega) _).setCell (p := ⟨g_r, 2, none⟩) (by show w.heap.size ≤ g_r; omega) _)⟩

set_option maxRecDepth 100000 in
set_option maxHeartbeats 4000000 in
theorem basis_over (x y z n : Int) (w : World) (hx : I64 x) (hy : I64 y) (hz : I64 z) (hn : I64 n) (h1 : 1 ≤ n) :
    Calls Try.prog 33 #[.agg #[.int .i64 x, .int .i64 y, .int .i64 z], .int .i64 n] w fun e w' => e = .returned (.agg #[.int .i64 (x / n), .int .i64 (y / n), .int .i64 (z / n)]) ∧ Below w.heap.size w w' := by
  have t : ∀ a : Int, dv a n = a / n := fun a => by unfold dv; rw [if_neg (by omega)]
  have V1 := Lib.hid (fun w => below_of_same (fun w => num_Div x n w hx hn) w)
  rw [t] at V1
  generalize x / n = r1 at *
  have V2 := Lib.hid (fun w => below_of_same (fun w => num_Div y n w hy hn) w)
  rw [t] at V2
  generalize y / n = r2 at *
  have V3 := Lib.hid (fun w => below_of_same (fun w => num_Div z n w hz hn) w)
  rw [t] at V3
  generalize z / n = r3 at *
  clear t hx hy hz hn h1
  go_enter Try.func33, Try.ntmps33
  go_upto_region 1 with (fail)
  obtain ⟨W1, hW1⟩ : ∃ W, W = (w.alloc (.cells #[.int .i64 x, .int .i64 y, .int .i64 z] 23)).alloc (.cells #[.int .i64 0, .int .i64 0, .int .i64 0] 23) := ⟨_, rfl⟩
  have B1 : Below w.heap.size w W1 := by rw [hW1]; go_grown
  have k_v : Bk W1 (w.heap.size) 23 #[.int .i64 x, .int .i64 y, .int .i64 z] := by rw [hW1]; exact (Bk.new _ _ _).alloc _
  have k_r : Bk W1 (w.heap.size + 1) 23 #[.int .i64 0, .int .i64 0, .int .i64 0] := by rw [hW1]; exact Bk.new_at _ _ _ _ (by simp)
  rw [← hW1]
  clear hW1
  have l_r : w.heap.size < w.heap.size + 1 := by omega
  generalize w.heap.size + 1 = g_r at *
  have c_v_0 : ∀ p : BW W1, p.w.cell? ⟨w.heap.size, 0, none⟩ = some (.int .i64 x) := bw_cell (k_v.cell rfl)
  have c_v_1 : ∀ p : BW W1, p.w.cell? ⟨w.heap.size, 1, none⟩ = some (.int .i64 y) := bw_cell (k_v.cell rfl)
  have c_v_2 : ∀ p : BW W1, p.w.cell? ⟨w.heap.size, 2, none⟩ = some (.int .i64 z) := bw_cell (k_v.cell rfl)
  have c_r_0 : ∀ p : BW W1, p.w.cell? ⟨g_r, 0, none⟩ = some (.int .i64 0) := bw_cell (k_r.cell rfl)
  have f_r_0 : ∀ p : BW W1, p.w.frozen? ⟨g_r, 0, none⟩ = false := fun p => (k_r.below p.h).frozen 0
  have c_r_1 : ∀ p : BW W1, p.w.cell? ⟨g_r, 1, none⟩ = some (.int .i64 0) := bw_cell (k_r.cell rfl)
  have f_r_1 : ∀ p : BW W1, p.w.frozen? ⟨g_r, 1, none⟩ = false := fun p => (k_r.below p.h).frozen 1
  have c_r_2 : ∀ p : BW W1, p.w.cell? ⟨g_r, 2, none⟩ = some (.int .i64 0) := bw_cell (k_r.cell rfl)
  have f_r_2 : ∀ p : BW W1, p.w.frozen? ⟨g_r, 2, none⟩ = false := fun p => (k_r.below p.h).frozen 2
  obtain ⟨p1, hp1⟩ : ∃ p : BW W1, p.w = W1 := ⟨BW.start W1, rfl⟩
  rw [← hp1]
  clear hp1
  refine wp_region_bw_tail 12 (by kernel_rfl) (by kernel_rfl) (by kernel_rfl) ?_
  simp only [List.take_succ_cons, List.take_zero, List.drop_succ_cons, List.drop_zero]
  repeat (go_big_quiet_step (first
    | (go_at_call 54; (first | (with_reducible exact bw_call V1.out _) | (with_reducible exact bw_call V2.out _) | (with_reducible exact bw_call V3.out _)))))
  refine wpQuiet_nil ?_
  intro _ hw'
  obtain ⟨q, rfl⟩ := hw'
  go_wp2
  have kr : Bk (((q.w.setCell ⟨g_r, 0, none⟩ (.int .i64 r1)).setCell ⟨g_r, 1, none⟩ (.int .i64 r2)).setCell ⟨g_r, 2, none⟩ (.int .i64 r3)) (g_r) 23 #[.int .i64 r1, .int .i64 r2, .int .i64 r3] := ((((k_r.below q.h).set 0 (.int .i64 r1)).set 1 (.int .i64 r2)).set 2 (.int .i64 r3))
  have rc0 : World.cell? (((q.w.setCell ⟨g_r, 0, none⟩ (.int .i64 r1)).setCell ⟨g_r, 1, none⟩ (.int .i64 r2)).setCell ⟨g_r, 2, none⟩ (.int .i64 r3)) ⟨g_r, 0, none⟩ = some (.int .i64 r1) := kr.cell rfl
  have rc1 : World.cell? (((q.w.setCell ⟨g_r, 0, none⟩ (.int .i64 r1)).setCell ⟨g_r, 1, none⟩ (.int .i64 r2)).setCell ⟨g_r, 2, none⟩ (.int .i64 r3)) ⟨g_r, 1, none⟩ = some (.int .i64 r2) := kr.cell rfl
  have rc2 : World.cell? (((q.w.setCell ⟨g_r, 0, none⟩ (.int .i64 r1)).setCell ⟨g_r, 1, none⟩ (.int .i64 r2)).setCell ⟨g_r, 2, none⟩ (.int .i64 r3)) ⟨g_r, 2, none⟩ = some (.int .i64 r3) := kr.cell rfl
  exact bodyPost_ret (v := .agg #[.int .i64 r1, .int .i64 r2, .int .i64 r3]) (by simp [results, Try.results33, go_sem, rc0, rc1, rc2]) rfl ⟨rfl, ((((bw_below B1 q).setCell (p := ⟨g_r, 0, none⟩) (by show w.heap.size ≤ g_r; omega) _).setCell (p := ⟨g_r, 1, none⟩) (by show w.heap.size ≤ g_r; omega) _).setCell (p := ⟨g_r, 2, none⟩) (by show w.heap.size ≤ g_r; omega) _)⟩

set_option maxRecDepth 100000 in
set_option maxHeartbeats 4000000 in
theorem basis_extent (x y z a b c s : Int) (w : World) (hs : vdot x y z a b c = s) (hb : -9223372036854775807 ≤ s ∧ s ≤ 9223372036854775807) :
    Calls Try.prog 50 #[.agg #[.int .i64 x, .int .i64 y, .int .i64 z], .agg #[.int .i64 a, .int .i64 b, .int .i64 c]] w fun e w' => e = .returned (.int .i64 ((s.natAbs : Nat) : Int)) ∧ Below w.heap.size w w' := by
  have D := Lib.hid (fun w => vec_Dot x y z a b c w)
  rw [hs] at D
  have e1 : wrap64 (-s) = -s := by unfold wrap64; omega
  clear hs
  go_enter Try.func50, Try.ntmps50
  go_upto_region 1 with (fail)
  obtain ⟨W1, hW1⟩ : ∃ W, W = (w.alloc (.cells #[.int .i64 x, .int .i64 y, .int .i64 z] 23)).alloc (.cells #[.int .i64 a, .int .i64 b, .int .i64 c] 23) := ⟨_, rfl⟩
  have B1 : Below w.heap.size w W1 := by rw [hW1]; go_grown
  have k_v : Bk W1 (w.heap.size) 23 #[.int .i64 x, .int .i64 y, .int .i64 z] := by rw [hW1]; exact (Bk.new _ _ _).alloc _
  have k_u : Bk W1 (w.heap.size + 1) 23 #[.int .i64 a, .int .i64 b, .int .i64 c] := by rw [hW1]; exact Bk.new_at _ _ _ _ (by simp)
  rw [← hW1]
  clear hW1
  have l_u : w.heap.size < w.heap.size + 1 := by omega
  generalize w.heap.size + 1 = g_u at *
  have c_v_0 : ∀ p : BW W1, p.w.cell? ⟨w.heap.size, 0, none⟩ = some (.int .i64 x) := bw_cell (k_v.cell rfl)
  have c_v_1 : ∀ p : BW W1, p.w.cell? ⟨w.heap.size, 1, none⟩ = some (.int .i64 y) := bw_cell (k_v.cell rfl)
  have c_v_2 : ∀ p : BW W1, p.w.cell? ⟨w.heap.size, 2, none⟩ = some (.int .i64 z) := bw_cell (k_v.cell rfl)
  have c_u_0 : ∀ p : BW W1, p.w.cell? ⟨g_u, 0, none⟩ = some (.int .i64 a) := bw_cell (k_u.cell rfl)
  have c_u_1 : ∀ p : BW W1, p.w.cell? ⟨g_u, 1, none⟩ = some (.int .i64 b) := bw_cell (k_u.cell rfl)
  have c_u_2 : ∀ p : BW W1, p.w.cell? ⟨g_u, 2, none⟩ = some (.int .i64 c) := bw_cell (k_u.cell rfl)
  obtain ⟨p1, hp1⟩ : ∃ p : BW W1, p.w = W1 := ⟨BW.start W1, rfl⟩
  rw [← hp1]
  clear hp1
  go_wp2_with (first
    | (go_at_call 37; (first | (with_reducible refine (bw_call D.out _).mono ?_)); rintro e w' ⟨rfl, q, rfl⟩))
  go_ret
  exact ⟨ret_int (by omega), bw_below B1 q⟩

set_option maxRecDepth 100000 in
set_option maxHeartbeats 4000000 in
theorem basis_leastAxis_x (a b c A B C : Int) (w : World) (K1 : Hid (∀ w, Calls Try.prog 50 #[.agg #[.int .i64 a, .int .i64 b, .int .i64 c], .agg #[.int .i64 1, .int .i64 0, .int .i64 0]] w fun e w' => e = .returned (.int .i64 A) ∧ Below w.heap.size w w'))
    (K2 : Hid (∀ w, Calls Try.prog 50 #[.agg #[.int .i64 a, .int .i64 b, .int .i64 c], .agg #[.int .i64 0, .int .i64 1, .int .i64 0]] w fun e w' => e = .returned (.int .i64 B) ∧ Below w.heap.size w w'))
    (K3 : Hid (∀ w, Calls Try.prog 50 #[.agg #[.int .i64 a, .int .i64 b, .int .i64 c], .agg #[.int .i64 0, .int .i64 0, .int .i64 1]] w fun e w' => e = .returned (.int .i64 C) ∧ Below w.heap.size w w'))
    (t1 : decide (B < A) = false) (t2 : decide (C < A) = false) :
    Calls Try.prog 25 #[.agg #[.int .i64 a, .int .i64 b, .int .i64 c]] w fun e w' => e = .returned (.agg #[.int .i64 1, .int .i64 0, .int .i64 0]) ∧ Below w.heap.size w w' := by
  go_enter Try.func25, Try.ntmps25
  go_upto_region 1 with (fail)
  obtain ⟨W1, hW1⟩ : ∃ W, W = (w.alloc (.cells #[.int .i64 a, .int .i64 b, .int .i64 c] 23)).alloc (.cells #[.int .i64 0, .int .i64 0, .int .i64 0] 23) := ⟨_, rfl⟩
  have B1 : Below w.heap.size w W1 := by rw [hW1]; go_grown
  have k_v : Bk W1 (w.heap.size) 23 #[.int .i64 a, .int .i64 b, .int .i64 c] := by rw [hW1]; exact (Bk.new _ _ _).alloc _
  have k_r : Bk W1 (w.heap.size + 1) 23 #[.int .i64 0, .int .i64 0, .int .i64 0] := by rw [hW1]; exact Bk.new_at _ _ _ _ (by simp)
  rw [← hW1]
  clear hW1
  have l_r : w.heap.size < w.heap.size + 1 := by omega
  generalize w.heap.size + 1 = g_r at *
  have c_v_0 : ∀ p : BW W1, p.w.cell? ⟨w.heap.size, 0, none⟩ = some (.int .i64 a) := bw_cell (k_v.cell rfl)
  have c_v_1 : ∀ p : BW W1, p.w.cell? ⟨w.heap.size, 1, none⟩ = some (.int .i64 b) := bw_cell (k_v.cell rfl)
  have c_v_2 : ∀ p : BW W1, p.w.cell? ⟨w.heap.size, 2, none⟩ = some (.int .i64 c) := bw_cell (k_v.cell rfl)
  have c_r_0 : ∀ p : BW W1, p.w.cell? ⟨g_r, 0, none⟩ = some (.int .i64 0) := bw_cell (k_r.cell rfl)
  have c_r_1 : ∀ p : BW W1, p.w.cell? ⟨g_r, 1, none⟩ = some (.int .i64 0) := bw_cell (k_r.cell rfl)
  have c_r_2 : ∀ p : BW W1, p.w.cell? ⟨g_r, 2, none⟩ = some (.int .i64 0) := bw_cell (k_r.cell rfl)
  obtain ⟨p1, hp1⟩ : ∃ p : BW W1, p.w = W1 := ⟨BW.start W1, rfl⟩
  rw [← hp1]
  clear hp1
  go_upto_region 2 with (fail)
  obtain ⟨W2, hW2⟩ : ∃ W, W = p1.w.alloc (.cells #[.int .i64 1, .int .i64 0, .int .i64 0, .int .i64 0, .int .i64 1, .int .i64 0, .int .i64 0, .int .i64 0, .int .i64 1] 45) := ⟨_, rfl⟩
  have B2 : Below w.heap.size w W2 := by rw [hW2]; exact (bw_below B1 p1).alloc (bw_below B1 p1).size _
  have l_l : g_r < p1.w.heap.size := (k_r.below p1.h).lt
  have k_v := (k_v.below p1.h).alloc (.cells #[.int .i64 1, .int .i64 0, .int .i64 0, .int .i64 0, .int .i64 1, .int .i64 0, .int .i64 0, .int .i64 0, .int .i64 1] 45)
  rw [← hW2] at k_v
  have k_r := (k_r.below p1.h).alloc (.cells #[.int .i64 1, .int .i64 0, .int .i64 0, .int .i64 0, .int .i64 1, .int .i64 0, .int .i64 0, .int .i64 0, .int .i64 1] 45)
  rw [← hW2] at k_r
  have k_l : Bk W2 p1.w.heap.size 45 #[.int .i64 1, .int .i64 0, .int .i64 0, .int .i64 0, .int .i64 1, .int .i64 0, .int .i64 0, .int .i64 0, .int .i64 1] := by rw [hW2]; exact Bk.new _ _ _
  rw [← hW2]
  clear hW2
  clear B1
  clear c_v_0 c_v_1 c_v_2 c_r_0 c_r_1 c_r_2
  generalize p1.w.heap.size = g_l at *
  have c_v_0 : ∀ p : BW W2, p.w.cell? ⟨w.heap.size, 0, none⟩ = some (.int .i64 a) := bw_cell (k_v.cell rfl)
  have c_v_1 : ∀ p : BW W2, p.w.cell? ⟨w.heap.size, 1, none⟩ = some (.int .i64 b) := bw_cell (k_v.cell rfl)
  have c_v_2 : ∀ p : BW W2, p.w.cell? ⟨w.heap.size, 2, none⟩ = some (.int .i64 c) := bw_cell (k_v.cell rfl)
  have c_r_0 : ∀ p : BW W2, p.w.cell? ⟨g_r, 0, none⟩ = some (.int .i64 0) := bw_cell (k_r.cell rfl)
  have c_r_1 : ∀ p : BW W2, p.w.cell? ⟨g_r, 1, none⟩ = some (.int .i64 0) := bw_cell (k_r.cell rfl)
  have c_r_2 : ∀ p : BW W2, p.w.cell? ⟨g_r, 2, none⟩ = some (.int .i64 0) := bw_cell (k_r.cell rfl)
  have c_l_0 : ∀ p : BW W2, p.w.cell? ⟨g_l, 0, none⟩ = some (.int .i64 1) := bw_cell (k_l.cell rfl)
  have c_l_1 : ∀ p : BW W2, p.w.cell? ⟨g_l, 1, none⟩ = some (.int .i64 0) := bw_cell (k_l.cell rfl)
  have c_l_2 : ∀ p : BW W2, p.w.cell? ⟨g_l, 2, none⟩ = some (.int .i64 0) := bw_cell (k_l.cell rfl)
  have c_l_3 : ∀ p : BW W2, p.w.cell? ⟨g_l, 3, none⟩ = some (.int .i64 0) := bw_cell (k_l.cell rfl)
  have c_l_4 : ∀ p : BW W2, p.w.cell? ⟨g_l, 4, none⟩ = some (.int .i64 1) := bw_cell (k_l.cell rfl)
  have c_l_5 : ∀ p : BW W2, p.w.cell? ⟨g_l, 5, none⟩ = some (.int .i64 0) := bw_cell (k_l.cell rfl)
  have c_l_6 : ∀ p : BW W2, p.w.cell? ⟨g_l, 6, none⟩ = some (.int .i64 0) := bw_cell (k_l.cell rfl)
  have c_l_7 : ∀ p : BW W2, p.w.cell? ⟨g_l, 7, none⟩ = some (.int .i64 0) := bw_cell (k_l.cell rfl)
  have c_l_8 : ∀ p : BW W2, p.w.cell? ⟨g_l, 8, none⟩ = some (.int .i64 1) := bw_cell (k_l.cell rfl)
  obtain ⟨p2, hp2⟩ : ∃ p : BW W2, p.w = W2 := ⟨BW.start W2, rfl⟩
  rw [← hp2]
  clear hp2
  go_upto_region 3 with (fail)
  obtain ⟨W3, hW3⟩ : ∃ W, W = p2.w.alloc (.cells #[.int .i64 1, .int .i64 0, .int .i64 0] 23) := ⟨_, rfl⟩
  have B3 : Below w.heap.size w W3 := by rw [hW3]; exact (bw_below B2 p2).alloc (bw_below B2 p2).size _
  have l_m : g_l < p2.w.heap.size := (k_l.below p2.h).lt
  have k_v := (k_v.below p2.h).alloc (.cells #[.int .i64 1, .int .i64 0, .int .i64 0] 23)
  rw [← hW3] at k_v
  have k_r := (k_r.below p2.h).alloc (.cells #[.int .i64 1, .int .i64 0, .int .i64 0] 23)
  rw [← hW3] at k_r
  have k_l := (k_l.below p2.h).alloc (.cells #[.int .i64 1, .int .i64 0, .int .i64 0] 23)
  rw [← hW3] at k_l
  have k_m : Bk W3 p2.w.heap.size 23 #[.int .i64 1, .int .i64 0, .int .i64 0] := by rw [hW3]; exact Bk.new _ _ _
  rw [← hW3]
  clear hW3
  clear B2
  clear c_v_0 c_v_1 c_v_2 c_r_0 c_r_1 c_r_2 c_l_0 c_l_1 c_l_2 c_l_3 c_l_4 c_l_5 c_l_6 c_l_7 c_l_8
  generalize p2.w.heap.size = g_m at *
  have c_v_0 : ∀ p : BW W3, p.w.cell? ⟨w.heap.size, 0, none⟩ = some (.int .i64 a) := bw_cell (k_v.cell rfl)
  have c_v_1 : ∀ p : BW W3, p.w.cell? ⟨w.heap.size, 1, none⟩ = some (.int .i64 b) := bw_cell (k_v.cell rfl)
  have c_v_2 : ∀ p : BW W3, p.w.cell? ⟨w.heap.size, 2, none⟩ = some (.int .i64 c) := bw_cell (k_v.cell rfl)
  have c_r_0 : ∀ p : BW W3, p.w.cell? ⟨g_r, 0, none⟩ = some (.int .i64 0) := bw_cell (k_r.cell rfl)
  have c_r_1 : ∀ p : BW W3, p.w.cell? ⟨g_r, 1, none⟩ = some (.int .i64 0) := bw_cell (k_r.cell rfl)
  have c_r_2 : ∀ p : BW W3, p.w.cell? ⟨g_r, 2, none⟩ = some (.int .i64 0) := bw_cell (k_r.cell rfl)
  have c_l_0 : ∀ p : BW W3, p.w.cell? ⟨g_l, 0, none⟩ = some (.int .i64 1) := bw_cell (k_l.cell rfl)
  have c_l_1 : ∀ p : BW W3, p.w.cell? ⟨g_l, 1, none⟩ = some (.int .i64 0) := bw_cell (k_l.cell rfl)
  have c_l_2 : ∀ p : BW W3, p.w.cell? ⟨g_l, 2, none⟩ = some (.int .i64 0) := bw_cell (k_l.cell rfl)
  have c_l_3 : ∀ p : BW W3, p.w.cell? ⟨g_l, 3, none⟩ = some (.int .i64 0) := bw_cell (k_l.cell rfl)
  have c_l_4 : ∀ p : BW W3, p.w.cell? ⟨g_l, 4, none⟩ = some (.int .i64 1) := bw_cell (k_l.cell rfl)
  have c_l_5 : ∀ p : BW W3, p.w.cell? ⟨g_l, 5, none⟩ = some (.int .i64 0) := bw_cell (k_l.cell rfl)
  have c_l_6 : ∀ p : BW W3, p.w.cell? ⟨g_l, 6, none⟩ = some (.int .i64 0) := bw_cell (k_l.cell rfl)
  have c_l_7 : ∀ p : BW W3, p.w.cell? ⟨g_l, 7, none⟩ = some (.int .i64 0) := bw_cell (k_l.cell rfl)
  have c_l_8 : ∀ p : BW W3, p.w.cell? ⟨g_l, 8, none⟩ = some (.int .i64 1) := bw_cell (k_l.cell rfl)
  have c_m_0 : ∀ p : BW W3, p.w.cell? ⟨g_m, 0, none⟩ = some (.int .i64 1) := bw_cell (k_m.cell rfl)
  have c_m_1 : ∀ p : BW W3, p.w.cell? ⟨g_m, 1, none⟩ = some (.int .i64 0) := bw_cell (k_m.cell rfl)
  have c_m_2 : ∀ p : BW W3, p.w.cell? ⟨g_m, 2, none⟩ = some (.int .i64 0) := bw_cell (k_m.cell rfl)
  obtain ⟨p3, hp3⟩ : ∃ p : BW W3, p.w = W3 := ⟨BW.start W3, rfl⟩
  rw [← hp3]
  clear hp3
  go_upto_region 4 with (fail)
  refine wp_loop_rounds 3 ?_
  rw [rounds_succ]
  go_upto_region 6 with (fail)
  obtain ⟨W4, hW4⟩ : ∃ W, W = p3.w.alloc (.cells #[.int .i64 0, .int .i64 1, .int .i64 0] 23) := ⟨_, rfl⟩
  have B4 : Below w.heap.size w W4 := by rw [hW4]; exact (bw_below B3 p3).alloc (bw_below B3 p3).size _
  have l_d0 : g_m < p3.w.heap.size := (k_m.below p3.h).lt
  have k_v := (k_v.below p3.h).alloc (.cells #[.int .i64 0, .int .i64 1, .int .i64 0] 23)
  rw [← hW4] at k_v
  have k_r := (k_r.below p3.h).alloc (.cells #[.int .i64 0, .int .i64 1, .int .i64 0] 23)
  rw [← hW4] at k_r
  have k_l := (k_l.below p3.h).alloc (.cells #[.int .i64 0, .int .i64 1, .int .i64 0] 23)
  rw [← hW4] at k_l
  have k_m := (k_m.below p3.h).alloc (.cells #[.int .i64 0, .int .i64 1, .int .i64 0] 23)
  rw [← hW4] at k_m
  have k_d0 : Bk W4 p3.w.heap.size 23 #[.int .i64 0, .int .i64 1, .int .i64 0] := by rw [hW4]; exact Bk.new _ _ _
  rw [← hW4]
  clear hW4
  clear B3
  clear c_v_0 c_v_1 c_v_2 c_r_0 c_r_1 c_r_2 c_l_0 c_l_1 c_l_2 c_l_3 c_l_4 c_l_5 c_l_6 c_l_7 c_l_8 c_m_0 c_m_1 c_m_2
  generalize p3.w.heap.size = g_d0 at *
  have c_v_0 : ∀ p : BW W4, p.w.cell? ⟨w.heap.size, 0, none⟩ = some (.int .i64 a) := bw_cell (k_v.cell rfl)
  have c_v_1 : ∀ p : BW W4, p.w.cell? ⟨w.heap.size, 1, none⟩ = some (.int .i64 b) := bw_cell (k_v.cell rfl)
  have c_v_2 : ∀ p : BW W4, p.w.cell? ⟨w.heap.size, 2, none⟩ = some (.int .i64 c) := bw_cell (k_v.cell rfl)
  have c_r_0 : ∀ p : BW W4, p.w.cell? ⟨g_r, 0, none⟩ = some (.int .i64 0) := bw_cell (k_r.cell rfl)
  have c_r_1 : ∀ p : BW W4, p.w.cell? ⟨g_r, 1, none⟩ = some (.int .i64 0) := bw_cell (k_r.cell rfl)
  have c_r_2 : ∀ p : BW W4, p.w.cell? ⟨g_r, 2, none⟩ = some (.int .i64 0) := bw_cell (k_r.cell rfl)
  have c_l_0 : ∀ p : BW W4, p.w.cell? ⟨g_l, 0, none⟩ = some (.int .i64 1) := bw_cell (k_l.cell rfl)
  have c_l_1 : ∀ p : BW W4, p.w.cell? ⟨g_l, 1, none⟩ = some (.int .i64 0) := bw_cell (k_l.cell rfl)
  have c_l_2 : ∀ p : BW W4, p.w.cell? ⟨g_l, 2, none⟩ = some (.int .i64 0) := bw_cell (k_l.cell rfl)
  have c_l_3 : ∀ p : BW W4, p.w.cell? ⟨g_l, 3, none⟩ = some (.int .i64 0) := bw_cell (k_l.cell rfl)
  have c_l_4 : ∀ p : BW W4, p.w.cell? ⟨g_l, 4, none⟩ = some (.int .i64 1) := bw_cell (k_l.cell rfl)
  have c_l_5 : ∀ p : BW W4, p.w.cell? ⟨g_l, 5, none⟩ = some (.int .i64 0) := bw_cell (k_l.cell rfl)
  have c_l_6 : ∀ p : BW W4, p.w.cell? ⟨g_l, 6, none⟩ = some (.int .i64 0) := bw_cell (k_l.cell rfl)
  have c_l_7 : ∀ p : BW W4, p.w.cell? ⟨g_l, 7, none⟩ = some (.int .i64 0) := bw_cell (k_l.cell rfl)
  have c_l_8 : ∀ p : BW W4, p.w.cell? ⟨g_l, 8, none⟩ = some (.int .i64 1) := bw_cell (k_l.cell rfl)
  have c_m_0 : ∀ p : BW W4, p.w.cell? ⟨g_m, 0, none⟩ = some (.int .i64 1) := bw_cell (k_m.cell rfl)
  have f_m_0 : ∀ p : BW W4, p.w.frozen? ⟨g_m, 0, none⟩ = false := fun p => (k_m.below p.h).frozen 0
  have c_m_1 : ∀ p : BW W4, p.w.cell? ⟨g_m, 1, none⟩ = some (.int .i64 0) := bw_cell (k_m.cell rfl)
  have f_m_1 : ∀ p : BW W4, p.w.frozen? ⟨g_m, 1, none⟩ = false := fun p => (k_m.below p.h).frozen 1
  have c_m_2 : ∀ p : BW W4, p.w.cell? ⟨g_m, 2, none⟩ = some (.int .i64 0) := bw_cell (k_m.cell rfl)
  have f_m_2 : ∀ p : BW W4, p.w.frozen? ⟨g_m, 2, none⟩ = false := fun p => (k_m.below p.h).frozen 2
  have c_d0_0 : ∀ p : BW W4, p.w.cell? ⟨g_d0, 0, none⟩ = some (.int .i64 0) := bw_cell (k_d0.cell rfl)
  have c_d0_1 : ∀ p : BW W4, p.w.cell? ⟨g_d0, 1, none⟩ = some (.int .i64 1) := bw_cell (k_d0.cell rfl)
  have c_d0_2 : ∀ p : BW W4, p.w.cell? ⟨g_d0, 2, none⟩ = some (.int .i64 0) := bw_cell (k_d0.cell rfl)
  obtain ⟨p4, hp4⟩ : ∃ p : BW W4, p.w = W4 := ⟨BW.start W4, rfl⟩
  rw [← hp4]
  clear hp4
  refine wp_region_bw (by kernel_rfl) (by kernel_rfl) ?_
  repeat (go_big_quiet_step (first
    | (go_at_call 50; (first | (with_reducible exact bw_call K1.out _) | (with_reducible exact bw_call K2.out _) | (with_reducible exact bw_call K3.out _)))))
  refine wpQuiet_nil ?_
  intro _ hw'
  obtain ⟨q, rfl⟩ := hw'
  go_wp2
  rw [rounds_succ]
  go_upto_region 6 with (fail)
  obtain ⟨W5, hW5⟩ : ∃ W, W = q.w.alloc (.cells #[.int .i64 0, .int .i64 0, .int .i64 1] 23) := ⟨_, rfl⟩
  have B5 : Below w.heap.size w W5 := by rw [hW5]; exact (bw_below B4 q).alloc (bw_below B4 q).size _
  have l_d1 : g_d0 < q.w.heap.size := (k_d0.below q.h).lt
  have k_v := (k_v.below q.h).alloc (.cells #[.int .i64 0, .int .i64 0, .int .i64 1] 23)
  rw [← hW5] at k_v
  have k_r := (k_r.below q.h).alloc (.cells #[.int .i64 0, .int .i64 0, .int .i64 1] 23)
  rw [← hW5] at k_r
  have k_l := (k_l.below q.h).alloc (.cells #[.int .i64 0, .int .i64 0, .int .i64 1] 23)
  rw [← hW5] at k_l
  have k_m := (k_m.below q.h).alloc (.cells #[.int .i64 0, .int .i64 0, .int .i64 1] 23)
  rw [← hW5] at k_m
  have k_d0 := (k_d0.below q.h).alloc (.cells #[.int .i64 0, .int .i64 0, .int .i64 1] 23)
  rw [← hW5] at k_d0
  have k_d1 : Bk W5 q.w.heap.size 23 #[.int .i64 0, .int .i64 0, .int .i64 1] := by rw [hW5]; exact Bk.new _ _ _
  rw [← hW5]
  clear hW5
  clear B4
  clear c_v_0 c_v_1 c_v_2 c_r_0 c_r_1 c_r_2 c_l_0 c_l_1 c_l_2 c_l_3 c_l_4 c_l_5 c_l_6 c_l_7 c_l_8 c_m_0 f_m_0 c_m_1 f_m_1 c_m_2 f_m_2 c_d0_0 c_d0_1 c_d0_2
  generalize q.w.heap.size = g_d1 at *
  have c_v_0 : ∀ p : BW W5, p.w.cell? ⟨w.heap.size, 0, none⟩ = some (.int .i64 a) := bw_cell (k_v.cell rfl)
  have c_v_1 : ∀ p : BW W5, p.w.cell? ⟨w.heap.size, 1, none⟩ = some (.int .i64 b) := bw_cell (k_v.cell rfl)
  have c_v_2 : ∀ p : BW W5, p.w.cell? ⟨w.heap.size, 2, none⟩ = some (.int .i64 c) := bw_cell (k_v.cell rfl)
  have c_r_0 : ∀ p : BW W5, p.w.cell? ⟨g_r, 0, none⟩ = some (.int .i64 0) := bw_cell (k_r.cell rfl)
  have c_r_1 : ∀ p : BW W5, p.w.cell? ⟨g_r, 1, none⟩ = some (.int .i64 0) := bw_cell (k_r.cell rfl)
  have c_r_2 : ∀ p : BW W5, p.w.cell? ⟨g_r, 2, none⟩ = some (.int .i64 0) := bw_cell (k_r.cell rfl)
  have c_l_0 : ∀ p : BW W5, p.w.cell? ⟨g_l, 0, none⟩ = some (.int .i64 1) := bw_cell (k_l.cell rfl)
  have c_l_1 : ∀ p : BW W5, p.w.cell? ⟨g_l, 1, none⟩ = some (.int .i64 0) := bw_cell (k_l.cell rfl)
  have c_l_2 : ∀ p : BW W5, p.w.cell? ⟨g_l, 2, none⟩ = some (.int .i64 0) := bw_cell (k_l.cell rfl)
  have c_l_3 : ∀ p : BW W5, p.w.cell? ⟨g_l, 3, none⟩ = some (.int .i64 0) := bw_cell (k_l.cell rfl)
  have c_l_4 : ∀ p : BW W5, p.w.cell? ⟨g_l, 4, none⟩ = some (.int .i64 1) := bw_cell (k_l.cell rfl)
  have c_l_5 : ∀ p : BW W5, p.w.cell? ⟨g_l, 5, none⟩ = some (.int .i64 0) := bw_cell (k_l.cell rfl)
  have c_l_6 : ∀ p : BW W5, p.w.cell? ⟨g_l, 6, none⟩ = some (.int .i64 0) := bw_cell (k_l.cell rfl)
  have c_l_7 : ∀ p : BW W5, p.w.cell? ⟨g_l, 7, none⟩ = some (.int .i64 0) := bw_cell (k_l.cell rfl)
  have c_l_8 : ∀ p : BW W5, p.w.cell? ⟨g_l, 8, none⟩ = some (.int .i64 1) := bw_cell (k_l.cell rfl)
  have c_m_0 : ∀ p : BW W5, p.w.cell? ⟨g_m, 0, none⟩ = some (.int .i64 1) := bw_cell (k_m.cell rfl)
  have f_m_0 : ∀ p : BW W5, p.w.frozen? ⟨g_m, 0, none⟩ = false := fun p => (k_m.below p.h).frozen 0
  have c_m_1 : ∀ p : BW W5, p.w.cell? ⟨g_m, 1, none⟩ = some (.int .i64 0) := bw_cell (k_m.cell rfl)
  have f_m_1 : ∀ p : BW W5, p.w.frozen? ⟨g_m, 1, none⟩ = false := fun p => (k_m.below p.h).frozen 1
  have c_m_2 : ∀ p : BW W5, p.w.cell? ⟨g_m, 2, none⟩ = some (.int .i64 0) := bw_cell (k_m.cell rfl)
  have f_m_2 : ∀ p : BW W5, p.w.frozen? ⟨g_m, 2, none⟩ = false := fun p => (k_m.below p.h).frozen 2
  have c_d0_0 : ∀ p : BW W5, p.w.cell? ⟨g_d0, 0, none⟩ = some (.int .i64 0) := bw_cell (k_d0.cell rfl)
  have c_d0_1 : ∀ p : BW W5, p.w.cell? ⟨g_d0, 1, none⟩ = some (.int .i64 1) := bw_cell (k_d0.cell rfl)
  have c_d0_2 : ∀ p : BW W5, p.w.cell? ⟨g_d0, 2, none⟩ = some (.int .i64 0) := bw_cell (k_d0.cell rfl)
  have c_d1_0 : ∀ p : BW W5, p.w.cell? ⟨g_d1, 0, none⟩ = some (.int .i64 0) := bw_cell (k_d1.cell rfl)
  have c_d1_1 : ∀ p : BW W5, p.w.cell? ⟨g_d1, 1, none⟩ = some (.int .i64 0) := bw_cell (k_d1.cell rfl)
  have c_d1_2 : ∀ p : BW W5, p.w.cell? ⟨g_d1, 2, none⟩ = some (.int .i64 1) := bw_cell (k_d1.cell rfl)
  obtain ⟨p5, hp5⟩ : ∃ p : BW W5, p.w = W5 := ⟨BW.start W5, rfl⟩
  rw [← hp5]
  clear hp5
  refine wp_region_bw (by kernel_rfl) (by kernel_rfl) ?_
  repeat (go_big_quiet_step (first
    | (go_at_call 50; (first | (with_reducible exact bw_call K1.out _) | (with_reducible exact bw_call K2.out _) | (with_reducible exact bw_call K3.out _)))))
  refine wpQuiet_nil ?_
  intro _ hw'
  obtain ⟨q, rfl⟩ := hw'
  go_wp2
  rw [rounds_succ]
  have f_r_0 : ∀ p : BW W5, p.w.frozen? ⟨g_r, 0, none⟩ = false := fun p => (k_r.below p.h).frozen 0
  have f_r_1 : ∀ p : BW W5, p.w.frozen? ⟨g_r, 1, none⟩ = false := fun p => (k_r.below p.h).frozen 1
  have f_r_2 : ∀ p : BW W5, p.w.frozen? ⟨g_r, 2, none⟩ = false := fun p => (k_r.below p.h).frozen 2
  go_wp2
  have kr : Bk (((q.w.setCell ⟨g_r, 0, none⟩ (.int .i64 1)).setCell ⟨g_r, 1, none⟩ (.int .i64 0)).setCell ⟨g_r, 2, none⟩ (.int .i64 0)) (g_r) 23 #[.int .i64 1, .int .i64 0, .int .i64 0] := ((((k_r.below q.h).set 0 (.int .i64 1)).set 1 (.int .i64 0)).set 2 (.int .i64 0))
  have rc0 : World.cell? (((q.w.setCell ⟨g_r, 0, none⟩ (.int .i64 1)).setCell ⟨g_r, 1, none⟩ (.int .i64 0)).setCell ⟨g_r, 2, none⟩ (.int .i64 0)) ⟨g_r, 0, none⟩ = some (.int .i64 1) := kr.cell rfl
  have rc1 : World.cell? (((q.w.setCell ⟨g_r, 0, none⟩ (.int .i64 1)).setCell ⟨g_r, 1, none⟩ (.int .i64 0)).setCell ⟨g_r, 2, none⟩ (.int .i64 0)) ⟨g_r, 1, none⟩ = some (.int .i64 0) := kr.cell rfl
  have rc2 : World.cell? (((q.w.setCell ⟨g_r, 0, none⟩ (.int .i64 1)).setCell ⟨g_r, 1, none⟩ (.int .i64 0)).setCell ⟨g_r, 2, none⟩ (.int .i64 0)) ⟨g_r, 2, none⟩ = some (.int .i64 0) := kr.cell rfl
  exact bodyPost_ret (v := .agg #[.int .i64 1, .int .i64 0, .int .i64 0]) (by simp [results, Try.results25, go_sem, rc0, rc1, rc2]) rfl ⟨rfl, ((((bw_below B5 q).setCell (p := ⟨g_r, 0, none⟩) (by show w.heap.size ≤ g_r; omega) _).setCell (p := ⟨g_r, 1, none⟩) (by show w.heap.size ≤ g_r; omega) _).setCell (p := ⟨g_r, 2, none⟩) (by show w.heap.size ≤ g_r; omega) _)⟩

set_option maxRecDepth 100000 in
set_option maxHeartbeats 4000000 in
theorem basis_leastAxis_xz (a b c A B C : Int) (w : World) (K1 : Hid (∀ w, Calls Try.prog 50 #[.agg #[.int .i64 a, .int .i64 b, .int .i64 c], .agg #[.int .i64 1, .int .i64 0, .int .i64 0]] w fun e w' => e = .returned (.int .i64 A) ∧ Below w.heap.size w w'))
    (K2 : Hid (∀ w, Calls Try.prog 50 #[.agg #[.int .i64 a, .int .i64 b, .int .i64 c], .agg #[.int .i64 0, .int .i64 1, .int .i64 0]] w fun e w' => e = .returned (.int .i64 B) ∧ Below w.heap.size w w'))
    (K3 : Hid (∀ w, Calls Try.prog 50 #[.agg #[.int .i64 a, .int .i64 b, .int .i64 c], .agg #[.int .i64 0, .int .i64 0, .int .i64 1]] w fun e w' => e = .returned (.int .i64 C) ∧ Below w.heap.size w w'))
    (t1 : decide (B < A) = false) (t2 : decide (C < A) = true) :
    Calls Try.prog 25 #[.agg #[.int .i64 a, .int .i64 b, .int .i64 c]] w fun e w' => e = .returned (.agg #[.int .i64 0, .int .i64 0, .int .i64 1]) ∧ Below w.heap.size w w' := by
  go_enter Try.func25, Try.ntmps25
  go_upto_region 1 with (fail)
  obtain ⟨W1, hW1⟩ : ∃ W, W = (w.alloc (.cells #[.int .i64 a, .int .i64 b, .int .i64 c] 23)).alloc (.cells #[.int .i64 0, .int .i64 0, .int .i64 0] 23) := ⟨_, rfl⟩
  have B1 : Below w.heap.size w W1 := by rw [hW1]; go_grown
  have k_v : Bk W1 (w.heap.size) 23 #[.int .i64 a, .int .i64 b, .int .i64 c] := by rw [hW1]; exact (Bk.new _ _ _).alloc _
  have k_r : Bk W1 (w.heap.size + 1) 23 #[.int .i64 0, .int .i64 0, .int .i64 0] := by rw [hW1]; exact Bk.new_at _ _ _ _ (by simp)
  rw [← hW1]
  clear hW1
  have l_r : w.heap.size < w.heap.size + 1 := by omega
  generalize w.heap.size + 1 = g_r at *
  have c_v_0 : ∀ p : BW W1, p.w.cell? ⟨w.heap.size, 0, none⟩ = some (.int .i64 a) := bw_cell (k_v.cell rfl)
  have c_v_1 : ∀ p : BW W1, p.w.cell? ⟨w.heap.size, 1, none⟩ = some (.int .i64 b) := bw_cell (k_v.cell rfl)
  have c_v_2 : ∀ p : BW W1, p.w.cell? ⟨w.heap.size, 2, none⟩ = some (.int .i64 c) := bw_cell (k_v.cell rfl)
  have c_r_0 : ∀ p : BW W1, p.w.cell? ⟨g_r, 0, none⟩ = some (.int .i64 0) := bw_cell (k_r.cell rfl)
  have c_r_1 : ∀ p : BW W1, p.w.cell? ⟨g_r, 1, none⟩ = some (.int .i64 0) := bw_cell (k_r.cell rfl)
  have c_r_2 : ∀ p : BW W1, p.w.cell? ⟨g_r, 2, none⟩ = some (.int .i64 0) := bw_cell (k_r.cell rfl)
  obtain ⟨p1, hp1⟩ : ∃ p : BW W1, p.w = W1 := ⟨BW.start W1, rfl⟩
  rw [← hp1]
  clear hp1
  go_upto_region 2 with (fail)
  obtain ⟨W2, hW2⟩ : ∃ W, W = p1.w.alloc (.cells #[.int .i64 1, .int .i64 0, .int .i64 0, .int .i64 0, .int .i64 1, .int .i64 0, .int .i64 0, .int .i64 0, .int .i64 1] 45) := ⟨_, rfl⟩
  have B2 : Below w.heap.size w W2 := by rw [hW2]; exact (bw_below B1 p1).alloc (bw_below B1 p1).size _
  have l_l : g_r < p1.w.heap.size := (k_r.below p1.h).lt
  have k_v := (k_v.below p1.h).alloc (.cells #[.int .i64 1, .int .i64 0, .int .i64 0, .int .i64 0, .int .i64 1, .int .i64 0, .int .i64 0, .int .i64 0, .int .i64 1] 45)
  rw [← hW2] at k_v
  have k_r := (k_r.below p1.h).alloc (.cells #[.int .i64 1, .int .i64 0, .int .i64 0, .int .i64 0, .int .i64 1, .int .i64 0, .int .i64 0, .int .i64 0, .int .i64 1] 45)
  rw [← hW2] at k_r
  have k_l : Bk W2 p1.w.heap.size 45 #[.int .i64 1, .int .i64 0, .int .i64 0, .int .i64 0, .int .i64 1, .int .i64 0, .int .i64 0, .int .i64 0, .int .i64 1] := by rw [hW2]; exact Bk.new _ _ _
  rw [← hW2]
  clear hW2
  clear B1
  clear c_v_0 c_v_1 c_v_2 c_r_0 c_r_1 c_r_2
  generalize p1.w.heap.size = g_l at *
  have c_v_0 : ∀ p : BW W2, p.w.cell? ⟨w.heap.size, 0, none⟩ = some (.int .i64 a) := bw_cell (k_v.cell rfl)
  have c_v_1 : ∀ p : BW W2, p.w.cell? ⟨w.heap.size, 1, none⟩ = some (.int .i64 b) := bw_cell (k_v.cell rfl)
  have c_v_2 : ∀ p : BW W2, p.w.cell? ⟨w.heap.size, 2, none⟩ = some (.int .i64 c) := bw_cell (k_v.cell rfl)
  have c_r_0 : ∀ p : BW W2, p.w.cell? ⟨g_r, 0, none⟩ = some (.int .i64 0) := bw_cell (k_r.cell rfl)
  have c_r_1 : ∀ p : BW W2, p.w.cell? ⟨g_r, 1, none⟩ = some (.int .i64 0) := bw_cell (k_r.cell rfl)
  have c_r_2 : ∀ p : BW W2, p.w.cell? ⟨g_r, 2, none⟩ = some (.int .i64 0) := bw_cell (k_r.cell rfl)
  have c_l_0 : ∀ p : BW W2, p.w.cell? ⟨g_l, 0, none⟩ = some (.int .i64 1) := bw_cell (k_l.cell rfl)
  have c_l_1 : ∀ p : BW W2, p.w.cell? ⟨g_l, 1, none⟩ = some (.int .i64 0) := bw_cell (k_l.cell rfl)
  have c_l_2 : ∀ p : BW W2, p.w.cell? ⟨g_l, 2, none⟩ = some (.int .i64 0) := bw_cell (k_l.cell rfl)
  have c_l_3 : ∀ p : BW W2, p.w.cell? ⟨g_l, 3, none⟩ = some (.int .i64 0) := bw_cell (k_l.cell rfl)
  have c_l_4 : ∀ p : BW W2, p.w.cell? ⟨g_l, 4, none⟩ = some (.int .i64 1) := bw_cell (k_l.cell rfl)
  have c_l_5 : ∀ p : BW W2, p.w.cell? ⟨g_l, 5, none⟩ = some (.int .i64 0) := bw_cell (k_l.cell rfl)
  have c_l_6 : ∀ p : BW W2, p.w.cell? ⟨g_l, 6, none⟩ = some (.int .i64 0) := bw_cell (k_l.cell rfl)
  have c_l_7 : ∀ p : BW W2, p.w.cell? ⟨g_l, 7, none⟩ = some (.int .i64 0) := bw_cell (k_l.cell rfl)
  have c_l_8 : ∀ p : BW W2, p.w.cell? ⟨g_l, 8, none⟩ = some (.int .i64 1) := bw_cell (k_l.cell rfl)
  obtain ⟨p2, hp2⟩ : ∃ p : BW W2, p.w = W2 := ⟨BW.start W2, rfl⟩
  rw [← hp2]
  clear hp2
  go_upto_region 3 with (fail)
  obtain ⟨W3, hW3⟩ : ∃ W, W = p2.w.alloc (.cells #[.int .i64 1, .int .i64 0, .int .i64 0] 23) := ⟨_, rfl⟩
  have B3 : Below w.heap.size w W3 := by rw [hW3]; exact (bw_below B2 p2).alloc (bw_below B2 p2).size _
  have l_m : g_l < p2.w.heap.size := (k_l.below p2.h).lt
  have k_v := (k_v.below p2.h).alloc (.cells #[.int .i64 1, .int .i64 0, .int .i64 0] 23)
  rw [← hW3] at k_v
  have k_r := (k_r.below p2.h).alloc (.cells #[.int .i64 1, .int .i64 0, .int .i64 0] 23)
  rw [← hW3] at k_r
  have k_l := (k_l.below p2.h).alloc (.cells #[.int .i64 1, .int .i64 0, .int .i64 0] 23)
  rw [← hW3] at k_l
  have k_m : Bk W3 p2.w.heap.size 23 #[.int .i64 1, .int .i64 0, .int .i64 0] := by rw [hW3]; exact Bk.new _ _ _
  rw [← hW3]
  clear hW3
  clear B2
  clear c_v_0 c_v_1 c_v_2 c_r_0 c_r_1 c_r_2 c_l_0 c_l_1 c_l_2 c_l_3 c_l_4 c_l_5 c_l_6 c_l_7 c_l_8
  generalize p2.w.heap.size = g_m at *
  have c_v_0 : ∀ p : BW W3, p.w.cell? ⟨w.heap.size, 0, none⟩ = some (.int .i64 a) := bw_cell (k_v.cell rfl)
  have c_v_1 : ∀ p : BW W3, p.w.cell? ⟨w.heap.size, 1, none⟩ = some (.int .i64 b) := bw_cell (k_v.cell rfl)
  have c_v_2 : ∀ p : BW W3, p.w.cell? ⟨w.heap.size, 2, none⟩ = some (.int .i64 c) := bw_cell (k_v.cell rfl)
  have c_r_0 : ∀ p : BW W3, p.w.cell? ⟨g_r, 0, none⟩ = some (.int .i64 0) := bw_cell (k_r.cell rfl)
  have c_r_1 : ∀ p : BW W3, p.w.cell? ⟨g_r, 1, none⟩ = some (.int .i64 0) := bw_cell (k_r.cell rfl)
  have c_r_2 : ∀ p : BW W3, p.w.cell? ⟨g_r, 2, none⟩ = some (.int .i64 0) := bw_cell (k_r.cell rfl)
  have c_l_0 : ∀ p : BW W3, p.w.cell? ⟨g_l, 0, none⟩ = some (.int .i64 1) := bw_cell (k_l.cell rfl)
  have c_l_1 : ∀ p : BW W3, p.w.cell? ⟨g_l, 1, none⟩ = some (.int .i64 0) := bw_cell (k_l.cell rfl)
  have c_l_2 : ∀ p : BW W3, p.w.cell? ⟨g_l, 2, none⟩ = some (.int .i64 0) := bw_cell (k_l.cell rfl)
  have c_l_3 : ∀ p : BW W3, p.w.cell? ⟨g_l, 3, none⟩ = some (.int .i64 0) := bw_cell (k_l.cell rfl)
  have c_l_4 : ∀ p : BW W3, p.w.cell? ⟨g_l, 4, none⟩ = some (.int .i64 1) := bw_cell (k_l.cell rfl)
  have c_l_5 : ∀ p : BW W3, p.w.cell? ⟨g_l, 5, none⟩ = some (.int .i64 0) := bw_cell (k_l.cell rfl)
  have c_l_6 : ∀ p : BW W3, p.w.cell? ⟨g_l, 6, none⟩ = some (.int .i64 0) := bw_cell (k_l.cell rfl)
  have c_l_7 : ∀ p : BW W3, p.w.cell? ⟨g_l, 7, none⟩ = some (.int .i64 0) := bw_cell (k_l.cell rfl)
  have c_l_8 : ∀ p : BW W3, p.w.cell? ⟨g_l, 8, none⟩ = some (.int .i64 1) := bw_cell (k_l.cell rfl)
  have c_m_0 : ∀ p : BW W3, p.w.cell? ⟨g_m, 0, none⟩ = some (.int .i64 1) := bw_cell (k_m.cell rfl)
  have c_m_1 : ∀ p : BW W3, p.w.cell? ⟨g_m, 1, none⟩ = some (.int .i64 0) := bw_cell (k_m.cell rfl)
  have c_m_2 : ∀ p : BW W3, p.w.cell? ⟨g_m, 2, none⟩ = some (.int .i64 0) := bw_cell (k_m.cell rfl)
  obtain ⟨p3, hp3⟩ : ∃ p : BW W3, p.w = W3 := ⟨BW.start W3, rfl⟩
  rw [← hp3]
  clear hp3
  go_upto_region 4 with (fail)
  refine wp_loop_rounds 3 ?_
  rw [rounds_succ]
  go_upto_region 6 with (fail)
  obtain ⟨W4, hW4⟩ : ∃ W, W = p3.w.alloc (.cells #[.int .i64 0, .int .i64 1, .int .i64 0] 23) := ⟨_, rfl⟩
  have B4 : Below w.heap.size w W4 := by rw [hW4]; exact (bw_below B3 p3).alloc (bw_below B3 p3).size _
  have l_d0 : g_m < p3.w.heap.size := (k_m.below p3.h).lt
  have k_v := (k_v.below p3.h).alloc (.cells #[.int .i64 0, .int .i64 1, .int .i64 0] 23)
  rw [← hW4] at k_v
  have k_r := (k_r.below p3.h).alloc (.cells #[.int .i64 0, .int .i64 1, .int .i64 0] 23)
  rw [← hW4] at k_r
  have k_l := (k_l.below p3.h).alloc (.cells #[.int .i64 0, .int .i64 1, .int .i64 0] 23)
  rw [← hW4] at k_l
  have k_m := (k_m.below p3.h).alloc (.cells #[.int .i64 0, .int .i64 1, .int .i64 0] 23)
  rw [← hW4] at k_m
  have k_d0 : Bk W4 p3.w.heap.size 23 #[.int .i64 0, .int .i64 1, .int .i64 0] := by rw [hW4]; exact Bk.new _ _ _
  rw [← hW4]
  clear hW4
  clear B3
  clear c_v_0 c_v_1 c_v_2 c_r_0 c_r_1 c_r_2 c_l_0 c_l_1 c_l_2 c_l_3 c_l_4 c_l_5 c_l_6 c_l_7 c_l_8 c_m_0 c_m_1 c_m_2
  generalize p3.w.heap.size = g_d0 at *
  have c_v_0 : ∀ p : BW W4, p.w.cell? ⟨w.heap.size, 0, none⟩ = some (.int .i64 a) := bw_cell (k_v.cell rfl)
  have c_v_1 : ∀ p : BW W4, p.w.cell? ⟨w.heap.size, 1, none⟩ = some (.int .i64 b) := bw_cell (k_v.cell rfl)
  have c_v_2 : ∀ p : BW W4, p.w.cell? ⟨w.heap.size, 2, none⟩ = some (.int .i64 c) := bw_cell (k_v.cell rfl)
  have c_r_0 : ∀ p : BW W4, p.w.cell? ⟨g_r, 0, none⟩ = some (.int .i64 0) := bw_cell (k_r.cell rfl)
  have c_r_1 : ∀ p : BW W4, p.w.cell? ⟨g_r, 1, none⟩ = some (.int .i64 0) := bw_cell (k_r.cell rfl)
  have c_r_2 : ∀ p : BW W4, p.w.cell? ⟨g_r, 2, none⟩ = some (.int .i64 0) := bw_cell (k_r.cell rfl)
  have c_l_0 : ∀ p : BW W4, p.w.cell? ⟨g_l, 0, none⟩ = some (.int .i64 1) := bw_cell (k_l.cell rfl)
  have c_l_1 : ∀ p : BW W4, p.w.cell? ⟨g_l, 1, none⟩ = some (.int .i64 0) := bw_cell (k_l.cell rfl)
  have c_l_2 : ∀ p : BW W4, p.w.cell? ⟨g_l, 2, none⟩ = some (.int .i64 0) := bw_cell (k_l.cell rfl)
  have c_l_3 : ∀ p : BW W4, p.w.cell? ⟨g_l, 3, none⟩ = some (.int .i64 0) := bw_cell (k_l.cell rfl)
  have c_l_4 : ∀ p : BW W4, p.w.cell? ⟨g_l, 4, none⟩ = some (.int .i64 1) := bw_cell (k_l.cell rfl)
  have c_l_5 : ∀ p : BW W4, p.w.cell? ⟨g_l, 5, none⟩ = some (.int .i64 0) := bw_cell (k_l.cell rfl)
  have c_l_6 : ∀ p : BW W4, p.w.cell? ⟨g_l, 6, none⟩ = some (.int .i64 0) := bw_cell (k_l.cell rfl)
  have c_l_7 : ∀ p : BW W4, p.w.cell? ⟨g_l, 7, none⟩ = some (.int .i64 0) := bw_cell (k_l.cell rfl)
  have c_l_8 : ∀ p : BW W4, p.w.cell? ⟨g_l, 8, none⟩ = some (.int .i64 1) := bw_cell (k_l.cell rfl)
  have c_m_0 : ∀ p : BW W4, p.w.cell? ⟨g_m, 0, none⟩ = some (.int .i64 1) := bw_cell (k_m.cell rfl)
  have f_m_0 : ∀ p : BW W4, p.w.frozen? ⟨g_m, 0, none⟩ = false := fun p => (k_m.below p.h).frozen 0
  have c_m_1 : ∀ p : BW W4, p.w.cell? ⟨g_m, 1, none⟩ = some (.int .i64 0) := bw_cell (k_m.cell rfl)
  have f_m_1 : ∀ p : BW W4, p.w.frozen? ⟨g_m, 1, none⟩ = false := fun p => (k_m.below p.h).frozen 1
  have c_m_2 : ∀ p : BW W4, p.w.cell? ⟨g_m, 2, none⟩ = some (.int .i64 0) := bw_cell (k_m.cell rfl)
  have f_m_2 : ∀ p : BW W4, p.w.frozen? ⟨g_m, 2, none⟩ = false := fun p => (k_m.below p.h).frozen 2
  have c_d0_0 : ∀ p : BW W4, p.w.cell? ⟨g_d0, 0, none⟩ = some (.int .i64 0) := bw_cell (k_d0.cell rfl)
  have c_d0_1 : ∀ p : BW W4, p.w.cell? ⟨g_d0, 1, none⟩ = some (.int .i64 1) := bw_cell (k_d0.cell rfl)
  have c_d0_2 : ∀ p : BW W4, p.w.cell? ⟨g_d0, 2, none⟩ = some (.int .i64 0) := bw_cell (k_d0.cell rfl)
  obtain ⟨p4, hp4⟩ : ∃ p : BW W4, p.w = W4 := ⟨BW.start W4, rfl⟩
  rw [← hp4]
  clear hp4
  refine wp_region_bw (by kernel_rfl) (by kernel_rfl) ?_
  repeat (go_big_quiet_step (first
    | (go_at_call 50; (first | (with_reducible exact bw_call K1.out _) | (with_reducible exact bw_call K2.out _) | (with_reducible exact bw_call K3.out _)))))
  refine wpQuiet_nil ?_
  intro _ hw'
  obtain ⟨q, rfl⟩ := hw'
  go_wp2
  rw [rounds_succ]
  go_upto_region 6 with (fail)
  obtain ⟨W5, hW5⟩ : ∃ W, W = q.w.alloc (.cells #[.int .i64 0, .int .i64 0, .int .i64 1] 23) := ⟨_, rfl⟩
  have B5 : Below w.heap.size w W5 := by rw [hW5]; exact (bw_below B4 q).alloc (bw_below B4 q).size _
  have l_d1 : g_d0 < q.w.heap.size := (k_d0.below q.h).lt
  have k_v := (k_v.below q.h).alloc (.cells #[.int .i64 0, .int .i64 0, .int .i64 1] 23)
  rw [← hW5] at k_v
  have k_r := (k_r.below q.h).alloc (.cells #[.int .i64 0, .int .i64 0, .int .i64 1] 23)
  rw [← hW5] at k_r
  have k_l := (k_l.below q.h).alloc (.cells #[.int .i64 0, .int .i64 0, .int .i64 1] 23)
  rw [← hW5] at k_l
  have k_m := (k_m.below q.h).alloc (.cells #[.int .i64 0, .int .i64 0, .int .i64 1] 23)
  rw [← hW5] at k_m
  have k_d0 := (k_d0.below q.h).alloc (.cells #[.int .i64 0, .int .i64 0, .int .i64 1] 23)
  rw [← hW5] at k_d0
  have k_d1 : Bk W5 q.w.heap.size 23 #[.int .i64 0, .int .i64 0, .int .i64 1] := by rw [hW5]; exact Bk.new _ _ _
  rw [← hW5]
  clear hW5
  clear B4
  clear c_v_0 c_v_1 c_v_2 c_r_0 c_r_1 c_r_2 c_l_0 c_l_1 c_l_2 c_l_3 c_l_4 c_l_5 c_l_6 c_l_7 c_l_8 c_m_0 f_m_0 c_m_1 f_m_1 c_m_2 f_m_2 c_d0_0 c_d0_1 c_d0_2
  generalize q.w.heap.size = g_d1 at *
  have c_v_0 : ∀ p : BW W5, p.w.cell? ⟨w.heap.size, 0, none⟩ = some (.int .i64 a) := bw_cell (k_v.cell rfl)
  have c_v_1 : ∀ p : BW W5, p.w.cell? ⟨w.heap.size, 1, none⟩ = some (.int .i64 b) := bw_cell (k_v.cell rfl)
  have c_v_2 : ∀ p : BW W5, p.w.cell? ⟨w.heap.size, 2, none⟩ = some (.int .i64 c) := bw_cell (k_v.cell rfl)
  have c_r_0 : ∀ p : BW W5, p.w.cell? ⟨g_r, 0, none⟩ = some (.int .i64 0) := bw_cell (k_r.cell rfl)
  have c_r_1 : ∀ p : BW W5, p.w.cell? ⟨g_r, 1, none⟩ = some (.int .i64 0) := bw_cell (k_r.cell rfl)
  have c_r_2 : ∀ p : BW W5, p.w.cell? ⟨g_r, 2, none⟩ = some (.int .i64 0) := bw_cell (k_r.cell rfl)
  have c_l_0 : ∀ p : BW W5, p.w.cell? ⟨g_l, 0, none⟩ = some (.int .i64 1) := bw_cell (k_l.cell rfl)
  have c_l_1 : ∀ p : BW W5, p.w.cell? ⟨g_l, 1, none⟩ = some (.int .i64 0) := bw_cell (k_l.cell rfl)
  have c_l_2 : ∀ p : BW W5, p.w.cell? ⟨g_l, 2, none⟩ = some (.int .i64 0) := bw_cell (k_l.cell rfl)
  have c_l_3 : ∀ p : BW W5, p.w.cell? ⟨g_l, 3, none⟩ = some (.int .i64 0) := bw_cell (k_l.cell rfl)
  have c_l_4 : ∀ p : BW W5, p.w.cell? ⟨g_l, 4, none⟩ = some (.int .i64 1) := bw_cell (k_l.cell rfl)
  have c_l_5 : ∀ p : BW W5, p.w.cell? ⟨g_l, 5, none⟩ = some (.int .i64 0) := bw_cell (k_l.cell rfl)
  have c_l_6 : ∀ p : BW W5, p.w.cell? ⟨g_l, 6, none⟩ = some (.int .i64 0) := bw_cell (k_l.cell rfl)
  have c_l_7 : ∀ p : BW W5, p.w.cell? ⟨g_l, 7, none⟩ = some (.int .i64 0) := bw_cell (k_l.cell rfl)
  have c_l_8 : ∀ p : BW W5, p.w.cell? ⟨g_l, 8, none⟩ = some (.int .i64 1) := bw_cell (k_l.cell rfl)
  have c_m_0 : ∀ p : BW W5, p.w.cell? ⟨g_m, 0, none⟩ = some (.int .i64 1) := bw_cell (k_m.cell rfl)
  have f_m_0 : ∀ p : BW W5, p.w.frozen? ⟨g_m, 0, none⟩ = false := fun p => (k_m.below p.h).frozen 0
  have c_m_1 : ∀ p : BW W5, p.w.cell? ⟨g_m, 1, none⟩ = some (.int .i64 0) := bw_cell (k_m.cell rfl)
  have f_m_1 : ∀ p : BW W5, p.w.frozen? ⟨g_m, 1, none⟩ = false := fun p => (k_m.below p.h).frozen 1
  have c_m_2 : ∀ p : BW W5, p.w.cell? ⟨g_m, 2, none⟩ = some (.int .i64 0) := bw_cell (k_m.cell rfl)
  have f_m_2 : ∀ p : BW W5, p.w.frozen? ⟨g_m, 2, none⟩ = false := fun p => (k_m.below p.h).frozen 2
  have c_d0_0 : ∀ p : BW W5, p.w.cell? ⟨g_d0, 0, none⟩ = some (.int .i64 0) := bw_cell (k_d0.cell rfl)
  have c_d0_1 : ∀ p : BW W5, p.w.cell? ⟨g_d0, 1, none⟩ = some (.int .i64 1) := bw_cell (k_d0.cell rfl)
  have c_d0_2 : ∀ p : BW W5, p.w.cell? ⟨g_d0, 2, none⟩ = some (.int .i64 0) := bw_cell (k_d0.cell rfl)
  have c_d1_0 : ∀ p : BW W5, p.w.cell? ⟨g_d1, 0, none⟩ = some (.int .i64 0) := bw_cell (k_d1.cell rfl)
  have c_d1_1 : ∀ p : BW W5, p.w.cell? ⟨g_d1, 1, none⟩ = some (.int .i64 0) := bw_cell (k_d1.cell rfl)
  have c_d1_2 : ∀ p : BW W5, p.w.cell? ⟨g_d1, 2, none⟩ = some (.int .i64 1) := bw_cell (k_d1.cell rfl)
  obtain ⟨p5, hp5⟩ : ∃ p : BW W5, p.w = W5 := ⟨BW.start W5, rfl⟩
  rw [← hp5]
  clear hp5
  refine wp_region_bw (by kernel_rfl) (by kernel_rfl) ?_
  repeat (go_big_quiet_step (first
    | (go_at_call 50; (first | (with_reducible exact bw_call K1.out _) | (with_reducible exact bw_call K2.out _) | (with_reducible exact bw_call K3.out _)))))
  refine wpQuiet_nil ?_
  intro _ hw'
  obtain ⟨q, rfl⟩ := hw'
  go_upto_region 8 with (fail)
  obtain ⟨W6, hW6⟩ : ∃ W, W = ((q.w.setCell ⟨g_m, 0, none⟩ (.int .i64 0)).setCell ⟨g_m, 1, none⟩ (.int .i64 0)).setCell ⟨g_m, 2, none⟩ (.int .i64 1) := ⟨_, rfl⟩
  have B6 : Below w.heap.size w W6 := by rw [hW6]; exact ((((bw_below B5 q).setCell (p := ⟨g_m, 0, none⟩) (by show w.heap.size ≤ g_m; omega) _).setCell (p := ⟨g_m, 1, none⟩) (by show w.heap.size ≤ g_m; omega) _).setCell (p := ⟨g_m, 2, none⟩) (by show w.heap.size ≤ g_m; omega) _)
  have k_v : Bk W6 (w.heap.size) 23 #[.int .i64 a, .int .i64 b, .int .i64 c] := by rw [hW6]; exact ((((k_v.below q.h).other (a := ⟨g_m, 0, none⟩) (by show ¬ w.heap.size = g_m; omega) (.int .i64 0)).other (a := ⟨g_m, 1, none⟩) (by show ¬ w.heap.size = g_m; omega) (.int .i64 0)).other (a := ⟨g_m, 2, none⟩) (by show ¬ w.heap.size = g_m; omega) (.int .i64 1))
  have k_r : Bk W6 (g_r) 23 #[.int .i64 0, .int .i64 0, .int .i64 0] := by rw [hW6]; exact ((((k_r.below q.h).other (a := ⟨g_m, 0, none⟩) (by show ¬ g_r = g_m; omega) (.int .i64 0)).other (a := ⟨g_m, 1, none⟩) (by show ¬ g_r = g_m; omega) (.int .i64 0)).other (a := ⟨g_m, 2, none⟩) (by show ¬ g_r = g_m; omega) (.int .i64 1))
  have k_l : Bk W6 (g_l) 45 #[.int .i64 1, .int .i64 0, .int .i64 0, .int .i64 0, .int .i64 1, .int .i64 0, .int .i64 0, .int .i64 0, .int .i64 1] := by rw [hW6]; exact ((((k_l.below q.h).other (a := ⟨g_m, 0, none⟩) (by show ¬ g_l = g_m; omega) (.int .i64 0)).other (a := ⟨g_m, 1, none⟩) (by show ¬ g_l = g_m; omega) (.int .i64 0)).other (a := ⟨g_m, 2, none⟩) (by show ¬ g_l = g_m; omega) (.int .i64 1))
  have k_m : Bk W6 (g_m) 23 #[.int .i64 0, .int .i64 0, .int .i64 1] := by rw [hW6]; exact ((((k_m.below q.h).set 0 (.int .i64 0)).set 1 (.int .i64 0)).set 2 (.int .i64 1))
  have k_d0 : Bk W6 (g_d0) 23 #[.int .i64 0, .int .i64 1, .int .i64 0] := by rw [hW6]; exact ((((k_d0.below q.h).other (a := ⟨g_m, 0, none⟩) (by show ¬ g_d0 = g_m; omega) (.int .i64 0)).other (a := ⟨g_m, 1, none⟩) (by show ¬ g_d0 = g_m; omega) (.int .i64 0)).other (a := ⟨g_m, 2, none⟩) (by show ¬ g_d0 = g_m; omega) (.int .i64 1))
  have k_d1 : Bk W6 (g_d1) 23 #[.int .i64 0, .int .i64 0, .int .i64 1] := by rw [hW6]; exact ((((k_d1.below q.h).other (a := ⟨g_m, 0, none⟩) (by show ¬ g_d1 = g_m; omega) (.int .i64 0)).other (a := ⟨g_m, 1, none⟩) (by show ¬ g_d1 = g_m; omega) (.int .i64 0)).other (a := ⟨g_m, 2, none⟩) (by show ¬ g_d1 = g_m; omega) (.int .i64 1))
  rw [← hW6]
  clear hW6
  clear B5
  clear c_v_0 c_v_1 c_v_2 c_r_0 c_r_1 c_r_2 c_l_0 c_l_1 c_l_2 c_l_3 c_l_4 c_l_5 c_l_6 c_l_7 c_l_8 c_m_0 f_m_0 c_m_1 f_m_1 c_m_2 f_m_2 c_d0_0 c_d0_1 c_d0_2 c_d1_0 c_d1_1 c_d1_2
  have c_v_0 : ∀ p : BW W6, p.w.cell? ⟨w.heap.size, 0, none⟩ = some (.int .i64 a) := bw_cell (k_v.cell rfl)
  have c_v_1 : ∀ p : BW W6, p.w.cell? ⟨w.heap.size, 1, none⟩ = some (.int .i64 b) := bw_cell (k_v.cell rfl)
  have c_v_2 : ∀ p : BW W6, p.w.cell? ⟨w.heap.size, 2, none⟩ = some (.int .i64 c) := bw_cell (k_v.cell rfl)
  have c_r_0 : ∀ p : BW W6, p.w.cell? ⟨g_r, 0, none⟩ = some (.int .i64 0) := bw_cell (k_r.cell rfl)
  have c_r_1 : ∀ p : BW W6, p.w.cell? ⟨g_r, 1, none⟩ = some (.int .i64 0) := bw_cell (k_r.cell rfl)
  have c_r_2 : ∀ p : BW W6, p.w.cell? ⟨g_r, 2, none⟩ = some (.int .i64 0) := bw_cell (k_r.cell rfl)
  have c_l_0 : ∀ p : BW W6, p.w.cell? ⟨g_l, 0, none⟩ = some (.int .i64 1) := bw_cell (k_l.cell rfl)
  have c_l_1 : ∀ p : BW W6, p.w.cell? ⟨g_l, 1, none⟩ = some (.int .i64 0) := bw_cell (k_l.cell rfl)
  have c_l_2 : ∀ p : BW W6, p.w.cell? ⟨g_l, 2, none⟩ = some (.int .i64 0) := bw_cell (k_l.cell rfl)
  have c_l_3 : ∀ p : BW W6, p.w.cell? ⟨g_l, 3, none⟩ = some (.int .i64 0) := bw_cell (k_l.cell rfl)
  have c_l_4 : ∀ p : BW W6, p.w.cell? ⟨g_l, 4, none⟩ = some (.int .i64 1) := bw_cell (k_l.cell rfl)
  have c_l_5 : ∀ p : BW W6, p.w.cell? ⟨g_l, 5, none⟩ = some (.int .i64 0) := bw_cell (k_l.cell rfl)
  have c_l_6 : ∀ p : BW W6, p.w.cell? ⟨g_l, 6, none⟩ = some (.int .i64 0) := bw_cell (k_l.cell rfl)
  have c_l_7 : ∀ p : BW W6, p.w.cell? ⟨g_l, 7, none⟩ = some (.int .i64 0) := bw_cell (k_l.cell rfl)
  have c_l_8 : ∀ p : BW W6, p.w.cell? ⟨g_l, 8, none⟩ = some (.int .i64 1) := bw_cell (k_l.cell rfl)
  have c_m_0 : ∀ p : BW W6, p.w.cell? ⟨g_m, 0, none⟩ = some (.int .i64 0) := bw_cell (k_m.cell rfl)
  have c_m_1 : ∀ p : BW W6, p.w.cell? ⟨g_m, 1, none⟩ = some (.int .i64 0) := bw_cell (k_m.cell rfl)
  have c_m_2 : ∀ p : BW W6, p.w.cell? ⟨g_m, 2, none⟩ = some (.int .i64 1) := bw_cell (k_m.cell rfl)
  have c_d0_0 : ∀ p : BW W6, p.w.cell? ⟨g_d0, 0, none⟩ = some (.int .i64 0) := bw_cell (k_d0.cell rfl)
  have c_d0_1 : ∀ p : BW W6, p.w.cell? ⟨g_d0, 1, none⟩ = some (.int .i64 1) := bw_cell (k_d0.cell rfl)
  have c_d0_2 : ∀ p : BW W6, p.w.cell? ⟨g_d0, 2, none⟩ = some (.int .i64 0) := bw_cell (k_d0.cell rfl)
  have c_d1_0 : ∀ p : BW W6, p.w.cell? ⟨g_d1, 0, none⟩ = some (.int .i64 0) := bw_cell (k_d1.cell rfl)
  have c_d1_1 : ∀ p : BW W6, p.w.cell? ⟨g_d1, 1, none⟩ = some (.int .i64 0) := bw_cell (k_d1.cell rfl)
  have c_d1_2 : ∀ p : BW W6, p.w.cell? ⟨g_d1, 2, none⟩ = some (.int .i64 1) := bw_cell (k_d1.cell rfl)
  obtain ⟨p6, hp6⟩ : ∃ p : BW W6, p.w = W6 := ⟨BW.start W6, rfl⟩
  rw [← hp6]
  clear hp6
  go_wp2
  rw [rounds_succ]
  have f_r_0 : ∀ p : BW W6, p.w.frozen? ⟨g_r, 0, none⟩ = false := fun p => (k_r.below p.h).frozen 0
  have f_r_1 : ∀ p : BW W6, p.w.frozen? ⟨g_r, 1, none⟩ = false := fun p => (k_r.below p.h).frozen 1
  have f_r_2 : ∀ p : BW W6, p.w.frozen? ⟨g_r, 2, none⟩ = false := fun p => (k_r.below p.h).frozen 2
  go_wp2
  have kr : Bk (((p6.w.setCell ⟨g_r, 0, none⟩ (.int .i64 0)).setCell ⟨g_r, 1, none⟩ (.int .i64 0)).setCell ⟨g_r, 2, none⟩ (.int .i64 1)) (g_r) 23 #[.int .i64 0, .int .i64 0, .int .i64 1] := ((((k_r.below p6.h).set 0 (.int .i64 0)).set 1 (.int .i64 0)).set 2 (.int .i64 1))
  have rc0 : World.cell? (((p6.w.setCell ⟨g_r, 0, none⟩ (.int .i64 0)).setCell ⟨g_r, 1, none⟩ (.int .i64 0)).setCell ⟨g_r, 2, none⟩ (.int .i64 1)) ⟨g_r, 0, none⟩ = some (.int .i64 0) := kr.cell rfl
  have rc1 : World.cell? (((p6.w.setCell ⟨g_r, 0, none⟩ (.int .i64 0)).setCell ⟨g_r, 1, none⟩ (.int .i64 0)).setCell ⟨g_r, 2, none⟩ (.int .i64 1)) ⟨g_r, 1, none⟩ = some (.int .i64 0) := kr.cell rfl
  have rc2 : World.cell? (((p6.w.setCell ⟨g_r, 0, none⟩ (.int .i64 0)).setCell ⟨g_r, 1, none⟩ (.int .i64 0)).setCell ⟨g_r, 2, none⟩ (.int .i64 1)) ⟨g_r, 2, none⟩ = some (.int .i64 1) := kr.cell rfl
  exact bodyPost_ret (v := .agg #[.int .i64 0, .int .i64 0, .int .i64 1]) (by simp [results, Try.results25, go_sem, rc0, rc1, rc2]) rfl ⟨rfl, ((((bw_below B6 p6).setCell (p := ⟨g_r, 0, none⟩) (by show w.heap.size ≤ g_r; omega) _).setCell (p := ⟨g_r, 1, none⟩) (by show w.heap.size ≤ g_r; omega) _).setCell (p := ⟨g_r, 2, none⟩) (by show w.heap.size ≤ g_r; omega) _)⟩

set_option maxRecDepth 100000 in
set_option maxHeartbeats 4000000 in
theorem basis_leastAxis_y (a b c A B C : Int) (w : World) (K1 : Hid (∀ w, Calls Try.prog 50 #[.agg #[.int .i64 a, .int .i64 b, .int .i64 c], .agg #[.int .i64 1, .int .i64 0, .int .i64 0]] w fun e w' => e = .returned (.int .i64 A) ∧ Below w.heap.size w w'))
    (K2 : Hid (∀ w, Calls Try.prog 50 #[.agg #[.int .i64 a, .int .i64 b, .int .i64 c], .agg #[.int .i64 0, .int .i64 1, .int .i64 0]] w fun e w' => e = .returned (.int .i64 B) ∧ Below w.heap.size w w'))
    (K3 : Hid (∀ w, Calls Try.prog 50 #[.agg #[.int .i64 a, .int .i64 b, .int .i64 c], .agg #[.int .i64 0, .int .i64 0, .int .i64 1]] w fun e w' => e = .returned (.int .i64 C) ∧ Below w.heap.size w w'))
    (t1 : decide (B < A) = true) (t2 : decide (C < B) = false) :
    Calls Try.prog 25 #[.agg #[.int .i64 a, .int .i64 b, .int .i64 c]] w fun e w' => e = .returned (.agg #[.int .i64 0, .int .i64 1, .int .i64 0]) ∧ Below w.heap.size w w' := by
  go_enter Try.func25, Try.ntmps25
  go_upto_region 1 with (fail)
  obtain ⟨W1, hW1⟩ : ∃ W, W = (w.alloc (.cells #[.int .i64 a, .int .i64 b, .int .i64 c] 23)).alloc (.cells #[.int .i64 0, .int .i64 0, .int .i64 0] 23) := ⟨_, rfl⟩
  have B1 : Below w.heap.size w W1 := by rw [hW1]; go_grown
  have k_v : Bk W1 (w.heap.size) 23 #[.int .i64 a, .int .i64 b, .int .i64 c] := by rw [hW1]; exact (Bk.new _ _ _).alloc _
  have k_r : Bk W1 (w.heap.size + 1) 23 #[.int .i64 0, .int .i64 0, .int .i64 0] := by rw [hW1]; exact Bk.new_at _ _ _ _ (by simp)
  rw [← hW1]
  clear hW1
  have l_r : w.heap.size < w.heap.size + 1 := by omega
  generalize w.heap.size + 1 = g_r at *
  have c_v_0 : ∀ p : BW W1, p.w.cell? ⟨w.heap.size, 0, none⟩ = some (.int .i64 a) := bw_cell (k_v.cell rfl)
  have c_v_1 : ∀ p : BW W1, p.w.cell? ⟨w.heap.size, 1, none⟩ = some (.int .i64 b) := bw_cell (k_v.cell rfl)
  have c_v_2 : ∀ p : BW W1, p.w.cell? ⟨w.heap.size, 2, none⟩ = some (.int .i64 c) := bw_cell (k_v.cell rfl)
  have c_r_0 : ∀ p : BW W1, p.w.cell? ⟨g_r, 0, none⟩ = some (.int .i64 0) := bw_cell (k_r.cell rfl)
  have c_r_1 : ∀ p : BW W1, p.w.cell? ⟨g_r, 1, none⟩ = some (.int .i64 0) := bw_cell (k_r.cell rfl)
  have c_r_2 : ∀ p : BW W1, p.w.cell? ⟨g_r, 2, none⟩ = some (.int .i64 0) := bw_cell (k_r.cell rfl)
  obtain ⟨p1, hp1⟩ : ∃ p : BW W1, p.w = W1 := ⟨BW.start W1, rfl⟩
  rw [← hp1]
  clear hp1
  go_upto_region 2 with (fail)
  obtain ⟨W2, hW2⟩ : ∃ W, W = p1.w.alloc (.cells #[.int .i64 1, .int .i64 0, .int .i64 0, .int .i64 0, .int .i64 1, .int .i64 0, .int .i64 0, .int .i64 0, .int .i64 1] 45) := ⟨_, rfl⟩
  have B2 : Below w.heap.size w W2 := by rw [hW2]; exact (bw_below B1 p1).alloc (bw_below B1 p1).size _
  have l_l : g_r < p1.w.heap.size := (k_r.below p1.h).lt
  have k_v := (k_v.below p1.h).alloc (.cells #[.int .i64 1, .int .i64 0, .int .i64 0, .int .i64 0, .int .i64 1, .int .i64 0, .int .i64 0, .int .i64 0, .int .i64 1] 45)
  rw [← hW2] at k_v
  have k_r := (k_r.below p1.h).alloc (.cells #[.int .i64 1, .int .i64 0, .int .i64 0, .int .i64 0, .int .i64 1, .int .i64 0, .int .i64 0, .int .i64 0, .int .i64 1] 45)
  rw [← hW2] at k_r
  have k_l : Bk W2 p1.w.heap.size 45 #[.int .i64 1, .int .i64 0, .int .i64 0, .int .i64 0, .int .i64 1, .int .i64 0, .int .i64 0, .int .i64 0, .int .i64 1] := by rw [hW2]; exact Bk.new _ _ _
  rw [← hW2]
  clear hW2
  clear B1
  clear c_v_0 c_v_1 c_v_2 c_r_0 c_r_1 c_r_2
  generalize p1.w.heap.size = g_l at *
  have c_v_0 : ∀ p : BW W2, p.w.cell? ⟨w.heap.size, 0, none⟩ = some (.int .i64 a) := bw_cell (k_v.cell rfl)
  have c_v_1 : ∀ p : BW W2, p.w.cell? ⟨w.heap.size, 1, none⟩ = some (.int .i64 b) := bw_cell (k_v.cell rfl)
  have c_v_2 : ∀ p : BW W2, p.w.cell? ⟨w.heap.size, 2, none⟩ = some (.int .i64 c) := bw_cell (k_v.cell rfl)
  have c_r_0 : ∀ p : BW W2, p.w.cell? ⟨g_r, 0, none⟩ = some (.int .i64 0) := bw_cell (k_r.cell rfl)
  have c_r_1 : ∀ p : BW W2, p.w.cell? ⟨g_r, 1, none⟩ = some (.int .i64 0) := bw_cell (k_r.cell rfl)
  have c_r_2 : ∀ p : BW W2, p.w.cell? ⟨g_r, 2, none⟩ = some (.int .i64 0) := bw_cell (k_r.cell rfl)
  have c_l_0 : ∀ p : BW W2, p.w.cell? ⟨g_l, 0, none⟩ = some (.int .i64 1) := bw_cell (k_l.cell rfl)
  have c_l_1 : ∀ p : BW W2, p.w.cell? ⟨g_l, 1, none⟩ = some (.int .i64 0) := bw_cell (k_l.cell rfl)
  have c_l_2 : ∀ p : BW W2, p.w.cell? ⟨g_l, 2, none⟩ = some (.int .i64 0) := bw_cell (k_l.cell rfl)
  have c_l_3 : ∀ p : BW W2, p.w.cell? ⟨g_l, 3, none⟩ = some (.int .i64 0) := bw_cell (k_l.cell rfl)
  have c_l_4 : ∀ p : BW W2, p.w.cell? ⟨g_l, 4, none⟩ = some (.int .i64 1) := bw_cell (k_l.cell rfl)
  have c_l_5 : ∀ p : BW W2, p.w.cell? ⟨g_l, 5, none⟩ = some (.int .i64 0) := bw_cell (k_l.cell rfl)
  have c_l_6 : ∀ p : BW W2, p.w.cell? ⟨g_l, 6, none⟩ = some (.int .i64 0) := bw_cell (k_l.cell rfl)
  have c_l_7 : ∀ p : BW W2, p.w.cell? ⟨g_l, 7, none⟩ = some (.int .i64 0) := bw_cell (k_l.cell rfl)
  have c_l_8 : ∀ p : BW W2, p.w.cell? ⟨g_l, 8, none⟩ = some (.int .i64 1) := bw_cell (k_l.cell rfl)
  obtain ⟨p2, hp2⟩ : ∃ p : BW W2, p.w = W2 := ⟨BW.start W2, rfl⟩
  rw [← hp2]
  clear hp2
  go_upto_region 3 with (fail)
  obtain ⟨W3, hW3⟩ : ∃ W, W = p2.w.alloc (.cells #[.int .i64 1, .int .i64 0, .int .i64 0] 23) := ⟨_, rfl⟩
  have B3 : Below w.heap.size w W3 := by rw [hW3]; exact (bw_below B2 p2).alloc (bw_below B2 p2).size _
  have l_m : g_l < p2.w.heap.size := (k_l.below p2.h).lt
  have k_v := (k_v.below p2.h).alloc (.cells #[.int .i64 1, .int .i64 0, .int .i64 0] 23)
  rw [← hW3] at k_v
  have k_r := (k_r.below p2.h).alloc (.cells #[.int .i64 1, .int .i64 0, .int .i64 0] 23)
  rw [← hW3] at k_r
  have k_l := (k_l.below p2.h).alloc (.cells #[.int .i64 1, .int .i64 0, .int .i64 0] 23)
  rw [← hW3] at k_l
  have k_m : Bk W3 p2.w.heap.size 23 #[.int .i64 1, .int .i64 0, .int .i64 0] := by rw [hW3]; exact Bk.new _ _ _
  rw [← hW3]
  clear hW3
  clear B2
  clear c_v_0 c_v_1 c_v_2 c_r_0 c_r_1 c_r_2 c_l_0 c_l_1 c_l_2 c_l_3 c_l_4 c_l_5 c_l_6 c_l_7 c_l_8
  generalize p2.w.heap.size = g_m at *
  have c_v_0 : ∀ p : BW W3, p.w.cell? ⟨w.heap.size, 0, none⟩ = some (.int .i64 a) := bw_cell (k_v.cell rfl)
  have c_v_1 : ∀ p : BW W3, p.w.cell? ⟨w.heap.size, 1, none⟩ = some (.int .i64 b) := bw_cell (k_v.cell rfl)
  have c_v_2 : ∀ p : BW W3, p.w.cell? ⟨w.heap.size, 2, none⟩ = some (.int .i64 c) := bw_cell (k_v.cell rfl)
  have c_r_0 : ∀ p : BW W3, p.w.cell? ⟨g_r, 0, none⟩ = some (.int .i64 0) := bw_cell (k_r.cell rfl)
  have c_r_1 : ∀ p : BW W3, p.w.cell? ⟨g_r, 1, none⟩ = some (.int .i64 0) := bw_cell (k_r.cell rfl)
  have c_r_2 : ∀ p : BW W3, p.w.cell? ⟨g_r, 2, none⟩ = some (.int .i64 0) := bw_cell (k_r.cell rfl)
  have c_l_0 : ∀ p : BW W3, p.w.cell? ⟨g_l, 0, none⟩ = some (.int .i64 1) := bw_cell (k_l.cell rfl)
  have c_l_1 : ∀ p : BW W3, p.w.cell? ⟨g_l, 1, none⟩ = some (.int .i64 0) := bw_cell (k_l.cell rfl)
  have c_l_2 : ∀ p : BW W3, p.w.cell? ⟨g_l, 2, none⟩ = some (.int .i64 0) := bw_cell (k_l.cell rfl)
  have c_l_3 : ∀ p : BW W3, p.w.cell? ⟨g_l, 3, none⟩ = some (.int .i64 0) := bw_cell (k_l.cell rfl)
  have c_l_4 : ∀ p : BW W3, p.w.cell? ⟨g_l, 4, none⟩ = some (.int .i64 1) := bw_cell (k_l.cell rfl)
  have c_l_5 : ∀ p : BW W3, p.w.cell? ⟨g_l, 5, none⟩ = some (.int .i64 0) := bw_cell (k_l.cell rfl)
  have c_l_6 : ∀ p : BW W3, p.w.cell? ⟨g_l, 6, none⟩ = some (.int .i64 0) := bw_cell (k_l.cell rfl)
  have c_l_7 : ∀ p : BW W3, p.w.cell? ⟨g_l, 7, none⟩ = some (.int .i64 0) := bw_cell (k_l.cell rfl)
  have c_l_8 : ∀ p : BW W3, p.w.cell? ⟨g_l, 8, none⟩ = some (.int .i64 1) := bw_cell (k_l.cell rfl)
  have c_m_0 : ∀ p : BW W3, p.w.cell? ⟨g_m, 0, none⟩ = some (.int .i64 1) := bw_cell (k_m.cell rfl)
  have c_m_1 : ∀ p : BW W3, p.w.cell? ⟨g_m, 1, none⟩ = some (.int .i64 0) := bw_cell (k_m.cell rfl)
  have c_m_2 : ∀ p : BW W3, p.w.cell? ⟨g_m, 2, none⟩ = some (.int .i64 0) := bw_cell (k_m.cell rfl)
  obtain ⟨p3, hp3⟩ : ∃ p : BW W3, p.w = W3 := ⟨BW.start W3, rfl⟩
  rw [← hp3]
  clear hp3
  go_upto_region 4 with (fail)
  refine wp_loop_rounds 3 ?_
  rw [rounds_succ]
  go_upto_region 6 with (fail)
  obtain ⟨W4, hW4⟩ : ∃ W, W = p3.w.alloc (.cells #[.int .i64 0, .int .i64 1, .int .i64 0] 23) := ⟨_, rfl⟩
  have B4 : Below w.heap.size w W4 := by rw [hW4]; exact (bw_below B3 p3).alloc (bw_below B3 p3).size _
  have l_d0 : g_m < p3.w.heap.size := (k_m.below p3.h).lt
  have k_v := (k_v.below p3.h).alloc (.cells #[.int .i64 0, .int .i64 1, .int .i64 0] 23)
  rw [← hW4] at k_v
  have k_r := (k_r.below p3.h).alloc (.cells #[.int .i64 0, .int .i64 1, .int .i64 0] 23)
  rw [← hW4] at k_r
  have k_l := (k_l.below p3.h).alloc (.cells #[.int .i64 0, .int .i64 1, .int .i64 0] 23)
  rw [← hW4] at k_l
  have k_m := (k_m.below p3.h).alloc (.cells #[.int .i64 0, .int .i64 1, .int .i64 0] 23)
  rw [← hW4] at k_m
  have k_d0 : Bk W4 p3.w.heap.size 23 #[.int .i64 0, .int .i64 1, .int .i64 0] := by rw [hW4]; exact Bk.new _ _ _
  rw [← hW4]
  clear hW4
  clear B3
  clear c_v_0 c_v_1 c_v_2 c_r_0 c_r_1 c_r_2 c_l_0 c_l_1 c_l_2 c_l_3 c_l_4 c_l_5 c_l_6 c_l_7 c_l_8 c_m_0 c_m_1 c_m_2
  generalize p3.w.heap.size = g_d0 at *
  have c_v_0 : ∀ p : BW W4, p.w.cell? ⟨w.heap.size, 0, none⟩ = some (.int .i64 a) := bw_cell (k_v.cell rfl)
  have c_v_1 : ∀ p : BW W4, p.w.cell? ⟨w.heap.size, 1, none⟩ = some (.int .i64 b) := bw_cell (k_v.cell rfl)
  have c_v_2 : ∀ p : BW W4, p.w.cell? ⟨w.heap.size, 2, none⟩ = some (.int .i64 c) := bw_cell (k_v.cell rfl)
  have c_r_0 : ∀ p : BW W4, p.w.cell? ⟨g_r, 0, none⟩ = some (.int .i64 0) := bw_cell (k_r.cell rfl)
  have c_r_1 : ∀ p : BW W4, p.w.cell? ⟨g_r, 1, none⟩ = some (.int .i64 0) := bw_cell (k_r.cell rfl)
  have c_r_2 : ∀ p : BW W4, p.w.cell? ⟨g_r, 2, none⟩ = some (.int .i64 0) := bw_cell (k_r.cell rfl)
  have c_l_0 : ∀ p : BW W4, p.w.cell? ⟨g_l, 0, none⟩ = some (.int .i64 1) := bw_cell (k_l.cell rfl)
  have c_l_1 : ∀ p : BW W4, p.w.cell? ⟨g_l, 1, none⟩ = some (.int .i64 0) := bw_cell (k_l.cell rfl)
  have c_l_2 : ∀ p : BW W4, p.w.cell? ⟨g_l, 2, none⟩ = some (.int .i64 0) := bw_cell (k_l.cell rfl)
  have c_l_3 : ∀ p : BW W4, p.w.cell? ⟨g_l, 3, none⟩ = some (.int .i64 0) := bw_cell (k_l.cell rfl)
  have c_l_4 : ∀ p : BW W4, p.w.cell? ⟨g_l, 4, none⟩ = some (.int .i64 1) := bw_cell (k_l.cell rfl)
  have c_l_5 : ∀ p : BW W4, p.w.cell? ⟨g_l, 5, none⟩ = some (.int .i64 0) := bw_cell (k_l.cell rfl)
  have c_l_6 : ∀ p : BW W4, p.w.cell? ⟨g_l, 6, none⟩ = some (.int .i64 0) := bw_cell (k_l.cell rfl)
  have c_l_7 : ∀ p : BW W4, p.w.cell? ⟨g_l, 7, none⟩ = some (.int .i64 0) := bw_cell (k_l.cell rfl)
  have c_l_8 : ∀ p : BW W4, p.w.cell? ⟨g_l, 8, none⟩ = some (.int .i64 1) := bw_cell (k_l.cell rfl)
  have c_m_0 : ∀ p : BW W4, p.w.cell? ⟨g_m, 0, none⟩ = some (.int .i64 1) := bw_cell (k_m.cell rfl)
  have f_m_0 : ∀ p : BW W4, p.w.frozen? ⟨g_m, 0, none⟩ = false := fun p => (k_m.below p.h).frozen 0
  have c_m_1 : ∀ p : BW W4, p.w.cell? ⟨g_m, 1, none⟩ = some (.int .i64 0) := bw_cell (k_m.cell rfl)
  have f_m_1 : ∀ p : BW W4, p.w.frozen? ⟨g_m, 1, none⟩ = false := fun p => (k_m.below p.h).frozen 1
  have c_m_2 : ∀ p : BW W4, p.w.cell? ⟨g_m, 2, none⟩ = some (.int .i64 0) := bw_cell (k_m.cell rfl)
  have f_m_2 : ∀ p : BW W4, p.w.frozen? ⟨g_m, 2, none⟩ = false := fun p => (k_m.below p.h).frozen 2
  have c_d0_0 : ∀ p : BW W4, p.w.cell? ⟨g_d0, 0, none⟩ = some (.int .i64 0) := bw_cell (k_d0.cell rfl)
  have c_d0_1 : ∀ p : BW W4, p.w.cell? ⟨g_d0, 1, none⟩ = some (.int .i64 1) := bw_cell (k_d0.cell rfl)
  have c_d0_2 : ∀ p : BW W4, p.w.cell? ⟨g_d0, 2, none⟩ = some (.int .i64 0) := bw_cell (k_d0.cell rfl)
  obtain ⟨p4, hp4⟩ : ∃ p : BW W4, p.w = W4 := ⟨BW.start W4, rfl⟩
  rw [← hp4]
  clear hp4
  refine wp_region_bw (by kernel_rfl) (by kernel_rfl) ?_
  repeat (go_big_quiet_step (first
    | (go_at_call 50; (first | (with_reducible exact bw_call K1.out _) | (with_reducible exact bw_call K2.out _) | (with_reducible exact bw_call K3.out _)))))
  refine wpQuiet_nil ?_
  intro _ hw'
  obtain ⟨q, rfl⟩ := hw'
  go_upto_region 8 with (fail)
  obtain ⟨W5, hW5⟩ : ∃ W, W = ((q.w.setCell ⟨g_m, 0, none⟩ (.int .i64 0)).setCell ⟨g_m, 1, none⟩ (.int .i64 1)).setCell ⟨g_m, 2, none⟩ (.int .i64 0) := ⟨_, rfl⟩
  have B5 : Below w.heap.size w W5 := by rw [hW5]; exact ((((bw_below B4 q).setCell (p := ⟨g_m, 0, none⟩) (by show w.heap.size ≤ g_m; omega) _).setCell (p := ⟨g_m, 1, none⟩) (by show w.heap.size ≤ g_m; omega) _).setCell (p := ⟨g_m, 2, none⟩) (by show w.heap.size ≤ g_m; omega) _)
  have k_v : Bk W5 (w.heap.size) 23 #[.int .i64 a, .int .i64 b, .int .i64 c] := by rw [hW5]; exact ((((k_v.below q.h).other (a := ⟨g_m, 0, none⟩) (by show ¬ w.heap.size = g_m; omega) (.int .i64 0)).other (a := ⟨g_m, 1, none⟩) (by show ¬ w.heap.size = g_m; omega) (.int .i64 1)).other (a := ⟨g_m, 2, none⟩) (by show ¬ w.heap.size = g_m; omega) (.int .i64 0))
  have k_r : Bk W5 (g_r) 23 #[.int .i64 0, .int .i64 0, .int .i64 0] := by rw [hW5]; exact ((((k_r.below q.h).other (a := ⟨g_m, 0, none⟩) (by show ¬ g_r = g_m; omega) (.int .i64 0)).other (a := ⟨g_m, 1, none⟩) (by show ¬ g_r = g_m; omega) (.int .i64 1)).other (a := ⟨g_m, 2, none⟩) (by show ¬ g_r = g_m; omega) (.int .i64 0))
  have k_l : Bk W5 (g_l) 45 #[.int .i64 1, .int .i64 0, .int .i64 0, .int .i64 0, .int .i64 1, .int .i64 0, .int .i64 0, .int .i64 0, .int .i64 1] := by rw [hW5]; exact ((((k_l.below q.h).other (a := ⟨g_m, 0, none⟩) (by show ¬ g_l = g_m; omega) (.int .i64 0)).other (a := ⟨g_m, 1, none⟩) (by show ¬ g_l = g_m; omega) (.int .i64 1)).other (a := ⟨g_m, 2, none⟩) (by show ¬ g_l = g_m; omega) (.int .i64 0))
  have k_m : Bk W5 (g_m) 23 #[.int .i64 0, .int .i64 1, .int .i64 0] := by rw [hW5]; exact ((((k_m.below q.h).set 0 (.int .i64 0)).set 1 (.int .i64 1)).set 2 (.int .i64 0))
  have k_d0 : Bk W5 (g_d0) 23 #[.int .i64 0, .int .i64 1, .int .i64 0] := by rw [hW5]; exact ((((k_d0.below q.h).other (a := ⟨g_m, 0, none⟩) (by show ¬ g_d0 = g_m; omega) (.int .i64 0)).other (a := ⟨g_m, 1, none⟩) (by show ¬ g_d0 = g_m; omega) (.int .i64 1)).other (a := ⟨g_m, 2, none⟩) (by show ¬ g_d0 = g_m; omega) (.int .i64 0))
  rw [← hW5]
  clear hW5
  clear B4
  clear c_v_0 c_v_1 c_v_2 c_r_0 c_r_1 c_r_2 c_l_0 c_l_1 c_l_2 c_l_3 c_l_4 c_l_5 c_l_6 c_l_7 c_l_8 c_m_0 f_m_0 c_m_1 f_m_1 c_m_2 f_m_2 c_d0_0 c_d0_1 c_d0_2
  have c_v_0 : ∀ p : BW W5, p.w.cell? ⟨w.heap.size, 0, none⟩ = some (.int .i64 a) := bw_cell (k_v.cell rfl)
  have c_v_1 : ∀ p : BW W5, p.w.cell? ⟨w.heap.size, 1, none⟩ = some (.int .i64 b) := bw_cell (k_v.cell rfl)
  have c_v_2 : ∀ p : BW W5, p.w.cell? ⟨w.heap.size, 2, none⟩ = some (.int .i64 c) := bw_cell (k_v.cell rfl)
  have c_r_0 : ∀ p : BW W5, p.w.cell? ⟨g_r, 0, none⟩ = some (.int .i64 0) := bw_cell (k_r.cell rfl)
  have c_r_1 : ∀ p : BW W5, p.w.cell? ⟨g_r, 1, none⟩ = some (.int .i64 0) := bw_cell (k_r.cell rfl)
  have c_r_2 : ∀ p : BW W5, p.w.cell? ⟨g_r, 2, none⟩ = some (.int .i64 0) := bw_cell (k_r.cell rfl)
  have c_l_0 : ∀ p : BW W5, p.w.cell? ⟨g_l, 0, none⟩ = some (.int .i64 1) := bw_cell (k_l.cell rfl)
  have c_l_1 : ∀ p : BW W5, p.w.cell? ⟨g_l, 1, none⟩ = some (.int .i64 0) := bw_cell (k_l.cell rfl)
  have c_l_2 : ∀ p : BW W5, p.w.cell? ⟨g_l, 2, none⟩ = some (.int .i64 0) := bw_cell (k_l.cell rfl)
  have c_l_3 : ∀ p : BW W5, p.w.cell? ⟨g_l, 3, none⟩ = some (.int .i64 0) := bw_cell (k_l.cell rfl)
  have c_l_4 : ∀ p : BW W5, p.w.cell? ⟨g_l, 4, none⟩ = some (.int .i64 1) := bw_cell (k_l.cell rfl)
  have c_l_5 : ∀ p : BW W5, p.w.cell? ⟨g_l, 5, none⟩ = some (.int .i64 0) := bw_cell (k_l.cell rfl)
  have c_l_6 : ∀ p : BW W5, p.w.cell? ⟨g_l, 6, none⟩ = some (.int .i64 0) := bw_cell (k_l.cell rfl)
  have c_l_7 : ∀ p : BW W5, p.w.cell? ⟨g_l, 7, none⟩ = some (.int .i64 0) := bw_cell (k_l.cell rfl)
  have c_l_8 : ∀ p : BW W5, p.w.cell? ⟨g_l, 8, none⟩ = some (.int .i64 1) := bw_cell (k_l.cell rfl)
  have c_m_0 : ∀ p : BW W5, p.w.cell? ⟨g_m, 0, none⟩ = some (.int .i64 0) := bw_cell (k_m.cell rfl)
  have c_m_1 : ∀ p : BW W5, p.w.cell? ⟨g_m, 1, none⟩ = some (.int .i64 1) := bw_cell (k_m.cell rfl)
  have c_m_2 : ∀ p : BW W5, p.w.cell? ⟨g_m, 2, none⟩ = some (.int .i64 0) := bw_cell (k_m.cell rfl)
  have c_d0_0 : ∀ p : BW W5, p.w.cell? ⟨g_d0, 0, none⟩ = some (.int .i64 0) := bw_cell (k_d0.cell rfl)
  have c_d0_1 : ∀ p : BW W5, p.w.cell? ⟨g_d0, 1, none⟩ = some (.int .i64 1) := bw_cell (k_d0.cell rfl)
  have c_d0_2 : ∀ p : BW W5, p.w.cell? ⟨g_d0, 2, none⟩ = some (.int .i64 0) := bw_cell (k_d0.cell rfl)
  obtain ⟨p5, hp5⟩ : ∃ p : BW W5, p.w = W5 := ⟨BW.start W5, rfl⟩
  rw [← hp5]
  clear hp5
  go_wp2
  rw [rounds_succ]
  go_upto_region 6 with (fail)
  obtain ⟨W6, hW6⟩ : ∃ W, W = p5.w.alloc (.cells #[.int .i64 0, .int .i64 0, .int .i64 1] 23) := ⟨_, rfl⟩
  have B6 : Below w.heap.size w W6 := by rw [hW6]; exact (bw_below B5 p5).alloc (bw_below B5 p5).size _
  have l_d1 : g_d0 < p5.w.heap.size := (k_d0.below p5.h).lt
  have k_v := (k_v.below p5.h).alloc (.cells #[.int .i64 0, .int .i64 0, .int .i64 1] 23)
  rw [← hW6] at k_v
  have k_r := (k_r.below p5.h).alloc (.cells #[.int .i64 0, .int .i64 0, .int .i64 1] 23)
  rw [← hW6] at k_r
  have k_l := (k_l.below p5.h).alloc (.cells #[.int .i64 0, .int .i64 0, .int .i64 1] 23)
  rw [← hW6] at k_l
  have k_m := (k_m.below p5.h).alloc (.cells #[.int .i64 0, .int .i64 0, .int .i64 1] 23)
  rw [← hW6] at k_m
  have k_d0 := (k_d0.below p5.h).alloc (.cells #[.int .i64 0, .int .i64 0, .int .i64 1] 23)
  rw [← hW6] at k_d0
  have k_d1 : Bk W6 p5.w.heap.size 23 #[.int .i64 0, .int .i64 0, .int .i64 1] := by rw [hW6]; exact Bk.new _ _ _
  rw [← hW6]
  clear hW6
  clear B5
  clear c_v_0 c_v_1 c_v_2 c_r_0 c_r_1 c_r_2 c_l_0 c_l_1 c_l_2 c_l_3 c_l_4 c_l_5 c_l_6 c_l_7 c_l_8 c_m_0 c_m_1 c_m_2 c_d0_0 c_d0_1 c_d0_2
  generalize p5.w.heap.size = g_d1 at *
  have c_v_0 : ∀ p : BW W6, p.w.cell? ⟨w.heap.size, 0, none⟩ = some (.int .i64 a) := bw_cell (k_v.cell rfl)
  have c_v_1 : ∀ p : BW W6, p.w.cell? ⟨w.heap.size, 1, none⟩ = some (.int .i64 b) := bw_cell (k_v.cell rfl)
  have c_v_2 : ∀ p : BW W6, p.w.cell? ⟨w.heap.size, 2, none⟩ = some (.int .i64 c) := bw_cell (k_v.cell rfl)
  have c_r_0 : ∀ p : BW W6, p.w.cell? ⟨g_r, 0, none⟩ = some (.int .i64 0) := bw_cell (k_r.cell rfl)
  have c_r_1 : ∀ p : BW W6, p.w.cell? ⟨g_r, 1, none⟩ = some (.int .i64 0) := bw_cell (k_r.cell rfl)
  have c_r_2 : ∀ p : BW W6, p.w.cell? ⟨g_r, 2, none⟩ = some (.int .i64 0) := bw_cell (k_r.cell rfl)
  have c_l_0 : ∀ p : BW W6, p.w.cell? ⟨g_l, 0, none⟩ = some (.int .i64 1) := bw_cell (k_l.cell rfl)
  have c_l_1 : ∀ p : BW W6, p.w.cell? ⟨g_l, 1, none⟩ = some (.int .i64 0) := bw_cell (k_l.cell rfl)
  have c_l_2 : ∀ p : BW W6, p.w.cell? ⟨g_l, 2, none⟩ = some (.int .i64 0) := bw_cell (k_l.cell rfl)
  have c_l_3 : ∀ p : BW W6, p.w.cell? ⟨g_l, 3, none⟩ = some (.int .i64 0) := bw_cell (k_l.cell rfl)
  have c_l_4 : ∀ p : BW W6, p.w.cell? ⟨g_l, 4, none⟩ = some (.int .i64 1) := bw_cell (k_l.cell rfl)
  have c_l_5 : ∀ p : BW W6, p.w.cell? ⟨g_l, 5, none⟩ = some (.int .i64 0) := bw_cell (k_l.cell rfl)
  have c_l_6 : ∀ p : BW W6, p.w.cell? ⟨g_l, 6, none⟩ = some (.int .i64 0) := bw_cell (k_l.cell rfl)
  have c_l_7 : ∀ p : BW W6, p.w.cell? ⟨g_l, 7, none⟩ = some (.int .i64 0) := bw_cell (k_l.cell rfl)
  have c_l_8 : ∀ p : BW W6, p.w.cell? ⟨g_l, 8, none⟩ = some (.int .i64 1) := bw_cell (k_l.cell rfl)
  have c_m_0 : ∀ p : BW W6, p.w.cell? ⟨g_m, 0, none⟩ = some (.int .i64 0) := bw_cell (k_m.cell rfl)
  have f_m_0 : ∀ p : BW W6, p.w.frozen? ⟨g_m, 0, none⟩ = false := fun p => (k_m.below p.h).frozen 0
  have c_m_1 : ∀ p : BW W6, p.w.cell? ⟨g_m, 1, none⟩ = some (.int .i64 1) := bw_cell (k_m.cell rfl)
  have f_m_1 : ∀ p : BW W6, p.w.frozen? ⟨g_m, 1, none⟩ = false := fun p => (k_m.below p.h).frozen 1
  have c_m_2 : ∀ p : BW W6, p.w.cell? ⟨g_m, 2, none⟩ = some (.int .i64 0) := bw_cell (k_m.cell rfl)
  have f_m_2 : ∀ p : BW W6, p.w.frozen? ⟨g_m, 2, none⟩ = false := fun p => (k_m.below p.h).frozen 2
  have c_d0_0 : ∀ p : BW W6, p.w.cell? ⟨g_d0, 0, none⟩ = some (.int .i64 0) := bw_cell (k_d0.cell rfl)
  have c_d0_1 : ∀ p : BW W6, p.w.cell? ⟨g_d0, 1, none⟩ = some (.int .i64 1) := bw_cell (k_d0.cell rfl)
  have c_d0_2 : ∀ p : BW W6, p.w.cell? ⟨g_d0, 2, none⟩ = some (.int .i64 0) := bw_cell (k_d0.cell rfl)
  have c_d1_0 : ∀ p : BW W6, p.w.cell? ⟨g_d1, 0, none⟩ = some (.int .i64 0) := bw_cell (k_d1.cell rfl)
  have c_d1_1 : ∀ p : BW W6, p.w.cell? ⟨g_d1, 1, none⟩ = some (.int .i64 0) := bw_cell (k_d1.cell rfl)
  have c_d1_2 : ∀ p : BW W6, p.w.cell? ⟨g_d1, 2, none⟩ = some (.int .i64 1) := bw_cell (k_d1.cell rfl)
  obtain ⟨p6, hp6⟩ : ∃ p : BW W6, p.w = W6 := ⟨BW.start W6, rfl⟩
  rw [← hp6]
  clear hp6
  refine wp_region_bw (by kernel_rfl) (by kernel_rfl) ?_
  repeat (go_big_quiet_step (first
    | (go_at_call 50; (first | (with_reducible exact bw_call K1.out _) | (with_reducible exact bw_call K2.out _) | (with_reducible exact bw_call K3.out _)))))
  refine wpQuiet_nil ?_
  intro _ hw'
  obtain ⟨q, rfl⟩ := hw'
  go_wp2
  rw [rounds_succ]
  have f_r_0 : ∀ p : BW W6, p.w.frozen? ⟨g_r, 0, none⟩ = false := fun p => (k_r.below p.h).frozen 0
  have f_r_1 : ∀ p : BW W6, p.w.frozen? ⟨g_r, 1, none⟩ = false := fun p => (k_r.below p.h).frozen 1
  have f_r_2 : ∀ p : BW W6, p.w.frozen? ⟨g_r, 2, none⟩ = false := fun p => (k_r.below p.h).frozen 2
  go_wp2
  have kr : Bk (((q.w.setCell ⟨g_r, 0, none⟩ (.int .i64 0)).setCell ⟨g_r, 1, none⟩ (.int .i64 1)).setCell ⟨g_r, 2, none⟩ (.int .i64 0)) (g_r) 23 #[.int .i64 0, .int .i64 1, .int .i64 0] := ((((k_r.below q.h).set 0 (.int .i64 0)).set 1 (.int .i64 1)).set 2 (.int .i64 0))
  have rc0 : World.cell? (((q.w.setCell ⟨g_r, 0, none⟩ (.int .i64 0)).setCell ⟨g_r, 1, none⟩ (.int .i64 1)).setCell ⟨g_r, 2, none⟩ (.int .i64 0)) ⟨g_r, 0, none⟩ = some (.int .i64 0) := kr.cell rfl
  have rc1 : World.cell? (((q.w.setCell ⟨g_r, 0, none⟩ (.int .i64 0)).setCell ⟨g_r, 1, none⟩ (.int .i64 1)).setCell ⟨g_r, 2, none⟩ (.int .i64 0)) ⟨g_r, 1, none⟩ = some (.int .i64 1) := kr.cell rfl
  have rc2 : World.cell? (((q.w.setCell ⟨g_r, 0, none⟩ (.int .i64 0)).setCell ⟨g_r, 1, none⟩ (.int .i64 1)).setCell ⟨g_r, 2, none⟩ (.int .i64 0)) ⟨g_r, 2, none⟩ = some (.int .i64 0) := kr.cell rfl
  exact bodyPost_ret (v := .agg #[.int .i64 0, .int .i64 1, .int .i64 0]) (by simp [results, Try.results25, go_sem, rc0, rc1, rc2]) rfl ⟨rfl, ((((bw_below B6 q).setCell (p := ⟨g_r, 0, none⟩) (by show w.heap.size ≤ g_r; omega) _).setCell (p := ⟨g_r, 1, none⟩) (by show w.heap.size ≤ g_r; omega) _).setCell (p := ⟨g_r, 2, none⟩) (by show w.heap.size ≤ g_r; omega) _)⟩

set_option maxRecDepth 100000 in
set_option maxHeartbeats 4000000 in
theorem basis_leastAxis_yz (a b c A B C : Int) (w : World) (K1 : Hid (∀ w, Calls Try.prog 50 #[.agg #[.int .i64 a, .int .i64 b, .int .i64 c], .agg #[.int .i64 1, .int .i64 0, .int .i64 0]] w fun e w' => e = .returned (.int .i64 A) ∧ Below w.heap.size w w'))
    (K2 : Hid (∀ w, Calls Try.prog 50 #[.agg #[.int .i64 a, .int .i64 b, .int .i64 c], .agg #[.int .i64 0, .int .i64 1, .int .i64 0]] w fun e w' => e = .returned (.int .i64 B) ∧ Below w.heap.size w w'))
    (K3 : Hid (∀ w, Calls Try.prog 50 #[.agg #[.int .i64 a, .int .i64 b, .int .i64 c], .agg #[.int .i64 0, .int .i64 0, .int .i64 1]] w fun e w' => e = .returned (.int .i64 C) ∧ Below w.heap.size w w'))
    (t1 : decide (B < A) = true) (t2 : decide (C < B) = true) :
    Calls Try.prog 25 #[.agg #[.int .i64 a, .int .i64 b, .int .i64 c]] w fun e w' => e = .returned (.agg #[.int .i64 0, .int .i64 0, .int .i64 1]) ∧ Below w.heap.size w w' := by
  go_enter Try.func25, Try.ntmps25
  go_upto_region 1 with (fail)
  obtain ⟨W1, hW1⟩ : ∃ W, W = (w.alloc (.cells #[.int .i64 a, .int .i64 b, .int .i64 c] 23)).alloc (.cells #[.int .i64 0, .int .i64 0, .int .i64 0] 23) := ⟨_, rfl⟩
  have B1 : Below w.heap.size w W1 := by rw [hW1]; go_grown
  have k_v : Bk W1 (w.heap.size) 23 #[.int .i64 a, .int .i64 b, .int .i64 c] := by rw [hW1]; exact (Bk.new _ _ _).alloc _
  have k_r : Bk W1 (w.heap.size + 1) 23 #[.int .i64 0, .int .i64 0, .int .i64 0] := by rw [hW1]; exact Bk.new_at _ _ _ _ (by simp)
  rw [← hW1]
  clear hW1
  have l_r : w.heap.size < w.heap.size + 1 := by omega
  generalize w.heap.size + 1 = g_r at *
  have c_v_0 : ∀ p : BW W1, p.w.cell? ⟨w.heap.size, 0, none⟩ = some (.int .i64 a) := bw_cell (k_v.cell rfl)
  have c_v_1 : ∀ p : BW W1, p.w.cell? ⟨w.heap.size, 1, none⟩ = some (.int .i64 b) := bw_cell (k_v.cell rfl)
  have c_v_2 : ∀ p : BW W1, p.w.cell? ⟨w.heap.size, 2, none⟩ = some (.int .i64 c) := bw_cell (k_v.cell rfl)
  have c_r_0 : ∀ p : BW W1, p.w.cell? ⟨g_r, 0, none⟩ = some (.int .i64 0) := bw_cell (k_r.cell rfl)
  have c_r_1 : ∀ p : BW W1, p.w.cell? ⟨g_r, 1, none⟩ = some (.int .i64 0) := bw_cell (k_r.cell rfl)
  have c_r_2 : ∀ p : BW W1, p.w.cell? ⟨g_r, 2, none⟩ = some (.int .i64 0) := bw_cell (k_r.cell rfl)
  obtain ⟨p1, hp1⟩ : ∃ p : BW W1, p.w = W1 := ⟨BW.start W1, rfl⟩
  rw [← hp1]
  clear hp1
  go_upto_region 2 with (fail)
  obtain ⟨W2, hW2⟩ : ∃ W, W = p1.w.alloc (.cells #[.int .i64 1, .int .i64 0, .int .i64 0, .int .i64 0, .int .i64 1, .int .i64 0, .int .i64 0, .int .i64 0, .int .i64 1] 45) := ⟨_, rfl⟩
  have B2 : Below w.heap.size w W2 := by rw [hW2]; exact (bw_below B1 p1).alloc (bw_below B1 p1).size _
  have l_l : g_r < p1.w.heap.size := (k_r.below p1.h).lt
  have k_v := (k_v.below p1.h).alloc (.cells #[.int .i64 1, .int .i64 0, .int .i64 0, .int .i64 0, .int .i64 1, .int .i64 0, .int .i64 0, .int .i64 0, .int .i64 1] 45)
  rw [← hW2] at k_v
  have k_r := (k_r.below p1.h).alloc (.cells #[.int .i64 1, .int .i64 0, .int .i64 0, .int .i64 0, .int .i64 1, .int .i64 0, .int .i64 0, .int .i64 0, .int .i64 1] 45)
  rw [← hW2] at k_r
  have k_l : Bk W2 p1.w.heap.size 45 #[.int .i64 1, .int .i64 0, .int .i64 0, .int .i64 0, .int .i64 1, .int .i64 0, .int .i64 0, .int .i64 0, .int .i64 1] := by rw [hW2]; exact Bk.new _ _ _
  rw [← hW2]
  clear hW2
  clear B1
  clear c_v_0 c_v_1 c_v_2 c_r_0 c_r_1 c_r_2
  generalize p1.w.heap.size = g_l at *
  have c_v_0 : ∀ p : BW W2, p.w.cell? ⟨w.heap.size, 0, none⟩ = some (.int .i64 a) := bw_cell (k_v.cell rfl)
  have c_v_1 : ∀ p : BW W2, p.w.cell? ⟨w.heap.size, 1, none⟩ = some (.int .i64 b) := bw_cell (k_v.cell rfl)
  have c_v_2 : ∀ p : BW W2, p.w.cell? ⟨w.heap.size, 2, none⟩ = some (.int .i64 c) := bw_cell (k_v.cell rfl)
  have c_r_0 : ∀ p : BW W2, p.w.cell? ⟨g_r, 0, none⟩ = some (.int .i64 0) := bw_cell (k_r.cell rfl)
  have c_r_1 : ∀ p : BW W2, p.w.cell? ⟨g_r, 1, none⟩ = some (.int .i64 0) := bw_cell (k_r.cell rfl)
  have c_r_2 : ∀ p : BW W2, p.w.cell? ⟨g_r, 2, none⟩ = some (.int .i64 0) := bw_cell (k_r.cell rfl)
  have c_l_0 : ∀ p : BW W2, p.w.cell? ⟨g_l, 0, none⟩ = some (.int .i64 1) := bw_cell (k_l.cell rfl)
  have c_l_1 : ∀ p : BW W2, p.w.cell? ⟨g_l, 1, none⟩ = some (.int .i64 0) := bw_cell (k_l.cell rfl)
  have c_l_2 : ∀ p : BW W2, p.w.cell? ⟨g_l, 2, none⟩ = some (.int .i64 0) := bw_cell (k_l.cell rfl)
  have c_l_3 : ∀ p : BW W2, p.w.cell? ⟨g_l, 3, none⟩ = some (.int .i64 0) := bw_cell (k_l.cell rfl)
  have c_l_4 : ∀ p : BW W2, p.w.cell? ⟨g_l, 4, none⟩ = some (.int .i64 1) := bw_cell (k_l.cell rfl)
  have c_l_5 : ∀ p : BW W2, p.w.cell? ⟨g_l, 5, none⟩ = some (.int .i64 0) := bw_cell (k_l.cell rfl)
  have c_l_6 : ∀ p : BW W2, p.w.cell? ⟨g_l, 6, none⟩ = some (.int .i64 0) := bw_cell (k_l.cell rfl)
  have c_l_7 : ∀ p : BW W2, p.w.cell? ⟨g_l, 7, none⟩ = some (.int .i64 0) := bw_cell (k_l.cell rfl)
  have c_l_8 : ∀ p : BW W2, p.w.cell? ⟨g_l, 8, none⟩ = some (.int .i64 1) := bw_cell (k_l.cell rfl)
  obtain ⟨p2, hp2⟩ : ∃ p : BW W2, p.w = W2 := ⟨BW.start W2, rfl⟩
  rw [← hp2]
  clear hp2
  go_upto_region 3 with (fail)
  obtain ⟨W3, hW3⟩ : ∃ W, W = p2.w.alloc (.cells #[.int .i64 1, .int .i64 0, .int .i64 0] 23) := ⟨_, rfl⟩
  have B3 : Below w.heap.size w W3 := by rw [hW3]; exact (bw_below B2 p2).alloc (bw_below B2 p2).size _
  have l_m : g_l < p2.w.heap.size := (k_l.below p2.h).lt
  have k_v := (k_v.below p2.h).alloc (.cells #[.int .i64 1, .int .i64 0, .int .i64 0] 23)
  rw [← hW3] at k_v
  have k_r := (k_r.below p2.h).alloc (.cells #[.int .i64 1, .int .i64 0, .int .i64 0] 23)
  rw [← hW3] at k_r
  have k_l := (k_l.below p2.h).alloc (.cells #[.int .i64 1, .int .i64 0, .int .i64 0] 23)
  rw [← hW3] at k_l
  have k_m : Bk W3 p2.w.heap.size 23 #[.int .i64 1, .int .i64 0, .int .i64 0] := by rw [hW3]; exact Bk.new _ _ _
  rw [← hW3]
  clear hW3
  clear B2
  clear c_v_0 c_v_1 c_v_2 c_r_0 c_r_1 c_r_2 c_l_0 c_l_1 c_l_2 c_l_3 c_l_4 c_l_5 c_l_6 c_l_7 c_l_8
  generalize p2.w.heap.size = g_m at *
  have c_v_0 : ∀ p : BW W3, p.w.cell? ⟨w.heap.size, 0, none⟩ = some (.int .i64 a) := bw_cell (k_v.cell rfl)
  have c_v_1 : ∀ p : BW W3, p.w.cell? ⟨w.heap.size, 1, none⟩ = some (.int .i64 b) := bw_cell (k_v.cell rfl)
  have c_v_2 : ∀ p : BW W3, p.w.cell? ⟨w.heap.size, 2, none⟩ = some (.int .i64 c) := bw_cell (k_v.cell rfl)
  have c_r_0 : ∀ p : BW W3, p.w.cell? ⟨g_r, 0, none⟩ = some (.int .i64 0) := bw_cell (k_r.cell rfl)
  have c_r_1 : ∀ p : BW W3, p.w.cell? ⟨g_r, 1, none⟩ = some (.int .i64 0) := bw_cell (k_r.cell rfl)
  have c_r_2 : ∀ p : BW W3, p.w.cell? ⟨g_r, 2, none⟩ = some (.int .i64 0) := bw_cell (k_r.cell rfl)
  have c_l_0 : ∀ p : BW W3, p.w.cell? ⟨g_l, 0, none⟩ = some (.int .i64 1) := bw_cell (k_l.cell rfl)
  have c_l_1 : ∀ p : BW W3, p.w.cell? ⟨g_l, 1, none⟩ = some (.int .i64 0) := bw_cell (k_l.cell rfl)
  have c_l_2 : ∀ p : BW W3, p.w.cell? ⟨g_l, 2, none⟩ = some (.int .i64 0) := bw_cell (k_l.cell rfl)
  have c_l_3 : ∀ p : BW W3, p.w.cell? ⟨g_l, 3, none⟩ = some (.int .i64 0) := bw_cell (k_l.cell rfl)
  have c_l_4 : ∀ p : BW W3, p.w.cell? ⟨g_l, 4, none⟩ = some (.int .i64 1) := bw_cell (k_l.cell rfl)
  have c_l_5 : ∀ p : BW W3, p.w.cell? ⟨g_l, 5, none⟩ = some (.int .i64 0) := bw_cell (k_l.cell rfl)
  have c_l_6 : ∀ p : BW W3, p.w.cell? ⟨g_l, 6, none⟩ = some (.int .i64 0) := bw_cell (k_l.cell rfl)
  have c_l_7 : ∀ p : BW W3, p.w.cell? ⟨g_l, 7, none⟩ = some (.int .i64 0) := bw_cell (k_l.cell rfl)
  have c_l_8 : ∀ p : BW W3, p.w.cell? ⟨g_l, 8, none⟩ = some (.int .i64 1) := bw_cell (k_l.cell rfl)
  have c_m_0 : ∀ p : BW W3, p.w.cell? ⟨g_m, 0, none⟩ = some (.int .i64 1) := bw_cell (k_m.cell rfl)
  have c_m_1 : ∀ p : BW W3, p.w.cell? ⟨g_m, 1, none⟩ = some (.int .i64 0) := bw_cell (k_m.cell rfl)
  have c_m_2 : ∀ p : BW W3, p.w.cell? ⟨g_m, 2, none⟩ = some (.int .i64 0) := bw_cell (k_m.cell rfl)
  obtain ⟨p3, hp3⟩ : ∃ p : BW W3, p.w = W3 := ⟨BW.start W3, rfl⟩
  rw [← hp3]
  clear hp3
  go_upto_region 4 with (fail)
  refine wp_loop_rounds 3 ?_
  rw [rounds_succ]
  go_upto_region 6 with (fail)
  obtain ⟨W4, hW4⟩ : ∃ W, W = p3.w.alloc (.cells #[.int .i64 0, .int .i64 1, .int .i64 0] 23) := ⟨_, rfl⟩
  have B4 : Below w.heap.size w W4 := by rw [hW4]; exact (bw_below B3 p3).alloc (bw_below B3 p3).size _
  have l_d0 : g_m < p3.w.heap.size := (k_m.below p3.h).lt
  have k_v := (k_v.below p3.h).alloc (.cells #[.int .i64 0, .int .i64 1, .int .i64 0] 23)
  rw [← hW4] at k_v
  have k_r := (k_r.below p3.h).alloc (.cells #[.int .i64 0, .int .i64 1, .int .i64 0] 23)
  rw [← hW4] at k_r
  have k_l := (k_l.below p3.h).alloc (.cells #[.int .i64 0, .int .i64 1, .int .i64 0] 23)
  rw [← hW4] at k_l
  have k_m := (k_m.below p3.h).alloc (.cells #[.int .i64 0, .int .i64 1, .int .i64 0] 23)
  rw [← hW4] at k_m
  have k_d0 : Bk W4 p3.w.heap.size 23 #[.int .i64 0, .int .i64 1, .int .i64 0] := by rw [hW4]; exact Bk.new _ _ _
  rw [← hW4]
  clear hW4
  clear B3
  clear c_v_0 c_v_1 c_v_2 c_r_0 c_r_1 c_r_2 c_l_0 c_l_1 c_l_2 c_l_3 c_l_4 c_l_5 c_l_6 c_l_7 c_l_8 c_m_0 c_m_1 c_m_2
  generalize p3.w.heap.size = g_d0 at *
  have c_v_0 : ∀ p : BW W4, p.w.cell? ⟨w.heap.size, 0, none⟩ = some (.int .i64 a) := bw_cell (k_v.cell rfl)
  have c_v_1 : ∀ p : BW W4, p.w.cell? ⟨w.heap.size, 1, none⟩ = some (.int .i64 b) := bw_cell (k_v.cell rfl)
  have c_v_2 : ∀ p : BW W4, p.w.cell? ⟨w.heap.size, 2, none⟩ = some (.int .i64 c) := bw_cell (k_v.cell rfl)
  have c_r_0 : ∀ p : BW W4, p.w.cell? ⟨g_r, 0, none⟩ = some (.int .i64 0) := bw_cell (k_r.cell rfl)
  have c_r_1 : ∀ p : BW W4, p.w.cell? ⟨g_r, 1, none⟩ = some (.int .i64 0) := bw_cell (k_r.cell rfl)
  have c_r_2 : ∀ p : BW W4, p.w.cell? ⟨g_r, 2, none⟩ = some (.int .i64 0) := bw_cell (k_r.cell rfl)
  have c_l_0 : ∀ p : BW W4, p.w.cell? ⟨g_l, 0, none⟩ = some (.int .i64 1) := bw_cell (k_l.cell rfl)
  have c_l_1 : ∀ p : BW W4, p.w.cell? ⟨g_l, 1, none⟩ = some (.int .i64 0) := bw_cell (k_l.cell rfl)
  have c_l_2 : ∀ p : BW W4, p.w.cell? ⟨g_l, 2, none⟩ = some (.int .i64 0) := bw_cell (k_l.cell rfl)
  have c_l_3 : ∀ p : BW W4, p.w.cell? ⟨g_l, 3, none⟩ = some (.int .i64 0) := bw_cell (k_l.cell rfl)
  have c_l_4 : ∀ p : BW W4, p.w.cell? ⟨g_l, 4, none⟩ = some (.int .i64 1) := bw_cell (k_l.cell rfl)
  have c_l_5 : ∀ p : BW W4, p.w.cell? ⟨g_l, 5, none⟩ = some (.int .i64 0) := bw_cell (k_l.cell rfl)
  have c_l_6 : ∀ p : BW W4, p.w.cell? ⟨g_l, 6, none⟩ = some (.int .i64 0) := bw_cell (k_l.cell rfl)
  have c_l_7 : ∀ p : BW W4, p.w.cell? ⟨g_l, 7, none⟩ = some (.int .i64 0) := bw_cell (k_l.cell rfl)
  have c_l_8 : ∀ p : BW W4, p.w.cell? ⟨g_l, 8, none⟩ = some (.int .i64 1) := bw_cell (k_l.cell rfl)
  have c_m_0 : ∀ p : BW W4, p.w.cell? ⟨g_m, 0, none⟩ = some (.int .i64 1) := bw_cell (k_m.cell rfl)
  have f_m_0 : ∀ p : BW W4, p.w.frozen? ⟨g_m, 0, none⟩ = false := fun p => (k_m.below p.h).frozen 0
  have c_m_1 : ∀ p : BW W4, p.w.cell? ⟨g_m, 1, none⟩ = some (.int .i64 0) := bw_cell (k_m.cell rfl)
  have f_m_1 : ∀ p : BW W4, p.w.frozen? ⟨g_m, 1, none⟩ = false := fun p => (k_m.below p.h).frozen 1
  have c_m_2 : ∀ p : BW W4, p.w.cell? ⟨g_m, 2, none⟩ = some (.int .i64 0) := bw_cell (k_m.cell rfl)
  have f_m_2 : ∀ p : BW W4, p.w.frozen? ⟨g_m, 2, none⟩ = false := fun p => (k_m.below p.h).frozen 2
  have c_d0_0 : ∀ p : BW W4, p.w.cell? ⟨g_d0, 0, none⟩ = some (.int .i64 0) := bw_cell (k_d0.cell rfl)
  have c_d0_1 : ∀ p : BW W4, p.w.cell? ⟨g_d0, 1, none⟩ = some (.int .i64 1) := bw_cell (k_d0.cell rfl)
  have c_d0_2 : ∀ p : BW W4, p.w.cell? ⟨g_d0, 2, none⟩ = some (.int .i64 0) := bw_cell (k_d0.cell rfl)
  obtain ⟨p4, hp4⟩ : ∃ p : BW W4, p.w = W4 := ⟨BW.start W4, rfl⟩
  rw [← hp4]
  clear hp4
  refine wp_region_bw (by kernel_rfl) (by kernel_rfl) ?_
  repeat (go_big_quiet_step (first
    | (go_at_call 50; (first | (with_reducible exact bw_call K1.out _) | (with_reducible exact bw_call K2.out _) | (with_reducible exact bw_call K3.out _)))))
  refine wpQuiet_nil ?_
  intro _ hw'
  obtain ⟨q, rfl⟩ := hw'
  go_upto_region 8 with (fail)
  obtain ⟨W5, hW5⟩ : ∃ W, W = ((q.w.setCell ⟨g_m, 0, none⟩ (.int .i64 0)).setCell ⟨g_m, 1, none⟩ (.int .i64 1)).setCell ⟨g_m, 2, none⟩ (.int .i64 0) := ⟨_, rfl⟩
  have B5 : Below w.heap.size w W5 := by rw [hW5]; exact ((((bw_below B4 q).setCell (p := ⟨g_m, 0, none⟩) (by show w.heap.size ≤ g_m; omega) _).setCell (p := ⟨g_m, 1, none⟩) (by show w.heap.size ≤ g_m; omega) _).setCell (p := ⟨g_m, 2, none⟩) (by show w.heap.size ≤ g_m; omega) _)
  have k_v : Bk W5 (w.heap.size) 23 #[.int .i64 a, .int .i64 b, .int .i64 c] := by rw [hW5]; exact ((((k_v.below q.h).other (a := ⟨g_m, 0, none⟩) (by show ¬ w.heap.size = g_m; omega) (.int .i64 0)).other (a := ⟨g_m, 1, none⟩) (by show ¬ w.heap.size = g_m; omega) (.int .i64 1)).other (a := ⟨g_m, 2, none⟩) (by show ¬ w.heap.size = g_m; omega) (.int .i64 0))
  have k_r : Bk W5 (g_r) 23 #[.int .i64 0, .int .i64 0, .int .i64 0] := by rw [hW5]; exact ((((k_r.below q.h).other (a := ⟨g_m, 0, none⟩) (by show ¬ g_r = g_m; omega) (.int .i64 0)).other (a := ⟨g_m, 1, none⟩) (by show ¬ g_r = g_m; omega) (.int .i64 1)).other (a := ⟨g_m, 2, none⟩) (by show ¬ g_r = g_m; omega) (.int .i64 0))
  have k_l : Bk W5 (g_l) 45 #[.int .i64 1, .int .i64 0, .int .i64 0, .int .i64 0, .int .i64 1, .int .i64 0, .int .i64 0, .int .i64 0, .int .i64 1] := by rw [hW5]; exact ((((k_l.below q.h).other (a := ⟨g_m, 0, none⟩) (by show ¬ g_l = g_m; omega) (.int .i64 0)).other (a := ⟨g_m, 1, none⟩) (by show ¬ g_l = g_m; omega) (.int .i64 1)).other (a := ⟨g_m, 2, none⟩) (by show ¬ g_l = g_m; omega) (.int .i64 0))
  have k_m : Bk W5 (g_m) 23 #[.int .i64 0, .int .i64 1, .int .i64 0] := by rw [hW5]; exact ((((k_m.below q.h).set 0 (.int .i64 0)).set 1 (.int .i64 1)).set 2 (.int .i64 0))
  have k_d0 : Bk W5 (g_d0) 23 #[.int .i64 0, .int .i64 1, .int .i64 0] := by rw [hW5]; exact ((((k_d0.below q.h).other (a := ⟨g_m, 0, none⟩) (by show ¬ g_d0 = g_m; omega) (.int .i64 0)).other (a := ⟨g_m, 1, none⟩) (by show ¬ g_d0 = g_m; omega) (.int .i64 1)).other (a := ⟨g_m, 2, none⟩) (by show ¬ g_d0 = g_m; omega) (.int .i64 0))
  rw [← hW5]
  clear hW5
  clear B4
  clear c_v_0 c_v_1 c_v_2 c_r_0 c_r_1 c_r_2 c_l_0 c_l_1 c_l_2 c_l_3 c_l_4 c_l_5 c_l_6 c_l_7 c_l_8 c_m_0 f_m_0 c_m_1 f_m_1 c_m_2 f_m_2 c_d0_0 c_d0_1 c_d0_2
  have c_v_0 : ∀ p : BW W5, p.w.cell? ⟨w.heap.size, 0, none⟩ = some (.int .i64 a) := bw_cell (k_v.cell rfl)
  have c_v_1 : ∀ p : BW W5, p.w.cell? ⟨w.heap.size, 1, none⟩ = some (.int .i64 b) := bw_cell (k_v.cell rfl)
  have c_v_2 : ∀ p : BW W5, p.w.cell? ⟨w.heap.size, 2, none⟩ = some (.int .i64 c) := bw_cell (k_v.cell rfl)
  have c_r_0 : ∀ p : BW W5, p.w.cell? ⟨g_r, 0, none⟩ = some (.int .i64 0) := bw_cell (k_r.cell rfl)
  have c_r_1 : ∀ p : BW W5, p.w.cell? ⟨g_r, 1, none⟩ = some (.int .i64 0) := bw_cell (k_r.cell rfl)
  have c_r_2 : ∀ p : BW W5, p.w.cell? ⟨g_r, 2, none⟩ = some (.int .i64 0) := bw_cell (k_r.cell rfl)
  have c_l_0 : ∀ p : BW W5, p.w.cell? ⟨g_l, 0, none⟩ = some (.int .i64 1) := bw_cell (k_l.cell rfl)
  have c_l_1 : ∀ p : BW W5, p.w.cell? ⟨g_l, 1, none⟩ = some (.int .i64 0) := bw_cell (k_l.cell rfl)
  have c_l_2 : ∀ p : BW W5, p.w.cell? ⟨g_l, 2, none⟩ = some (.int .i64 0) := bw_cell (k_l.cell rfl)
  have c_l_3 : ∀ p : BW W5, p.w.cell? ⟨g_l, 3, none⟩ = some (.int .i64 0) := bw_cell (k_l.cell rfl)
  have c_l_4 : ∀ p : BW W5, p.w.cell? ⟨g_l, 4, none⟩ = some (.int .i64 1) := bw_cell (k_l.cell rfl)
  have c_l_5 : ∀ p : BW W5, p.w.cell? ⟨g_l, 5, none⟩ = some (.int .i64 0) := bw_cell (k_l.cell rfl)
  have c_l_6 : ∀ p : BW W5, p.w.cell? ⟨g_l, 6, none⟩ = some (.int .i64 0) := bw_cell (k_l.cell rfl)
  have c_l_7 : ∀ p : BW W5, p.w.cell? ⟨g_l, 7, none⟩ = some (.int .i64 0) := bw_cell (k_l.cell rfl)
  have c_l_8 : ∀ p : BW W5, p.w.cell? ⟨g_l, 8, none⟩ = some (.int .i64 1) := bw_cell (k_l.cell rfl)
  have c_m_0 : ∀ p : BW W5, p.w.cell? ⟨g_m, 0, none⟩ = some (.int .i64 0) := bw_cell (k_m.cell rfl)
  have c_m_1 : ∀ p : BW W5, p.w.cell? ⟨g_m, 1, none⟩ = some (.int .i64 1) := bw_cell (k_m.cell rfl)
  have c_m_2 : ∀ p : BW W5, p.w.cell? ⟨g_m, 2, none⟩ = some (.int .i64 0) := bw_cell (k_m.cell rfl)
  have c_d0_0 : ∀ p : BW W5, p.w.cell? ⟨g_d0, 0, none⟩ = some (.int .i64 0) := bw_cell (k_d0.cell rfl)
  have c_d0_1 : ∀ p : BW W5, p.w.cell? ⟨g_d0, 1, none⟩ = some (.int .i64 1) := bw_cell (k_d0.cell rfl)
  have c_d0_2 : ∀ p : BW W5, p.w.cell? ⟨g_d0, 2, none⟩ = some (.int .i64 0) := bw_cell (k_d0.cell rfl)
  obtain ⟨p5, hp5⟩ : ∃ p : BW W5, p.w = W5 := ⟨BW.start W5, rfl⟩
  rw [← hp5]
  clear hp5
  go_wp2
  rw [rounds_succ]
  go_upto_region 6 with (fail)
  obtain ⟨W6, hW6⟩ : ∃ W, W = p5.w.alloc (.cells #[.int .i64 0, .int .i64 0, .int .i64 1] 23) := ⟨_, rfl⟩
  have B6 : Below w.heap.size w W6 := by rw [hW6]; exact (bw_below B5 p5).alloc (bw_below B5 p5).size _
  have l_d1 : g_d0 < p5.w.heap.size := (k_d0.below p5.h).lt
  have k_v := (k_v.below p5.h).alloc (.cells #[.int .i64 0, .int .i64 0, .int .i64 1] 23)
  rw [← hW6] at k_v
  have k_r := (k_r.below p5.h).alloc (.cells #[.int .i64 0, .int .i64 0, .int .i64 1] 23)
  rw [← hW6] at k_r
  have k_l := (k_l.below p5.h).alloc (.cells #[.int .i64 0, .int .i64 0, .int .i64 1] 23)
  rw [← hW6] at k_l
  have k_m := (k_m.below p5.h).alloc (.cells #[.int .i64 0, .int .i64 0, .int .i64 1] 23)
  rw [← hW6] at k_m
  have k_d0 := (k_d0.below p5.h).alloc (.cells #[.int .i64 0, .int .i64 0, .int .i64 1] 23)
  rw [← hW6] at k_d0
  have k_d1 : Bk W6 p5.w.heap.size 23 #[.int .i64 0, .int .i64 0, .int .i64 1] := by rw [hW6]; exact Bk.new _ _ _
  rw [← hW6]
  clear hW6
  clear B5
  clear c_v_0 c_v_1 c_v_2 c_r_0 c_r_1 c_r_2 c_l_0 c_l_1 c_l_2 c_l_3 c_l_4 c_l_5 c_l_6 c_l_7 c_l_8 c_m_0 c_m_1 c_m_2 c_d0_0 c_d0_1 c_d0_2
  generalize p5.w.heap.size = g_d1 at *
  have c_v_0 : ∀ p : BW W6, p.w.cell? ⟨w.heap.size, 0, none⟩ = some (.int .i64 a) := bw_cell (k_v.cell rfl)
  have c_v_1 : ∀ p : BW W6, p.w.cell? ⟨w.heap.size, 1, none⟩ = some (.int .i64 b) := bw_cell (k_v.cell rfl)
  have c_v_2 : ∀ p : BW W6, p.w.cell? ⟨w.heap.size, 2, none⟩ = some (.int .i64 c) := bw_cell (k_v.cell rfl)
  have c_r_0 : ∀ p : BW W6, p.w.cell? ⟨g_r, 0, none⟩ = some (.int .i64 0) := bw_cell (k_r.cell rfl)
  have c_r_1 : ∀ p : BW W6, p.w.cell? ⟨g_r, 1, none⟩ = some (.int .i64 0) := bw_cell (k_r.cell rfl)
  have c_r_2 : ∀ p : BW W6, p.w.cell? ⟨g_r, 2, none⟩ = some (.int .i64 0) := bw_cell (k_r.cell rfl)
  have c_l_0 : ∀ p : BW W6, p.w.cell? ⟨g_l, 0, none⟩ = some (.int .i64 1) := bw_cell (k_l.cell rfl)
  have c_l_1 : ∀ p : BW W6, p.w.cell? ⟨g_l, 1, none⟩ = some (.int .i64 0) := bw_cell (k_l.cell rfl)
  have c_l_2 : ∀ p : BW W6, p.w.cell? ⟨g_l, 2, none⟩ = some (.int .i64 0) := bw_cell (k_l.cell rfl)
  have c_l_3 : ∀ p : BW W6, p.w.cell? ⟨g_l, 3, none⟩ = some (.int .i64 0) := bw_cell (k_l.cell rfl)
  have c_l_4 : ∀ p : BW W6, p.w.cell? ⟨g_l, 4, none⟩ = some (.int .i64 1) := bw_cell (k_l.cell rfl)
  have c_l_5 : ∀ p : BW W6, p.w.cell? ⟨g_l, 5, none⟩ = some (.int .i64 0) := bw_cell (k_l.cell rfl)
  have c_l_6 : ∀ p : BW W6, p.w.cell? ⟨g_l, 6, none⟩ = some (.int .i64 0) := bw_cell (k_l.cell rfl)
  have c_l_7 : ∀ p : BW W6, p.w.cell? ⟨g_l, 7, none⟩ = some (.int .i64 0) := bw_cell (k_l.cell rfl)
  have c_l_8 : ∀ p : BW W6, p.w.cell? ⟨g_l, 8, none⟩ = some (.int .i64 1) := bw_cell (k_l.cell rfl)
  have c_m_0 : ∀ p : BW W6, p.w.cell? ⟨g_m, 0, none⟩ = some (.int .i64 0) := bw_cell (k_m.cell rfl)
  have f_m_0 : ∀ p : BW W6, p.w.frozen? ⟨g_m, 0, none⟩ = false := fun p => (k_m.below p.h).frozen 0
  have c_m_1 : ∀ p : BW W6, p.w.cell? ⟨g_m, 1, none⟩ = some (.int .i64 1) := bw_cell (k_m.cell rfl)
  have f_m_1 : ∀ p : BW W6, p.w.frozen? ⟨g_m, 1, none⟩ = false := fun p => (k_m.below p.h).frozen 1
  have c_m_2 : ∀ p : BW W6, p.w.cell? ⟨g_m, 2, none⟩ = some (.int .i64 0) := bw_cell (k_m.cell rfl)
  have f_m_2 : ∀ p : BW W6, p.w.frozen? ⟨g_m, 2, none⟩ = false := fun p => (k_m.below p.h).frozen 2
  have c_d0_0 : ∀ p : BW W6, p.w.cell? ⟨g_d0, 0, none⟩ = some (.int .i64 0) := bw_cell (k_d0.cell rfl)
  have c_d0_1 : ∀ p : BW W6, p.w.cell? ⟨g_d0, 1, none⟩ = some (.int .i64 1) := bw_cell (k_d0.cell rfl)
  have c_d0_2 : ∀ p : BW W6, p.w.cell? ⟨g_d0, 2, none⟩ = some (.int .i64 0) := bw_cell (k_d0.cell rfl)
  have c_d1_0 : ∀ p : BW W6, p.w.cell? ⟨g_d1, 0, none⟩ = some (.int .i64 0) := bw_cell (k_d1.cell rfl)
  have c_d1_1 : ∀ p : BW W6, p.w.cell? ⟨g_d1, 1, none⟩ = some (.int .i64 0) := bw_cell (k_d1.cell rfl)
  have c_d1_2 : ∀ p : BW W6, p.w.cell? ⟨g_d1, 2, none⟩ = some (.int .i64 1) := bw_cell (k_d1.cell rfl)
  obtain ⟨p6, hp6⟩ : ∃ p : BW W6, p.w = W6 := ⟨BW.start W6, rfl⟩
  rw [← hp6]
  clear hp6
  refine wp_region_bw (by kernel_rfl) (by kernel_rfl) ?_
  repeat (go_big_quiet_step (first
    | (go_at_call 50; (first | (with_reducible exact bw_call K1.out _) | (with_reducible exact bw_call K2.out _) | (with_reducible exact bw_call K3.out _)))))
  refine wpQuiet_nil ?_
  intro _ hw'
  obtain ⟨q, rfl⟩ := hw'
  go_upto_region 8 with (fail)
  obtain ⟨W7, hW7⟩ : ∃ W, W = ((q.w.setCell ⟨g_m, 0, none⟩ (.int .i64 0)).setCell ⟨g_m, 1, none⟩ (.int .i64 0)).setCell ⟨g_m, 2, none⟩ (.int .i64 1) := ⟨_, rfl⟩
  have B7 : Below w.heap.size w W7 := by rw [hW7]; exact ((((bw_below B6 q).setCell (p := ⟨g_m, 0, none⟩) (by show w.heap.size ≤ g_m; omega) _).setCell (p := ⟨g_m, 1, none⟩) (by show w.heap.size ≤ g_m; omega) _).setCell (p := ⟨g_m, 2, none⟩) (by show w.heap.size ≤ g_m; omega) _)
  have k_v : Bk W7 (w.heap.size) 23 #[.int .i64 a, .int .i64 b, .int .i64 c] := by rw [hW7]; exact ((((k_v.below q.h).other (a := ⟨g_m, 0, none⟩) (by show ¬ w.heap.size = g_m; omega) (.int .i64 0)).other (a := ⟨g_m, 1, none⟩) (by show ¬ w.heap.size = g_m; omega) (.int .i64 0)).other (a := ⟨g_m, 2, none⟩) (by show ¬ w.heap.size = g_m; omega) (.int .i64 1))
  have k_r : Bk W7 (g_r) 23 #[.int .i64 0, .int .i64 0, .int .i64 0] := by rw [hW7]; exact ((((k_r.below q.h).other (a := ⟨g_m, 0, none⟩) (by show ¬ g_r = g_m; omega) (.int .i64 0)).other (a := ⟨g_m, 1, none⟩) (by show ¬ g_r = g_m; omega) (.int .i64 0)).other (a := ⟨g_m, 2, none⟩) (by show ¬ g_r = g_m; omega) (.int .i64 1))
  have k_l : Bk W7 (g_l) 45 #[.int .i64 1, .int .i64 0, .int .i64 0, .int .i64 0, .int .i64 1, .int .i64 0, .int .i64 0, .int .i64 0, .int .i64 1] := by rw [hW7]; exact ((((k_l.below q.h).other (a := ⟨g_m, 0, none⟩) (by show ¬ g_l = g_m; omega) (.int .i64 0)).other (a := ⟨g_m, 1, none⟩) (by show ¬ g_l = g_m; omega) (.int .i64 0)).other (a := ⟨g_m, 2, none⟩) (by show ¬ g_l = g_m; omega) (.int .i64 1))
  have k_m : Bk W7 (g_m) 23 #[.int .i64 0, .int .i64 0, .int .i64 1] := by rw [hW7]; exact ((((k_m.below q.h).set 0 (.int .i64 0)).set 1 (.int .i64 0)).set 2 (.int .i64 1))
  have k_d0 : Bk W7 (g_d0) 23 #[.int .i64 0, .int .i64 1, .int .i64 0] := by rw [hW7]; exact ((((k_d0.below q.h).other (a := ⟨g_m, 0, none⟩) (by show ¬ g_d0 = g_m; omega) (.int .i64 0)).other (a := ⟨g_m, 1, none⟩) (by show ¬ g_d0 = g_m; omega) (.int .i64 0)).other (a := ⟨g_m, 2, none⟩) (by show ¬ g_d0 = g_m; omega) (.int .i64 1))
  have k_d1 : Bk W7 (g_d1) 23 #[.int .i64 0, .int .i64 0, .int .i64 1] := by rw [hW7]; exact ((((k_d1.below q.h).other (a := ⟨g_m, 0, none⟩) (by show ¬ g_d1 = g_m; omega) (.int .i64 0)).other (a := ⟨g_m, 1, none⟩) (by show ¬ g_d1 = g_m; omega) (.int .i64 0)).other (a := ⟨g_m, 2, none⟩) (by show ¬ g_d1 = g_m; omega) (.int .i64 1))
  rw [← hW7]
  clear hW7
  clear B6
  clear c_v_0 c_v_1 c_v_2 c_r_0 c_r_1 c_r_2 c_l_0 c_l_1 c_l_2 c_l_3 c_l_4 c_l_5 c_l_6 c_l_7 c_l_8 c_m_0 f_m_0 c_m_1 f_m_1 c_m_2 f_m_2 c_d0_0 c_d0_1 c_d0_2 c_d1_0 c_d1_1 c_d1_2
  have c_v_0 : ∀ p : BW W7, p.w.cell? ⟨w.heap.size, 0, none⟩ = some (.int .i64 a) := bw_cell (k_v.cell rfl)
  have c_v_1 : ∀ p : BW W7, p.w.cell? ⟨w.heap.size, 1, none⟩ = some (.int .i64 b) := bw_cell (k_v.cell rfl)
  have c_v_2 : ∀ p : BW W7, p.w.cell? ⟨w.heap.size, 2, none⟩ = some (.int .i64 c) := bw_cell (k_v.cell rfl)
  have c_r_0 : ∀ p : BW W7, p.w.cell? ⟨g_r, 0, none⟩ = some (.int .i64 0) := bw_cell (k_r.cell rfl)
  have c_r_1 : ∀ p : BW W7, p.w.cell? ⟨g_r, 1, none⟩ = some (.int .i64 0) := bw_cell (k_r.cell rfl)
  have c_r_2 : ∀ p : BW W7, p.w.cell? ⟨g_r, 2, none⟩ = some (.int .i64 0) := bw_cell (k_r.cell rfl)
  have c_l_0 : ∀ p : BW W7, p.w.cell? ⟨g_l, 0, none⟩ = some (.int .i64 1) := bw_cell (k_l.cell rfl)
  have c_l_1 : ∀ p : BW W7, p.w.cell? ⟨g_l, 1, none⟩ = some (.int .i64 0) := bw_cell (k_l.cell rfl)
  have c_l_2 : ∀ p : BW W7, p.w.cell? ⟨g_l, 2, none⟩ = some (.int .i64 0) := bw_cell (k_l.cell rfl)
  have c_l_3 : ∀ p : BW W7, p.w.cell? ⟨g_l, 3, none⟩ = some (.int .i64 0) := bw_cell (k_l.cell rfl)
  have c_l_4 : ∀ p : BW W7, p.w.cell? ⟨g_l, 4, none⟩ = some (.int .i64 1) := bw_cell (k_l.cell rfl)
  have c_l_5 : ∀ p : BW W7, p.w.cell? ⟨g_l, 5, none⟩ = some (.int .i64 0) := bw_cell (k_l.cell rfl)
  have c_l_6 : ∀ p : BW W7, p.w.cell? ⟨g_l, 6, none⟩ = some (.int .i64 0) := bw_cell (k_l.cell rfl)
  have c_l_7 : ∀ p : BW W7, p.w.cell? ⟨g_l, 7, none⟩ = some (.int .i64 0) := bw_cell (k_l.cell rfl)
  have c_l_8 : ∀ p : BW W7, p.w.cell? ⟨g_l, 8, none⟩ = some (.int .i64 1) := bw_cell (k_l.cell rfl)
  have c_m_0 : ∀ p : BW W7, p.w.cell? ⟨g_m, 0, none⟩ = some (.int .i64 0) := bw_cell (k_m.cell rfl)
  have c_m_1 : ∀ p : BW W7, p.w.cell? ⟨g_m, 1, none⟩ = some (.int .i64 0) := bw_cell (k_m.cell rfl)
  have c_m_2 : ∀ p : BW W7, p.w.cell? ⟨g_m, 2, none⟩ = some (.int .i64 1) := bw_cell (k_m.cell rfl)
  have c_d0_0 : ∀ p : BW W7, p.w.cell? ⟨g_d0, 0, none⟩ = some (.int .i64 0) := bw_cell (k_d0.cell rfl)
  have c_d0_1 : ∀ p : BW W7, p.w.cell? ⟨g_d0, 1, none⟩ = some (.int .i64 1) := bw_cell (k_d0.cell rfl)
  have c_d0_2 : ∀ p : BW W7, p.w.cell? ⟨g_d0, 2, none⟩ = some (.int .i64 0) := bw_cell (k_d0.cell rfl)
  have c_d1_0 : ∀ p : BW W7, p.w.cell? ⟨g_d1, 0, none⟩ = some (.int .i64 0) := bw_cell (k_d1.cell rfl)
  have c_d1_1 : ∀ p : BW W7, p.w.cell? ⟨g_d1, 1, none⟩ = some (.int .i64 0) := bw_cell (k_d1.cell rfl)
  have c_d1_2 : ∀ p : BW W7, p.w.cell? ⟨g_d1, 2, none⟩ = some (.int .i64 1) := bw_cell (k_d1.cell rfl)
  obtain ⟨p7, hp7⟩ : ∃ p : BW W7, p.w = W7 := ⟨BW.start W7, rfl⟩
  rw [← hp7]
  clear hp7
  go_wp2
  rw [rounds_succ]
  have f_r_0 : ∀ p : BW W7, p.w.frozen? ⟨g_r, 0, none⟩ = false := fun p => (k_r.below p.h).frozen 0
  have f_r_1 : ∀ p : BW W7, p.w.frozen? ⟨g_r, 1, none⟩ = false := fun p => (k_r.below p.h).frozen 1
  have f_r_2 : ∀ p : BW W7, p.w.frozen? ⟨g_r, 2, none⟩ = false := fun p => (k_r.below p.h).frozen 2
  go_wp2
  have kr : Bk (((p7.w.setCell ⟨g_r, 0, none⟩ (.int .i64 0)).setCell ⟨g_r, 1, none⟩ (.int .i64 0)).setCell ⟨g_r, 2, none⟩ (.int .i64 1)) (g_r) 23 #[.int .i64 0, .int .i64 0, .int .i64 1] := ((((k_r.below p7.h).set 0 (.int .i64 0)).set 1 (.int .i64 0)).set 2 (.int .i64 1))
  have rc0 : World.cell? (((p7.w.setCell ⟨g_r, 0, none⟩ (.int .i64 0)).setCell ⟨g_r, 1, none⟩ (.int .i64 0)).setCell ⟨g_r, 2, none⟩ (.int .i64 1)) ⟨g_r, 0, none⟩ = some (.int .i64 0) := kr.cell rfl
  have rc1 : World.cell? (((p7.w.setCell ⟨g_r, 0, none⟩ (.int .i64 0)).setCell ⟨g_r, 1, none⟩ (.int .i64 0)).setCell ⟨g_r, 2, none⟩ (.int .i64 1)) ⟨g_r, 1, none⟩ = some (.int .i64 0) := kr.cell rfl
  have rc2 : World.cell? (((p7.w.setCell ⟨g_r, 0, none⟩ (.int .i64 0)).setCell ⟨g_r, 1, none⟩ (.int .i64 0)).setCell ⟨g_r, 2, none⟩ (.int .i64 1)) ⟨g_r, 2, none⟩ = some (.int .i64 1) := kr.cell rfl
  exact bodyPost_ret (v := .agg #[.int .i64 0, .int .i64 0, .int .i64 1]) (by simp [results, Try.results25, go_sem, rc0, rc1, rc2]) rfl ⟨rfl, ((((bw_below B7 p7).setCell (p := ⟨g_r, 0, none⟩) (by show w.heap.size ≤ g_r; omega) _).setCell (p := ⟨g_r, 1, none⟩) (by show w.heap.size ≤ g_r; omega) _).setCell (p := ⟨g_r, 2, none⟩) (by show w.heap.size ≤ g_r; omega) _)⟩

set_option maxRecDepth 100000 in
set_option maxHeartbeats 4000000 in
theorem basis_leastAxis (a b c : Int) (w : World) (h : vnear a b c = true) :
    Calls Try.prog 25 #[.agg #[.int .i64 a, .int .i64 b, .int .i64 c]] w fun e w' => e = .returned (.agg #[.int .i64 (bax (a, b, c)).1, .int .i64 (bax (a, b, c)).2.1, .int .i64 (bax (a, b, c)).2.2]) ∧ Below w.heap.size w w' := by
  have v1 : vdot a b c 1 0 0 = a := by unfold vdot; rw [if_pos ⟨h, by decide⟩]; omega
  have v2 : vdot a b c 0 1 0 = b := by unfold vdot; rw [if_pos ⟨h, by decide⟩]; omega
  have v3 : vdot a b c 0 0 1 = c := by unfold vdot; rw [if_pos ⟨h, by decide⟩]; omega
  rw [vnear_iff] at h
  have K1 := Lib.hid (fun w => basis_extent a b c 1 0 0 a w v1 (by omega))
  have K2 := Lib.hid (fun w => basis_extent a b c 0 1 0 b w v2 (by omega))
  have K3 := Lib.hid (fun w => basis_extent a b c 0 0 1 c w v3 (by omega))
  unfold bax
  dsimp only
  generalize ((a.natAbs : Nat) : Int) = A at *
  generalize ((b.natAbs : Nat) : Int) = B at *
  generalize ((c.natAbs : Nat) : Int) = C at *
  clear h v1 v2 v3
  by_cases h1 : B < A
  · rw [if_neg (by omega)]
    by_cases h2 : C < B
    · rw [if_neg (by omega)]; exact basis_leastAxis_yz a b c A B C w K1 K2 K3 (decide_eq_true h1) (decide_eq_true h2)
    · rw [if_pos (by omega)]; exact basis_leastAxis_y a b c A B C w K1 K2 K3 (decide_eq_true h1) (decide_eq_false h2)
  · by_cases h2 : C < A
    · rw [if_neg (by omega), if_neg (by omega)]; exact basis_leastAxis_xz a b c A B C w K1 K2 K3 (decide_eq_false h1) (decide_eq_true h2)
    · rw [if_pos (by omega)]; exact basis_leastAxis_x a b c A B C w K1 K2 K3 (decide_eq_false h1) (decide_eq_false h2)

set_option maxRecDepth 100000 in
set_option maxHeartbeats 4000000 in
theorem basis_across (x y z a b c p1 p2 p3 d1 d2 d3 : Int) (w : World) (hp : vcr x y z a b c = (p1, p2, p3)) (hd : vunit p1 p2 p3 = (d1, d2, d3)) :
    Calls Try.prog 24 #[.agg #[.int .i64 x, .int .i64 y, .int .i64 z], .agg #[.int .i64 a, .int .i64 b, .int .i64 c]] w fun e w' => e = .returned (.agg #[.int .i64 d1, .int .i64 d2, .int .i64 d3]) ∧ Below w.heap.size w w' := by
  have C := Lib.hid (fun w => vec_Cross x y z a b c w)
  have s := vcr_small x y z a b c
  rw [hp] at C s
  dsimp only at C s
  have U := Lib.hid (fun w => vec_Unit p1 p2 p3 w (by unfold I64; omega) (by unfold I64; omega) (by unfold I64; omega))
  rw [hd] at U
  dsimp only at U
  generalize vuOk p1 p2 p3 = ok at *
  clear hp hd s
  go_enter Try.func24, Try.ntmps24
  go_upto_region 1 with (fail)
  obtain ⟨W1, hW1⟩ : ∃ W, W = ((w.alloc (.cells #[.int .i64 x, .int .i64 y, .int .i64 z] 23)).alloc (.cells #[.int .i64 a, .int .i64 b, .int .i64 c] 23)).alloc (.cells #[.int .i64 0, .int .i64 0, .int .i64 0] 23) := ⟨_, rfl⟩
  have B1 : Below w.heap.size w W1 := by rw [hW1]; go_grown
  have k_v : Bk W1 (w.heap.size) 23 #[.int .i64 x, .int .i64 y, .int .i64 z] := by rw [hW1]; exact ((Bk.new _ _ _).alloc _).alloc _
  have k_u : Bk W1 (w.heap.size + 1) 23 #[.int .i64 a, .int .i64 b, .int .i64 c] := by rw [hW1]; exact (Bk.new_at _ _ _ _ (by simp)).alloc _
  have k_r : Bk W1 (w.heap.size + 1 + 1) 23 #[.int .i64 0, .int .i64 0, .int .i64 0] := by rw [hW1]; exact Bk.new_at _ _ _ _ (by simp)
  rw [← hW1]
  clear hW1
  have l_u : w.heap.size < w.heap.size + 1 := by omega
  have l_r : w.heap.size + 1 < w.heap.size + 1 + 1 := by omega
  generalize w.heap.size + 1 + 1 = g_r at *
  generalize w.heap.size + 1 = g_u at *
  have c_v_0 : ∀ p : BW W1, p.w.cell? ⟨w.heap.size, 0, none⟩ = some (.int .i64 x) := bw_cell (k_v.cell rfl)
  have c_v_1 : ∀ p : BW W1, p.w.cell? ⟨w.heap.size, 1, none⟩ = some (.int .i64 y) := bw_cell (k_v.cell rfl)
  have c_v_2 : ∀ p : BW W1, p.w.cell? ⟨w.heap.size, 2, none⟩ = some (.int .i64 z) := bw_cell (k_v.cell rfl)
  have c_u_0 : ∀ p : BW W1, p.w.cell? ⟨g_u, 0, none⟩ = some (.int .i64 a) := bw_cell (k_u.cell rfl)
  have c_u_1 : ∀ p : BW W1, p.w.cell? ⟨g_u, 1, none⟩ = some (.int .i64 b) := bw_cell (k_u.cell rfl)
  have c_u_2 : ∀ p : BW W1, p.w.cell? ⟨g_u, 2, none⟩ = some (.int .i64 c) := bw_cell (k_u.cell rfl)
  have c_r_0 : ∀ p : BW W1, p.w.cell? ⟨g_r, 0, none⟩ = some (.int .i64 0) := bw_cell (k_r.cell rfl)
  have c_r_1 : ∀ p : BW W1, p.w.cell? ⟨g_r, 1, none⟩ = some (.int .i64 0) := bw_cell (k_r.cell rfl)
  have c_r_2 : ∀ p : BW W1, p.w.cell? ⟨g_r, 2, none⟩ = some (.int .i64 0) := bw_cell (k_r.cell rfl)
  obtain ⟨p1, hp1⟩ : ∃ p : BW W1, p.w = W1 := ⟨BW.start W1, rfl⟩
  rw [← hp1]
  clear hp1
  go_upto_region 2 with (first
    | (go_at_call 49; (first | (with_reducible refine (bw_call C.out _).mono ?_)); rintro e w' ⟨rfl, q, rfl⟩)
    | (go_at_call 23; (first | (with_reducible refine (bw_call U.out _).mono ?_)); rintro e w' ⟨rfl, q, rfl⟩))
  obtain ⟨W2, hW2⟩ : ∃ W, W = q.w.alloc (.cells #[.int .i64 d1, .int .i64 d2, .int .i64 d3] 23) := ⟨_, rfl⟩
  have B2 : Below w.heap.size w W2 := by rw [hW2]; exact (bw_below B1 q).alloc (bw_below B1 q).size _
  have l_d : g_r < q.w.heap.size := (k_r.below q.h).lt
  have k_v := (k_v.below q.h).alloc (.cells #[.int .i64 d1, .int .i64 d2, .int .i64 d3] 23)
  rw [← hW2] at k_v
  have k_u := (k_u.below q.h).alloc (.cells #[.int .i64 d1, .int .i64 d2, .int .i64 d3] 23)
  rw [← hW2] at k_u
  have k_r := (k_r.below q.h).alloc (.cells #[.int .i64 d1, .int .i64 d2, .int .i64 d3] 23)
  rw [← hW2] at k_r
  have k_d : Bk W2 q.w.heap.size 23 #[.int .i64 d1, .int .i64 d2, .int .i64 d3] := by rw [hW2]; exact Bk.new _ _ _
  rw [← hW2]
  clear hW2
  clear B1
  clear c_v_0 c_v_1 c_v_2 c_u_0 c_u_1 c_u_2 c_r_0 c_r_1 c_r_2
  generalize q.w.heap.size = g_d at *
  have c_v_0 : ∀ p : BW W2, p.w.cell? ⟨w.heap.size, 0, none⟩ = some (.int .i64 x) := bw_cell (k_v.cell rfl)
  have c_v_1 : ∀ p : BW W2, p.w.cell? ⟨w.heap.size, 1, none⟩ = some (.int .i64 y) := bw_cell (k_v.cell rfl)
  have c_v_2 : ∀ p : BW W2, p.w.cell? ⟨w.heap.size, 2, none⟩ = some (.int .i64 z) := bw_cell (k_v.cell rfl)
  have c_u_0 : ∀ p : BW W2, p.w.cell? ⟨g_u, 0, none⟩ = some (.int .i64 a) := bw_cell (k_u.cell rfl)
  have c_u_1 : ∀ p : BW W2, p.w.cell? ⟨g_u, 1, none⟩ = some (.int .i64 b) := bw_cell (k_u.cell rfl)
  have c_u_2 : ∀ p : BW W2, p.w.cell? ⟨g_u, 2, none⟩ = some (.int .i64 c) := bw_cell (k_u.cell rfl)
  have c_r_0 : ∀ p : BW W2, p.w.cell? ⟨g_r, 0, none⟩ = some (.int .i64 0) := bw_cell (k_r.cell rfl)
  have f_r_0 : ∀ p : BW W2, p.w.frozen? ⟨g_r, 0, none⟩ = false := fun p => (k_r.below p.h).frozen 0
  have c_r_1 : ∀ p : BW W2, p.w.cell? ⟨g_r, 1, none⟩ = some (.int .i64 0) := bw_cell (k_r.cell rfl)
  have f_r_1 : ∀ p : BW W2, p.w.frozen? ⟨g_r, 1, none⟩ = false := fun p => (k_r.below p.h).frozen 1
  have c_r_2 : ∀ p : BW W2, p.w.cell? ⟨g_r, 2, none⟩ = some (.int .i64 0) := bw_cell (k_r.cell rfl)
  have f_r_2 : ∀ p : BW W2, p.w.frozen? ⟨g_r, 2, none⟩ = false := fun p => (k_r.below p.h).frozen 2
  have c_d_0 : ∀ p : BW W2, p.w.cell? ⟨g_d, 0, none⟩ = some (.int .i64 d1) := bw_cell (k_d.cell rfl)
  have c_d_1 : ∀ p : BW W2, p.w.cell? ⟨g_d, 1, none⟩ = some (.int .i64 d2) := bw_cell (k_d.cell rfl)
  have c_d_2 : ∀ p : BW W2, p.w.cell? ⟨g_d, 2, none⟩ = some (.int .i64 d3) := bw_cell (k_d.cell rfl)
  obtain ⟨p2, hp2⟩ : ∃ p : BW W2, p.w = W2 := ⟨BW.start W2, rfl⟩
  rw [← hp2]
  clear hp2
  go_wp2
  have kr : Bk (((p2.w.setCell ⟨g_r, 0, none⟩ (.int .i64 d1)).setCell ⟨g_r, 1, none⟩ (.int .i64 d2)).setCell ⟨g_r, 2, none⟩ (.int .i64 d3)) (g_r) 23 #[.int .i64 d1, .int .i64 d2, .int .i64 d3] := ((((k_r.below p2.h).set 0 (.int .i64 d1)).set 1 (.int .i64 d2)).set 2 (.int .i64 d3))
  have rc0 : World.cell? (((p2.w.setCell ⟨g_r, 0, none⟩ (.int .i64 d1)).setCell ⟨g_r, 1, none⟩ (.int .i64 d2)).setCell ⟨g_r, 2, none⟩ (.int .i64 d3)) ⟨g_r, 0, none⟩ = some (.int .i64 d1) := kr.cell rfl
  have rc1 : World.cell? (((p2.w.setCell ⟨g_r, 0, none⟩ (.int .i64 d1)).setCell ⟨g_r, 1, none⟩ (.int .i64 d2)).setCell ⟨g_r, 2, none⟩ (.int .i64 d3)) ⟨g_r, 1, none⟩ = some (.int .i64 d2) := kr.cell rfl
  have rc2 : World.cell? (((p2.w.setCell ⟨g_r, 0, none⟩ (.int .i64 d1)).setCell ⟨g_r, 1, none⟩ (.int .i64 d2)).setCell ⟨g_r, 2, none⟩ (.int .i64 d3)) ⟨g_r, 2, none⟩ = some (.int .i64 d3) := kr.cell rfl
  exact bodyPost_ret (v := .agg #[.int .i64 d1, .int .i64 d2, .int .i64 d3]) (by simp [results, Try.results24, go_sem, rc0, rc1, rc2]) rfl ⟨rfl, ((((bw_below B2 p2).setCell (p := ⟨g_r, 0, none⟩) (by show w.heap.size ≤ g_r; omega) _).setCell (p := ⟨g_r, 1, none⟩) (by show w.heap.size ≤ g_r; omega) _).setCell (p := ⟨g_r, 2, none⟩) (by show w.heap.size ≤ g_r; omega) _)⟩

end Go.Proofs.Ytijphipinjlmbaa
