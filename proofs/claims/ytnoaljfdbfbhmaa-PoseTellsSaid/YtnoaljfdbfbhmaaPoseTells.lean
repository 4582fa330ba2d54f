/- The walk of the statement PoseTells. -/
import Derived.Test.YtnoaljfdbfbhmaaAwake08
import Derived.Test.YtnoaljfdbfbhmaaRefb08
import Derived.Test.YtnoaljfdbfbhmaaOpenv
import Derived.Deep.DeepCutAuto
import Derived.Laws.AppendOwn
namespace Go.Proofs.Ytnoaljfdbfbhmaa
open Go.RowKit Go.Proofs.Sky
set_option linter.unusedVariables false

/-- A row that a call made, opened: its slice, its cells. -/
theorem ownsRow_open {w : World} {B : Nat} {e : TypeId} {size n : Nat} {v : Value} {xs : List Value} (h : w.ownsRow B e size v n xs) :
    ∃ (o : Option Addr) (cap : Nat), v = .slice o n cap ∧ (0 < n → ∃ g, o = some ⟨g, 0, none⟩ ∧ B ≤ g ∧ ∀ (j : Nat) (u : Value), xs[j]? = some u → w.cell? ⟨g, j, none⟩ = some u) := by
  obtain ⟨hl, h⟩ := h
  rcases h with ⟨rfl, rfl⟩ | ⟨g, cap, cur, rfl, hB, hg, hn, hm, hs, hx⟩
  · exact ⟨none, 0, rfl, fun h => absurd h (by omega)⟩
  · refine ⟨_, cap, rfl, fun _ => ⟨g, rfl, hB, fun j u hj => ?_⟩⟩
    rw [← hx, List.getElem?_take] at hj
    split at hj
    · simp only [World.cell?, hg]
      simpa using hj
    · cases hj
theorem vcells_at (f : Nat → T3) (n k : Nat) (hk : k < n) (j : Nat) (hj : j < 3) : ((List.range n).flatMap (fun i => vcells (f i)))[k * 3 + j]? = (vcells (f k))[j]? := by
  induction n with
  | zero => omega
  | succ n ih =>
    have hlen : ((List.range n).flatMap (fun i => vcells (f i))).length = n * 3 := by
      clear ih hk
      induction n with
      | zero => rfl
      | succ n ih => rw [List.range_succ, List.flatMap_append, List.length_append, ih]; simp [vcells]; omega
    rw [List.range_succ, List.flatMap_append]
    by_cases h : k < n
    · rw [List.getElem?_append_left (by omega)]
      exact ih h
    · obtain rfl : k = n := by omega
      rw [List.getElem?_append_right (by omega), hlen]
      simp

set_option maxRecDepth 100000 in
set_option maxHeartbeats 8000000 in
theorem law8_of (a1 a2 a3 a4 a5 a6 a7 a8 a9 a10 a11 a12 : Int) (w : World) :
    Calls Try.prog 8 #[.agg #[.int .i64 a1, .int .i64 a2, .int .i64 a3, .int .i64 a4, .int .i64 a5, .int .i64 a6, .int .i64 a7, .int .i64 a8, .int .i64 a9, .int .i64 a10, .int .i64 a11, .int .i64 a12]] w fun e w' => e = .returned (.agg #[.int .i64 a1, .int .i64 a2, .int .i64 a3, .int .i64 a4, .int .i64 a5, .int .i64 a6, .int .i64 a7, .int .i64 a8, .int .i64 a9, .int .i64 a10, .int .i64 a11, .int .i64 a12]) ∧ Below w.heap.size w w' := by
  go_enter Try.func8, Try.ntmps8
  go_upto_region 1 with (fail)
  obtain ⟨W1, hW1⟩ : ∃ W, W = (w.alloc (.cells #[.int .i64 a1, .int .i64 a2, .int .i64 a3, .int .i64 a4, .int .i64 a5, .int .i64 a6, .int .i64 a7, .int .i64 a8, .int .i64 a9, .int .i64 a10, .int .i64 a11, .int .i64 a12] 25)).alloc (.cells #[.int .i64 0, .int .i64 0, .int .i64 0, .int .i64 0, .int .i64 0, .int .i64 0, .int .i64 0, .int .i64 0, .int .i64 0, .int .i64 0, .int .i64 0, .int .i64 0] 29) := ⟨_, rfl⟩
  have B1 : Below w.heap.size w W1 := by rw [hW1]; go_grown
  have k_b : Bk W1 (w.heap.size) 25 #[.int .i64 a1, .int .i64 a2, .int .i64 a3, .int .i64 a4, .int .i64 a5, .int .i64 a6, .int .i64 a7, .int .i64 a8, .int .i64 a9, .int .i64 a10, .int .i64 a11, .int .i64 a12] := by rw [hW1]; exact (Bk.new _ _ _).alloc _
  have k_r : Bk W1 (w.heap.size + 1) 29 #[.int .i64 0, .int .i64 0, .int .i64 0, .int .i64 0, .int .i64 0, .int .i64 0, .int .i64 0, .int .i64 0, .int .i64 0, .int .i64 0, .int .i64 0, .int .i64 0] := by rw [hW1]; exact Bk.new_at _ _ _ _ (by simp)
  rw [← hW1]
  clear hW1
  have l_r : w.heap.size < w.heap.size + 1 := by omega
  generalize w.heap.size + 1 = g_r at *
  have c_b_0 : ∀ p : BW W1, p.w.cell? ⟨w.heap.size, 0, none⟩ = some (.int .i64 a1) := bw_cell (k_b.cell rfl)
  have c_b_1 : ∀ p : BW W1, p.w.cell? ⟨w.heap.size, 1, none⟩ = some (.int .i64 a2) := bw_cell (k_b.cell rfl)
  have c_b_2 : ∀ p : BW W1, p.w.cell? ⟨w.heap.size, 2, none⟩ = some (.int .i64 a3) := bw_cell (k_b.cell rfl)
  have c_b_3 : ∀ p : BW W1, p.w.cell? ⟨w.heap.size, 3, none⟩ = some (.int .i64 a4) := bw_cell (k_b.cell rfl)
  have c_b_4 : ∀ p : BW W1, p.w.cell? ⟨w.heap.size, 4, none⟩ = some (.int .i64 a5) := bw_cell (k_b.cell rfl)
  have c_b_5 : ∀ p : BW W1, p.w.cell? ⟨w.heap.size, 5, none⟩ = some (.int .i64 a6) := bw_cell (k_b.cell rfl)
  have c_b_6 : ∀ p : BW W1, p.w.cell? ⟨w.heap.size, 6, none⟩ = some (.int .i64 a7) := bw_cell (k_b.cell rfl)
  have c_b_7 : ∀ p : BW W1, p.w.cell? ⟨w.heap.size, 7, none⟩ = some (.int .i64 a8) := bw_cell (k_b.cell rfl)
  have c_b_8 : ∀ p : BW W1, p.w.cell? ⟨w.heap.size, 8, none⟩ = some (.int .i64 a9) := bw_cell (k_b.cell rfl)
  have c_b_9 : ∀ p : BW W1, p.w.cell? ⟨w.heap.size, 9, none⟩ = some (.int .i64 a10) := bw_cell (k_b.cell rfl)
  have c_b_10 : ∀ p : BW W1, p.w.cell? ⟨w.heap.size, 10, none⟩ = some (.int .i64 a11) := bw_cell (k_b.cell rfl)
  have c_b_11 : ∀ p : BW W1, p.w.cell? ⟨w.heap.size, 11, none⟩ = some (.int .i64 a12) := bw_cell (k_b.cell rfl)
  have c_r_0 : ∀ p : BW W1, p.w.cell? ⟨g_r, 0, none⟩ = some (.int .i64 0) := bw_cell (k_r.cell rfl)
  have f_r_0 : ∀ p : BW W1, p.w.frozen? ⟨g_r, 0, none⟩ = false := fun p => (k_r.below p.h).frozen 0
  have c_r_1 : ∀ p : BW W1, p.w.cell? ⟨g_r, 1, none⟩ = some (.int .i64 0) := bw_cell (k_r.cell rfl)
  have f_r_1 : ∀ p : BW W1, p.w.frozen? ⟨g_r, 1, none⟩ = false := fun p => (k_r.below p.h).frozen 1
  have c_r_2 : ∀ p : BW W1, p.w.cell? ⟨g_r, 2, none⟩ = some (.int .i64 0) := bw_cell (k_r.cell rfl)
  have f_r_2 : ∀ p : BW W1, p.w.frozen? ⟨g_r, 2, none⟩ = false := fun p => (k_r.below p.h).frozen 2
  have c_r_3 : ∀ p : BW W1, p.w.cell? ⟨g_r, 3, none⟩ = some (.int .i64 0) := bw_cell (k_r.cell rfl)
  have f_r_3 : ∀ p : BW W1, p.w.frozen? ⟨g_r, 3, none⟩ = false := fun p => (k_r.below p.h).frozen 3
  have c_r_4 : ∀ p : BW W1, p.w.cell? ⟨g_r, 4, none⟩ = some (.int .i64 0) := bw_cell (k_r.cell rfl)
  have f_r_4 : ∀ p : BW W1, p.w.frozen? ⟨g_r, 4, none⟩ = false := fun p => (k_r.below p.h).frozen 4
  have c_r_5 : ∀ p : BW W1, p.w.cell? ⟨g_r, 5, none⟩ = some (.int .i64 0) := bw_cell (k_r.cell rfl)
  have f_r_5 : ∀ p : BW W1, p.w.frozen? ⟨g_r, 5, none⟩ = false := fun p => (k_r.below p.h).frozen 5
  have c_r_6 : ∀ p : BW W1, p.w.cell? ⟨g_r, 6, none⟩ = some (.int .i64 0) := bw_cell (k_r.cell rfl)
  have f_r_6 : ∀ p : BW W1, p.w.frozen? ⟨g_r, 6, none⟩ = false := fun p => (k_r.below p.h).frozen 6
  have c_r_7 : ∀ p : BW W1, p.w.cell? ⟨g_r, 7, none⟩ = some (.int .i64 0) := bw_cell (k_r.cell rfl)
  have f_r_7 : ∀ p : BW W1, p.w.frozen? ⟨g_r, 7, none⟩ = false := fun p => (k_r.below p.h).frozen 7
  have c_r_8 : ∀ p : BW W1, p.w.cell? ⟨g_r, 8, none⟩ = some (.int .i64 0) := bw_cell (k_r.cell rfl)
  have f_r_8 : ∀ p : BW W1, p.w.frozen? ⟨g_r, 8, none⟩ = false := fun p => (k_r.below p.h).frozen 8
  have c_r_9 : ∀ p : BW W1, p.w.cell? ⟨g_r, 9, none⟩ = some (.int .i64 0) := bw_cell (k_r.cell rfl)
  have f_r_9 : ∀ p : BW W1, p.w.frozen? ⟨g_r, 9, none⟩ = false := fun p => (k_r.below p.h).frozen 9
  have c_r_10 : ∀ p : BW W1, p.w.cell? ⟨g_r, 10, none⟩ = some (.int .i64 0) := bw_cell (k_r.cell rfl)
  have f_r_10 : ∀ p : BW W1, p.w.frozen? ⟨g_r, 10, none⟩ = false := fun p => (k_r.below p.h).frozen 10
  have c_r_11 : ∀ p : BW W1, p.w.cell? ⟨g_r, 11, none⟩ = some (.int .i64 0) := bw_cell (k_r.cell rfl)
  have f_r_11 : ∀ p : BW W1, p.w.frozen? ⟨g_r, 11, none⟩ = false := fun p => (k_r.below p.h).frozen 11
  obtain ⟨p1, hp1⟩ : ∃ p : BW W1, p.w = W1 := ⟨BW.start W1, rfl⟩
  rw [← hp1]
  clear hp1
  go_wp2
  have kr : Bk ((((((((((((p1.w.setCell ⟨g_r, 0, none⟩ (.int .i64 a1)).setCell ⟨g_r, 1, none⟩ (.int .i64 a2)).setCell ⟨g_r, 2, none⟩ (.int .i64 a3)).setCell ⟨g_r, 3, none⟩ (.int .i64 a4)).setCell ⟨g_r, 4, none⟩ (.int .i64 a5)).setCell ⟨g_r, 5, none⟩ (.int .i64 a6)).setCell ⟨g_r, 6, none⟩ (.int .i64 a7)).setCell ⟨g_r, 7, none⟩ (.int .i64 a8)).setCell ⟨g_r, 8, none⟩ (.int .i64 a9)).setCell ⟨g_r, 9, none⟩ (.int .i64 a10)).setCell ⟨g_r, 10, none⟩ (.int .i64 a11)).setCell ⟨g_r, 11, none⟩ (.int .i64 a12)) (g_r) 29 #[.int .i64 a1, .int .i64 a2, .int .i64 a3, .int .i64 a4, .int .i64 a5, .int .i64 a6, .int .i64 a7, .int .i64 a8, .int .i64 a9, .int .i64 a10, .int .i64 a11, .int .i64 a12] := (((((((((((((k_r.below p1.h).set 0 (.int .i64 a1)).set 1 (.int .i64 a2)).set 2 (.int .i64 a3)).set 3 (.int .i64 a4)).set 4 (.int .i64 a5)).set 5 (.int .i64 a6)).set 6 (.int .i64 a7)).set 7 (.int .i64 a8)).set 8 (.int .i64 a9)).set 9 (.int .i64 a10)).set 10 (.int .i64 a11)).set 11 (.int .i64 a12)).cast (by simp)
  have rc0 : World.cell? ((((((((((((p1.w.setCell ⟨g_r, 0, none⟩ (.int .i64 a1)).setCell ⟨g_r, 1, none⟩ (.int .i64 a2)).setCell ⟨g_r, 2, none⟩ (.int .i64 a3)).setCell ⟨g_r, 3, none⟩ (.int .i64 a4)).setCell ⟨g_r, 4, none⟩ (.int .i64 a5)).setCell ⟨g_r, 5, none⟩ (.int .i64 a6)).setCell ⟨g_r, 6, none⟩ (.int .i64 a7)).setCell ⟨g_r, 7, none⟩ (.int .i64 a8)).setCell ⟨g_r, 8, none⟩ (.int .i64 a9)).setCell ⟨g_r, 9, none⟩ (.int .i64 a10)).setCell ⟨g_r, 10, none⟩ (.int .i64 a11)).setCell ⟨g_r, 11, none⟩ (.int .i64 a12)) ⟨g_r, 0, none⟩ = some (.int .i64 a1) := kr.cell rfl
  have rc1 : World.cell? ((((((((((((p1.w.setCell ⟨g_r, 0, none⟩ (.int .i64 a1)).setCell ⟨g_r, 1, none⟩ (.int .i64 a2)).setCell ⟨g_r, 2, none⟩ (.int .i64 a3)).setCell ⟨g_r, 3, none⟩ (.int .i64 a4)).setCell ⟨g_r, 4, none⟩ (.int .i64 a5)).setCell ⟨g_r, 5, none⟩ (.int .i64 a6)).setCell ⟨g_r, 6, none⟩ (.int .i64 a7)).setCell ⟨g_r, 7, none⟩ (.int .i64 a8)).setCell ⟨g_r, 8, none⟩ (.int .i64 a9)).setCell ⟨g_r, 9, none⟩ (.int .i64 a10)).setCell ⟨g_r, 10, none⟩ (.int .i64 a11)).setCell ⟨g_r, 11, none⟩ (.int .i64 a12)) ⟨g_r, 1, none⟩ = some (.int .i64 a2) := kr.cell rfl
  have rc2 : World.cell? ((((((((((((p1.w.setCell ⟨g_r, 0, none⟩ (.int .i64 a1)).setCell ⟨g_r, 1, none⟩ (.int .i64 a2)).setCell ⟨g_r, 2, none⟩ (.int .i64 a3)).setCell ⟨g_r, 3, none⟩ (.int .i64 a4)).setCell ⟨g_r, 4, none⟩ (.int .i64 a5)).setCell ⟨g_r, 5, none⟩ (.int .i64 a6)).setCell ⟨g_r, 6, none⟩ (.int .i64 a7)).setCell ⟨g_r, 7, none⟩ (.int .i64 a8)).setCell ⟨g_r, 8, none⟩ (.int .i64 a9)).setCell ⟨g_r, 9, none⟩ (.int .i64 a10)).setCell ⟨g_r, 10, none⟩ (.int .i64 a11)).setCell ⟨g_r, 11, none⟩ (.int .i64 a12)) ⟨g_r, 2, none⟩ = some (.int .i64 a3) := kr.cell rfl
  have rc3 : World.cell? ((((((((((((p1.w.setCell ⟨g_r, 0, none⟩ (.int .i64 a1)).setCell ⟨g_r, 1, none⟩ (.int .i64 a2)).setCell ⟨g_r, 2, none⟩ (.int .i64 a3)).setCell ⟨g_r, 3, none⟩ (.int .i64 a4)).setCell ⟨g_r, 4, none⟩ (.int .i64 a5)).setCell ⟨g_r, 5, none⟩ (.int .i64 a6)).setCell ⟨g_r, 6, none⟩ (.int .i64 a7)).setCell ⟨g_r, 7, none⟩ (.int .i64 a8)).setCell ⟨g_r, 8, none⟩ (.int .i64 a9)).setCell ⟨g_r, 9, none⟩ (.int .i64 a10)).setCell ⟨g_r, 10, none⟩ (.int .i64 a11)).setCell ⟨g_r, 11, none⟩ (.int .i64 a12)) ⟨g_r, 3, none⟩ = some (.int .i64 a4) := kr.cell rfl
  have rc4 : World.cell? ((((((((((((p1.w.setCell ⟨g_r, 0, none⟩ (.int .i64 a1)).setCell ⟨g_r, 1, none⟩ (.int .i64 a2)).setCell ⟨g_r, 2, none⟩ (.int .i64 a3)).setCell ⟨g_r, 3, none⟩ (.int .i64 a4)).setCell ⟨g_r, 4, none⟩ (.int .i64 a5)).setCell ⟨g_r, 5, none⟩ (.int .i64 a6)).setCell ⟨g_r, 6, none⟩ (.int .i64 a7)).setCell ⟨g_r, 7, none⟩ (.int .i64 a8)).setCell ⟨g_r, 8, none⟩ (.int .i64 a9)).setCell ⟨g_r, 9, none⟩ (.int .i64 a10)).setCell ⟨g_r, 10, none⟩ (.int .i64 a11)).setCell ⟨g_r, 11, none⟩ (.int .i64 a12)) ⟨g_r, 4, none⟩ = some (.int .i64 a5) := kr.cell rfl
  have rc5 : World.cell? ((((((((((((p1.w.setCell ⟨g_r, 0, none⟩ (.int .i64 a1)).setCell ⟨g_r, 1, none⟩ (.int .i64 a2)).setCell ⟨g_r, 2, none⟩ (.int .i64 a3)).setCell ⟨g_r, 3, none⟩ (.int .i64 a4)).setCell ⟨g_r, 4, none⟩ (.int .i64 a5)).setCell ⟨g_r, 5, none⟩ (.int .i64 a6)).setCell ⟨g_r, 6, none⟩ (.int .i64 a7)).setCell ⟨g_r, 7, none⟩ (.int .i64 a8)).setCell ⟨g_r, 8, none⟩ (.int .i64 a9)).setCell ⟨g_r, 9, none⟩ (.int .i64 a10)).setCell ⟨g_r, 10, none⟩ (.int .i64 a11)).setCell ⟨g_r, 11, none⟩ (.int .i64 a12)) ⟨g_r, 5, none⟩ = some (.int .i64 a6) := kr.cell rfl
  have rc6 : World.cell? ((((((((((((p1.w.setCell ⟨g_r, 0, none⟩ (.int .i64 a1)).setCell ⟨g_r, 1, none⟩ (.int .i64 a2)).setCell ⟨g_r, 2, none⟩ (.int .i64 a3)).setCell ⟨g_r, 3, none⟩ (.int .i64 a4)).setCell ⟨g_r, 4, none⟩ (.int .i64 a5)).setCell ⟨g_r, 5, none⟩ (.int .i64 a6)).setCell ⟨g_r, 6, none⟩ (.int .i64 a7)).setCell ⟨g_r, 7, none⟩ (.int .i64 a8)).setCell ⟨g_r, 8, none⟩ (.int .i64 a9)).setCell ⟨g_r, 9, none⟩ (.int .i64 a10)).setCell ⟨g_r, 10, none⟩ (.int .i64 a11)).setCell ⟨g_r, 11, none⟩ (.int .i64 a12)) ⟨g_r, 6, none⟩ = some (.int .i64 a7) := kr.cell rfl
  have rc7 : World.cell? ((((((((((((p1.w.setCell ⟨g_r, 0, none⟩ (.int .i64 a1)).setCell ⟨g_r, 1, none⟩ (.int .i64 a2)).setCell ⟨g_r, 2, none⟩ (.int .i64 a3)).setCell ⟨g_r, 3, none⟩ (.int .i64 a4)).setCell ⟨g_r, 4, none⟩ (.int .i64 a5)).setCell ⟨g_r, 5, none⟩ (.int .i64 a6)).setCell ⟨g_r, 6, none⟩ (.int .i64 a7)).setCell ⟨g_r, 7, none⟩ (.int .i64 a8)).setCell ⟨g_r, 8, none⟩ (.int .i64 a9)).setCell ⟨g_r, 9, none⟩ (.int .i64 a10)).setCell ⟨g_r, 10, none⟩ (.int .i64 a11)).setCell ⟨g_r, 11, none⟩ (.int .i64 a12)) ⟨g_r, 7, none⟩ = some (.int .i64 a8) := kr.cell rfl
  have rc8 : World.cell? ((((((((((((p1.w.setCell ⟨g_r, 0, none⟩ (.int .i64 a1)).setCell ⟨g_r, 1, none⟩ (.int .i64 a2)).setCell ⟨g_r, 2, none⟩ (.int .i64 a3)).setCell ⟨g_r, 3, none⟩ (.int .i64 a4)).setCell ⟨g_r, 4, none⟩ (.int .i64 a5)).setCell ⟨g_r, 5, none⟩ (.int .i64 a6)).setCell ⟨g_r, 6, none⟩ (.int .i64 a7)).setCell ⟨g_r, 7, none⟩ (.int .i64 a8)).setCell ⟨g_r, 8, none⟩ (.int .i64 a9)).setCell ⟨g_r, 9, none⟩ (.int .i64 a10)).setCell ⟨g_r, 10, none⟩ (.int .i64 a11)).setCell ⟨g_r, 11, none⟩ (.int .i64 a12)) ⟨g_r, 8, none⟩ = some (.int .i64 a9) := kr.cell rfl
  have rc9 : World.cell? ((((((((((((p1.w.setCell ⟨g_r, 0, none⟩ (.int .i64 a1)).setCell ⟨g_r, 1, none⟩ (.int .i64 a2)).setCell ⟨g_r, 2, none⟩ (.int .i64 a3)).setCell ⟨g_r, 3, none⟩ (.int .i64 a4)).setCell ⟨g_r, 4, none⟩ (.int .i64 a5)).setCell ⟨g_r, 5, none⟩ (.int .i64 a6)).setCell ⟨g_r, 6, none⟩ (.int .i64 a7)).setCell ⟨g_r, 7, none⟩ (.int .i64 a8)).setCell ⟨g_r, 8, none⟩ (.int .i64 a9)).setCell ⟨g_r, 9, none⟩ (.int .i64 a10)).setCell ⟨g_r, 10, none⟩ (.int .i64 a11)).setCell ⟨g_r, 11, none⟩ (.int .i64 a12)) ⟨g_r, 9, none⟩ = some (.int .i64 a10) := kr.cell rfl
  have rc10 : World.cell? ((((((((((((p1.w.setCell ⟨g_r, 0, none⟩ (.int .i64 a1)).setCell ⟨g_r, 1, none⟩ (.int .i64 a2)).setCell ⟨g_r, 2, none⟩ (.int .i64 a3)).setCell ⟨g_r, 3, none⟩ (.int .i64 a4)).setCell ⟨g_r, 4, none⟩ (.int .i64 a5)).setCell ⟨g_r, 5, none⟩ (.int .i64 a6)).setCell ⟨g_r, 6, none⟩ (.int .i64 a7)).setCell ⟨g_r, 7, none⟩ (.int .i64 a8)).setCell ⟨g_r, 8, none⟩ (.int .i64 a9)).setCell ⟨g_r, 9, none⟩ (.int .i64 a10)).setCell ⟨g_r, 10, none⟩ (.int .i64 a11)).setCell ⟨g_r, 11, none⟩ (.int .i64 a12)) ⟨g_r, 10, none⟩ = some (.int .i64 a11) := kr.cell rfl
  have rc11 : World.cell? ((((((((((((p1.w.setCell ⟨g_r, 0, none⟩ (.int .i64 a1)).setCell ⟨g_r, 1, none⟩ (.int .i64 a2)).setCell ⟨g_r, 2, none⟩ (.int .i64 a3)).setCell ⟨g_r, 3, none⟩ (.int .i64 a4)).setCell ⟨g_r, 4, none⟩ (.int .i64 a5)).setCell ⟨g_r, 5, none⟩ (.int .i64 a6)).setCell ⟨g_r, 6, none⟩ (.int .i64 a7)).setCell ⟨g_r, 7, none⟩ (.int .i64 a8)).setCell ⟨g_r, 8, none⟩ (.int .i64 a9)).setCell ⟨g_r, 9, none⟩ (.int .i64 a10)).setCell ⟨g_r, 10, none⟩ (.int .i64 a11)).setCell ⟨g_r, 11, none⟩ (.int .i64 a12)) ⟨g_r, 11, none⟩ = some (.int .i64 a12) := kr.cell rfl
  exact bodyPost_ret (v := .agg #[.int .i64 a1, .int .i64 a2, .int .i64 a3, .int .i64 a4, .int .i64 a5, .int .i64 a6, .int .i64 a7, .int .i64 a8, .int .i64 a9, .int .i64 a10, .int .i64 a11, .int .i64 a12]) (by simp [results, Try.results8, go_sem, rc0, rc1, rc2, rc3, rc4, rc5, rc6, rc7, rc8, rc9, rc10, rc11]) rfl ⟨rfl, (((((((((((((bw_below B1 p1).setCell (p := ⟨g_r, 0, none⟩) (by show w.heap.size ≤ g_r; omega) _).setCell (p := ⟨g_r, 1, none⟩) (by show w.heap.size ≤ g_r; omega) _).setCell (p := ⟨g_r, 2, none⟩) (by show w.heap.size ≤ g_r; omega) _).setCell (p := ⟨g_r, 3, none⟩) (by show w.heap.size ≤ g_r; omega) _).setCell (p := ⟨g_r, 4, none⟩) (by show w.heap.size ≤ g_r; omega) _).setCell (p := ⟨g_r, 5, none⟩) (by show w.heap.size ≤ g_r; omega) _).setCell (p := ⟨g_r, 6, none⟩) (by show w.heap.size ≤ g_r; omega) _).setCell (p := ⟨g_r, 7, none⟩) (by show w.heap.size ≤ g_r; omega) _).setCell (p := ⟨g_r, 8, none⟩) (by show w.heap.size ≤ g_r; omega) _).setCell (p := ⟨g_r, 9, none⟩) (by show w.heap.size ≤ g_r; omega) _).setCell (p := ⟨g_r, 10, none⟩) (by show w.heap.size ≤ g_r; omega) _).setCell (p := ⟨g_r, 11, none⟩) (by show w.heap.size ≤ g_r; omega) _)⟩

set_option maxRecDepth 100000 in
set_option maxHeartbeats 8000000 in
theorem law_PoseTells_no (a1 a2 a3 a4 a5 a6 a7 a8 a9 a10 a11 a12 b1 b2 b3 b4 b5 b6 b7 b8 b9 b10 b11 b12 axis h n d : Int) (sa : Option Addr) (len cap : Nat) (w : World) (hl : 10 < len) (hm : len ≤ maxLen) :
    Calls Try.prog 3 #[.agg #[.int .i64 a1, .int .i64 a2, .int .i64 a3, .int .i64 a4, .int .i64 a5, .int .i64 a6, .int .i64 a7, .int .i64 a8, .int .i64 a9, .int .i64 a10, .int .i64 a11, .int .i64 a12], .agg #[.int .i64 b1, .int .i64 b2, .int .i64 b3, .int .i64 b4, .int .i64 b5, .int .i64 b6, .int .i64 b7, .int .i64 b8, .int .i64 b9, .int .i64 b10, .int .i64 b11, .int .i64 b12], .int .i64 axis, .int .i64 h, .int .i64 n, .int .i64 d, .slice sa len cap] w fun r w' => r = .returned (.bool true) ∧ Below w.heap.size w w' := by
  have HA := Lib.hid (fun w => awake08 w)
  have t : decide ((10 : Int) < (len : Int)) = true := decide_eq_true (by omega)
  clear hl
  go_enter Try.func3, Try.ntmps3
  go_upto_region 1 with (fail)
  obtain ⟨W1, hW1⟩ : ∃ W, W = (w.alloc (.cells #[.int .i64 a1, .int .i64 a2, .int .i64 a3, .int .i64 a4, .int .i64 a5, .int .i64 a6, .int .i64 a7, .int .i64 a8, .int .i64 a9, .int .i64 a10, .int .i64 a11, .int .i64 a12] 25)).alloc (.cells #[.int .i64 b1, .int .i64 b2, .int .i64 b3, .int .i64 b4, .int .i64 b5, .int .i64 b6, .int .i64 b7, .int .i64 b8, .int .i64 b9, .int .i64 b10, .int .i64 b11, .int .i64 b12] 25) := ⟨_, rfl⟩
  have B1 : Below w.heap.size w W1 := by rw [hW1]; go_grown
  have k_a : Bk W1 (w.heap.size) 25 #[.int .i64 a1, .int .i64 a2, .int .i64 a3, .int .i64 a4, .int .i64 a5, .int .i64 a6, .int .i64 a7, .int .i64 a8, .int .i64 a9, .int .i64 a10, .int .i64 a11, .int .i64 a12] := by rw [hW1]; exact (Bk.new _ _ _).alloc _
  have k_b : Bk W1 (w.heap.size + 1) 25 #[.int .i64 b1, .int .i64 b2, .int .i64 b3, .int .i64 b4, .int .i64 b5, .int .i64 b6, .int .i64 b7, .int .i64 b8, .int .i64 b9, .int .i64 b10, .int .i64 b11, .int .i64 b12] := by rw [hW1]; exact Bk.new_at _ _ _ _ (by simp)
  rw [← hW1]
  clear hW1
  have l_b : w.heap.size < w.heap.size + 1 := by omega
  generalize w.heap.size + 1 = g_b at *
  have c_a_0 : ∀ p : BW W1, p.w.cell? ⟨w.heap.size, 0, none⟩ = some (.int .i64 a1) := bw_cell (k_a.cell rfl)
  have c_a_1 : ∀ p : BW W1, p.w.cell? ⟨w.heap.size, 1, none⟩ = some (.int .i64 a2) := bw_cell (k_a.cell rfl)
  have c_a_2 : ∀ p : BW W1, p.w.cell? ⟨w.heap.size, 2, none⟩ = some (.int .i64 a3) := bw_cell (k_a.cell rfl)
  have c_a_3 : ∀ p : BW W1, p.w.cell? ⟨w.heap.size, 3, none⟩ = some (.int .i64 a4) := bw_cell (k_a.cell rfl)
  have c_a_4 : ∀ p : BW W1, p.w.cell? ⟨w.heap.size, 4, none⟩ = some (.int .i64 a5) := bw_cell (k_a.cell rfl)
  have c_a_5 : ∀ p : BW W1, p.w.cell? ⟨w.heap.size, 5, none⟩ = some (.int .i64 a6) := bw_cell (k_a.cell rfl)
  have c_a_6 : ∀ p : BW W1, p.w.cell? ⟨w.heap.size, 6, none⟩ = some (.int .i64 a7) := bw_cell (k_a.cell rfl)
  have c_a_7 : ∀ p : BW W1, p.w.cell? ⟨w.heap.size, 7, none⟩ = some (.int .i64 a8) := bw_cell (k_a.cell rfl)
  have c_a_8 : ∀ p : BW W1, p.w.cell? ⟨w.heap.size, 8, none⟩ = some (.int .i64 a9) := bw_cell (k_a.cell rfl)
  have c_a_9 : ∀ p : BW W1, p.w.cell? ⟨w.heap.size, 9, none⟩ = some (.int .i64 a10) := bw_cell (k_a.cell rfl)
  have c_a_10 : ∀ p : BW W1, p.w.cell? ⟨w.heap.size, 10, none⟩ = some (.int .i64 a11) := bw_cell (k_a.cell rfl)
  have c_a_11 : ∀ p : BW W1, p.w.cell? ⟨w.heap.size, 11, none⟩ = some (.int .i64 a12) := bw_cell (k_a.cell rfl)
  have c_b_0 : ∀ p : BW W1, p.w.cell? ⟨g_b, 0, none⟩ = some (.int .i64 b1) := bw_cell (k_b.cell rfl)
  have c_b_1 : ∀ p : BW W1, p.w.cell? ⟨g_b, 1, none⟩ = some (.int .i64 b2) := bw_cell (k_b.cell rfl)
  have c_b_2 : ∀ p : BW W1, p.w.cell? ⟨g_b, 2, none⟩ = some (.int .i64 b3) := bw_cell (k_b.cell rfl)
  have c_b_3 : ∀ p : BW W1, p.w.cell? ⟨g_b, 3, none⟩ = some (.int .i64 b4) := bw_cell (k_b.cell rfl)
  have c_b_4 : ∀ p : BW W1, p.w.cell? ⟨g_b, 4, none⟩ = some (.int .i64 b5) := bw_cell (k_b.cell rfl)
  have c_b_5 : ∀ p : BW W1, p.w.cell? ⟨g_b, 5, none⟩ = some (.int .i64 b6) := bw_cell (k_b.cell rfl)
  have c_b_6 : ∀ p : BW W1, p.w.cell? ⟨g_b, 6, none⟩ = some (.int .i64 b7) := bw_cell (k_b.cell rfl)
  have c_b_7 : ∀ p : BW W1, p.w.cell? ⟨g_b, 7, none⟩ = some (.int .i64 b8) := bw_cell (k_b.cell rfl)
  have c_b_8 : ∀ p : BW W1, p.w.cell? ⟨g_b, 8, none⟩ = some (.int .i64 b9) := bw_cell (k_b.cell rfl)
  have c_b_9 : ∀ p : BW W1, p.w.cell? ⟨g_b, 9, none⟩ = some (.int .i64 b10) := bw_cell (k_b.cell rfl)
  have c_b_10 : ∀ p : BW W1, p.w.cell? ⟨g_b, 10, none⟩ = some (.int .i64 b11) := bw_cell (k_b.cell rfl)
  have c_b_11 : ∀ p : BW W1, p.w.cell? ⟨g_b, 11, none⟩ = some (.int .i64 b12) := bw_cell (k_b.cell rfl)
  obtain ⟨p1, hp1⟩ : ∃ p : BW W1, p.w = W1 := ⟨BW.start W1, rfl⟩
  rw [← hp1]
  clear hp1
  go_wp2_with (first
    | (go_at_call 6; (first | (with_reducible refine (bw_call HA.out _).mono ?_)); rintro e w' ⟨rfl, q, rfl⟩))
  go_ret
  exact ⟨rfl, bw_below B1 _⟩

set_option maxRecDepth 100000 in
set_option maxHeartbeats 8000000 in
theorem law_PoseTells_yes (a1 a2 a3 a4 a5 a6 a7 a8 a9 a10 a11 a12 b1 b2 b3 b4 b5 b6 b7 b8 b9 b10 b11 b12 axis h n d : Int) (sa : Option Addr) (len cap : Nat) (V : Nat → T3) (w : World) (hh : I64 h) (hn : I64 n) (hd : I64 d) (hl : len ≤ 10) (hS : VcSlice w sa len V)
    (hPA : ∀ W, Below w.heap.size w W → Calls Try.prog 18 #[.agg #[.int .i64 a1, .int .i64 a2, .int .i64 a3, .int .i64 a4, .int .i64 a5, .int .i64 a6, .int .i64 a7, .int .i64 a8, .int .i64 a9, .int .i64 a10, .int .i64 a11, .int .i64 a12], .slice sa len cap] W fun r w' => ∃ v, r = .returned v ∧ w'.ownsRow W.heap.size 23 3 v len ((List.range len).flatMap (fun i => vcells (pPut ((a1, a2, a3), (a4, a5, a6), (a7, a8, a9), (a10, a11, a12)) (V i)))) ∧ Below W.heap.size W w') :
    Calls Try.prog 3 #[.agg #[.int .i64 a1, .int .i64 a2, .int .i64 a3, .int .i64 a4, .int .i64 a5, .int .i64 a6, .int .i64 a7, .int .i64 a8, .int .i64 a9, .int .i64 a10, .int .i64 a11, .int .i64 a12], .agg #[.int .i64 b1, .int .i64 b2, .int .i64 b3, .int .i64 b4, .int .i64 b5, .int .i64 b6, .int .i64 b7, .int .i64 b8, .int .i64 b9, .int .i64 b10, .int .i64 b11, .int .i64 b12], .int .i64 axis, .int .i64 h, .int .i64 n, .int .i64 d, .slice sa len cap] w fun r w' => r = .returned (.bool true) ∧ Below w.heap.size w w' := by
  have HA := Lib.hid (fun w => awake08 w)
  have HS := Lib.hid hS
  have PA := Lib.hid hPA
  have t : decide ((10 : Int) < (len : Int)) = false := decide_eq_false (by omega)
  have hl' : (len : Int) ≤ 10 := by omega
  have R1 := Lib.hid (fun w => pose_Right a1 a2 a3 a4 a5 a6 a7 a8 a9 a10 a11 a12 w)
  have R2 := Lib.hid (fun w => ref8_Right a1 a2 a3 a4 a5 a6 a7 a8 a9 a10 a11 a12 w)
  generalize pRight ((a1, a2, a3), (a4, a5, a6), (a7, a8, a9), (a10, a11, a12)) = rr at *
  have N1 := Lib.hid (fun w => pose_None w)
  have N2 := Lib.hid (fun w => ref8_None w)
  have T1 := Lib.hid (fun w => pose_Turned axis h w hh)
  have T2 := Lib.hid (fun w => ref8_Turned axis h w hh)
  generalize pTurned axis h = T at *
  have S1 := Lib.hid (fun w => pose_Sized n d w hn hd)
  have S2 := Lib.hid (fun w => ref8_Sized n d w)
  generalize pSized n d = S at *
  have C1 := Lib.hid (fun w => pose_Then a1 a2 a3 a4 a5 a6 a7 a8 a9 a10 a11 a12 b1 b2 b3 b4 b5 b6 b7 b8 b9 b10 b11 b12 w)
  have C2 := Lib.hid (fun w => ref8_Then a1 a2 a3 a4 a5 a6 a7 a8 a9 a10 a11 a12 b1 b2 b3 b4 b5 b6 b7 b8 b9 b10 b11 b12 w)
  generalize pThen ((a1, a2, a3), (a4, a5, a6), (a7, a8, a9), (a10, a11, a12)) ((b1, b2, b3), (b4, b5, b6), (b7, b8, b9), (b10, b11, b12)) = R at *
  obtain ⟨⟨t1, t2, t3⟩, ⟨t4, t5, t6⟩, ⟨t7, t8, t9⟩, ⟨t10, t11, t12⟩⟩ := T
  obtain ⟨⟨s1, s2, s3⟩, ⟨s4, s5, s6⟩, ⟨s7, s8, s9⟩, ⟨s10, s11, s12⟩⟩ := S
  obtain ⟨⟨r1, r2, r3⟩, ⟨r4, r5, r6⟩, ⟨r7, r8, r9⟩, ⟨r10, r11, r12⟩⟩ := R
  unfold p12 at T1 T2 S1 S2 C1 C2
  dsimp only at T1 T2 S1 S2 C1 C2
  have O1 := Lib.hid (fun w => law8_of a1 a2 a3 a4 a5 a6 a7 a8 a9 a10 a11 a12 w)
  have O2 := Lib.hid (fun w => law8_of b1 b2 b3 b4 b5 b6 b7 b8 b9 b10 b11 b12 w)
  have O3 := Lib.hid (fun w => law8_of 16384 0 0 0 16384 0 0 0 16384 0 0 0 w)
  have O4 := Lib.hid (fun w => law8_of t1 t2 t3 t4 t5 t6 t7 t8 t9 t10 t11 t12 w)
  have O5 := Lib.hid (fun w => law8_of s1 s2 s3 s4 s5 s6 s7 s8 s9 s10 s11 s12 w)
  have O6 := Lib.hid (fun w => law8_of r1 r2 r3 r4 r5 r6 r7 r8 r9 r10 r11 r12 w)
  clear hh hn hd hl hPA hS
  go_enter Try.func3, Try.ntmps3
  go_upto_region 1 with (fail)
  obtain ⟨W1, hW1⟩ : ∃ W, W = (w.alloc (.cells #[.int .i64 a1, .int .i64 a2, .int .i64 a3, .int .i64 a4, .int .i64 a5, .int .i64 a6, .int .i64 a7, .int .i64 a8, .int .i64 a9, .int .i64 a10, .int .i64 a11, .int .i64 a12] 25)).alloc (.cells #[.int .i64 b1, .int .i64 b2, .int .i64 b3, .int .i64 b4, .int .i64 b5, .int .i64 b6, .int .i64 b7, .int .i64 b8, .int .i64 b9, .int .i64 b10, .int .i64 b11, .int .i64 b12] 25) := ⟨_, rfl⟩
  have B1 : Below w.heap.size w W1 := by rw [hW1]; go_grown
  have k_a : Bk W1 (w.heap.size) 25 #[.int .i64 a1, .int .i64 a2, .int .i64 a3, .int .i64 a4, .int .i64 a5, .int .i64 a6, .int .i64 a7, .int .i64 a8, .int .i64 a9, .int .i64 a10, .int .i64 a11, .int .i64 a12] := by rw [hW1]; exact (Bk.new _ _ _).alloc _
  have k_b : Bk W1 (w.heap.size + 1) 25 #[.int .i64 b1, .int .i64 b2, .int .i64 b3, .int .i64 b4, .int .i64 b5, .int .i64 b6, .int .i64 b7, .int .i64 b8, .int .i64 b9, .int .i64 b10, .int .i64 b11, .int .i64 b12] := by rw [hW1]; exact Bk.new_at _ _ _ _ (by simp)
  rw [← hW1]
  clear hW1
  have l_b : w.heap.size < w.heap.size + 1 := by omega
  generalize w.heap.size + 1 = g_b at *
  have c_a_0 : ∀ p : BW W1, p.w.cell? ⟨w.heap.size, 0, none⟩ = some (.int .i64 a1) := bw_cell (k_a.cell rfl)
  have c_a_1 : ∀ p : BW W1, p.w.cell? ⟨w.heap.size, 1, none⟩ = some (.int .i64 a2) := bw_cell (k_a.cell rfl)
  have c_a_2 : ∀ p : BW W1, p.w.cell? ⟨w.heap.size, 2, none⟩ = some (.int .i64 a3) := bw_cell (k_a.cell rfl)
  have c_a_3 : ∀ p : BW W1, p.w.cell? ⟨w.heap.size, 3, none⟩ = some (.int .i64 a4) := bw_cell (k_a.cell rfl)
  have c_a_4 : ∀ p : BW W1, p.w.cell? ⟨w.heap.size, 4, none⟩ = some (.int .i64 a5) := bw_cell (k_a.cell rfl)
  have c_a_5 : ∀ p : BW W1, p.w.cell? ⟨w.heap.size, 5, none⟩ = some (.int .i64 a6) := bw_cell (k_a.cell rfl)
  have c_a_6 : ∀ p : BW W1, p.w.cell? ⟨w.heap.size, 6, none⟩ = some (.int .i64 a7) := bw_cell (k_a.cell rfl)
  have c_a_7 : ∀ p : BW W1, p.w.cell? ⟨w.heap.size, 7, none⟩ = some (.int .i64 a8) := bw_cell (k_a.cell rfl)
  have c_a_8 : ∀ p : BW W1, p.w.cell? ⟨w.heap.size, 8, none⟩ = some (.int .i64 a9) := bw_cell (k_a.cell rfl)
  have c_a_9 : ∀ p : BW W1, p.w.cell? ⟨w.heap.size, 9, none⟩ = some (.int .i64 a10) := bw_cell (k_a.cell rfl)
  have c_a_10 : ∀ p : BW W1, p.w.cell? ⟨w.heap.size, 10, none⟩ = some (.int .i64 a11) := bw_cell (k_a.cell rfl)
  have c_a_11 : ∀ p : BW W1, p.w.cell? ⟨w.heap.size, 11, none⟩ = some (.int .i64 a12) := bw_cell (k_a.cell rfl)
  have c_b_0 : ∀ p : BW W1, p.w.cell? ⟨g_b, 0, none⟩ = some (.int .i64 b1) := bw_cell (k_b.cell rfl)
  have c_b_1 : ∀ p : BW W1, p.w.cell? ⟨g_b, 1, none⟩ = some (.int .i64 b2) := bw_cell (k_b.cell rfl)
  have c_b_2 : ∀ p : BW W1, p.w.cell? ⟨g_b, 2, none⟩ = some (.int .i64 b3) := bw_cell (k_b.cell rfl)
  have c_b_3 : ∀ p : BW W1, p.w.cell? ⟨g_b, 3, none⟩ = some (.int .i64 b4) := bw_cell (k_b.cell rfl)
  have c_b_4 : ∀ p : BW W1, p.w.cell? ⟨g_b, 4, none⟩ = some (.int .i64 b5) := bw_cell (k_b.cell rfl)
  have c_b_5 : ∀ p : BW W1, p.w.cell? ⟨g_b, 5, none⟩ = some (.int .i64 b6) := bw_cell (k_b.cell rfl)
  have c_b_6 : ∀ p : BW W1, p.w.cell? ⟨g_b, 6, none⟩ = some (.int .i64 b7) := bw_cell (k_b.cell rfl)
  have c_b_7 : ∀ p : BW W1, p.w.cell? ⟨g_b, 7, none⟩ = some (.int .i64 b8) := bw_cell (k_b.cell rfl)
  have c_b_8 : ∀ p : BW W1, p.w.cell? ⟨g_b, 8, none⟩ = some (.int .i64 b9) := bw_cell (k_b.cell rfl)
  have c_b_9 : ∀ p : BW W1, p.w.cell? ⟨g_b, 9, none⟩ = some (.int .i64 b10) := bw_cell (k_b.cell rfl)
  have c_b_10 : ∀ p : BW W1, p.w.cell? ⟨g_b, 10, none⟩ = some (.int .i64 b11) := bw_cell (k_b.cell rfl)
  have c_b_11 : ∀ p : BW W1, p.w.cell? ⟨g_b, 11, none⟩ = some (.int .i64 b12) := bw_cell (k_b.cell rfl)
  obtain ⟨p1, hp1⟩ : ∃ p : BW W1, p.w = W1 := ⟨BW.start W1, rfl⟩
  rw [← hp1]
  clear hp1
  go_upto_region 3 with (fail)
  refine wp_region_bw (by kernel_rfl) (by kernel_rfl) ?_
  repeat (go_big_quiet_step (first
    | (go_at_call 8; (first | (with_reducible exact bw_call O1.out _) | (with_reducible exact bw_call O2.out _) | (with_reducible exact bw_call O3.out _) | (with_reducible exact bw_call O4.out _) | (with_reducible exact bw_call O5.out _) | (with_reducible exact bw_call O6.out _)))
    | (go_at_call 7; (first | (with_reducible exact bw_call R1.out _)))
    | (go_at_call 9; (first | (with_reducible exact bw_call R2.out _)))
    | (go_at_call 10; (first | (with_reducible exact bw_call N1.out _)))
    | (go_at_call 11; (first | (with_reducible exact bw_call N2.out _)))
    | (go_at_call 12; (first | (with_reducible exact bw_call T1.out _)))
    | (go_at_call 13; (first | (with_reducible exact bw_call T2.out _)))
    | (go_at_call 14; (first | (with_reducible exact bw_call S1.out _)))
    | (go_at_call 15; (first | (with_reducible exact bw_call S2.out _)))
    | (go_at_call 16; (first | (with_reducible exact bw_call C1.out _)))
    | (go_at_call 17; (first | (with_reducible exact bw_call C2.out _)))))
  refine wpQuiet_nil ?_
  intro _ hw'
  obtain ⟨q, rfl⟩ := hw'
  go_upto_region 6 with (first
    | (go_at_call 8; (first | (with_reducible refine (bw_call O1.out _).mono ?_)); rintro e w' ⟨rfl, q, rfl⟩)
    | (go_at_call 18; (with_reducible refine (PA.out _ (bw_below B1 _)).mono ?_); rintro e w1 ⟨v, rfl, hrow, hb⟩; obtain ⟨q9, rfl⟩ := bw_take hb; clear hb))
  obtain ⟨o, cap2, rfl, hcell⟩ := ownsRow_open hrow
  have HC := Lib.hid hcell
  clear hrow hcell T1 T2 S1 S2 C1 C2 R1 R2 N1 N2 O2 O3 O4 O5 O6
  obtain ⟨W9, hW9⟩ : ∃ W, W = q9.w := ⟨_, rfl⟩
  have B9 : Below w.heap.size w W9 := by rw [hW9]; exact bw_below B1 q9
  have k_a := k_a.below q9.h
  have k_b := k_b.below q9.h
  have HC : Hid (0 < len → ∃ g, o = some ⟨g, 0, none⟩ ∧ ∀ (j : Nat) (u : Value), ((List.range len).flatMap (fun i => vcells (pPut ((a1, a2, a3), (a4, a5, a6), (a7, a8, a9), (a10, a11, a12)) (V i))))[j]? = some u → W9.cell? ⟨g, j, none⟩ = some u) := Lib.hid (fun h => by
    obtain ⟨g, e1, _, e2⟩ := HC.out h
    exact ⟨g, e1, fun j u hj => by rw [hW9]; exact e2 j u hj⟩)
  rw [← hW9] at k_a k_b ⊢
  clear hW9 B1 c_a_0 c_a_1 c_a_2 c_a_3 c_a_4 c_a_5 c_a_6 c_a_7 c_a_8 c_a_9 c_a_10 c_a_11 c_b_0 c_b_1 c_b_2 c_b_3 c_b_4 c_b_5 c_b_6 c_b_7 c_b_8 c_b_9 c_b_10 c_b_11
  go_wp2
  go_loopw [16] (fun i wr => ∃ (k : Nat) (q : BW W9), k ≤ len ∧ i = .int .i64 k ∧ wr = q.w) (fun i _ => len - (intOf i).toNat)
  case atStart => exact ⟨0, BW.start W9, by omega, rfl, rfl⟩
  case round =>
    obtain ⟨k, p9, hk, rfl, rfl⟩ := hrel
    by_cases hlt : k < len
    · obtain ⟨b, off, rfl, hV, hI, hb⟩ := HS.out.resolve_left (by omega)
      obtain ⟨g, rfl, hG⟩ := HC.out (by omega)
      obtain ⟨x0, x1, x2⟩ := hV k hlt
      have l0 : ∀ p : BW W9, p.w.cell? ⟨b, off + k * 3, none⟩ = some (.int .i64 (V k).1) := bw_cell ((B9.cell (p := ⟨b, off + k * 3, none⟩) hb).trans x0)
      have l1 : ∀ p : BW W9, p.w.cell? ⟨b, off + k * 3 + 1, none⟩ = some (.int .i64 (V k).2.1) := bw_cell ((B9.cell (p := ⟨b, off + k * 3 + 1, none⟩) hb).trans x1)
      have l2 : ∀ p : BW W9, p.w.cell? ⟨b, off + k * 3 + 2, none⟩ = some (.int .i64 (V k).2.2) := bw_cell ((B9.cell (p := ⟨b, off + k * 3 + 2, none⟩) hb).trans x2)
      have r0 : ∀ p : BW W9, p.w.cell? ⟨g, k * 3, none⟩ = some (.int .i64 (pPut ((a1, a2, a3), (a4, a5, a6), (a7, a8, a9), (a10, a11, a12)) (V k)).1) := bw_cell (hG (k * 3) _ (by have := vcells_at (fun i => pPut ((a1, a2, a3), (a4, a5, a6), (a7, a8, a9), (a10, a11, a12)) (V i)) len k hlt 0 (by omega); exact this))
      have r1 : ∀ p : BW W9, p.w.cell? ⟨g, k * 3 + 1, none⟩ = some (.int .i64 (pPut ((a1, a2, a3), (a4, a5, a6), (a7, a8, a9), (a10, a11, a12)) (V k)).2.1) := bw_cell (hG (k * 3 + 1) _ (by have := vcells_at (fun i => pPut ((a1, a2, a3), (a4, a5, a6), (a7, a8, a9), (a10, a11, a12)) (V i)) len k hlt 1 (by omega); exact this))
      have r2 : ∀ p : BW W9, p.w.cell? ⟨g, k * 3 + 2, none⟩ = some (.int .i64 (pPut ((a1, a2, a3), (a4, a5, a6), (a7, a8, a9), (a10, a11, a12)) (V k)).2.2) := bw_cell (hG (k * 3 + 2) _ (by have := vcells_at (fun i => pPut ((a1, a2, a3), (a4, a5, a6), (a7, a8, a9), (a10, a11, a12)) (V i)) len k hlt 2 (by omega); exact this))
      clear x0 x1 x2 hV hI hG
      generalize V k = vk at *
      obtain ⟨x, y, z⟩ := vk
      dsimp only at l0 l1 l2
      have P1 := Lib.hid (fun w => pose_Put a1 a2 a3 a4 a5 a6 a7 a8 a9 a10 a11 a12 x y z w)
      have P2 := Lib.hid (fun w => ref8_Put a1 a2 a3 a4 a5 a6 a7 a8 a9 a10 a11 a12 x y z w)
      generalize pPut ((a1, a2, a3), (a4, a5, a6), (a7, a8, a9), (a10, a11, a12)) (x, y, z) = c at *
      obtain ⟨c1, c2, c3⟩ := c
      have M1 := Lib.hid (fun w => pose_Moved x y z w)
      have M2 := Lib.hid (fun w => ref8_Moved x y z w)
      generalize pMoved (x, y, z) = M at *
      obtain ⟨⟨m1, m2, m3⟩, ⟨m4, m5, m6⟩, ⟨m7, m8, m9⟩, ⟨m10, m11, m12⟩⟩ := M
      unfold p12 at M1 M2
      dsimp only at M1 M2 P1 P2 r0 r1 r2
      have O2 := Lib.hid (fun w => law8_of m1 m2 m3 m4 m5 m6 m7 m8 m9 m10 m11 m12 w)
      have c_a_0 : ∀ p : BW W9, p.w.cell? ⟨w.heap.size, 0, none⟩ = some (.int .i64 a1) := bw_cell (k_a.cell rfl)
      have c_a_1 : ∀ p : BW W9, p.w.cell? ⟨w.heap.size, 1, none⟩ = some (.int .i64 a2) := bw_cell (k_a.cell rfl)
      have c_a_2 : ∀ p : BW W9, p.w.cell? ⟨w.heap.size, 2, none⟩ = some (.int .i64 a3) := bw_cell (k_a.cell rfl)
      have c_a_3 : ∀ p : BW W9, p.w.cell? ⟨w.heap.size, 3, none⟩ = some (.int .i64 a4) := bw_cell (k_a.cell rfl)
      have c_a_4 : ∀ p : BW W9, p.w.cell? ⟨w.heap.size, 4, none⟩ = some (.int .i64 a5) := bw_cell (k_a.cell rfl)
      have c_a_5 : ∀ p : BW W9, p.w.cell? ⟨w.heap.size, 5, none⟩ = some (.int .i64 a6) := bw_cell (k_a.cell rfl)
      have c_a_6 : ∀ p : BW W9, p.w.cell? ⟨w.heap.size, 6, none⟩ = some (.int .i64 a7) := bw_cell (k_a.cell rfl)
      have c_a_7 : ∀ p : BW W9, p.w.cell? ⟨w.heap.size, 7, none⟩ = some (.int .i64 a8) := bw_cell (k_a.cell rfl)
      have c_a_8 : ∀ p : BW W9, p.w.cell? ⟨w.heap.size, 8, none⟩ = some (.int .i64 a9) := bw_cell (k_a.cell rfl)
      have c_a_9 : ∀ p : BW W9, p.w.cell? ⟨w.heap.size, 9, none⟩ = some (.int .i64 a10) := bw_cell (k_a.cell rfl)
      have c_a_10 : ∀ p : BW W9, p.w.cell? ⟨w.heap.size, 10, none⟩ = some (.int .i64 a11) := bw_cell (k_a.cell rfl)
      have c_a_11 : ∀ p : BW W9, p.w.cell? ⟨w.heap.size, 11, none⟩ = some (.int .i64 a12) := bw_cell (k_a.cell rfl)
      have c_b_0 : ∀ p : BW W9, p.w.cell? ⟨g_b, 0, none⟩ = some (.int .i64 b1) := bw_cell (k_b.cell rfl)
      have c_b_1 : ∀ p : BW W9, p.w.cell? ⟨g_b, 1, none⟩ = some (.int .i64 b2) := bw_cell (k_b.cell rfl)
      have c_b_2 : ∀ p : BW W9, p.w.cell? ⟨g_b, 2, none⟩ = some (.int .i64 b3) := bw_cell (k_b.cell rfl)
      have c_b_3 : ∀ p : BW W9, p.w.cell? ⟨g_b, 3, none⟩ = some (.int .i64 b4) := bw_cell (k_b.cell rfl)
      have c_b_4 : ∀ p : BW W9, p.w.cell? ⟨g_b, 4, none⟩ = some (.int .i64 b5) := bw_cell (k_b.cell rfl)
      have c_b_5 : ∀ p : BW W9, p.w.cell? ⟨g_b, 5, none⟩ = some (.int .i64 b6) := bw_cell (k_b.cell rfl)
      have c_b_6 : ∀ p : BW W9, p.w.cell? ⟨g_b, 6, none⟩ = some (.int .i64 b7) := bw_cell (k_b.cell rfl)
      have c_b_7 : ∀ p : BW W9, p.w.cell? ⟨g_b, 7, none⟩ = some (.int .i64 b8) := bw_cell (k_b.cell rfl)
      have c_b_8 : ∀ p : BW W9, p.w.cell? ⟨g_b, 8, none⟩ = some (.int .i64 b9) := bw_cell (k_b.cell rfl)
      have c_b_9 : ∀ p : BW W9, p.w.cell? ⟨g_b, 9, none⟩ = some (.int .i64 b10) := bw_cell (k_b.cell rfl)
      have c_b_10 : ∀ p : BW W9, p.w.cell? ⟨g_b, 10, none⟩ = some (.int .i64 b11) := bw_cell (k_b.cell rfl)
      have c_b_11 : ∀ p : BW W9, p.w.cell? ⟨g_b, 11, none⟩ = some (.int .i64 b12) := bw_cell (k_b.cell rfl)
      go_upto_region 11 with (fail)
      refine wp_region_bw (by kernel_rfl) (by kernel_rfl) ?_
      repeat (go_big_quiet_step (first
        | (go_at_call 8; (first | (with_reducible exact bw_call O1.out _) | (with_reducible exact bw_call O2.out _)))
        | (go_at_call 20; (first | (with_reducible exact bw_call P1.out _)))
        | (go_at_call 19; (first | (with_reducible exact bw_call P2.out _)))
        | (go_at_call 21; (first | (with_reducible exact bw_call M1.out _)))
        | (go_at_call 22; (first | (with_reducible exact bw_call M2.out _)))))
      refine wpQuiet_nil ?_
      intro _ hw'
      obtain ⟨q, rfl⟩ := hw'
      go_wp2
      go_roundw
      case rel => exact ⟨k + 1, q, by omega, by go_num, rfl⟩
      case measure => simp [intOf]; omega
    · obtain rfl : k = len := by omega
      go_wp2_with (go_at_call 6; (with_reducible refine (bw_call HA.out _).mono ?_); rintro e w' ⟨rfl, q, rfl⟩)
      go_ret
      exact ⟨rfl, bw_below B9 _⟩

theorem law_PoseTells (a1 a2 a3 a4 a5 a6 a7 a8 a9 a10 a11 a12 b1 b2 b3 b4 b5 b6 b7 b8 b9 b10 b11 b12 axis h n d : Int) (sa : Option Addr) (len cap : Nat) (V : Nat → T3) (w : World) (hh : I64 h) (hn : I64 n) (hd : I64 d) (hm : len ≤ maxLen) (hS : VcSlice w sa len V) :
    Calls Try.prog 3 #[.agg #[.int .i64 a1, .int .i64 a2, .int .i64 a3, .int .i64 a4, .int .i64 a5, .int .i64 a6, .int .i64 a7, .int .i64 a8, .int .i64 a9, .int .i64 a10, .int .i64 a11, .int .i64 a12], .agg #[.int .i64 b1, .int .i64 b2, .int .i64 b3, .int .i64 b4, .int .i64 b5, .int .i64 b6, .int .i64 b7, .int .i64 b8, .int .i64 b9, .int .i64 b10, .int .i64 b11, .int .i64 b12], .int .i64 axis, .int .i64 h, .int .i64 n, .int .i64 d, .slice sa len cap] w fun r w' => r = .returned (.bool true) ∧ Below w.heap.size w w' := by
  by_cases hl : 10 < len
  · exact law_PoseTells_no a1 a2 a3 a4 a5 a6 a7 a8 a9 a10 a11 a12 b1 b2 b3 b4 b5 b6 b7 b8 b9 b10 b11 b12 axis h n d sa len cap w hl hm
  · refine law_PoseTells_yes a1 a2 a3 a4 a5 a6 a7 a8 a9 a10 a11 a12 b1 b2 b3 b4 b5 b6 b7 b8 b9 b10 b11 b12 axis h n d sa len cap V w hh hn hd (by omega) hS ?_
    intro W hB
    rcases hS with rfl | ⟨b, off, rfl, hrow, _, hb⟩
    · exact pose_All_none a1 a2 a3 a4 a5 a6 a7 a8 a9 a10 a11 a12 sa cap W
    · exact pose_All a1 a2 a3 a4 a5 a6 a7 a8 a9 a10 a11 a12 b off cap len V W (hrow.below hB hb) (Nat.lt_of_lt_of_le hb hB.size) (by omega)

end Go.Proofs.Ytnoaljfdbfbhmaa
