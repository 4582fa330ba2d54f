/- Contracts of the document's own answers, layer 7. -/
import Derived.Test.YtijphipinjlmbaaRefb06
import Derived.Test.YtijphipinjlmbaaMathb07
namespace Go.Proofs.Ytijphipinjlmbaa
open Go.RowKit Go.Proofs.Sky
set_option linter.unusedVariables false

theorem ref7_size (a : Int) (w : World) (ha : -4611686018427387904 ≤ a ∧ a ≤ 4611686018427387904) :
    Calls Try.prog 51 #[.int .i64 a] w fun e w' => e = .returned (.int .i64 (a.natAbs : Int)) ∧ w = w' := by
  have e1 : wrap64 (-a) = -a := by unfold wrap64; omega
  go_enter Try.func51, Try.ntmps51
  go_wp2
  all_goals (go_ret; exact ⟨ret_int (by omega), rfl⟩)

set_option maxHeartbeats 2000000 in
theorem ref7_axis (x y z : Int) (w : World) (hx : -16385 ≤ x ∧ x ≤ 16385) (hy : -16385 ≤ y ∧ y ≤ 16385) (hz : -16385 ≤ z ∧ z ≤ 16385) :
    Calls Try.prog 27 #[.agg #[.int .i64 x, .int .i64 y, .int .i64 z]] w fun e w' => e = .returned (.agg #[.int .i64 (bax (x, y, z)).1, .int .i64 (bax (x, y, z)).2.1, .int .i64 (bax (x, y, z)).2.2]) ∧ Below w.heap.size w w' := by
  have Z1 := Lib.hid (fun w => below_of_same (fun w => ref7_size x w (by omega)) w)
  have Z2 := Lib.hid (fun w => below_of_same (fun w => ref7_size y w (by omega)) w)
  have Z3 := Lib.hid (fun w => below_of_same (fun w => ref7_size z w (by omega)) w)
  unfold bax
  dsimp only
  clear hx hy hz
  generalize (x.natAbs : Int) = a at *
  generalize (y.natAbs : Int) = b at *
  generalize (z.natAbs : Int) = c at *
  obtain ⟨R, hR⟩ : ∃ R : Int × Int × Int, R = if a ≤ b ∧ a ≤ c then (1, 0, 0) else if b ≤ c then (0, 1, 0) else (0, 0, 1) := ⟨_, rfl⟩
  rw [← hR]
  have hc : (a ≤ b ∧ a ≤ c) ∨ (a ≤ b ∧ ¬ a ≤ c ∧ b ≤ c) ∨ (a ≤ b ∧ ¬ a ≤ c ∧ ¬ b ≤ c) ∨ (¬ a ≤ b ∧ b ≤ c) ∨ (¬ a ≤ b ∧ ¬ b ≤ c) := by omega
  go_enter Try.func27, Try.ntmps27
  go_upto_region 1 with (fail)
  obtain ⟨W1, hW1⟩ : ∃ W, W = (w.alloc (.cells #[.int .i64 x, .int .i64 y, .int .i64 z] 23)).alloc (.cells #[.int .i64 0, .int .i64 0, .int .i64 0] 23) := ⟨_, rfl⟩
  have B1 : Below w.heap.size w W1 := by rw [hW1]; go_grown
  have k_v : Bk W1 (w.heap.size) 23 #[.int .i64 x, .int .i64 y, .int .i64 z] := by rw [hW1]; exact (Bk.new _ _ _).alloc _
  have k_r : Bk W1 (w.heap.size + 1) 23 #[.int .i64 0, .int .i64 0, .int .i64 0] := by rw [hW1]; exact Bk.new_at _ _ _ _ (by simp)
  rw [← hW1]
  clear hW1
  have l_r : w.heap.size < w.heap.size + 1 := by omega
  generalize w.heap.size + 1 = g_r at *
  have c_v_0 : ∀ p : BW W1, p.w.cell? ⟨w.heap.size, 0, none⟩ = some (.int .i64 x) := bw_cell (k_v.cell rfl)
  have c_v_1 : ∀ p : BW W1, p.w.cell? ⟨w.heap.size, 1, none⟩ = some (.int .i64 y) := bw_cell (k_v.cell rfl)
  have c_v_2 : ∀ p : BW W1, p.w.cell? ⟨w.heap.size, 2, none⟩ = some (.int .i64 z) := bw_cell (k_v.cell rfl)
  have c_r_0 : ∀ p : BW W1, p.w.cell? ⟨g_r, 0, none⟩ = some (.int .i64 0) := bw_cell (k_r.cell rfl)
  have f_r_0 : ∀ p : BW W1, p.w.frozen? ⟨g_r, 0, none⟩ = false := fun p => (k_r.below p.h).frozen 0
  have c_r_1 : ∀ p : BW W1, p.w.cell? ⟨g_r, 1, none⟩ = some (.int .i64 0) := bw_cell (k_r.cell rfl)
  have f_r_1 : ∀ p : BW W1, p.w.frozen? ⟨g_r, 1, none⟩ = false := fun p => (k_r.below p.h).frozen 1
  have c_r_2 : ∀ p : BW W1, p.w.cell? ⟨g_r, 2, none⟩ = some (.int .i64 0) := bw_cell (k_r.cell rfl)
  have f_r_2 : ∀ p : BW W1, p.w.frozen? ⟨g_r, 2, none⟩ = false := fun p => (k_r.below p.h).frozen 2
  obtain ⟨p1, hp1⟩ : ∃ p : BW W1, p.w = W1 := ⟨BW.start W1, rfl⟩
  rw [← hp1]
  clear hp1
  refine wp_region_bw (by kernel_rfl) (by kernel_rfl) ?_
  repeat (go_big_quiet_step (first
    | (go_at_call 51; (first | (with_reducible exact bw_call Z1.out _) | (with_reducible exact bw_call Z2.out _) | (with_reducible exact bw_call Z3.out _)))))
  refine wpQuiet_nil ?_
  intro _ hw'
  obtain ⟨q, rfl⟩ := hw'
  rcases hc with ⟨h1, h2⟩ | ⟨h1, h2, h3⟩ | ⟨h1, h2, h3⟩ | ⟨h1, h3⟩ | ⟨h1, h3⟩
  · obtain rfl : R = (1, 0, 0) := by rw [hR]; rw [if_pos ⟨h1, h2⟩]
    clear hR
    have t1 : decide (a ≤ b) = true := decide_eq_true h1
    have t2 : decide (a ≤ c) = true := decide_eq_true h2
    clear h1 h2
    go_wp2
    have kr : Bk (((q.w.setCell ⟨g_r, 0, none⟩ (.int .i64 1)).setCell ⟨g_r, 1, none⟩ (.int .i64 0)).setCell ⟨g_r, 2, none⟩ (.int .i64 0)) (g_r) 23 #[.int .i64 1, .int .i64 0, .int .i64 0] := ((((k_r.below q.h).set 0 (.int .i64 1)).set 1 (.int .i64 0)).set 2 (.int .i64 0))
    have r0 : World.cell? (((q.w.setCell ⟨g_r, 0, none⟩ (.int .i64 1)).setCell ⟨g_r, 1, none⟩ (.int .i64 0)).setCell ⟨g_r, 2, none⟩ (.int .i64 0)) ⟨g_r, 0, none⟩ = some (.int .i64 1) := kr.cell rfl
    have r1 : World.cell? (((q.w.setCell ⟨g_r, 0, none⟩ (.int .i64 1)).setCell ⟨g_r, 1, none⟩ (.int .i64 0)).setCell ⟨g_r, 2, none⟩ (.int .i64 0)) ⟨g_r, 1, none⟩ = some (.int .i64 0) := kr.cell rfl
    have r2 : World.cell? (((q.w.setCell ⟨g_r, 0, none⟩ (.int .i64 1)).setCell ⟨g_r, 1, none⟩ (.int .i64 0)).setCell ⟨g_r, 2, none⟩ (.int .i64 0)) ⟨g_r, 2, none⟩ = some (.int .i64 0) := kr.cell rfl
    exact bodyPost_ret (v := .agg #[.int .i64 1, .int .i64 0, .int .i64 0]) (by simp [results, Try.results27, go_sem, r0, r1, r2]) rfl ⟨rfl, ((((bw_below B1 q).setCell (p := ⟨g_r, 0, none⟩) (by show w.heap.size ≤ g_r; omega) _).setCell (p := ⟨g_r, 1, none⟩) (by show w.heap.size ≤ g_r; omega) _).setCell (p := ⟨g_r, 2, none⟩) (by show w.heap.size ≤ g_r; omega) _)⟩
  · obtain rfl : R = (0, 1, 0) := by rw [hR]; rw [if_neg (fun h => h2 h.2), if_pos h3]
    clear hR
    have t1 : decide (a ≤ b) = true := decide_eq_true h1
    have t2 : decide (a ≤ c) = false := decide_eq_false h2
    have t3 : decide (b ≤ c) = true := decide_eq_true h3
    clear h1 h2 h3
    go_wp2
    have kr : Bk (((q.w.setCell ⟨g_r, 0, none⟩ (.int .i64 0)).setCell ⟨g_r, 1, none⟩ (.int .i64 1)).setCell ⟨g_r, 2, none⟩ (.int .i64 0)) (g_r) 23 #[.int .i64 0, .int .i64 1, .int .i64 0] := ((((k_r.below q.h).set 0 (.int .i64 0)).set 1 (.int .i64 1)).set 2 (.int .i64 0))
    have r0 : World.cell? (((q.w.setCell ⟨g_r, 0, none⟩ (.int .i64 0)).setCell ⟨g_r, 1, none⟩ (.int .i64 1)).setCell ⟨g_r, 2, none⟩ (.int .i64 0)) ⟨g_r, 0, none⟩ = some (.int .i64 0) := kr.cell rfl
    have r1 : World.cell? (((q.w.setCell ⟨g_r, 0, none⟩ (.int .i64 0)).setCell ⟨g_r, 1, none⟩ (.int .i64 1)).setCell ⟨g_r, 2, none⟩ (.int .i64 0)) ⟨g_r, 1, none⟩ = some (.int .i64 1) := kr.cell rfl
    have r2 : World.cell? (((q.w.setCell ⟨g_r, 0, none⟩ (.int .i64 0)).setCell ⟨g_r, 1, none⟩ (.int .i64 1)).setCell ⟨g_r, 2, none⟩ (.int .i64 0)) ⟨g_r, 2, none⟩ = some (.int .i64 0) := kr.cell rfl
    exact bodyPost_ret (v := .agg #[.int .i64 0, .int .i64 1, .int .i64 0]) (by simp [results, Try.results27, go_sem, r0, r1, r2]) rfl ⟨rfl, ((((bw_below B1 q).setCell (p := ⟨g_r, 0, none⟩) (by show w.heap.size ≤ g_r; omega) _).setCell (p := ⟨g_r, 1, none⟩) (by show w.heap.size ≤ g_r; omega) _).setCell (p := ⟨g_r, 2, none⟩) (by show w.heap.size ≤ g_r; omega) _)⟩
  · obtain rfl : R = (0, 0, 1) := by rw [hR]; rw [if_neg (fun h => h2 h.2), if_neg h3]
    clear hR
    have t1 : decide (a ≤ b) = true := decide_eq_true h1
    have t2 : decide (a ≤ c) = false := decide_eq_false h2
    have t3 : decide (b ≤ c) = false := decide_eq_false h3
    clear h1 h2 h3
    go_wp2
    have kr : Bk (((q.w.setCell ⟨g_r, 0, none⟩ (.int .i64 0)).setCell ⟨g_r, 1, none⟩ (.int .i64 0)).setCell ⟨g_r, 2, none⟩ (.int .i64 1)) (g_r) 23 #[.int .i64 0, .int .i64 0, .int .i64 1] := ((((k_r.below q.h).set 0 (.int .i64 0)).set 1 (.int .i64 0)).set 2 (.int .i64 1))
    have r0 : World.cell? (((q.w.setCell ⟨g_r, 0, none⟩ (.int .i64 0)).setCell ⟨g_r, 1, none⟩ (.int .i64 0)).setCell ⟨g_r, 2, none⟩ (.int .i64 1)) ⟨g_r, 0, none⟩ = some (.int .i64 0) := kr.cell rfl
    have r1 : World.cell? (((q.w.setCell ⟨g_r, 0, none⟩ (.int .i64 0)).setCell ⟨g_r, 1, none⟩ (.int .i64 0)).setCell ⟨g_r, 2, none⟩ (.int .i64 1)) ⟨g_r, 1, none⟩ = some (.int .i64 0) := kr.cell rfl
    have r2 : World.cell? (((q.w.setCell ⟨g_r, 0, none⟩ (.int .i64 0)).setCell ⟨g_r, 1, none⟩ (.int .i64 0)).setCell ⟨g_r, 2, none⟩ (.int .i64 1)) ⟨g_r, 2, none⟩ = some (.int .i64 1) := kr.cell rfl
    exact bodyPost_ret (v := .agg #[.int .i64 0, .int .i64 0, .int .i64 1]) (by simp [results, Try.results27, go_sem, r0, r1, r2]) rfl ⟨rfl, ((((bw_below B1 q).setCell (p := ⟨g_r, 0, none⟩) (by show w.heap.size ≤ g_r; omega) _).setCell (p := ⟨g_r, 1, none⟩) (by show w.heap.size ≤ g_r; omega) _).setCell (p := ⟨g_r, 2, none⟩) (by show w.heap.size ≤ g_r; omega) _)⟩
  · obtain rfl : R = (0, 1, 0) := by rw [hR]; rw [if_neg (fun h => h1 h.1), if_pos h3]
    clear hR
    have t1 : decide (a ≤ b) = false := decide_eq_false h1
    have t3 : decide (b ≤ c) = true := decide_eq_true h3
    clear h1 h3
    go_wp2
    have kr : Bk (((q.w.setCell ⟨g_r, 0, none⟩ (.int .i64 0)).setCell ⟨g_r, 1, none⟩ (.int .i64 1)).setCell ⟨g_r, 2, none⟩ (.int .i64 0)) (g_r) 23 #[.int .i64 0, .int .i64 1, .int .i64 0] := ((((k_r.below q.h).set 0 (.int .i64 0)).set 1 (.int .i64 1)).set 2 (.int .i64 0))
    have r0 : World.cell? (((q.w.setCell ⟨g_r, 0, none⟩ (.int .i64 0)).setCell ⟨g_r, 1, none⟩ (.int .i64 1)).setCell ⟨g_r, 2, none⟩ (.int .i64 0)) ⟨g_r, 0, none⟩ = some (.int .i64 0) := kr.cell rfl
    have r1 : World.cell? (((q.w.setCell ⟨g_r, 0, none⟩ (.int .i64 0)).setCell ⟨g_r, 1, none⟩ (.int .i64 1)).setCell ⟨g_r, 2, none⟩ (.int .i64 0)) ⟨g_r, 1, none⟩ = some (.int .i64 1) := kr.cell rfl
    have r2 : World.cell? (((q.w.setCell ⟨g_r, 0, none⟩ (.int .i64 0)).setCell ⟨g_r, 1, none⟩ (.int .i64 1)).setCell ⟨g_r, 2, none⟩ (.int .i64 0)) ⟨g_r, 2, none⟩ = some (.int .i64 0) := kr.cell rfl
    exact bodyPost_ret (v := .agg #[.int .i64 0, .int .i64 1, .int .i64 0]) (by simp [results, Try.results27, go_sem, r0, r1, r2]) rfl ⟨rfl, ((((bw_below B1 q).setCell (p := ⟨g_r, 0, none⟩) (by show w.heap.size ≤ g_r; omega) _).setCell (p := ⟨g_r, 1, none⟩) (by show w.heap.size ≤ g_r; omega) _).setCell (p := ⟨g_r, 2, none⟩) (by show w.heap.size ≤ g_r; omega) _)⟩
  · obtain rfl : R = (0, 0, 1) := by rw [hR]; rw [if_neg (fun h => h1 h.1), if_neg h3]
    clear hR
    have t1 : decide (a ≤ b) = false := decide_eq_false h1
    have t3 : decide (b ≤ c) = false := decide_eq_false h3
    clear h1 h3
    go_wp2
    have kr : Bk (((q.w.setCell ⟨g_r, 0, none⟩ (.int .i64 0)).setCell ⟨g_r, 1, none⟩ (.int .i64 0)).setCell ⟨g_r, 2, none⟩ (.int .i64 1)) (g_r) 23 #[.int .i64 0, .int .i64 0, .int .i64 1] := ((((k_r.below q.h).set 0 (.int .i64 0)).set 1 (.int .i64 0)).set 2 (.int .i64 1))
    have r0 : World.cell? (((q.w.setCell ⟨g_r, 0, none⟩ (.int .i64 0)).setCell ⟨g_r, 1, none⟩ (.int .i64 0)).setCell ⟨g_r, 2, none⟩ (.int .i64 1)) ⟨g_r, 0, none⟩ = some (.int .i64 0) := kr.cell rfl
    have r1 : World.cell? (((q.w.setCell ⟨g_r, 0, none⟩ (.int .i64 0)).setCell ⟨g_r, 1, none⟩ (.int .i64 0)).setCell ⟨g_r, 2, none⟩ (.int .i64 1)) ⟨g_r, 1, none⟩ = some (.int .i64 0) := kr.cell rfl
    have r2 : World.cell? (((q.w.setCell ⟨g_r, 0, none⟩ (.int .i64 0)).setCell ⟨g_r, 1, none⟩ (.int .i64 0)).setCell ⟨g_r, 2, none⟩ (.int .i64 1)) ⟨g_r, 2, none⟩ = some (.int .i64 1) := kr.cell rfl
    exact bodyPost_ret (v := .agg #[.int .i64 0, .int .i64 0, .int .i64 1]) (by simp [results, Try.results27, go_sem, r0, r1, r2]) rfl ⟨rfl, ((((bw_below B1 q).setCell (p := ⟨g_r, 0, none⟩) (by show w.heap.size ≤ g_r; omega) _).setCell (p := ⟨g_r, 1, none⟩) (by show w.heap.size ≤ g_r; omega) _).setCell (p := ⟨g_r, 2, none⟩) (by show w.heap.size ≤ g_r; omega) _)⟩

set_option maxHeartbeats 2000000 in
theorem ref7_Near (u1 u2 u3 v1 v2 v3 n1 n2 n3 : Int) (w : World) :
    Calls Try.prog 34 #[.agg #[.int .i64 u1, .int .i64 u2, .int .i64 u3, .int .i64 v1, .int .i64 v2, .int .i64 v3, .int .i64 n1, .int .i64 n2, .int .i64 n3]] w fun e w' => e = .returned (.bool (vnear u1 u2 u3 && (vnear v1 v2 v3 && vnear n1 n2 n3))) ∧ Below w.heap.size w w' := by
  have N1 := Lib.hid (fun w => ref6_Near u1 u2 u3 w)
  have N2 := Lib.hid (fun w => ref6_Near v1 v2 v3 w)
  have N3 := Lib.hid (fun w => ref6_Near n1 n2 n3 w)
  generalize vnear u1 u2 u3 = a at *
  generalize vnear v1 v2 v3 = b at *
  generalize vnear n1 n2 n3 = c at *
  go_enter Try.func34, Try.ntmps34
  go_upto_region 1 with (fail)
  obtain ⟨W1, hW1⟩ : ∃ W, W = w.alloc (.cells #[.int .i64 u1, .int .i64 u2, .int .i64 u3, .int .i64 v1, .int .i64 v2, .int .i64 v3, .int .i64 n1, .int .i64 n2, .int .i64 n3] 25) := ⟨_, rfl⟩
  have B1 : Below w.heap.size w W1 := by rw [hW1]; go_grown
  have k_b : Bk W1 (w.heap.size) 25 #[.int .i64 u1, .int .i64 u2, .int .i64 u3, .int .i64 v1, .int .i64 v2, .int .i64 v3, .int .i64 n1, .int .i64 n2, .int .i64 n3] := by rw [hW1]; exact Bk.new _ _ _
  rw [← hW1]
  clear hW1
  have c_b_0 : ∀ p : BW W1, p.w.cell? ⟨w.heap.size, 0, none⟩ = some (.int .i64 u1) := bw_cell (k_b.cell rfl)
  have c_b_1 : ∀ p : BW W1, p.w.cell? ⟨w.heap.size, 1, none⟩ = some (.int .i64 u2) := bw_cell (k_b.cell rfl)
  have c_b_2 : ∀ p : BW W1, p.w.cell? ⟨w.heap.size, 2, none⟩ = some (.int .i64 u3) := bw_cell (k_b.cell rfl)
  have c_b_3 : ∀ p : BW W1, p.w.cell? ⟨w.heap.size, 3, none⟩ = some (.int .i64 v1) := bw_cell (k_b.cell rfl)
  have c_b_4 : ∀ p : BW W1, p.w.cell? ⟨w.heap.size, 4, none⟩ = some (.int .i64 v2) := bw_cell (k_b.cell rfl)
  have c_b_5 : ∀ p : BW W1, p.w.cell? ⟨w.heap.size, 5, none⟩ = some (.int .i64 v3) := bw_cell (k_b.cell rfl)
  have c_b_6 : ∀ p : BW W1, p.w.cell? ⟨w.heap.size, 6, none⟩ = some (.int .i64 n1) := bw_cell (k_b.cell rfl)
  have c_b_7 : ∀ p : BW W1, p.w.cell? ⟨w.heap.size, 7, none⟩ = some (.int .i64 n2) := bw_cell (k_b.cell rfl)
  have c_b_8 : ∀ p : BW W1, p.w.cell? ⟨w.heap.size, 8, none⟩ = some (.int .i64 n3) := bw_cell (k_b.cell rfl)
  obtain ⟨p1, hp1⟩ : ∃ p : BW W1, p.w = W1 := ⟨BW.start W1, rfl⟩
  rw [← hp1]
  clear hp1
  cases a <;> cases b <;> cases c
  all_goals
    go_wp2_with (first
      | (go_at_call 35; (first | (with_reducible refine (bw_call N1.out _).mono ?_) | (with_reducible refine (bw_call N2.out _).mono ?_) | (with_reducible refine (bw_call N3.out _).mono ?_)); rintro e w' ⟨rfl, q, rfl⟩))
    go_ret
    exact ⟨rfl, bw_below B1 _⟩

end Go.Proofs.Ytijphipinjlmbaa
