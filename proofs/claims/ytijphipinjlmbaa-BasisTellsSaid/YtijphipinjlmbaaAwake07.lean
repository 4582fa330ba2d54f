/- The chapter's example holds: the contract of the statements' own awake, layer 7. -/
import Derived.Test.YtijphipinjlmbaaBasis07
import Derived.Test.YtijphipinjlmbaaTail
import Derived.Deep.DeepCutAuto
namespace Go.Proofs.Ytijphipinjlmbaa
open Go.RowKit Go.Proofs.Sky
set_option linter.unusedVariables false

set_option maxRecDepth 100000 in
set_option maxHeartbeats 8000000 in
theorem awake07 (w : World) :
    Calls Try.prog 17 #[] w fun e w' => e = .returned (.bool true) ∧ Below w.heap.size w w' := by
  have O1 : Hid (∀ w, Calls Try.prog 6 #[.agg #[.int .i64 0, .int .i64 0, .int .i64 1]] w fun e w' => e = .returned (.tuple #[.agg #[.int .i64 0, .int .i64 (-16384), .int .i64 0, .int .i64 16384, .int .i64 0, .int .i64 0, .int .i64 0, .int .i64 0, .int .i64 16384], .bool true]) ∧ Below w.heap.size w w') := Lib.hid (fun w => by
    have h := basis_Of 0 0 1 w (by unfold I64; omega) (by unfold I64; omega) (by unfold I64; omega)
    rw [show bas 0 0 1 = ((0, -16384, 0), (16384, 0, 0), (0, 0, 16384)) by decide +kernel, show vuOk 0 0 1 = true by decide +kernel] at h
    exact h)
  have O0 : Hid (∀ w, Calls Try.prog 6 #[.agg #[.int .i64 0, .int .i64 0, .int .i64 0]] w fun e w' => e = .returned (.tuple #[.agg #[.int .i64 0, .int .i64 0, .int .i64 0, .int .i64 0, .int .i64 0, .int .i64 0, .int .i64 0, .int .i64 0, .int .i64 0], .bool false]) ∧ Below w.heap.size w w') := Lib.hid (fun w => by
    have h := basis_Of 0 0 0 w (by unfold I64; omega) (by unfold I64; omega) (by unfold I64; omega)
    rw [show bas 0 0 0 = ((0, 0, 0), (0, 0, 0), (0, 0, 0)) by decide +kernel, show vuOk 0 0 0 = false by decide +kernel] at h
    exact h)
  have M : Hid (∀ w, Calls Try.prog 13 #[.agg #[.int .i64 0, .int .i64 0, .int .i64 (-16384)], .agg #[.int .i64 0, .int .i64 0, .int .i64 16384]] w fun e w' => e = .returned (.agg #[.int .i64 0, .int .i64 0, .int .i64 16384]) ∧ Below w.heap.size w w') := Lib.hid (fun w => by
    have h := basis_Mirror 0 0 (-16384) 0 0 16384 w
    rw [show mir (0, 0, -16384) (0, 0, 16384) = (0, 0, 16384) by decide +kernel] at h
    exact h)
  have F : Hid (∀ w, Calls Try.prog 15 #[.agg #[.int .i64 0, .int .i64 0, .int .i64 16384], .agg #[.int .i64 0, .int .i64 0, .int .i64 16384]] w fun e w' => e = .returned (.agg #[.int .i64 0, .int .i64 0, .int .i64 (-16384)]) ∧ Below w.heap.size w w') := Lib.hid (fun w => by
    have h := basis_Facing 0 0 16384 0 0 16384 w
    rw [show fac (0, 0, 16384) (0, 0, 16384) = (0, 0, -16384) by decide +kernel] at h
    exact h)
  go_enter Try.func17, Try.ntmps17
  go_upto_region 2 with (go_at_call 6; (with_reducible refine (O1.out _).mono ?_); rintro e w1 ⟨rfl, hb1⟩)
  obtain ⟨W1, hW1⟩ : ∃ W, W = w1.alloc (.cells #[.int .i64 0, .int .i64 (-16384), .int .i64 0, .int .i64 16384, .int .i64 0, .int .i64 0, .int .i64 0, .int .i64 0, .int .i64 16384] 26) := ⟨_, rfl⟩
  have B1 : Below w.heap.size w W1 := by rw [hW1]; exact hb1.alloc hb1.size _
  have k_b : Bk W1 w1.heap.size 26 #[.int .i64 0, .int .i64 (-16384), .int .i64 0, .int .i64 16384, .int .i64 0, .int .i64 0, .int .i64 0, .int .i64 0, .int .i64 16384] := by rw [hW1]; exact Bk.new _ _ _
  have l_b : w.heap.size ≤ w1.heap.size := hb1.size
  rw [← hW1]
  clear hW1 hb1
  generalize w1.heap.size = g_b at *
  have c_b_0 : ∀ p : BW W1, p.w.cell? ⟨g_b, 0, none⟩ = some (.int .i64 0) := bw_cell (k_b.cell rfl)
  have c_b_1 : ∀ p : BW W1, p.w.cell? ⟨g_b, 1, none⟩ = some (.int .i64 (-16384)) := bw_cell (k_b.cell rfl)
  have c_b_2 : ∀ p : BW W1, p.w.cell? ⟨g_b, 2, none⟩ = some (.int .i64 0) := bw_cell (k_b.cell rfl)
  have c_b_3 : ∀ p : BW W1, p.w.cell? ⟨g_b, 3, none⟩ = some (.int .i64 16384) := bw_cell (k_b.cell rfl)
  have c_b_4 : ∀ p : BW W1, p.w.cell? ⟨g_b, 4, none⟩ = some (.int .i64 0) := bw_cell (k_b.cell rfl)
  have c_b_5 : ∀ p : BW W1, p.w.cell? ⟨g_b, 5, none⟩ = some (.int .i64 0) := bw_cell (k_b.cell rfl)
  have c_b_6 : ∀ p : BW W1, p.w.cell? ⟨g_b, 6, none⟩ = some (.int .i64 0) := bw_cell (k_b.cell rfl)
  have c_b_7 : ∀ p : BW W1, p.w.cell? ⟨g_b, 7, none⟩ = some (.int .i64 0) := bw_cell (k_b.cell rfl)
  have c_b_8 : ∀ p : BW W1, p.w.cell? ⟨g_b, 8, none⟩ = some (.int .i64 16384) := bw_cell (k_b.cell rfl)
  obtain ⟨p1, hp1⟩ : ∃ p : BW W1, p.w = W1 := ⟨BW.start W1, rfl⟩
  rw [← hp1]
  clear hp1
  go_upto_region 3 with (first
    | (go_at_call 6; (first | (with_reducible refine (bw_call O0.out _).mono ?_)); rintro e w' ⟨rfl, q, rfl⟩))
  obtain ⟨W2, hW2⟩ : ∃ W, W = q.w.alloc (.cells #[.int .i64 0, .int .i64 0, .int .i64 0, .int .i64 0, .int .i64 0, .int .i64 0, .int .i64 0, .int .i64 0, .int .i64 0] 26) := ⟨_, rfl⟩
  have B2 : Below w.heap.size w W2 := by rw [hW2]; exact (bw_below B1 q).alloc (bw_below B1 q).size _
  have l_e : g_b < q.w.heap.size := (k_b.below q.h).lt
  have k_b := (k_b.below q.h).alloc (.cells #[.int .i64 0, .int .i64 0, .int .i64 0, .int .i64 0, .int .i64 0, .int .i64 0, .int .i64 0, .int .i64 0, .int .i64 0] 26)
  rw [← hW2] at k_b
  have k_e : Bk W2 q.w.heap.size 26 #[.int .i64 0, .int .i64 0, .int .i64 0, .int .i64 0, .int .i64 0, .int .i64 0, .int .i64 0, .int .i64 0, .int .i64 0] := by rw [hW2]; exact Bk.new _ _ _
  rw [← hW2]
  clear hW2
  clear B1
  clear c_b_0 c_b_1 c_b_2 c_b_3 c_b_4 c_b_5 c_b_6 c_b_7 c_b_8
  generalize q.w.heap.size = g_e at *
  have c_b_0 : ∀ p : BW W2, p.w.cell? ⟨g_b, 0, none⟩ = some (.int .i64 0) := bw_cell (k_b.cell rfl)
  have c_b_1 : ∀ p : BW W2, p.w.cell? ⟨g_b, 1, none⟩ = some (.int .i64 (-16384)) := bw_cell (k_b.cell rfl)
  have c_b_2 : ∀ p : BW W2, p.w.cell? ⟨g_b, 2, none⟩ = some (.int .i64 0) := bw_cell (k_b.cell rfl)
  have c_b_3 : ∀ p : BW W2, p.w.cell? ⟨g_b, 3, none⟩ = some (.int .i64 16384) := bw_cell (k_b.cell rfl)
  have c_b_4 : ∀ p : BW W2, p.w.cell? ⟨g_b, 4, none⟩ = some (.int .i64 0) := bw_cell (k_b.cell rfl)
  have c_b_5 : ∀ p : BW W2, p.w.cell? ⟨g_b, 5, none⟩ = some (.int .i64 0) := bw_cell (k_b.cell rfl)
  have c_b_6 : ∀ p : BW W2, p.w.cell? ⟨g_b, 6, none⟩ = some (.int .i64 0) := bw_cell (k_b.cell rfl)
  have c_b_7 : ∀ p : BW W2, p.w.cell? ⟨g_b, 7, none⟩ = some (.int .i64 0) := bw_cell (k_b.cell rfl)
  have c_b_8 : ∀ p : BW W2, p.w.cell? ⟨g_b, 8, none⟩ = some (.int .i64 16384) := bw_cell (k_b.cell rfl)
  have c_e_0 : ∀ p : BW W2, p.w.cell? ⟨g_e, 0, none⟩ = some (.int .i64 0) := bw_cell (k_e.cell rfl)
  have c_e_1 : ∀ p : BW W2, p.w.cell? ⟨g_e, 1, none⟩ = some (.int .i64 0) := bw_cell (k_e.cell rfl)
  have c_e_2 : ∀ p : BW W2, p.w.cell? ⟨g_e, 2, none⟩ = some (.int .i64 0) := bw_cell (k_e.cell rfl)
  have c_e_3 : ∀ p : BW W2, p.w.cell? ⟨g_e, 3, none⟩ = some (.int .i64 0) := bw_cell (k_e.cell rfl)
  have c_e_4 : ∀ p : BW W2, p.w.cell? ⟨g_e, 4, none⟩ = some (.int .i64 0) := bw_cell (k_e.cell rfl)
  have c_e_5 : ∀ p : BW W2, p.w.cell? ⟨g_e, 5, none⟩ = some (.int .i64 0) := bw_cell (k_e.cell rfl)
  have c_e_6 : ∀ p : BW W2, p.w.cell? ⟨g_e, 6, none⟩ = some (.int .i64 0) := bw_cell (k_e.cell rfl)
  have c_e_7 : ∀ p : BW W2, p.w.cell? ⟨g_e, 7, none⟩ = some (.int .i64 0) := bw_cell (k_e.cell rfl)
  have c_e_8 : ∀ p : BW W2, p.w.cell? ⟨g_e, 8, none⟩ = some (.int .i64 0) := bw_cell (k_e.cell rfl)
  obtain ⟨p2, hp2⟩ : ∃ p : BW W2, p.w = W2 := ⟨BW.start W2, rfl⟩
  rw [← hp2]
  clear hp2
  refine wp_region_bw (by kernel_rfl) (by kernel_rfl) ?_
  repeat (go_big_quiet_step (first
    | (go_at_call 13; (first | (with_reducible exact bw_call M.out _)))
    | (go_at_call 15; (first | (with_reducible exact bw_call F.out _)))))
  refine wpQuiet_nil ?_
  intro _ hw'
  obtain ⟨q, rfl⟩ := hw'
  go_wp2
  go_ret
  exact ⟨rfl, bw_below B2 _⟩

end Go.Proofs.Ytijphipinjlmbaa
