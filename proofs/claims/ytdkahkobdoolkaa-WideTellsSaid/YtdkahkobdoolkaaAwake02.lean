/- The chapter's examples hold: the contract of the statements' own awake, layer 2; of. -/
import Derived.Test.YtdkahkobdoolkaaWide01
import Derived.Test.YtdkahkobdoolkaaMem02
namespace Go.Proofs.Ytdkahkobdoolkaa
open Go.RowKit Go.Proofs.Sky
set_option linter.unusedVariables false

theorem law2_of (x : Int) (w : World) :
    Calls Try.prog 7 #[.agg #[.int .i64 (hii x), .int .u64 (lon x : Int)]] w fun e w' => e = .returned (.agg #[.int .i64 (hii x), .int .u64 (lon x : Int)]) ∧ Below w.heap.size w w' := by
  generalize hii x = h at *
  generalize lon x = l at *
  go_enter Try.func7, Try.ntmps7
  go_wp2
  go_returns
  exact ⟨rfl, by go_grown⟩

theorem aw2_Mul (w : World) : Calls Try.prog 14 #[.int .i64 4611686018427387904, .int .i64 4] w fun e w' => e = .returned (.agg #[.int .i64 1, .int .u64 0]) ∧ Below w.heap.size w w' := by
  have h := wide_Mul 4611686018427387904 4 w (by unfold I64; omega) (by unfold I64; omega)
  rw [show hii (4611686018427387904 * 4) = 1 by decide, show lon (4611686018427387904 * 4) = 0 by decide] at h
  exact h

theorem aw2_Over (w : World) : Calls Try.prog 9 #[.agg #[.int .i64 1, .int .u64 0], .int .i64 3] w fun e w' => e = .returned (.tuple #[.int .i64 6148914691236517205, .bool true]) ∧ Below w.heap.size w w' := by
  have h := wide_Over 18446744073709551616 3 w (by unfold W128; omega) (by unfold I64; omega)
  rw [show hii 18446744073709551616 = 1 by decide, show lon 18446744073709551616 = 0 by decide, show overQ 18446744073709551616 3 = 6148914691236517205 by decide, show overOk 18446744073709551616 3 = true by decide] at h
  exact h

theorem aw2_Of (w : World) : Calls Try.prog 12 #[.int .i64 (-1)] w fun e w' => e = .returned (.agg #[.int .i64 (-1), .int .u64 18446744073709551615]) ∧ Below w.heap.size w w' := by
  have h := wide_Of (-1) w (by unfold I64; omega)
  rw [show hii (-1) = -1 by decide, show lon (-1) = 18446744073709551615 by decide] at h
  exact h

theorem aw2_RootNo (w : World) : Calls Try.prog 6 #[.agg #[.int .i64 (-1), .int .u64 18446744073709551615]] w fun e w' => e = .returned (.tuple #[.int .u64 0, .bool false]) ∧ Below w.heap.size w w' := by
  have h := wide_Root_neg (-1) w (by unfold W128; omega) (by omega)
  rw [show hii (-1) = -1 by decide, show lon (-1) = 18446744073709551615 by decide] at h
  exact h

theorem aw2_Root (w : World) : Calls Try.prog 6 #[.agg #[.int .i64 1, .int .u64 0]] w fun e w' => e = .returned (.tuple #[.int .u64 4294967296, .bool true]) ∧ Below w.heap.size w w' := by
  have h := wide_Root_pos 18446744073709551616 w (by unfold W128; omega) (by omega)
  rw [show hii 18446744073709551616 = 1 by decide, show lon 18446744073709551616 = 0 by decide, show isq (Int.toNat 18446744073709551616) = 4294967296 from isq_eq (by unfold IsRoot; decide)] at h
  exact h

theorem awake02 (w : World) :
    Calls Try.prog 22 #[] w fun e w' => e = .returned (.bool true) ∧ Below w.heap.size w w' := by
  go_enter Try.func22, Try.ntmps22
  go_wp2_with (first
    | (go_at_call 14; refine (aw2_Mul _).mono ?_; rintro e wa ⟨rfl, hba⟩; obtain ⟨hca, hfa⟩ := bcell hba; have y0 : Below w.heap.size w wa := hba; have ys : w.heap.size ≤ wa.heap.size := hba.size)
    | (go_at_call 9; refine (aw2_Over _).mono ?_; rintro e wb ⟨rfl, hbb⟩; refine below1e (w := w) wa.heap.size ?_ hbb ?_ ?_; (focus go_grown); (focus (first | omega | (simp; done) | (simp; omega))); intro hcb hfb y0b x1b y1b y2b)
    | (go_at_call 12; refine (aw2_Of _).mono ?_; rintro e wc ⟨rfl, hbc⟩; refine below1e (w := w) wa.heap.size ?_ hbc ?_ ?_; (focus go_grown); (focus (first | omega | (simp; done) | (simp; omega))); intro hcc hfc y0c x1c y1c y2c)
    | (go_at_call 6; ((with_reducible refine (aw2_RootNo _).mono ?_)); rintro e wd ⟨rfl, hbd⟩; refine below1e (w := w) wa.heap.size ?_ hbd ?_ ?_; (focus go_grown); (focus (first | omega | (simp; done) | (simp; omega))); intro hcd hfd y0d x1d y1d y2d)
    | (go_at_call 6; ((with_reducible refine (aw2_Root _).mono ?_)); rintro e we ⟨rfl, hbe⟩; refine below1e (w := w) wa.heap.size ?_ hbe ?_ ?_; (focus go_grown); (focus (first | omega | (simp; done) | (simp; omega))); intro hce hfe y0e x1e y1e y2e))
  go_ret
  exact ⟨rfl, by go_grown⟩

end Go.Proofs.Ytdkahkobdoolkaa
