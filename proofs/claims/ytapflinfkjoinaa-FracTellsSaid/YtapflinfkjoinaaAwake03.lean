/- The chapter's examples hold: the contract of the statements' own awake, layer 3. -/
import Derived.Test.YtapflinfkjoinaaLeastb
namespace Go.Proofs.Ytapflinfkjoinaa
open Go.RowKit Go.Proofs.Sky
set_option linter.unusedVariables false

theorem aw3_Make (w : World) : Calls Try.prog 7 #[.int .i64 1, .int .i64 (-3)] w fun e w' => e = .returned (.tuple #[.agg #[.int .i64 (-1), .int .i64 3], .bool true]) ∧ Below w.heap.size w w' := by
  have h := frac_Make 1 (-3) w (by unfold I64; omega) (by unfold I64; omega)
  rw [show fmake 1 (-3) = (-1, 3) by decide, show fmakeOk 1 (-3) = true by decide] at h
  exact h

theorem aw3_Less (w : World) : Calls Try.prog 11 #[.agg #[.int .i64 1, .int .i64 3], .agg #[.int .i64 2, .int .i64 5]] w fun e w' => e = .returned (.bool true) ∧ Below w.heap.size w w' := by
  have h := frac_Less 1 3 2 5 w (by unfold I64; omega) (by unfold I64; omega) (by unfold I64; omega) (by unfold I64; omega)
  rw [show fless 1 3 2 5 = true by decide] at h
  exact h

theorem aw3_At (w : World) : Calls Try.prog 17 #[.int .i64 10, .agg #[.int .i64 (-1), .int .i64 3]] w fun e w' => e = .returned (.int .i64 (-4)) ∧ Below w.heap.size w w' := by
  have h := frac_At 10 (-1) 3 w (by unfold I64; omega) (by unfold I64; omega) (by unfold I64; omega)
  rw [show fat 10 (-1) 3 = -4 by decide] at h
  exact h

def aw3N (k : Nat) : Int := if k = 0 then 2 else 1

theorem aw3_Least (b : Nat) (w : World) (hb : b < w.heap.size) (c0 : w.cell? ⟨b, 0, none⟩ = some (.int .i64 2)) (c1 : w.cell? ⟨b, 1, none⟩ = some (.int .i64 1)) (c2 : w.cell? ⟨b, 2, none⟩ = some (.int .i64 1)) (c3 : w.cell? ⟨b, 3, none⟩ = some (.int .i64 1))
    (c4 : w.cell? ⟨b, 4, none⟩ = some (.int .i64 1)) (c5 : w.cell? ⟨b, 5, none⟩ = some (.int .i64 1)) :
    Calls Try.prog 15 #[.slice (some ⟨b, 0, none⟩) 3 3] w fun e w' => e = .returned (.int .i64 1) ∧ Below w.heap.size w w' := by
  have h := frac_Least b 0 3 3 aw3N (fun _ => 1) w (fun k hk => by
      rcases k with _ | _ | _ | k
      · exact ⟨c0, c1⟩
      · exact ⟨c2, c3⟩
      · exact ⟨c4, c5⟩
      · omega) (fun k _ => by unfold aw3N I64; split <;> omega) hb (by omega)
  rw [show lst aw3N (fun _ => 1) 3 = 1 by decide] at h
  exact h

theorem awake03 (w : World) :
    Calls Try.prog 6 #[] w fun e w' => e = .returned (.bool true) ∧ Below w.heap.size w w' := by
  go_enter Try.func6, Try.ntmps6
  go_wp2_with (first
    | (go_at_call 7; refine (aw3_Make _).mono ?_; rintro e wa ⟨rfl, hba⟩; obtain ⟨hca, hfa⟩ := bcell hba; have y0 : Below w.heap.size w wa := hba; have ys : w.heap.size ≤ wa.heap.size := hba.size)
    | (go_at_call 11; refine (aw3_Less _).mono ?_; rintro e wb ⟨rfl, hbb⟩; refine below1e (w := w) wa.heap.size ?_ hbb ?_ ?_; (focus go_grown); (focus (first | omega | (simp; done) | (simp; omega))); intro hcb hfb y0b x1b y1b y2b)
    | (go_at_call 17; refine (aw3_At _).mono ?_; rintro e wc ⟨rfl, hbc⟩; refine below1e (w := w) wa.heap.size ?_ hbc ?_ ?_; (focus go_grown); (focus (first | omega | (simp; done) | (simp; omega))); intro hcc hfc y0c x1c y1c y2c)
    | (go_at_call 15; refine (aw3_Least wc.heap.size _ ?_ ?_ ?_ ?_ ?_ ?_ ?_).mono ?_; (focus (simp; done)); (focus (simp [go_sem]; done)); (focus (simp [go_sem]; done)); (focus (simp [go_sem]; done)); (focus (simp [go_sem]; done)); (focus (simp [go_sem]; done)); (focus (simp [go_sem]; done)); rintro e wd ⟨rfl, hbd⟩; refine below1e (w := w) wa.heap.size ?_ hbd ?_ ?_; (focus go_grown); (focus (first | omega | (simp; done) | (simp; omega))); intro hcd hfd y0d x1d y1d y2d))
  go_ret
  exact ⟨rfl, by go_grown⟩

end Go.Proofs.Ytapflinfkjoinaa
