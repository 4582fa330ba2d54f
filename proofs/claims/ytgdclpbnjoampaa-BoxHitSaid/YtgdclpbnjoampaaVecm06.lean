/- Contracts of package vec: the closures, product, Near, normalize. -/
import Derived.Test.YtgdclpbnjoampaaVecl06
import Derived.Test.YtgdclpbnjoampaaRefb06
namespace Go.Proofs.Ytgdclpbnjoampaa
open Go.RowKit Go.Shelf Go.Shelf Go.Proofs.Sky
set_option linter.unusedVariables false

theorem vec_turned (n : Int) (w : World) (hn : I64 n) :
    Calls Try.prog 37 #[.int .i64 n] w fun e w' => e = .returned (.int .i64 (sat (n * -1))) ∧ Below w.heap.size w w' := by
  have K := Lib.hid (fun w => num_Times n (-1) w hn (by unfold I64; omega))
  generalize sat (n * -1) = r at *
  clear hn
  go_enter Try.func37, Try.ntmps37
  go_wp2_with (go_at_call 38; (with_reducible refine (K.out _).mono ?_); rintro e w' ⟨rfl, rfl⟩)
  go_ret
  exact ⟨rfl, Below.refl _ _⟩

theorem vec_Near (x y z : Int) (w : World) :
    Calls Try.prog 21 #[.agg #[.int .i64 x, .int .i64 y, .int .i64 z]] w fun r w' => r = .returned (.bool (vnear x y z)) ∧ Below w.heap.size w w' := by
  have K := Lib.hid (fun w => vec_within 1048576 x y z w (by omega))
  unfold vnear
  generalize wi 1048576 x y z = r at *
  have hb0 : Below w.heap.size w (w.alloc (.cells #[.int .i64 x, .int .i64 y, .int .i64 z] 23)) := by go_grown
  go_enter Try.func21, Try.ntmps21
  go_wp2_with (go_at_call 30; (with_reducible refine (K.out _).mono ?_); rintro e w1 ⟨rfl, hb⟩)
  go_ret
  exact ⟨rfl, hb0.trans (hb.mono hb0.size)⟩

end Go.Proofs.Ytgdclpbnjoampaa
