/- Contracts of package num (all but Root and Part), over the plain mathematics of Math01. -/
import Derived.Test.YtppfemaolaigoaaProg
import Derived.Test.YtppfemaolaigoaaMath01
import Derived.Test.YtppfemaolaigoaaShelf
import Derived.WalkKit
import Derived.WalkLawsBesides
import Derived.WalkSpells
namespace Go.Proofs.Ytppfemaolaigoaa
open Go.RowKit Go.Proofs.Sky
set_option linter.unusedVariables false

theorem ret_int {k : IntKind} {a b : Int} (h : a = b) : Ending.returned (.int k a) = .returned (.int k b) := by rw [h]

theorem num_Div (a b : Int) (w : World) (ha : I64 a) (hb : I64 b) :
    Calls Try.prog 36 #[.int .i64 a, .int .i64 b] w fun e w' => e = .returned (.int .i64 (dv a b)) ∧ w = w' := by
  obtain ⟨a1, a2⟩ := ha; obtain ⟨b1, b2⟩ := hb
  go_enter Try.func36, Try.ntmps36
  go_wp2
  · go_ret; exact ⟨ret_int (by unfold dv; rw [if_pos (by assumption)]), rfl⟩
  · have hb1 : 1 ≤ b := by assumption
    have t := (tdm (a := a) hb1).1 (by assumption)
    have l := (ediv_le_pos (a := a) hb1)
    go_ret
    exact ⟨ret_int (by
      unfold dv; rw [if_neg (by omega), t.1]; exact IntWalk.wrap64_in _ (by by_cases h : 0 ≤ a <;> omega)), rfl⟩
  · have hb1 : 1 ≤ b := by assumption
    have t := (tdm (a := a) hb1).2 (by assumption)
    go_ret
    exact ⟨ret_int (by unfold dv; rw [if_neg (by omega), t.1]), rfl⟩

theorem num_clampI (n a b : Int) (w : World) :
    Calls Try.prog 45 #[.int .i64 n, .int .i64 a, .int .i64 b] w fun e w' => e = .returned (.int .i64 (hold n a b)) ∧ w = w' := by
  go_enter Try.func45, Try.ntmps45
  go_wp2
  all_goals (go_ret; exact ⟨ret_int (by unfold hold; (repeat' split) <;> omega), rfl⟩)

theorem num_Plus (a b : Int) (w : World) (ha : I64 a) (hb : I64 b) :
    Calls Try.prog 37 #[.int .i64 a, .int .i64 b] w fun e w' => e = .returned (.int .i64 (sat (a + b))) ∧ w = w' := by
  obtain ⟨a1, a2⟩ := ha; obtain ⟨b1, b2⟩ := hb
  go_enter Try.func37, Try.ntmps37
  go_wp2_with (go_at_call 45; refine (num_clampI _ _ _ _).mono ?_; rintro e w' ⟨rfl, rfl⟩)
  all_goals (go_ret; exact ⟨ret_int (by unfold hold sat; unfold wrap64; (repeat' split) <;> omega), rfl⟩)

theorem Mul64 (x y : Nat) (w : World) (hx : x < 18446744073709551616) (hy : y < 18446744073709551616) :
    Calls Try.prog 46 #[.int .u64 x, .int .u64 y] w fun e w' => e = .returned (.tuple #[.int .u64 ((x * y / 18446744073709551616 : Nat) : Int), .int .u64 ((x * y % 18446744073709551616 : Nat) : Int)]) ∧ w = w' :=
  (Try.bits_Mul64 x y hx hy w).mono fun e w' ⟨h1, h2⟩ => ⟨h1, h2.symm⟩

end Go.Proofs.Ytppfemaolaigoaa
