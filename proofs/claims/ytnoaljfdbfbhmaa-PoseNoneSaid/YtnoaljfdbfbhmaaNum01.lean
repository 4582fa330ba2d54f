/- Contracts of package num (all but Root and Part), over the plain mathematics of Math01. -/
import Derived.Test.YtnoaljfdbfbhmaaProg
import Derived.Test.YtnoaljfdbfbhmaaMath01
import Derived.Test.YtnoaljfdbfbhmaaShelf
import Derived.WalkKit
import Derived.WalkLawsBesides
import Derived.WalkSpells
namespace Go.Proofs.Ytnoaljfdbfbhmaa
open Go.RowKit Go.Proofs.Sky
set_option linter.unusedVariables false

theorem ret_int {k : IntKind} {a b : Int} (h : a = b) : Ending.returned (.int k a) = .returned (.int k b) := by rw [h]

theorem num_Div (a b : Int) (w : World) (ha : I64 a) (hb : I64 b) :
    Calls Try.prog 35 #[.int .i64 a, .int .i64 b] w fun e w' => e = .returned (.int .i64 (dv a b)) ∧ w = w' := by
  obtain ⟨a1, a2⟩ := ha; obtain ⟨b1, b2⟩ := hb
  go_enter Try.func35, Try.ntmps35
  go_wp2
  · go_ret; exact ⟨ret_int (by unfold dv; rw [if_pos (by assumption)]), rfl⟩
  · have hb1 : 1 ≤ b := by assumption
    have t := (tdm (a := a) hb1).1 (by assumption)
    have l := (ediv_le_pos (a := a) hb1)
    go_ret
    exact ⟨ret_int (by
      unfold dv; rw [if_neg (by omega), t.1]; exact IntWalk.wrap64_in _ (by by_cases h : 0 ≤ a <;> omega)), rfl⟩
  · have hb1 : 1 ≤ b := by assumption
    have t := (tdm (a := a) hb1).2 (by assumption)
    go_ret
    exact ⟨ret_int (by unfold dv; rw [if_neg (by omega), t.1]), rfl⟩

theorem num_Mod (a b : Int) (w : World) (ha : I64 a) (hb : I64 b) :
    Calls Try.prog 53 #[.int .i64 a, .int .i64 b] w fun e w' => e = .returned (.int .i64 (md a b)) ∧ w = w' := by
  obtain ⟨a1, a2⟩ := ha; obtain ⟨b1, b2⟩ := hb
  go_enter Try.func53, Try.ntmps53
  go_wp2
  · go_ret; exact ⟨ret_int (by unfold md; rw [if_pos (by assumption)]), rfl⟩
  · have hb1 : 1 ≤ b := by assumption
    have t := (tdm (a := a) hb1).1 (by assumption)
    have l := Int.emod_lt_of_pos a (show 0 < b by omega)
    have l' := Int.emod_nonneg a (show b ≠ 0 by omega)
    go_ret
    exact ⟨ret_int (by
      unfold md; rw [if_neg (by omega), t.2]; exact IntWalk.wrap64_in _ (by omega)), rfl⟩
  · have hb1 : 1 ≤ b := by assumption
    have t := (tdm (a := a) hb1).2 (by assumption)
    go_ret
    exact ⟨ret_int (by unfold md; rw [if_neg (by omega), t.2]), rfl⟩

theorem num_clampI (n a b : Int) (w : World) :
    Calls Try.prog 56 #[.int .i64 n, .int .i64 a, .int .i64 b] w fun e w' => e = .returned (.int .i64 (hold n a b)) ∧ w = w' := by
  go_enter Try.func56, Try.ntmps56
  go_wp2
  all_goals (go_ret; exact ⟨ret_int (by unfold hold; (repeat' split) <;> omega), rfl⟩)

theorem num_Plus (a b : Int) (w : World) (ha : I64 a) (hb : I64 b) :
    Calls Try.prog 51 #[.int .i64 a, .int .i64 b] w fun e w' => e = .returned (.int .i64 (sat (a + b))) ∧ w = w' := by
  obtain ⟨a1, a2⟩ := ha; obtain ⟨b1, b2⟩ := hb
  go_enter Try.func51, Try.ntmps51
  go_wp2_with (go_at_call 56; refine (num_clampI _ _ _ _).mono ?_; rintro e w' ⟨rfl, rfl⟩)
  all_goals (go_ret; exact ⟨ret_int (by unfold hold sat; unfold wrap64; (repeat' split) <;> omega), rfl⟩)

end Go.Proofs.Ytnoaljfdbfbhmaa
