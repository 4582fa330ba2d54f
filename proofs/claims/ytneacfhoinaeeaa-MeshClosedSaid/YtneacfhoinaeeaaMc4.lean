/- Contracts of package num (all but Root and Part), over the plain mathematics of Math01. -/
import Derived.Test.YtneacfhoinaeeaaProg
import Derived.Test.YtneacfhoinaeeaaMc2
import Derived.Test.YtneacfhoinaeeaaShelf
import Derived.WalkKit
import Derived.WalkLawsBesides
import Derived.WalkSpells


namespace Go.Proofs.Ytneacfhoinaeeaa
section

open Go.RowKit Go.Proofs.Sky

set_option linter.unusedVariables false

theorem ret_int {k : IntKind} {a b : Int} (h : a = b) : Ending.returned (.int k a) = .returned (.int k b) := by rw [h]

theorem num_Div (a b : Int) (w : World) (ha : I64 a) (hb : I64 b) :
    Calls Try.prog 59 #[.int .i64 a, .int .i64 b] w fun e w' => e = .returned (.int .i64 (dv a b)) ∧ w = w' := by
  obtain ⟨a1, a2⟩ := ha; obtain ⟨b1, b2⟩ := hb
  go_enter Try.func59, Try.ntmps59
  go_wp2
  · go_ret; exact ⟨ret_int (by unfold dv; rw [if_pos (by assumption)]), rfl⟩
  · have hb1 : 1 ≤ b := by assumption
    have t := (tdm (a := a) hb1).1 (by assumption)
    have l := (ediv_le_pos (a := a) hb1)
    go_ret
    exact ⟨ret_int (by
      unfold dv; rw [if_neg (by omega), t.1]; exact IntWalk.wrap64_in _ (by by_cases h : 0 ≤ a <;> omega)), rfl⟩
  · have hb1 : 1 ≤ b := by assumption
    have t := (tdm (a := a) hb1).2 (by assumption)
    go_ret
    exact ⟨ret_int (by unfold dv; rw [if_neg (by omega), t.1]), rfl⟩

theorem num_Mod (a b : Int) (w : World) (ha : I64 a) (hb : I64 b) :
    Calls Try.prog 47 #[.int .i64 a, .int .i64 b] w fun e w' => e = .returned (.int .i64 (md a b)) ∧ w = w' := by
  obtain ⟨a1, a2⟩ := ha; obtain ⟨b1, b2⟩ := hb
  go_enter Try.func47, Try.ntmps47
  go_wp2
  · go_ret; exact ⟨ret_int (by unfold md; rw [if_pos (by assumption)]), rfl⟩
  · have hb1 : 1 ≤ b := by assumption
    have t := (tdm (a := a) hb1).1 (by assumption)
    have l := Int.emod_lt_of_pos a (show 0 < b by omega)
    have l' := Int.emod_nonneg a (show b ≠ 0 by omega)
    go_ret
    exact ⟨ret_int (by
      unfold md; rw [if_neg (by omega), t.2]; exact IntWalk.wrap64_in _ (by omega)), rfl⟩
  · have hb1 : 1 ≤ b := by assumption
    have t := (tdm (a := a) hb1).2 (by assumption)
    go_ret
    exact ⟨ret_int (by unfold md; rw [if_neg (by omega), t.2]), rfl⟩

theorem num_clampI (n a b : Int) (w : World) :
    Calls Try.prog 85 #[.int .i64 n, .int .i64 a, .int .i64 b] w fun e w' => e = .returned (.int .i64 (hold n a b)) ∧ w = w' := by
  go_enter Try.func85, Try.ntmps85
  go_wp2
  all_goals (go_ret; exact ⟨ret_int (by unfold hold; (repeat' split) <;> omega), rfl⟩)

theorem num_clampU (n a b : Int) (w : World) :
    Calls Try.prog 89 #[.int .u64 n, .int .u64 a, .int .u64 b] w fun e w' => e = .returned (.int .u64 (hold n a b)) ∧ w = w' := by
  go_enter Try.func89, Try.ntmps89
  go_wp2
  all_goals (go_ret; exact ⟨ret_int (by unfold hold; (repeat' split) <;> omega), rfl⟩)

theorem num_Plus (a b : Int) (w : World) (ha : I64 a) (hb : I64 b) :
    Calls Try.prog 77 #[.int .i64 a, .int .i64 b] w fun e w' => e = .returned (.int .i64 (sat (a + b))) ∧ w = w' := by
  obtain ⟨a1, a2⟩ := ha; obtain ⟨b1, b2⟩ := hb
  go_enter Try.func77, Try.ntmps77
  go_wp2_with (go_at_call 85; refine (num_clampI _ _ _ _).mono ?_; rintro e w' ⟨rfl, rfl⟩)
  all_goals (go_ret; exact ⟨ret_int (by unfold hold sat; unfold wrap64; (repeat' split) <;> omega), rfl⟩)

theorem num_magnitude (a : Int) (w : World) (ha : I64 a) :
    Calls Try.prog 88 #[.int .i64 a] w fun e w' => e = .returned (.int .u64 (a.natAbs : Int)) ∧ w = w' := by
  obtain ⟨a1, a2⟩ := ha
  go_enter Try.func88, Try.ntmps88
  go_wp2
  · go_ret; exact ⟨ret_int (by rw [u64w, u64w]; omega), rfl⟩
  · go_ret; exact ⟨ret_int (by omega), rfl⟩

theorem Mul64 (x y : Nat) (w : World) (hx : x < 18446744073709551616) (hy : y < 18446744073709551616) :
    Calls Try.prog 87 #[.int .u64 x, .int .u64 y] w fun e w' => e = .returned (.tuple #[.int .u64 ((x * y / 18446744073709551616 : Nat) : Int), .int .u64 ((x * y % 18446744073709551616 : Nat) : Int)]) ∧ w = w' :=
  (Try.bits_Mul64 x y hx hy w).mono fun e w' ⟨h1, h2⟩ => ⟨h1, h2.symm⟩

theorem num_Times (a b : Int) (w : World) (ha : I64 a) (hb : I64 b) :
    Calls Try.prog 81 #[.int .i64 a, .int .i64 b] w fun e w' => e = .returned (.int .i64 (sat (a * b))) ∧ w = w' := by
  go_enter Try.func81, Try.ntmps81
  go_wp2_with (first
    | (go_at_call 88; refine (num_magnitude _ _ (by assumption)).mono ?_; rintro e w' ⟨rfl, rfl⟩)
    | (go_at_call 87; refine (Mul64 _ _ _ (by unfold I64 at *; omega) (by unfold I64 at *; omega)).mono ?_; rintro e w' ⟨rfl, rfl⟩)
    | (go_at_call 89; refine (num_clampU _ _ _ _).mono ?_; rintro e w' ⟨rfl, rfl⟩))
  all_goals
    go_ret
    refine ⟨ret_int ?_, rfl⟩
    have hp : 0 ≤ (a.natAbs : Int) * (b.natAbs : Int) := Int.mul_nonneg (by omega) (by omega)
    first
      | have ho := mul_opp (sgn_opp (by assumption)); rw [ho]
      | have ho := mul_same (sgn_same (by assumption)); rw [ho]
    clear ho
    generalize (a.natAbs : Int) * (b.natAbs : Int) = p at *
    unfold hold sat wrap64
    try rw [u64w]
    (repeat' split) <;> omega

end
end Go.Proofs.Ytneacfhoinaeeaa
