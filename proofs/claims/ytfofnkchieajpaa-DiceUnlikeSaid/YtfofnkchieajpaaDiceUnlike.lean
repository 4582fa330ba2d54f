/- The walk of the statement DiceUnlike. -/
import Derived.Test.YtfofnkchieajpaaAwake04
namespace Go.Proofs.Ytfofnkchieajpaa
open Go.RowKit Go.Proofs.Sky
set_option linter.unusedVariables false

theorem law_DiceUnlike (x y s a b c : Int) (w : World) (hx : U64 x) (hy : U64 y) (hs : U64 s) (ha : I64 a) (hb : I64 b) (hc : I64 c) :
    Calls Try.prog 4 #[.int .u64 x, .int .u64 y, .int .u64 s, .int .i64 a, .int .i64 b, .int .i64 c] w fun e w' => e = .returned (.bool true) ∧ Below w.heap.size w w' := by
  obtain ⟨X, rfl⟩ := Int.eq_ofNat_of_zero_le hx.1
  obtain ⟨Y, rfl⟩ := Int.eq_ofNat_of_zero_le hy.1
  obtain ⟨S, rfl⟩ := Int.eq_ofNat_of_zero_le hs.1
  have hX : X < 18446744073709551616 := by unfold U64 at hx; omega
  have hY : Y < 18446744073709551616 := by unfold U64 at hy; omega
  have hS : S < 18446744073709551616 := by unfold U64 at hs; omega
  have K1 := Lib.hid (fun w => dice_Mix X w hX)
  have K2 := Lib.hid (fun w => dice_Mix Y w hY)
  have U : Hid (∀ w, Calls Try.prog 13 #[.int .u64 (mixN X : Nat)] w fun e w' => e = .returned (.int .u64 X) ∧ Below w.heap.size w w') := Lib.hid (fun w => by
    have h := below_of_same (fun w => ref4_Unmix (mixN X) w (mixN_lt X)) w
    rw [unmix_mix hX] at h
    exact h)
  have D1 := Lib.hid (fun w => dice_Draw S a c w hS ha hc)
  have D2 := Lib.hid (fun w => dice_Draw S b c w hS hb hc)
  have D3 := Lib.hid (fun w => dice_Draw S c a w hS hc ha)
  have D4 := Lib.hid (fun w => dice_Draw S c b w hS hc hb)
  have HA := Lib.hid (fun w => awake04 w)
  have E1 : mixN X = mixN Y ↔ X = Y := ⟨fun h => mixN_inj hX hY h, fun h => by rw [h]⟩
  have E2 := draw_particle (s := S) (c := c) ha hb
  have E3 := draw_place (s := S) (p := c) ha hb
  clear hX hY hS hx hy hs ha hb hc
  generalize mixN X = m1 at *
  generalize mixN Y = m2 at *
  generalize drawN S a c = d1 at *
  generalize drawN S b c = d2 at *
  generalize drawN S c a = d3 at *
  generalize drawN S c b = d4 at *
  have HB := Lib.hid (fun q : BW w => q.h)
  suffices H : ∀ p0 : BW w, Calls Try.prog 4 #[.int .u64 X, .int .u64 Y, .int .u64 S, .int .i64 a, .int .i64 b, .int .i64 c] p0.w fun e w' => e = .returned (.bool true) ∧ Below w.heap.size w w' from H (BW.start w)
  intro p0
  have hXY : (X = Y ∧ m1 = m2) ∨ (((m1 : Int) == (m2 : Int)) = false ∧ ((X : Int) == (Y : Int)) = false) := by
    by_cases h : X = Y
    · exact .inl ⟨h, E1.2 h⟩
    · have : ¬ m1 = m2 := fun g => h (E1.1 g)
      exact .inr ⟨by simp; omega, by simp; omega⟩
  have hab : (a = b ∧ d1 = d2 ∧ d3 = d4) ∨ (((d1 : Int) == (d2 : Int)) = false ∧ ((d3 : Int) == (d4 : Int)) = false ∧ (a == b) = false) := by
    by_cases h : a = b
    · exact .inl ⟨h, E2.2 h, E3.2 h⟩
    · have g1 : ¬ d1 = d2 := fun g => h (E2.1 g)
      have g2 : ¬ d3 = d4 := fun g => h (E3.1 g)
      exact .inr ⟨by simp; omega, by simp; omega, by simp; omega⟩
  clear E1 E2 E3
  rcases hXY with ⟨rfl, rfl⟩ | ⟨t1, t2⟩ <;> rcases hab with ⟨rfl, rfl, rfl⟩ | ⟨t3, t4, t5⟩
  all_goals
    go_enter Try.func4, Try.ntmps4
    go_wp2_with (first
      | (go_at_call 6; (with_reducible refine (bw_call K1.out _).mono ?_); rintro e w' ⟨rfl, q1, rfl⟩)
      | (go_at_call 6; (with_reducible refine (bw_call K2.out _).mono ?_); rintro e w' ⟨rfl, q1, rfl⟩)
      | (go_at_call 13; (with_reducible refine (bw_call U.out _).mono ?_); rintro e w' ⟨rfl, q1, rfl⟩)
      | (go_at_call 8; (with_reducible refine (bw_call D1.out _).mono ?_); rintro e w' ⟨rfl, q1, rfl⟩)
      | (go_at_call 8; (with_reducible refine (bw_call D2.out _).mono ?_); rintro e w' ⟨rfl, q1, rfl⟩)
      | (go_at_call 8; (with_reducible refine (bw_call D3.out _).mono ?_); rintro e w' ⟨rfl, q1, rfl⟩)
      | (go_at_call 8; (with_reducible refine (bw_call D4.out _).mono ?_); rintro e w' ⟨rfl, q1, rfl⟩)
      | (go_at_call 12; (with_reducible refine (bw_call HA.out _).mono ?_); rintro e w' ⟨rfl, q1, rfl⟩))
    go_ret
    exact ⟨rfl, HB.out _⟩

end Go.Proofs.Ytfofnkchieajpaa
