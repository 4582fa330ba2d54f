/- The walk of the statement DiceTells. -/
import Derived.Test.YtfofnkchieajpaaAwake04
namespace Go.Proofs.Ytfofnkchieajpaa
open Go.RowKit Go.Proofs.Sky
set_option linter.unusedVariables false

theorem law_DiceTells (x s p q n : Int) (w : World) (hx : U64 x) (hs : U64 s) (hp : I64 p) (hq : I64 q) (hn : I64 n) :
    Calls Try.prog 3 #[.int .u64 x, .int .u64 s, .int .i64 p, .int .i64 q, .int .i64 n] w fun e w' => e = .returned (.bool true) ∧ Below w.heap.size w w' := by
  obtain ⟨X, rfl⟩ := Int.eq_ofNat_of_zero_le hx.1
  obtain ⟨S, rfl⟩ := Int.eq_ofNat_of_zero_le hs.1
  have hX : X < 18446744073709551616 := by unfold U64 at hx; omega
  have hS : S < 18446744073709551616 := by unfold U64 at hs; omega
  have K1 := Lib.hid (fun w => dice_Mix X w hX)
  have K2 := Lib.hid (fun w => below_of_same (fun w => ref4_Mix X w hX) w)
  have K3 := Lib.hid (fun w => dice_Draw S p q w hS hp hq)
  have K4 := Lib.hid (fun w => below_of_same (fun w => ref4_Draw S p q w hS) w)
  have K5 := Lib.hid (fun w => dice_Below X n w hX hn)
  have K6 := Lib.hid (fun w => below_of_same (fun w => ref4_Below X n w hX) w)
  have HA := Lib.hid (fun w => awake04 w)
  clear hX hS hx hs hp hq hn
  generalize mixN X = a at *
  generalize drawN S p q = b at *
  generalize belowN X n = c at *
  obtain ⟨p0, hp0⟩ : ∃ p0 : BW w, p0.w = w := ⟨BW.start w, rfl⟩
  have HB := Lib.hid (fun q : BW w => q.h)
  suffices H : ∀ p0 : BW w, Calls Try.prog 3 #[.int .u64 X, .int .u64 S, .int .i64 p, .int .i64 q, .int .i64 n] p0.w fun e w' => e = .returned (.bool true) ∧ Below w.heap.size w w' by
    have := H p0; rwa [hp0] at this
  clear hp0 p0
  intro p0
  go_enter Try.func3, Try.ntmps3
  go_wp2_with (first
    | (go_at_call 6; (with_reducible refine (bw_call K1.out _).mono ?_); rintro e w' ⟨rfl, q1, rfl⟩)
    | (go_at_call 7; (with_reducible refine (bw_call K2.out _).mono ?_); rintro e w' ⟨rfl, q1, rfl⟩)
    | (go_at_call 8; (with_reducible refine (bw_call K3.out _).mono ?_); rintro e w' ⟨rfl, q1, rfl⟩)
    | (go_at_call 9; (with_reducible refine (bw_call K4.out _).mono ?_); rintro e w' ⟨rfl, q1, rfl⟩)
    | (go_at_call 10; (with_reducible refine (bw_call K5.out _).mono ?_); rintro e w' ⟨rfl, q1, rfl⟩)
    | (go_at_call 11; (with_reducible refine (bw_call K6.out _).mono ?_); rintro e w' ⟨rfl, q1, rfl⟩)
    | (go_at_call 12; (with_reducible refine (bw_call HA.out _).mono ?_); rintro e w' ⟨rfl, q1, rfl⟩))
  go_ret
  exact ⟨rfl, HB.out _⟩

end Go.Proofs.Ytfofnkchieajpaa
