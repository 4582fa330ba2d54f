/- Contracts of package trig. -/
import Derived.Test.YtnoaljfdbfbhmaaRefb05
import Derived.Test.YtnoaljfdbfbhmaaNum01
import Derived.Test.YtnoaljfdbfbhmaaBw
import Derived.Test.YtnoaljfdbfbhmaaSeqb
import Derived.Shelf.Abstract
import Derived.OwnWalkIn
import Derived.TacticsInMore
import Derived.LoopNIn
import Derived.LoopIn
import Derived.Maps.AppendAt
import Derived.RangeFuncBox
import Derived.RangeFuncCalls
namespace Go.Proofs.Ytnoaljfdbfbhmaa
open Go.RowKit Go.Shelf Go.Proofs.Sky
set_option linter.unusedVariables false

theorem trig_arch (q : Int) (w : World) (h0 : 0 ≤ q) (h1 : q ≤ 32768) :
    Calls Try.prog 54 #[.int .i64 q] w fun e w' => e = .returned (.int .i64 (sinq q)) ∧ w = w' := by
  obtain ⟨a0, a1⟩ := sinq_a h0 h1
  unfold sinq
  obtain ⟨A, hA⟩ : ∃ A, A = q * (32768 - q) := ⟨_, rfl⟩
  rw [← hA] at a0 a1 ⊢
  have w1 : wrap64 (q * (32768 - q)) = A := by rw [← hA]; exact IntWalk.wrap64_in _ (by omega)
  have w2 : IntKind.i64.wrap (q * (32768 - q)) = A := by rw [← hA, i64w]; omega
  have M : Hid (∀ w, Calls Try.prog 35 #[.int .i64 (262144 * A), .int .i64 (5368709120 - 4 * A)] w fun e w' => e = .returned (.int .i64 (262144 * A / (5368709120 - 4 * A))) ∧ w = w') := Lib.hid (fun w => by
    have := num_Div (262144 * A) (5368709120 - 4 * A) w (by unfold I64; omega) (by unfold I64; omega)
    rw [show dv (262144 * A) (5368709120 - 4 * A) = 262144 * A / (5368709120 - 4 * A) by unfold dv; rw [if_neg (by omega)]] at this
    exact this)
  generalize 262144 * A / (5368709120 - 4 * A) = R at *
  clear hA
  go_enter Try.func54, Try.ntmps54
  go_wp2_with (go_at_call 35; (with_reducible refine (M.out _).mono ?_); rintro e w' ⟨rfl, rfl⟩)
  go_ret
  exact ⟨rfl, rfl⟩

theorem trig_mod (h : Int) (w : World) (hh : I64 h) :
    Calls Try.prog 53 #[.int .i64 h, .int .i64 65536] w fun e w' => e = .returned (.int .i64 (h % 65536)) ∧ w = w' := by
  have := num_Mod h 65536 w hh (by unfold I64; omega)
  rw [show md h 65536 = h % 65536 by unfold md; rw [if_neg (by omega)]] at this
  exact this

theorem trig_Sin_same (h : Int) (w : World) (hh : I64 h) :
    Calls Try.prog 46 #[.int .i64 h] w fun e w' => e = .returned (.int .i64 (sinI h)) ∧ w = w' := by
  have M := Lib.hid (fun w => trig_mod h w hh)
  have b0 : 0 ≤ h % 65536 := by omega
  have b1 : h % 65536 ≤ 65535 := by omega
  unfold sinI
  clear hh
  generalize h % 65536 = m at *
  by_cases g : m < 32768
  · rw [if_pos g]
    have R := Lib.hid (fun w => trig_arch m w b0 (by omega))
    generalize sinq m = s at *
    go_enter Try.func46, Try.ntmps46
    go_wp2_with (first
      | (go_at_call 53; (with_reducible refine (M.out _).mono ?_); rintro e w' ⟨rfl, rfl⟩)
      | (go_at_call 54; (with_reducible refine (R.out _).mono ?_); rintro e w' ⟨rfl, rfl⟩))
    go_ret
    exact ⟨rfl, rfl⟩
  · rw [if_neg g]
    have R := Lib.hid (fun w => trig_arch (m - 32768) w (by omega) (by omega))
    have r := sinq_range (q := m - 32768) (by omega) (by omega)
    generalize sinq (m - 32768) = s at *
    go_enter Try.func46, Try.ntmps46
    go_wp2_with (first
      | (go_at_call 53; (with_reducible refine (M.out _).mono ?_); rintro e w' ⟨rfl, rfl⟩)
      | (go_at_call 54; (with_reducible refine (R.out _).mono ?_); rintro e w' ⟨rfl, rfl⟩))
    go_ret
    exact ⟨rfl, rfl⟩

theorem trig_Sin (h : Int) (w : World) (hh : I64 h) :
    Calls Try.prog 46 #[.int .i64 h] w fun e w' => e = .returned (.int .i64 (sinI h)) ∧ Below w.heap.size w w' :=
  below_of_same (fun w => trig_Sin_same h w hh) w

theorem trig_Cos_same (h : Int) (w : World) (hh : I64 h) :
    Calls Try.prog 45 #[.int .i64 h] w fun e w' => e = .returned (.int .i64 (cosI h)) ∧ w = w' := by
  have M := Lib.hid (fun w => trig_mod h w hh)
  have R : Hid (∀ w, Calls Try.prog 46 #[.int .i64 (h % 65536 + 16384)] w fun e w' => e = .returned (.int .i64 (cosI h)) ∧ w = w') := Lib.hid (fun w => by
    have := trig_Sin_same (h % 65536 + 16384) w (by unfold I64; omega)
    rw [show sinI (h % 65536 + 16384) = cosI h from sinI_congr (by omega)] at this
    exact this)
  have b0 : 0 ≤ h % 65536 := by omega
  have b1 : h % 65536 ≤ 65535 := by omega
  clear hh
  generalize cosI h = c at *
  generalize h % 65536 = m at *
  go_enter Try.func45, Try.ntmps45
  go_wp2_with (first
    | (go_at_call 53; (with_reducible refine (M.out _).mono ?_); rintro e w' ⟨rfl, rfl⟩)
    | (go_at_call 46; (with_reducible refine (R.out _).mono ?_); rintro e w' ⟨rfl, rfl⟩))
  go_ret
  exact ⟨rfl, rfl⟩

theorem trig_Cos (h : Int) (w : World) (hh : I64 h) :
    Calls Try.prog 45 #[.int .i64 h] w fun e w' => e = .returned (.int .i64 (cosI h)) ∧ Below w.heap.size w w' :=
  below_of_same (fun w => trig_Cos_same h w hh) w

theorem trig_Both_same (h : Int) (w : World) (hh : I64 h) :
    Calls Try.prog 26 #[.int .i64 h] w fun e w' => e = .returned (.tuple #[.int .i64 (cosI h), .int .i64 (sinI h)]) ∧ w = w' := by
  have C := Lib.hid (fun w => trig_Cos_same h w hh)
  have S := Lib.hid (fun w => trig_Sin_same h w hh)
  clear hh
  generalize cosI h = c at *
  generalize sinI h = s at *
  go_enter Try.func26, Try.ntmps26
  go_wp2_with (first
    | (go_at_call 45; (with_reducible refine (C.out _).mono ?_); rintro e w' ⟨rfl, rfl⟩)
    | (go_at_call 46; (with_reducible refine (S.out _).mono ?_); rintro e w' ⟨rfl, rfl⟩))
  go_ret2
  exact ⟨rfl, rfl⟩

theorem trig_Both (h : Int) (w : World) (hh : I64 h) :
    Calls Try.prog 26 #[.int .i64 h] w fun e w' => e = .returned (.tuple #[.int .i64 (cosI h), .int .i64 (sinI h)]) ∧ Below w.heap.size w w' :=
  below_of_same (fun w => trig_Both_same h w hh) w

theorem trig_sq {a : Int} (h : -16384 ≤ a ∧ a ≤ 16384) : 0 ≤ a * a ∧ a * a ≤ 268435456 := by
  have e : (16384 - a) * (16384 + a) = 268435456 - a * a := by grind
  have p := Int.mul_nonneg (show 0 ≤ 16384 - a by omega) (show 0 ≤ 16384 + a by omega)
  have q : 0 ≤ a * a := by
    rcases Int.le_total 0 a with g | g
    · exact Int.mul_nonneg g g
    · exact Int.mul_nonneg_of_nonpos_of_nonpos g g
  omega

section
attribute [local go_sem] Oper.semAt_some

end

end Go.Proofs.Ytnoaljfdbfbhmaa
