/- The walk of the statement TrigRises. -/
import Derived.Test.YtcghbfpjafeofaaAwake05
namespace Go.Proofs.Ytcghbfpjafeofaa
open Go.RowKit Go.Proofs.Sky
set_option linter.unusedVariables false

theorem u16_of_wf {a : Int} (h : (Lit.int .u16 a).wf = true) : 0 ≤ a ∧ a ≤ 65535 := by
  simp [Lit.wf, IntKind.min, IntKind.max, IntKind.signed, IntKind.bits] at h
  omega

theorem law_TrigRises (a b h : Int) (w : World) (ha : 0 ≤ a ∧ a ≤ 65535) (hb : 0 ≤ b ∧ b ≤ 65535) (hh : 0 ≤ h ∧ h ≤ 65535) :
    Calls Try.prog 5 #[.int .u16 a, .int .u16 b, .int .u16 h] w fun e w' => e = .returned (.bool true) ∧ Below w.heap.size w w' := by
  obtain ⟨a0, a1⟩ := ha
  obtain ⟨b0, b1⟩ := hb
  obtain ⟨h0, h1⟩ := hh
  obtain ⟨x, hx⟩ : ∃ x, a % 16385 = x := ⟨_, rfl⟩
  obtain ⟨y, hy⟩ : ∃ y, b % 16385 = y := ⟨_, rfl⟩
  have x0 : 0 ≤ x ∧ x ≤ 16384 := by omega
  have y0 : 0 ≤ y ∧ y ≤ 16384 := by omega
  have mx : Int.tmod a 16385 = x := by rw [Int.tmod_eq_emod_of_nonneg a0]; exact hx
  have my : Int.tmod b 16385 = y := by rw [Int.tmod_eq_emod_of_nonneg b0]; exact hy
  have e1 : sinI x = sinq x := by unfold sinI; rw [if_pos (by omega), show x % 65536 = x by omega]
  have e2 : sinI y = sinq y := by unfold sinI; rw [if_pos (by omega), show y % 65536 = y by omega]
  have hm : x ≤ y → sinI x ≤ sinI y := fun g => by rw [e1, e2]; exact sinq_mono x0.1 g y0.2
  have S1 := Lib.hid (fun w => trig_Sin x w (by unfold I64; omega))
  have S2 := Lib.hid (fun w => trig_Sin y w (by unfold I64; omega))
  have Q := Lib.hid (fun w => trig_Square h w (by unfold I64; omega))
  have HA := Lib.hid (fun w => awake05 w)
  obtain ⟨q0, q1⟩ := sqI_bound h
  obtain ⟨i0, i1⟩ := x0
  obtain ⟨j0, j1⟩ := y0
  clear e1 e2
  generalize sinI x = s at *
  generalize sinI y = t at *
  generalize sqI h = q at *
  have t1 : decide (q - 268435456 ≤ 2684354) = true := decide_eq_true (by omega)
  have t2 : decide (268435456 - q ≤ 2684354) = true := decide_eq_true (by omega)
  have HB := Lib.hid (fun q : BW w => q.h)
  suffices H : ∀ p0 : BW w, Calls Try.prog 5 #[.int .u16 a, .int .u16 b, .int .u16 h] p0.w fun e w' => e = .returned (.bool true) ∧ Below w.heap.size w w' from H (BW.start w)
  intro p0
  by_cases g : x ≤ y
  · have t3 : decide (y < x) = false := decide_eq_false (by omega)
    have t4 : decide (s ≤ t) = true := decide_eq_true (hm g)
    clear g hm
    go_enter Try.func5, Try.ntmps5
    go_wp2_with (first
      | (go_at_call 7; (with_reducible refine (bw_call S1.out _).mono ?_); rintro e w' ⟨rfl, q1, rfl⟩)
      | (go_at_call 7; (with_reducible refine (bw_call S2.out _).mono ?_); rintro e w' ⟨rfl, q1, rfl⟩)
      | (go_at_call 11; (with_reducible refine (bw_call Q.out _).mono ?_); rintro e w' ⟨rfl, q1, rfl⟩)
      | (go_at_call 12; (with_reducible refine (bw_call HA.out _).mono ?_); rintro e w' ⟨rfl, q1, rfl⟩))
    go_ret
    exact ⟨rfl, HB.out _⟩
  · have t3 : decide (y < x) = true := decide_eq_true (by omega)
    clear g hm S1 S2
    go_enter Try.func5, Try.ntmps5
    go_wp2_with (first
      | (go_at_call 11; (with_reducible refine (bw_call Q.out _).mono ?_); rintro e w' ⟨rfl, q1, rfl⟩)
      | (go_at_call 12; (with_reducible refine (bw_call HA.out _).mono ?_); rintro e w' ⟨rfl, q1, rfl⟩))
    go_ret
    exact ⟨rfl, HB.out _⟩

end Go.Proofs.Ytcghbfpjafeofaa
