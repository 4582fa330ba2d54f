/- The walk of the statement TrigTurns. -/
import Derived.Test.YtcghbfpjafeofaaAwake05
namespace Go.Proofs.Ytcghbfpjafeofaa
open Go.RowKit Go.Proofs.Sky
set_option linter.unusedVariables false

theorem law_TrigTurns (h : Int) (w : World) (hh : I64 h) :
    Calls Try.prog 4 #[.int .i64 h] w fun e w' => e = .returned (.bool true) ∧ Below w.heap.size w w' := by
  obtain ⟨g, hg⟩ : ∃ g, Int.tdiv h 2 = g := ⟨_, rfl⟩
  have g0 : -4611686018427387904 ≤ g ∧ g ≤ 4611686018427387904 := by
    unfold I64 at hh
    rw [← hg]
    by_cases s : 0 ≤ h
    · rw [Int.tdiv_eq_ediv_of_nonneg s]; omega
    · have := tdm (a := h) (b := 2) (by omega)
      by_cases k : h.tmod 2 < 0
      · have := (this.1 k).1; omega
      · have := (this.2 (by omega)).1; omega
  obtain ⟨l0, l1⟩ := g0
  have w1 : wrap64 g = g := IntWalk.wrap64_in _ (by omega)
  have S : Hid (∀ w, _) := Lib.hid (fun w => trig_Sin g w (by unfold I64; omega))
  have C : Hid (∀ w, _) := Lib.hid (fun w => trig_Cos g w (by unfold I64; omega))
  have S1 := Lib.hid (fun w => trig_Sin (g + 32768) w (by unfold I64; omega))
  rw [sinI_half] at S1
  have C1 := Lib.hid (fun w => trig_Cos (g + 32768) w (by unfold I64; omega))
  rw [cosI_half] at C1
  have S2 := Lib.hid (fun w => trig_Sin (32768 - g) w (by unfold I64; omega))
  rw [sinI_mirror] at S2
  have C2 := Lib.hid (fun w => trig_Cos (-g) w (by unfold I64; omega))
  rw [cosI_neg] at C2
  have S3 := Lib.hid (fun w => trig_Sin (g + 65536) w (by unfold I64; omega))
  rw [sinI_round] at S3
  have S4 := Lib.hid (fun w => trig_Sin (g + 16384) w (by unfold I64; omega))
  rw [show sinI (g + 16384) = cosI g from rfl] at S4
  have HA := Lib.hid (fun w => awake05 w)
  obtain ⟨r0, r1⟩ := sinI_range g
  obtain ⟨k0, k1⟩ := cosI_range g
  clear hh
  generalize sinI g = s at *
  generalize cosI g = c at *
  have HB := Lib.hid (fun q : BW w => q.h)
  suffices H : ∀ p0 : BW w, Calls Try.prog 4 #[.int .i64 h] p0.w fun e w' => e = .returned (.bool true) ∧ Below w.heap.size w w' from H (BW.start w)
  intro p0
  go_enter Try.func4, Try.ntmps4
  go_wp2_with (first
    | (go_at_call 7; (with_reducible refine (bw_call S.out _).mono ?_); rintro e w' ⟨rfl, q1, rfl⟩)
    | (go_at_call 7; (with_reducible refine (bw_call S1.out _).mono ?_); rintro e w' ⟨rfl, q1, rfl⟩)
    | (go_at_call 7; (with_reducible refine (bw_call S2.out _).mono ?_); rintro e w' ⟨rfl, q1, rfl⟩)
    | (go_at_call 7; (with_reducible refine (bw_call S3.out _).mono ?_); rintro e w' ⟨rfl, q1, rfl⟩)
    | (go_at_call 7; (with_reducible refine (bw_call S4.out _).mono ?_); rintro e w' ⟨rfl, q1, rfl⟩)
    | (go_at_call 9; (with_reducible refine (bw_call C.out _).mono ?_); rintro e w' ⟨rfl, q1, rfl⟩)
    | (go_at_call 9; (with_reducible refine (bw_call C1.out _).mono ?_); rintro e w' ⟨rfl, q1, rfl⟩)
    | (go_at_call 9; (with_reducible refine (bw_call C2.out _).mono ?_); rintro e w' ⟨rfl, q1, rfl⟩)
    | (go_at_call 12; (with_reducible refine (bw_call HA.out _).mono ?_); rintro e w' ⟨rfl, q1, rfl⟩))
  go_ret
  exact ⟨rfl, HB.out _⟩

end Go.Proofs.Ytcghbfpjafeofaa
