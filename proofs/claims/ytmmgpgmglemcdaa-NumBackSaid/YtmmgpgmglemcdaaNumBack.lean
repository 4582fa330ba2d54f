/- NumBack: what is divided comes back; sums and products are the same either way round; a greater one more makes no sum less. -/
import Derived.Test.YtmmgpgmglemcdaaAwake01
import Derived.RowKit3
namespace Go.Proofs.Ytmmgpgmglemcdaa
open Go.RowKit Go.Proofs.Sky
set_option linter.unusedVariables false

theorem sat_mono {x y : Int} (h : x ≤ y) : sat x ≤ sat y := by unfold sat; (repeat' split) <;> omega

theorem back_q {a b : Int} (ha : I64 a) (hb : 1 ≤ b) : 0 ≤ md a b ∧ md a b < b ∧ wrap64 (wrap64 (dv a b * b) + md a b) = a ∧ (a < 0 ↔ dv a b < 0) := by
  obtain ⟨h1, h2⟩ := md_range (a := a) hb
  have e : dv a b * b + md a b = a := by
    unfold dv md; rw [if_neg (by omega), if_neg (by omega)]; exact Int.ediv_mul_add_emod a b
  have l := ediv_le_pos (a := a) hb
  refine ⟨h1, h2, ?_, ?_⟩
  · unfold I64 at ha; unfold wrap64
    generalize dv a b * b = t at *
    omega
  · unfold dv; rw [if_neg (by omega)]
    by_cases h : 0 ≤ a
    · have := l.1 h; omega
    · have := l.2 (by omega); omega

theorem law_NumBack (a b c : Int) (ha : I64 a) (hb : I64 b) (hc : I64 c) (w : World) :
    Calls Try.prog 4 #[.int .i64 a, .int .i64 b, .int .i64 c] w fun e w' => e = .returned (.bool true) ∧ ∃ n, w' = w.drewN n := by
  have hP1 := Lib.hid (fun w => num_Plus a b w ha hb)
  have hP2 : ∀ w, Calls Try.prog 14 #[.int .i64 b, .int .i64 a] w fun e w' => e = .returned (.int .i64 (sat (a + b))) ∧ w = w' := by
    intro w; rw [Int.add_comm a b]; exact num_Plus b a w hb ha
  have hP3 := Lib.hid (fun w => num_Plus a c w ha hc)
  have hT1 := Lib.hid (fun w => num_Times a b w ha hb)
  have hT2 : ∀ w, Calls Try.prog 16 #[.int .i64 b, .int .i64 a] w fun e w' => e = .returned (.int .i64 (sat (a * b))) ∧ w = w' := by
    intro w; rw [Int.mul_comm a b]; exact num_Times b a w hb ha
  have HP2 := Lib.hid hP2; clear hP2
  have HT2 := Lib.hid hT2; clear hT2
  have hD := Lib.hid (fun w => num_Div a b w ha hb)
  have hM := Lib.hid (fun w => num_Mod a b w ha hb)
  have hm : b ≤ c → sat (a + b) ≤ sat (a + c) := fun h => sat_mono (by omega)
  have hq : 1 ≤ b → _ := back_q ha
  have h0 : b < 1 → dv a b = 0 ∧ md a b = 0 := fun h => ⟨by unfold dv; rw [if_pos h], by unfold md; rw [if_pos h]⟩
  generalize sat (a + b) = p at *
  generalize sat (a + c) = p' at *
  generalize sat (a * b) = t at *
  generalize dv a b = q at *
  generalize md a b = r at *
  clear ha hc
  have arm : b ≤ c → decide (p' < p) = false := fun h => decide_eq_false (by have := hm h; omega)
  clear hm
  by_cases h1 : b ≤ c
  all_goals by_cases h2 : b < 1
  all_goals
    first
      | have c1 : decide (b ≤ c) = true := decide_eq_true h1
        have c2 := arm h1
      | have c1 : decide (b ≤ c) = false := decide_eq_false h1
    clear arm h1
    first
      | (obtain ⟨rfl, rfl⟩ := h0 h2
         have c3 : decide (b < 1) = true := decide_eq_true h2
         clear h0 hq h2 hb)
      | (obtain ⟨q1, q2, q3, q4⟩ := hq (by omega)
         have c3 : decide (b < 1) = false := decide_eq_false h2
         have c4 : decide (0 ≤ r) = true := decide_eq_true q1
         have c5 : decide (r < b) = true := decide_eq_true q2
         have c6 : (decide (a < 0) == decide (q < 0)) = true := by simp [q4]
         clear h0 hq h2 hb q1 q2 q4)
    go_enter Try.func4, Try.ntmps4
    go_wp2_with (first
      | (go_at_call 14; (first | (with_reducible refine (hP1.out _).mono ?_) | (with_reducible refine (HP2.out _).mono ?_) | (with_reducible refine (hP3.out _).mono ?_)); rintro e w' ⟨rfl, rfl⟩)
      | (go_at_call 16; (first | (with_reducible refine (hT1.out _).mono ?_) | (with_reducible refine (HT2.out _).mono ?_)); rintro e w' ⟨rfl, rfl⟩)
      | (go_at_call 8; refine (hD.out _).mono ?_; rintro e w' ⟨rfl, rfl⟩)
      | (go_at_call 10; refine (hM.out _).mono ?_; rintro e w' ⟨rfl, rfl⟩)
      | (go_at_call 20; refine (awake01 _).mono ?_; rintro e w' ⟨rfl, n, rfl⟩))
    go_ret
    exact ⟨rfl, _, rfl⟩

end Go.Proofs.Ytmmgpgmglemcdaa
