/- Contracts of the document's own answers, layer 11. -/
import Derived.Test.YtppejnfiphkmnaaRefb06
import Derived.Test.YtppejnfiphkmnaaMath11
import Derived.Test.YtppejnfiphkmnaaMem06
import Derived.Test.YtppejnfiphkmnaaTail
import Derived.Deep.DeepCutAuto
namespace Go.Proofs.Ytppejnfiphkmnaa
open Go.RowKit Go.Proofs.Sky
set_option linter.unusedVariables false

def inM (n : Int) : Bool := decide (-524288 ≤ n ∧ n ≤ 524288)
theorem plc_inM (x y z : Int) : plc (x, y, z) = (inM x && (inM y && inM z)) := by
  unfold plc wi inM
  rw [Bool.eq_iff_iff]
  simp only [Bool.and_eq_true, decide_eq_true_eq]
  omega

set_option maxRecDepth 100000 in
set_option maxHeartbeats 8000000 in
theorem ref11_within (n : Int) (w : World) :
    Calls Try.prog 38 #[.int .i64 n, .int .i64 524288] w fun en w' => en = .returned (.bool (inM n)) ∧ Below w.heap.size w w' := by
  have m1 : wrap64 (-524288) = -524288 := IntWalk.wrap64_in _ (by omega)
  unfold inM
  by_cases h1 : -524288 ≤ n
  · by_cases h2 : n ≤ 524288
    · have t1 : decide (-524288 ≤ n) = true := decide_eq_true h1
      have t2 : decide (n ≤ 524288) = true := decide_eq_true h2
      rw [show decide (-524288 ≤ n ∧ n ≤ 524288) = true from decide_eq_true ⟨h1, h2⟩]
      go_enter Try.func38, Try.ntmps38
      go_wp2
      go_ret
      exact ⟨rfl, Below.refl _ _⟩
    · have t1 : decide (-524288 ≤ n) = true := decide_eq_true h1
      have t2 : decide (n ≤ 524288) = false := decide_eq_false h2
      rw [show decide (-524288 ≤ n ∧ n ≤ 524288) = false from decide_eq_false (fun e => h2 e.2)]
      go_enter Try.func38, Try.ntmps38
      go_wp2
      go_ret
      exact ⟨rfl, Below.refl _ _⟩
  · have t1 : decide (-524288 ≤ n) = false := decide_eq_false h1
    rw [show decide (-524288 ≤ n ∧ n ≤ 524288) = false from decide_eq_false (fun e => h1 e.1)]
    go_enter Try.func38, Try.ntmps38
    go_wp2
    go_ret
    exact ⟨rfl, Below.refl _ _⟩

set_option maxRecDepth 100000 in
set_option maxHeartbeats 8000000 in
theorem ref11_Place (x y z : Int) (w : World) :
    Calls Try.prog 21 #[.agg #[.int .i64 x, .int .i64 y, .int .i64 z]] w fun en w' => en = .returned (.bool (plc (x, y, z))) ∧ Below w.heap.size w w' := by
  have K1 := Lib.hid (fun w => ref11_within x w)
  have K2 := Lib.hid (fun w => ref11_within y w)
  have K3 := Lib.hid (fun w => ref11_within z w)
  rw [plc_inM]
  generalize inM x = e1 at *
  generalize inM y = e2 at *
  generalize inM z = e3 at *
  go_enter Try.func21, Try.ntmps21
  go_upto_region 1 with (fail)
  obtain ⟨W1, hW1⟩ : ∃ W, W = w.alloc (.cells #[.int .i64 x, .int .i64 y, .int .i64 z] 23) := ⟨_, rfl⟩
  obtain ⟨k_v, B1⟩ := st1 hW1
  rw [← hW1]
  clear hW1
  obtain ⟨c_v_0, c_v_1, c_v_2⟩ := bwc3 (k_v)
  obtain ⟨p1, hp1⟩ : ∃ p : BW W1, p.w = W1 := ⟨BW.start W1, rfl⟩
  rw [← hp1]
  clear hp1
  rcases e1 with _ | _ <;> rcases e2 with _ | _ <;> rcases e3 with _ | _
  all_goals
    go_wp2_with (first
      | (go_at_call 38; (first | (with_reducible refine (bw_call K1.out _).mono ?_) | (with_reducible refine (bw_call K2.out _).mono ?_) | (with_reducible refine (bw_call K3.out _).mono ?_)); rintro e w' ⟨rfl, q, rfl⟩))
    go_ret
    exact ⟨rfl, bw_below B1 _⟩

theorem flat_pl3 {a b c : T3} (h : tFlat a b c = false) : pl3 a b c = true := by
  unfold tFlat at h
  cases hp : pl3 a b c with
  | true => rfl
  | false => rw [hp] at h; simp at h

end Go.Proofs.Ytppejnfiphkmnaa
