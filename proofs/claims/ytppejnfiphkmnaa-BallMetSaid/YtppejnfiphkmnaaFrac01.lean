/- Contracts of package frac (all but Least). -/
import Derived.Test.YtppejnfiphkmnaaWide01
import Derived.Test.YtppejnfiphkmnaaMath03
import Derived.Test.YtppejnfiphkmnaaMem02
namespace Go.Proofs.Ytppejnfiphkmnaa
open Go.RowKit Go.Proofs.Sky
set_option linter.unusedVariables false
attribute [local go_sem ↓] Go.wp_at_zero Go.wp_at_succ

theorem frac_Make (n d : Int) (w : World) (hn : I64 n) (hd : I64 d) :
    Calls Try.prog 44 #[.int .i64 n, .int .i64 d] w fun r w' => r = .returned (.tuple #[.agg #[.int .i64 (fmake n d).1, .int .i64 (fmake n d).2], .bool (fmakeOk n d)]) ∧ Below w.heap.size w w' := by
  obtain ⟨n0, n1⟩ := hn
  obtain ⟨d0, d1⟩ := hd
  by_cases h : fmakeOk n d = true
  · obtain ⟨a1, a2, a3⟩ := of_decide_eq_true h
    by_cases hd : d < 0
    · have e1 : fmake n d = (-n, -d) := by unfold fmake; rw [if_pos h, if_pos hd]
      rw [e1, h]
      have t1 : (d == 0) = false := by simpa using a1
      have t2 : (n == -9223372036854775808) = false := by simpa using a2
      have t3 : (d == -9223372036854775808) = false := by simpa using a3
      have n2 : -9223372036854775807 ≤ n := by omega
      have d2 : -9223372036854775807 ≤ d := by omega
      have w1 : wrap64 (-n) = -n := IntWalk.wrap64_in _ (by omega)
      have w2 : wrap64 (-d) = -d := IntWalk.wrap64_in _ (by omega)
      clear a1 a2 a3 e1 h n0 d0
      go_enter Try.func44, Try.ntmps44
      go_wp2
      go_returns
      exact ⟨rfl, by go_grown⟩
    · have e1 : fmake n d = (n, d) := by unfold fmake; rw [if_pos h, if_neg hd]
      rw [e1, h]
      have t1 : (d == 0) = false := by simpa using a1
      have t2 : (n == -9223372036854775808) = false := by simpa using a2
      have t3 : (d == -9223372036854775808) = false := by simpa using a3
      clear a1 a2 a3 e1 h n0 d0
      go_enter Try.func44, Try.ntmps44
      go_wp2
      go_returns
      exact ⟨rfl, by go_grown⟩
  · rw [Bool.not_eq_true] at h
    have e1 : fmake n d = (0, 0) := by unfold fmake; rw [h]; rfl
    have h' : d = 0 ∨ n = -9223372036854775808 ∨ d = -9223372036854775808 := by
      have := of_decide_eq_false h
      omega
    rw [e1, h]
    clear e1 h
    by_cases hd : d = 0
    · have t1 : (d == 0) = true := by simpa using hd
      clear h' hd
      go_enter Try.func44, Try.ntmps44
      go_wp2
      go_returns
      exact ⟨rfl, by go_grown⟩
    · have t1 : (d == 0) = false := by simpa using hd
      by_cases hn : n = -9223372036854775808
      · have t2 : (n == -9223372036854775808) = true := by simpa using hn
        clear h' hd hn
        go_enter Try.func44, Try.ntmps44
        go_wp2
        go_returns
        exact ⟨rfl, by go_grown⟩
      · have t2 : (n == -9223372036854775808) = false := by simpa using hn
        have t3 : (d == -9223372036854775808) = true := by simp; omega
        clear h' hd hn
        go_enter Try.func44, Try.ntmps44
        go_wp2
        go_returns
        exact ⟨rfl, by go_grown⟩

end Go.Proofs.Ytppejnfiphkmnaa
