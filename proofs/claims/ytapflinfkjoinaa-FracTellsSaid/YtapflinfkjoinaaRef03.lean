/- Contracts of the document's own answers of layer 3 (skylightref03), over the same plain mathematics. -/
import Derived.Test.YtapflinfkjoinaaRef01
import Derived.Test.YtapflinfkjoinaaMath03
import Derived.Test.YtapflinfkjoinaaMathc03
import Derived.Test.YtapflinfkjoinaaMem02
import Derived.Test.YtapflinfkjoinaaBw
import Derived.Deep.DeepCutAuto
import Derived.Deep.QuietTactic
import Derived.BigQuiet
namespace Go.Proofs.Ytapflinfkjoinaa
open Go.RowKit Go.Proofs.Sky
set_option linter.unusedVariables false

theorem ref3_Right (n d : Int) (w : World) :
    Calls Try.prog 10 #[.agg #[.int .i64 n, .int .i64 d]] w fun e w' => e = .returned (.bool (decide (1 ≤ d))) ∧ Below w.heap.size w w' := by
  go_enter Try.func10, Try.ntmps10
  go_wp2
  go_ret
  exact ⟨rfl, by go_grown⟩

theorem ref3_small (n d : Int) (w : World) :
    Calls Try.prog 35 #[.agg #[.int .i64 n, .int .i64 d]] w fun e w' => e = .returned (.bool (fsmall n d)) ∧ Below w.heap.size w w' := by
  have R := Lib.hid (fun w => ref3_Right n d w)
  unfold fsmall
  by_cases h1 : 1 ≤ d <;> by_cases h2 : d ≤ 2147483648 <;> by_cases h3 : -2147483648 ≤ n <;> by_cases h4 : n ≤ 2147483648
  all_goals
    have t1 := h1
    rw [← decide_eq_true_iff (p := 1 ≤ d)] at t1
    try rw [Bool.not_eq_true] at t1
    have t2 := h2
    rw [← decide_eq_true_iff (p := d ≤ 2147483648)] at t2
    try rw [Bool.not_eq_true] at t2
    have t3 := h3
    rw [← decide_eq_true_iff (p := -2147483648 ≤ n)] at t3
    try rw [Bool.not_eq_true] at t3
    have t4 := h4
    rw [← decide_eq_true_iff (p := n ≤ 2147483648)] at t4
    try rw [Bool.not_eq_true] at t4
    clear h1 h2 h3 h4
    rw [t1] at R
    rw [t1, t2, t3, t4]
    go_enter Try.func35, Try.ntmps35
    go_wp2_with (go_at_call 10; refine (R.out _).mono ?_; rintro e w1 ⟨rfl, hb⟩; obtain ⟨hc, hf, y0, y1, y2⟩ := below1 (w := w) w.heap.size (by go_grown) hb (by first | (simp; done) | (simp; omega) | omega))
    go_ret
    exact ⟨rfl, by go_grown⟩

theorem ref3_Mid (n d m e : Int) (w : World) :
    Calls Try.prog 20 #[.agg #[.int .i64 n, .int .i64 d], .agg #[.int .i64 m, .int .i64 e]] w fun r w' => r = .returned (.agg #[.int .i64 (fmid n d m e).1, .int .i64 (fmid n d m e).2]) ∧ Below w.heap.size w w' := by
  have R1 := Lib.hid (fun w => ref3_small n d w)
  have R2 := Lib.hid (fun w => ref3_small m e w)
  by_cases h1 : fsmall n d = true <;> by_cases h2 : fsmall m e = true
  · have e1 : fmid n d m e = (n + m, d + e) := by unfold fmid; rw [if_pos ⟨h1, h2⟩]
    obtain ⟨a1, a2, a3, a4⟩ := fsmall_iff.1 h1
    obtain ⟨b1, b2, b3, b4⟩ := fsmall_iff.1 h2
    rw [e1]
    rw [h1] at R1
    rw [h2] at R2
    clear h1 h2 e1
    go_enter Try.func20, Try.ntmps20
    go_wp2_with (go_at_call 35; (first | (with_reducible refine (R1.out _).mono ?_) | (with_reducible refine (R2.out _).mono ?_)); rintro e w1 ⟨rfl, hb⟩; obtain ⟨hc, hf, y0, y1, y2, y3, y4⟩ := below3 (w := w) w.heap.size (by go_grown) hb (by first | (simp; done) | (simp; omega) | omega))
    have k1 : w1.cell? ⟨w.heap.size + 1 + 1, 0, none⟩ = some (.int .i64 0) := by simp [*, go_sem]
    have k2 : w1.cell? ⟨w.heap.size + 1 + 1, 1, none⟩ = some (.int .i64 0) := by simp [*, go_sem]
    exact bodyPost_ret (v := .agg #[.int .i64 (n + m), .int .i64 (d + e)]) (by simp [results, Try.results20, go_sem, k1, k2]) rfl ⟨rfl, by go_grown⟩
  all_goals
    have e1 : fmid n d m e = (0, 0) := by unfold fmid; rw [if_neg (by simp [h1, h2])]
    rw [e1]
    first | rw [h1] at R1 | rw [Bool.not_eq_true] at h1
    first | rw [h2] at R2 | rw [Bool.not_eq_true] at h2
    try rw [h1] at R1
    try rw [h2] at R2
    clear h1 h2 e1
    go_enter Try.func20, Try.ntmps20
    go_wp2_with (go_at_call 35; (first | (with_reducible refine (R1.out _).mono ?_) | (with_reducible refine (R2.out _).mono ?_)); rintro e w1 ⟨rfl, hb⟩; obtain ⟨hc, hf, y0, y1, y2, y3, y4⟩ := below3 (w := w) w.heap.size (by go_grown) hb (by first | (simp; done) | (simp; omega) | omega))
    have k1 : w1.cell? ⟨w.heap.size + 1 + 1, 0, none⟩ = some (.int .i64 0) := by simp [*, go_sem]
    have k2 : w1.cell? ⟨w.heap.size + 1 + 1, 1, none⟩ = some (.int .i64 0) := by simp [*, go_sem]
    exact bodyPost_ret (v := .agg #[.int .i64 0, .int .i64 0]) (by simp [results, Try.results20, go_sem, k1, k2]) rfl ⟨rfl, by go_grown⟩

theorem ref3_Make (n d : Int) (w : World) (hn : I64 n) (hd : I64 d) :
    Calls Try.prog 8 #[.int .i64 n, .int .i64 d] w fun r w' => r = .returned (.tuple #[.agg #[.int .i64 (fmake n d).1, .int .i64 (fmake n d).2], .bool (fmakeOk n d)]) ∧ Below w.heap.size w w' := by
  obtain ⟨n0, n1⟩ := hn
  obtain ⟨d0, d1⟩ := hd
  by_cases h : fmakeOk n d = true
  · obtain ⟨a1, a2, a3⟩ := of_decide_eq_true h
    by_cases hd : d < 0
    · have e1 : fmake n d = (-n, -d) := by unfold fmake; rw [if_pos h, if_pos hd]
      rw [e1, h]
      have t1 : (d == 0) = false := by simpa using a1
      have t2 : (n == -9223372036854775808) = false := by simpa using a2
      have t3 : (d == -9223372036854775808) = false := by simpa using a3
      have n2 : -9223372036854775807 ≤ n := by omega
      have d2 : -9223372036854775807 ≤ d := by omega
      have w1 : wrap64 (-n) = -n := IntWalk.wrap64_in _ (by omega)
      have w2 : wrap64 (-d) = -d := IntWalk.wrap64_in _ (by omega)
      clear a1 a2 a3 e1 h n0 d0
      go_enter Try.func8, Try.ntmps8
      go_wp2
      go_returns
      exact ⟨rfl, by go_grown⟩
    · have e1 : fmake n d = (n, d) := by unfold fmake; rw [if_pos h, if_neg hd]
      rw [e1, h]
      have t1 : (d == 0) = false := by simpa using a1
      have t2 : (n == -9223372036854775808) = false := by simpa using a2
      have t3 : (d == -9223372036854775808) = false := by simpa using a3
      clear a1 a2 a3 e1 h n0 d0
      go_enter Try.func8, Try.ntmps8
      go_wp2
      go_returns
      exact ⟨rfl, by go_grown⟩
  · rw [Bool.not_eq_true] at h
    have e1 : fmake n d = (0, 0) := by unfold fmake; rw [h]; rfl
    have h' : d = 0 ∨ n = -9223372036854775808 ∨ d = -9223372036854775808 := by
      have := of_decide_eq_false h
      omega
    rw [e1, h]
    clear e1 h
    by_cases hd : d = 0
    · have t1 : (d == 0) = true := by simpa using hd
      clear h' hd
      go_enter Try.func8, Try.ntmps8
      go_wp2
      go_returns
      exact ⟨rfl, by go_grown⟩
    · have t1 : (d == 0) = false := by simpa using hd
      by_cases hn : n = -9223372036854775808
      · have t2 : (n == -9223372036854775808) = true := by simpa using hn
        clear h' hd hn
        go_enter Try.func8, Try.ntmps8
        go_wp2
        go_returns
        exact ⟨rfl, by go_grown⟩
      · have t2 : (n == -9223372036854775808) = false := by simpa using hn
        have t3 : (d == -9223372036854775808) = true := by simp; omega
        clear h' hd hn
        go_enter Try.func8, Try.ntmps8
        go_wp2
        go_returns
        exact ⟨rfl, by go_grown⟩

end Go.Proofs.Ytapflinfkjoinaa
