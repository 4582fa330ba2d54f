/- Contracts of package frac (all but Least). -/
import Derived.Test.YtokkankfaofooaaWide01
import Derived.Test.YtokkankfaofooaaMath03
import Derived.Test.YtokkankfaofooaaMem02
namespace Go.Proofs.Ytokkankfaofooaa
open Go.RowKit Go.Proofs.Sky
set_option linter.unusedVariables false
attribute [local go_sem ↓] Go.wp_at_zero Go.wp_at_succ

theorem frac_Right (n d : Int) (w : World) :
    Calls Try.prog 17 #[.agg #[.int .i64 n, .int .i64 d]] w fun e w' => e = .returned (.bool (decide (1 ≤ d))) ∧ Below w.heap.size w w' := by
  go_enter Try.func17, Try.ntmps17
  go_wp2
  go_ret
  exact ⟨rfl, by go_grown⟩

theorem frac_compare (n d m e : Int) (w : World) (hn : I64 n) (hd : I64 d) (hm : I64 m) (he : I64 e) :
    Calls Try.prog 25 #[.agg #[.int .i64 n, .int .i64 d], .agg #[.int .i64 m, .int .i64 e]] w fun r w' => r = .returned (.int .i64 (cmpI (n * e) (m * d))) ∧ Below w.heap.size w w' := by
  have M1 := Lib.hid (fun w => wide_Mul n e w hn he)
  have M2 := Lib.hid (fun w => wide_Mul m d w hm hd)
  have C := Lib.hid (fun w => wide_Cmp (n * e) (m * d) w (mul_W128 hn he) (mul_W128 hm hd))
  clear hn hd hm he
  generalize cmpI (n * e) (m * d) = R at *
  generalize hii (n * e) = x1 at *
  generalize lon (n * e) = x2 at *
  generalize hii (m * d) = y1 at *
  generalize lon (m * d) = y2 at *
  obtain ⟨z1, z2, z3, z4, z5, z6⟩ := lt3 w.heap.size
  go_enter Try.func25, Try.ntmps25
  go_wp2
  go_region_held3 (fun w' => w'.cell? ⟨w.heap.size, 0, none⟩ = some (.int .i64 n) ∧ w'.cell? ⟨w.heap.size, 1, none⟩ = some (.int .i64 d) ∧
      w'.cell? ⟨w.heap.size + 1, 0, none⟩ = some (.int .i64 m) ∧ w'.cell? ⟨w.heap.size + 1, 1, none⟩ = some (.int .i64 e)) (go_keep)
    (first
      | (go_at_call 34; (first | (with_reducible refine (M1.out _).mono ?_) | (with_reducible refine (M2.out _).mono ?_)); rintro e w1 ⟨rfl, hb⟩; obtain ⟨hc, hf, y0, y1, y2, y3⟩ := below2 (w := w) w.heap.size (by go_grown) hb (by first | (simp; done) | (simp; omega) | omega))
      | (go_at_call 33; refine (C.out _).mono ?_; rintro e w1 ⟨rfl, hb⟩; obtain ⟨hc, hf, y0, y1, y2, y3⟩ := below2 (w := w) w.heap.size (by go_grown) hb (by first | (simp; done) | (simp; omega) | omega)))
  all_goals go_wp2
  all_goals go_ret
  all_goals exact ⟨rfl, by go_grown⟩

theorem frac_Less (n d m e : Int) (w : World) (hn : I64 n) (hd : I64 d) (hm : I64 m) (he : I64 e) :
    Calls Try.prog 15 #[.agg #[.int .i64 n, .int .i64 d], .agg #[.int .i64 m, .int .i64 e]] w fun r w' => r = .returned (.bool (fless n d m e)) ∧ Below w.heap.size w w' := by
  have C := Lib.hid (fun w => frac_compare n d m e w hn hd hm he)
  have E := Lib.hid (cmpI_lt (n * e) (m * d))
  clear hn hd hm he
  unfold fless
  rw [← E.out]
  clear E
  generalize cmpI (n * e) (m * d) = R at *
  have R1 := Lib.hid (fun w => frac_Right n d w)
  have R2 := Lib.hid (fun w => frac_Right m e w)
  generalize decide (1 ≤ d) = p at *
  generalize decide (1 ≤ e) = q at *
  cases p <;> cases q
  all_goals
    go_enter Try.func15, Try.ntmps15
    go_wp2_with (first
      | (go_at_call 17; (first | (with_reducible refine (R1.out _).mono ?_) | (with_reducible refine (R2.out _).mono ?_)); rintro e w1 ⟨rfl, hb⟩; obtain ⟨hc, hf, y0, y1, y2, y3⟩ := below2 (w := w) w.heap.size (by go_grown) hb (by first | (simp; done) | (simp; omega) | omega))
      | (go_at_call 25; refine (C.out _).mono ?_; rintro e w1 ⟨rfl, hb⟩; obtain ⟨hc, hf, y0, y1, y2, y3⟩ := below2 (w := w) w.heap.size (by go_grown) hb (by first | (simp; done) | (simp; omega) | omega)))
    go_ret
    exact ⟨rfl, by go_grown⟩

theorem frac_Same (n d m e : Int) (w : World) (hn : I64 n) (hd : I64 d) (hm : I64 m) (he : I64 e) :
    Calls Try.prog 16 #[.agg #[.int .i64 n, .int .i64 d], .agg #[.int .i64 m, .int .i64 e]] w fun r w' => r = .returned (.bool (fsame n d m e)) ∧ Below w.heap.size w w' := by
  have C := Lib.hid (fun w => frac_compare n d m e w hn hd hm he)
  have E := Lib.hid (cmpI_beq (n * e) (m * d))
  clear hn hd hm he
  unfold fsame
  rw [← E.out]
  clear E
  generalize cmpI (n * e) (m * d) = R at *
  have R1 := Lib.hid (fun w => frac_Right n d w)
  have R2 := Lib.hid (fun w => frac_Right m e w)
  generalize decide (1 ≤ d) = p at *
  generalize decide (1 ≤ e) = q at *
  cases p <;> cases q
  all_goals
    go_enter Try.func16, Try.ntmps16
    go_wp2_with (first
      | (go_at_call 17; (first | (with_reducible refine (R1.out _).mono ?_) | (with_reducible refine (R2.out _).mono ?_)); rintro e w1 ⟨rfl, hb⟩; obtain ⟨hc, hf, y0, y1, y2, y3⟩ := below2 (w := w) w.heap.size (by go_grown) hb (by first | (simp; done) | (simp; omega) | omega))
      | (go_at_call 25; refine (C.out _).mono ?_; rintro e w1 ⟨rfl, hb⟩; obtain ⟨hc, hf, y0, y1, y2, y3⟩ := below2 (w := w) w.heap.size (by go_grown) hb (by first | (simp; done) | (simp; omega) | omega)))
    go_ret
    exact ⟨rfl, by go_grown⟩

theorem frac_Make (n d : Int) (w : World) (hn : I64 n) (hd : I64 d) :
    Calls Try.prog 38 #[.int .i64 n, .int .i64 d] w fun r w' => r = .returned (.tuple #[.agg #[.int .i64 (fmake n d).1, .int .i64 (fmake n d).2], .bool (fmakeOk n d)]) ∧ Below w.heap.size w w' := by
  obtain ⟨n0, n1⟩ := hn
  obtain ⟨d0, d1⟩ := hd
  by_cases h : fmakeOk n d = true
  · obtain ⟨a1, a2, a3⟩ := of_decide_eq_true h
    by_cases hd : d < 0
    · have e1 : fmake n d = (-n, -d) := by unfold fmake; rw [if_pos h, if_pos hd]
      rw [e1, h]
      have t1 : (d == 0) = false := by simpa using a1
      have t2 : (n == -9223372036854775808) = false := by simpa using a2
      have t3 : (d == -9223372036854775808) = false := by simpa using a3
      have n2 : -9223372036854775807 ≤ n := by omega
      have d2 : -9223372036854775807 ≤ d := by omega
      have w1 : wrap64 (-n) = -n := IntWalk.wrap64_in _ (by omega)
      have w2 : wrap64 (-d) = -d := IntWalk.wrap64_in _ (by omega)
      clear a1 a2 a3 e1 h n0 d0
      go_enter Try.func38, Try.ntmps38
      go_wp2
      go_returns
      exact ⟨rfl, by go_grown⟩
    · have e1 : fmake n d = (n, d) := by unfold fmake; rw [if_pos h, if_neg hd]
      rw [e1, h]
      have t1 : (d == 0) = false := by simpa using a1
      have t2 : (n == -9223372036854775808) = false := by simpa using a2
      have t3 : (d == -9223372036854775808) = false := by simpa using a3
      clear a1 a2 a3 e1 h n0 d0
      go_enter Try.func38, Try.ntmps38
      go_wp2
      go_returns
      exact ⟨rfl, by go_grown⟩
  · rw [Bool.not_eq_true] at h
    have e1 : fmake n d = (0, 0) := by unfold fmake; rw [h]; rfl
    have h' : d = 0 ∨ n = -9223372036854775808 ∨ d = -9223372036854775808 := by
      have := of_decide_eq_false h
      omega
    rw [e1, h]
    clear e1 h
    by_cases hd : d = 0
    · have t1 : (d == 0) = true := by simpa using hd
      clear h' hd
      go_enter Try.func38, Try.ntmps38
      go_wp2
      go_returns
      exact ⟨rfl, by go_grown⟩
    · have t1 : (d == 0) = false := by simpa using hd
      by_cases hn : n = -9223372036854775808
      · have t2 : (n == -9223372036854775808) = true := by simpa using hn
        clear h' hd hn
        go_enter Try.func38, Try.ntmps38
        go_wp2
        go_returns
        exact ⟨rfl, by go_grown⟩
      · have t2 : (n == -9223372036854775808) = false := by simpa using hn
        have t3 : (d == -9223372036854775808) = true := by simp; omega
        clear h' hd hn
        go_enter Try.func38, Try.ntmps38
        go_wp2
        go_returns
        exact ⟨rfl, by go_grown⟩

end Go.Proofs.Ytokkankfaofooaa
