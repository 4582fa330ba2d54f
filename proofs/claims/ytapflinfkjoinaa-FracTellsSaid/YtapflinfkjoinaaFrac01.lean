/- Contracts of package frac (all but Least). -/
import Derived.Test.YtapflinfkjoinaaWide01
import Derived.Test.YtapflinfkjoinaaMath03
import Derived.Test.YtapflinfkjoinaaMem02
namespace Go.Proofs.Ytapflinfkjoinaa
open Go.RowKit Go.Proofs.Sky
set_option linter.unusedVariables false
attribute [local go_sem ↓] Go.wp_at_zero Go.wp_at_succ

theorem frac_Right (n d : Int) (w : World) :
    Calls Try.prog 9 #[.agg #[.int .i64 n, .int .i64 d]] w fun e w' => e = .returned (.bool (decide (1 ≤ d))) ∧ Below w.heap.size w w' := by
  go_enter Try.func9, Try.ntmps9
  go_wp2
  go_ret
  exact ⟨rfl, by go_grown⟩

theorem frac_compare (n d m e : Int) (w : World) (hn : I64 n) (hd : I64 d) (hm : I64 m) (he : I64 e) :
    Calls Try.prog 21 #[.agg #[.int .i64 n, .int .i64 d], .agg #[.int .i64 m, .int .i64 e]] w fun r w' => r = .returned (.int .i64 (cmpI (n * e) (m * d))) ∧ Below w.heap.size w w' := by
  have M1 := Lib.hid (fun w => wide_Mul n e w hn he)
  have M2 := Lib.hid (fun w => wide_Mul m d w hm hd)
  have C := Lib.hid (fun w => wide_Cmp (n * e) (m * d) w (mul_W128 hn he) (mul_W128 hm hd))
  clear hn hd hm he
  generalize cmpI (n * e) (m * d) = R at *
  generalize hii (n * e) = x1 at *
  generalize lon (n * e) = x2 at *
  generalize hii (m * d) = y1 at *
  generalize lon (m * d) = y2 at *
  obtain ⟨z1, z2, z3, z4, z5, z6⟩ := lt3 w.heap.size
  go_enter Try.func21, Try.ntmps21
  go_wp2
  go_region_held3 (fun w' => w'.cell? ⟨w.heap.size, 0, none⟩ = some (.int .i64 n) ∧ w'.cell? ⟨w.heap.size, 1, none⟩ = some (.int .i64 d) ∧
      w'.cell? ⟨w.heap.size + 1, 0, none⟩ = some (.int .i64 m) ∧ w'.cell? ⟨w.heap.size + 1, 1, none⟩ = some (.int .i64 e)) (go_keep)
    (first
      | (go_at_call 27; (first | (with_reducible refine (M1.out _).mono ?_) | (with_reducible refine (M2.out _).mono ?_)); rintro e w1 ⟨rfl, hb⟩; obtain ⟨hc, hf, y0, y1, y2, y3⟩ := below2 (w := w) w.heap.size (by go_grown) hb (by first | (simp; done) | (simp; omega) | omega))
      | (go_at_call 29; refine (C.out _).mono ?_; rintro e w1 ⟨rfl, hb⟩; obtain ⟨hc, hf, y0, y1, y2, y3⟩ := below2 (w := w) w.heap.size (by go_grown) hb (by first | (simp; done) | (simp; omega) | omega)))
  all_goals go_wp2
  all_goals go_ret
  all_goals exact ⟨rfl, by go_grown⟩

theorem frac_Less (n d m e : Int) (w : World) (hn : I64 n) (hd : I64 d) (hm : I64 m) (he : I64 e) :
    Calls Try.prog 11 #[.agg #[.int .i64 n, .int .i64 d], .agg #[.int .i64 m, .int .i64 e]] w fun r w' => r = .returned (.bool (fless n d m e)) ∧ Below w.heap.size w w' := by
  have C := Lib.hid (fun w => frac_compare n d m e w hn hd hm he)
  have E := Lib.hid (cmpI_lt (n * e) (m * d))
  clear hn hd hm he
  unfold fless
  rw [← E.out]
  clear E
  generalize cmpI (n * e) (m * d) = R at *
  have R1 := Lib.hid (fun w => frac_Right n d w)
  have R2 := Lib.hid (fun w => frac_Right m e w)
  generalize decide (1 ≤ d) = p at *
  generalize decide (1 ≤ e) = q at *
  cases p <;> cases q
  all_goals
    go_enter Try.func11, Try.ntmps11
    go_wp2_with (first
      | (go_at_call 9; (first | (with_reducible refine (R1.out _).mono ?_) | (with_reducible refine (R2.out _).mono ?_)); rintro e w1 ⟨rfl, hb⟩; obtain ⟨hc, hf, y0, y1, y2, y3⟩ := below2 (w := w) w.heap.size (by go_grown) hb (by first | (simp; done) | (simp; omega) | omega))
      | (go_at_call 21; refine (C.out _).mono ?_; rintro e w1 ⟨rfl, hb⟩; obtain ⟨hc, hf, y0, y1, y2, y3⟩ := below2 (w := w) w.heap.size (by go_grown) hb (by first | (simp; done) | (simp; omega) | omega)))
    go_ret
    exact ⟨rfl, by go_grown⟩

theorem frac_Same (n d m e : Int) (w : World) (hn : I64 n) (hd : I64 d) (hm : I64 m) (he : I64 e) :
    Calls Try.prog 13 #[.agg #[.int .i64 n, .int .i64 d], .agg #[.int .i64 m, .int .i64 e]] w fun r w' => r = .returned (.bool (fsame n d m e)) ∧ Below w.heap.size w w' := by
  have C := Lib.hid (fun w => frac_compare n d m e w hn hd hm he)
  have E := Lib.hid (cmpI_beq (n * e) (m * d))
  clear hn hd hm he
  unfold fsame
  rw [← E.out]
  clear E
  generalize cmpI (n * e) (m * d) = R at *
  have R1 := Lib.hid (fun w => frac_Right n d w)
  have R2 := Lib.hid (fun w => frac_Right m e w)
  generalize decide (1 ≤ d) = p at *
  generalize decide (1 ≤ e) = q at *
  cases p <;> cases q
  all_goals
    go_enter Try.func13, Try.ntmps13
    go_wp2_with (first
      | (go_at_call 9; (first | (with_reducible refine (R1.out _).mono ?_) | (with_reducible refine (R2.out _).mono ?_)); rintro e w1 ⟨rfl, hb⟩; obtain ⟨hc, hf, y0, y1, y2, y3⟩ := below2 (w := w) w.heap.size (by go_grown) hb (by first | (simp; done) | (simp; omega) | omega))
      | (go_at_call 21; refine (C.out _).mono ?_; rintro e w1 ⟨rfl, hb⟩; obtain ⟨hc, hf, y0, y1, y2, y3⟩ := below2 (w := w) w.heap.size (by go_grown) hb (by first | (simp; done) | (simp; omega) | omega)))
    go_ret
    exact ⟨rfl, by go_grown⟩

theorem frac_fitsMid (n d : Int) (w : World) :
    Calls Try.prog 34 #[.agg #[.int .i64 n, .int .i64 d]] w fun e w' => e = .returned (.bool (fsmall n d)) ∧ Below w.heap.size w w' := by
  have R := Lib.hid (fun w => frac_Right n d w)
  unfold fsmall
  by_cases h1 : 1 ≤ d <;> by_cases h2 : d ≤ 2147483648 <;> by_cases h3 : -2147483648 ≤ n <;> by_cases h4 : n ≤ 2147483648
  all_goals
    have t1 := h1
    rw [← decide_eq_true_iff (p := 1 ≤ d)] at t1
    try rw [Bool.not_eq_true] at t1
    have t2 := h2
    rw [← decide_eq_true_iff (p := d ≤ 2147483648)] at t2
    try rw [Bool.not_eq_true] at t2
    have t3 := h3
    rw [← decide_eq_true_iff (p := -2147483648 ≤ n)] at t3
    try rw [Bool.not_eq_true] at t3
    have t4 := h4
    rw [← decide_eq_true_iff (p := n ≤ 2147483648)] at t4
    try rw [Bool.not_eq_true] at t4
    clear h1 h2 h3 h4
    rw [t1] at R
    rw [t1, t2, t3, t4]
    go_enter Try.func34, Try.ntmps34
    go_wp2_with (go_at_call 9; refine (R.out _).mono ?_; rintro e w1 ⟨rfl, hb⟩; obtain ⟨hc, hf, y0, y1, y2⟩ := below1 (w := w) w.heap.size (by go_grown) hb (by first | (simp; done) | (simp; omega) | omega))
    go_ret
    exact ⟨rfl, by go_grown⟩

theorem frac_Mid (n d m e : Int) (w : World) :
    Calls Try.prog 19 #[.agg #[.int .i64 n, .int .i64 d], .agg #[.int .i64 m, .int .i64 e]] w fun r w' => r = .returned (.agg #[.int .i64 (fmid n d m e).1, .int .i64 (fmid n d m e).2]) ∧ Below w.heap.size w w' := by
  have R1 := Lib.hid (fun w => frac_fitsMid n d w)
  have R2 := Lib.hid (fun w => frac_fitsMid m e w)
  by_cases h1 : fsmall n d = true <;> by_cases h2 : fsmall m e = true
  · have e1 : fmid n d m e = (n + m, d + e) := by unfold fmid; rw [if_pos ⟨h1, h2⟩]
    obtain ⟨a1, a2, a3, a4⟩ := fsmall_iff.1 h1
    obtain ⟨b1, b2, b3, b4⟩ := fsmall_iff.1 h2
    rw [e1]
    rw [h1] at R1
    rw [h2] at R2
    clear h1 h2 e1
    go_enter Try.func19, Try.ntmps19
    go_wp2_with (go_at_call 34; (first | (with_reducible refine (R1.out _).mono ?_) | (with_reducible refine (R2.out _).mono ?_)); rintro e w1 ⟨rfl, hb⟩; obtain ⟨hc, hf, y0, y1, y2, y3, y4⟩ := below3 (w := w) w.heap.size (by go_grown) hb (by first | (simp; done) | (simp; omega) | omega))
    have k1 : w1.cell? ⟨w.heap.size + 1 + 1, 0, none⟩ = some (.int .i64 0) := by simp [*, go_sem]
    have k2 : w1.cell? ⟨w.heap.size + 1 + 1, 1, none⟩ = some (.int .i64 0) := by simp [*, go_sem]
    exact bodyPost_ret (v := .agg #[.int .i64 (n + m), .int .i64 (d + e)]) (by simp [results, Try.results19, go_sem, k1, k2]) rfl ⟨rfl, by go_grown⟩
  all_goals
    have e1 : fmid n d m e = (0, 0) := by unfold fmid; rw [if_neg (by simp [h1, h2])]
    rw [e1]
    first | rw [h1] at R1 | rw [Bool.not_eq_true] at h1
    first | rw [h2] at R2 | rw [Bool.not_eq_true] at h2
    try rw [h1] at R1
    try rw [h2] at R2
    clear h1 h2 e1
    go_enter Try.func19, Try.ntmps19
    go_wp2_with (go_at_call 34; (first | (with_reducible refine (R1.out _).mono ?_) | (with_reducible refine (R2.out _).mono ?_)); rintro e w1 ⟨rfl, hb⟩; obtain ⟨hc, hf, y0, y1, y2, y3, y4⟩ := below3 (w := w) w.heap.size (by go_grown) hb (by first | (simp; done) | (simp; omega) | omega))
    have k1 : w1.cell? ⟨w.heap.size + 1 + 1, 0, none⟩ = some (.int .i64 0) := by simp [*, go_sem]
    have k2 : w1.cell? ⟨w.heap.size + 1 + 1, 1, none⟩ = some (.int .i64 0) := by simp [*, go_sem]
    exact bodyPost_ret (v := .agg #[.int .i64 0, .int .i64 0]) (by simp [results, Try.results19, go_sem, k1, k2]) rfl ⟨rfl, by go_grown⟩

theorem frac_Make (n d : Int) (w : World) (hn : I64 n) (hd : I64 d) :
    Calls Try.prog 7 #[.int .i64 n, .int .i64 d] w fun r w' => r = .returned (.tuple #[.agg #[.int .i64 (fmake n d).1, .int .i64 (fmake n d).2], .bool (fmakeOk n d)]) ∧ Below w.heap.size w w' := by
  obtain ⟨n0, n1⟩ := hn
  obtain ⟨d0, d1⟩ := hd
  by_cases h : fmakeOk n d = true
  · obtain ⟨a1, a2, a3⟩ := of_decide_eq_true h
    by_cases hd : d < 0
    · have e1 : fmake n d = (-n, -d) := by unfold fmake; rw [if_pos h, if_pos hd]
      rw [e1, h]
      have t1 : (d == 0) = false := by simpa using a1
      have t2 : (n == -9223372036854775808) = false := by simpa using a2
      have t3 : (d == -9223372036854775808) = false := by simpa using a3
      have n2 : -9223372036854775807 ≤ n := by omega
      have d2 : -9223372036854775807 ≤ d := by omega
      have w1 : wrap64 (-n) = -n := IntWalk.wrap64_in _ (by omega)
      have w2 : wrap64 (-d) = -d := IntWalk.wrap64_in _ (by omega)
      clear a1 a2 a3 e1 h n0 d0
      go_enter Try.func7, Try.ntmps7
      go_wp2
      go_returns
      exact ⟨rfl, by go_grown⟩
    · have e1 : fmake n d = (n, d) := by unfold fmake; rw [if_pos h, if_neg hd]
      rw [e1, h]
      have t1 : (d == 0) = false := by simpa using a1
      have t2 : (n == -9223372036854775808) = false := by simpa using a2
      have t3 : (d == -9223372036854775808) = false := by simpa using a3
      clear a1 a2 a3 e1 h n0 d0
      go_enter Try.func7, Try.ntmps7
      go_wp2
      go_returns
      exact ⟨rfl, by go_grown⟩
  · rw [Bool.not_eq_true] at h
    have e1 : fmake n d = (0, 0) := by unfold fmake; rw [h]; rfl
    have h' : d = 0 ∨ n = -9223372036854775808 ∨ d = -9223372036854775808 := by
      have := of_decide_eq_false h
      omega
    rw [e1, h]
    clear e1 h
    by_cases hd : d = 0
    · have t1 : (d == 0) = true := by simpa using hd
      clear h' hd
      go_enter Try.func7, Try.ntmps7
      go_wp2
      go_returns
      exact ⟨rfl, by go_grown⟩
    · have t1 : (d == 0) = false := by simpa using hd
      by_cases hn : n = -9223372036854775808
      · have t2 : (n == -9223372036854775808) = true := by simpa using hn
        clear h' hd hn
        go_enter Try.func7, Try.ntmps7
        go_wp2
        go_returns
        exact ⟨rfl, by go_grown⟩
      · have t2 : (n == -9223372036854775808) = false := by simpa using hn
        have t3 : (d == -9223372036854775808) = true := by simp; omega
        clear h' hd hn
        go_enter Try.func7, Try.ntmps7
        go_wp2
        go_returns
        exact ⟨rfl, by go_grown⟩

theorem frac_At (v n d : Int) (w : World) (hv : I64 v) (hn : I64 n) (hd : I64 d) :
    Calls Try.prog 17 #[.int .i64 v, .agg #[.int .i64 n, .int .i64 d]] w fun r w' => r = .returned (.int .i64 (fat v n d)) ∧ Below w.heap.size w w' := by
  have R := Lib.hid (fun w => frac_Right n d w)
  by_cases h : 1 ≤ d
  · rw [decide_eq_true h] at R
    have M := Lib.hid (fun w => wide_Mul v n w hv hn)
    have hW := mul_W128 hv hn
    have O := Lib.hid (fun w => wide_Over (v * n) d w hW hd)
    have Z := Lib.hid (fun w => wide_Of 0 w (by unfold I64; omega))
    have C := Lib.hid (fun w => wide_Cmp (v * n) 0 w hW (by unfold W128; omega))
    have T := Lib.hid (cmpI_lt (v * n) 0)
    obtain ⟨k1, k2⟩ := fat_over v n d h
    have K1 := Lib.hid k1
    have K2 := Lib.hid k2
    clear k1 k2 hW hv hn hd h
    generalize fat v n d = A at *
    generalize cmpI (v * n) 0 = c at *
    generalize overQ (v * n) d = Q at *
    generalize hii (v * n) = x1 at *
    generalize lon (v * n) = x2 at *
    generalize v * n = p at *
    by_cases ho : overOk p d = true
    · rw [ho] at O
      obtain rfl := K1.out ho
      clear K1 K2 T ho
      go_enter Try.func17, Try.ntmps17
      go_wp2_with (first
        | (go_at_call 9; refine (R.out _).mono ?_; rintro e w1 ⟨rfl, hb⟩; obtain ⟨hc, hf, y0, y1, y2⟩ := below1 (w := w) w.heap.size (by go_grown) hb (by first | (simp; done) | (simp; omega) | omega))
        | (go_at_call 27; refine (M.out _).mono ?_; rintro e w2 ⟨rfl, hb2⟩; obtain ⟨hc2, hf2, y02, y12, y22⟩ := below1 (w := w) w.heap.size (by go_grown) hb2 (by first | (simp; done) | (simp; omega) | omega))
        | (go_at_call 28; refine (O.out _).mono ?_; rintro e w3 ⟨rfl, hb3⟩; obtain ⟨hc3, hf3, y03, y13, y23⟩ := below1 (w := w) w.heap.size (by go_grown) hb3 (by first | (simp; done) | (simp; omega) | omega)))
      go_ret
      exact ⟨rfl, by go_grown⟩
    · rw [Bool.not_eq_true] at ho
      have K3 := K2.out ho
      rw [ho] at O
      by_cases hp : p < 0
      all_goals
        first
          | (have e := K3.1 hp; have T' := T.out; rw [decide_eq_true hp] at T')
          | (have e := K3.2 (by omega); have T' := T.out; rw [decide_eq_false hp] at T')
        subst e
        clear K1 K2 K3 T ho hp
        generalize hii 0 = o1 at *
        generalize lon 0 = o2 at *
        go_enter Try.func17, Try.ntmps17
        go_wp2_with (first
          | (go_at_call 9; refine (R.out _).mono ?_; rintro e w1 ⟨rfl, hb⟩; obtain ⟨hc, hf, y0, y1, y2⟩ := below1 (w := w) w.heap.size (by go_grown) hb (by first | (simp; done) | (simp; omega) | omega))
          | (go_at_call 27; refine (M.out _).mono ?_; rintro e w2 ⟨rfl, hb2⟩; obtain ⟨hc2, hf2, y02, y12, y22⟩ := below1 (w := w) w.heap.size (by go_grown) hb2 (by first | (simp; done) | (simp; omega) | omega))
          | (go_at_call 28; refine (O.out _).mono ?_; rintro e w3 ⟨rfl, hb3⟩; obtain ⟨hc3, hf3, y03, y13, y23⟩ := below1 (w := w) w.heap.size (by go_grown) hb3 (by first | (simp; done) | (simp; omega) | omega)))
        have k0 : w3.cell? ⟨w2.heap.size, 0, none⟩ = some (.int .i64 x1) := by simp [*, go_sem]
        have k1 : w3.cell? ⟨w2.heap.size, 1, none⟩ = some (.int .u64 x2) := by simp [*, go_sem]
        have k2 : w2.heap.size < w3.heap.size := by have := hb3.size; simp at this; omega
        clear hc hf hc2 hf2 hc3 hf3 hb hb2 hb3 R M O y0 y1 y2 y02 y12 y22 y13 y23
        generalize w2.heap.size = g at *
        go_region_held3 (fun w' => w'.cell? ⟨g, 0, none⟩ = some (.int .i64 x1) ∧ w'.cell? ⟨g, 1, none⟩ = some (.int .u64 (x2 : Int))) (first | (refine ⟨?_, ?_⟩ <;> (first | assumption | (simp; assumption))) | go_keep)
          (first
            | (go_at_call 30; ((with_reducible refine (Z.out _).mono ?_)); rintro e wa ⟨rfl, hba⟩; refine keep2e (w := w) (g := g) (u := .int .i64 x1) (v := .int .u64 (x2 : Int)) hba ?_ ?_ ?_ ?_ ?_; (focus go_grown); (focus (first | (with_reducible assumption) | (simp; done) | (simp; omega) | omega)); (focus (first | (with_reducible assumption) | (simp; done) | (simp [*, go_sem]; done))); (focus (first | (with_reducible assumption) | (simp; done) | (simp [*, go_sem]; done))); intro k0a k1a k2a y0a; clear hba)
            | (go_at_call 29; ((with_reducible refine (C.out _).mono ?_)); rintro e wb ⟨rfl, hbb⟩; refine keep2e (w := w) (g := g) (u := .int .i64 x1) (v := .int .u64 (x2 : Int)) hbb ?_ ?_ ?_ ?_ ?_; (focus go_grown); (focus (first | (with_reducible assumption) | (simp; done) | (simp; omega) | omega)); (focus (first | (with_reducible assumption) | (simp; done) | (simp [*, go_sem]; done))); (focus (first | (with_reducible assumption) | (simp; done) | (simp [*, go_sem]; done))); intro k0b k1b k2b y0b; clear hbb))
        all_goals go_wp2
        all_goals go_ret
        all_goals exact ⟨rfl, by go_grown⟩
  · rw [decide_eq_false h] at R
    have e : fat v n d = 0 := by unfold fat; rw [if_pos (by omega)]
    rw [e]
    clear h e hv hn hd
    go_enter Try.func17, Try.ntmps17
    go_wp2_with (go_at_call 9; refine (R.out _).mono ?_; rintro e w1 ⟨rfl, hb⟩; obtain ⟨hc, hf, y0, y1, y2⟩ := below1 (w := w) w.heap.size (by go_grown) hb (by first | (simp; done) | (simp; omega) | omega))
    go_ret
    exact ⟨rfl, by go_grown⟩

end Go.Proofs.Ytapflinfkjoinaa
