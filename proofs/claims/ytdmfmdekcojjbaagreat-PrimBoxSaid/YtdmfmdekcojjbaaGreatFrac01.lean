/- Contracts of package frac (all but Least). -/
import Derived.Test.YtdmfmdekcojjbaaGreatWide01
import Derived.Test.YtdmfmdekcojjbaaGreatMath03
import Derived.Test.YtdmfmdekcojjbaaGreatMem02
namespace Go.Proofs.YtdmfmdekcojjbaaGreat
open Go.RowKit Go.Proofs.Sky
set_option linter.unusedVariables false
attribute [local go_sem ↓] Go.wp_at_zero Go.wp_at_succ

theorem frac_Right (n d : Int) (w : World) :
    Calls Tryz.prog 78 #[.agg #[.int .i64 n, .int .i64 d]] w fun e w' => e = .returned (.bool (decide (1 ≤ d))) ∧ Below w.heap.size w w' := by
  go_enter Tryz.func78, Tryz.ntmps78
  go_wp2
  go_ret
  exact ⟨rfl, by go_grown⟩

theorem frac_compare (n d m e : Int) (w : World) (hn : I64 n) (hd : I64 d) (hm : I64 m) (he : I64 e) :
    Calls Tryz.prog 79 #[.agg #[.int .i64 n, .int .i64 d], .agg #[.int .i64 m, .int .i64 e]] w fun r w' => r = .returned (.int .i64 (cmpI (n * e) (m * d))) ∧ Below w.heap.size w w' := by
  have M1 := Lib.hid (fun w => wide_Mul n e w hn he)
  have M2 := Lib.hid (fun w => wide_Mul m d w hm hd)
  have C := Lib.hid (fun w => wide_Cmp (n * e) (m * d) w (mul_W128 hn he) (mul_W128 hm hd))
  clear hn hd hm he
  generalize cmpI (n * e) (m * d) = R at *
  generalize hii (n * e) = x1 at *
  generalize lon (n * e) = x2 at *
  generalize hii (m * d) = y1 at *
  generalize lon (m * d) = y2 at *
  obtain ⟨z1, z2, z3, z4, z5, z6⟩ := lt3 w.heap.size
  go_enter Tryz.func79, Tryz.ntmps79
  go_wp2
  go_region_held3 (fun w' => w'.cell? ⟨w.heap.size, 0, none⟩ = some (.int .i64 n) ∧ w'.cell? ⟨w.heap.size, 1, none⟩ = some (.int .i64 d) ∧
      w'.cell? ⟨w.heap.size + 1, 0, none⟩ = some (.int .i64 m) ∧ w'.cell? ⟨w.heap.size + 1, 1, none⟩ = some (.int .i64 e)) (go_keep)
    (first
      | (go_at_call 72; (first | (with_reducible refine (M1.out _).mono ?_) | (with_reducible refine (M2.out _).mono ?_)); rintro e w1 ⟨rfl, hb⟩; obtain ⟨hc, hf, y0, y1, y2, y3⟩ := below2 (w := w) w.heap.size (by go_grown) hb (by first | (simp; done) | (simp; omega) | omega))
      | (go_at_call 96; refine (C.out _).mono ?_; rintro e w1 ⟨rfl, hb⟩; obtain ⟨hc, hf, y0, y1, y2, y3⟩ := below2 (w := w) w.heap.size (by go_grown) hb (by first | (simp; done) | (simp; omega) | omega)))
  all_goals go_wp2
  all_goals go_ret
  all_goals exact ⟨rfl, by go_grown⟩

theorem frac_Less (n d m e : Int) (w : World) (hn : I64 n) (hd : I64 d) (hm : I64 m) (he : I64 e) :
    Calls Tryz.prog 60 #[.agg #[.int .i64 n, .int .i64 d], .agg #[.int .i64 m, .int .i64 e]] w fun r w' => r = .returned (.bool (fless n d m e)) ∧ Below w.heap.size w w' := by
  have C := Lib.hid (fun w => frac_compare n d m e w hn hd hm he)
  have E := Lib.hid (cmpI_lt (n * e) (m * d))
  clear hn hd hm he
  unfold fless
  rw [← E.out]
  clear E
  generalize cmpI (n * e) (m * d) = R at *
  have R1 := Lib.hid (fun w => frac_Right n d w)
  have R2 := Lib.hid (fun w => frac_Right m e w)
  generalize decide (1 ≤ d) = p at *
  generalize decide (1 ≤ e) = q at *
  cases p <;> cases q
  all_goals
    go_enter Tryz.func60, Tryz.ntmps60
    go_wp2_with (first
      | (go_at_call 78; (first | (with_reducible refine (R1.out _).mono ?_) | (with_reducible refine (R2.out _).mono ?_)); rintro e w1 ⟨rfl, hb⟩; obtain ⟨hc, hf, y0, y1, y2, y3⟩ := below2 (w := w) w.heap.size (by go_grown) hb (by first | (simp; done) | (simp; omega) | omega))
      | (go_at_call 79; refine (C.out _).mono ?_; rintro e w1 ⟨rfl, hb⟩; obtain ⟨hc, hf, y0, y1, y2, y3⟩ := below2 (w := w) w.heap.size (by go_grown) hb (by first | (simp; done) | (simp; omega) | omega)))
    go_ret
    exact ⟨rfl, by go_grown⟩

theorem frac_Make (n d : Int) (w : World) (hn : I64 n) (hd : I64 d) :
    Calls Tryz.prog 43 #[.int .i64 n, .int .i64 d] w fun r w' => r = .returned (.tuple #[.agg #[.int .i64 (fmake n d).1, .int .i64 (fmake n d).2], .bool (fmakeOk n d)]) ∧ Below w.heap.size w w' := by
  obtain ⟨n0, n1⟩ := hn
  obtain ⟨d0, d1⟩ := hd
  by_cases h : fmakeOk n d = true
  · obtain ⟨a1, a2, a3⟩ := of_decide_eq_true h
    by_cases hd : d < 0
    · have e1 : fmake n d = (-n, -d) := by unfold fmake; rw [if_pos h, if_pos hd]
      rw [e1, h]
      have t1 : (d == 0) = false := by simpa using a1
      have t2 : (n == -9223372036854775808) = false := by simpa using a2
      have t3 : (d == -9223372036854775808) = false := by simpa using a3
      have n2 : -9223372036854775807 ≤ n := by omega
      have d2 : -9223372036854775807 ≤ d := by omega
      have w1 : wrap64 (-n) = -n := IntWalk.wrap64_in _ (by omega)
      have w2 : wrap64 (-d) = -d := IntWalk.wrap64_in _ (by omega)
      clear a1 a2 a3 e1 h n0 d0
      go_enter Tryz.func43, Tryz.ntmps43
      go_wp2
      go_returns
      exact ⟨rfl, by go_grown⟩
    · have e1 : fmake n d = (n, d) := by unfold fmake; rw [if_pos h, if_neg hd]
      rw [e1, h]
      have t1 : (d == 0) = false := by simpa using a1
      have t2 : (n == -9223372036854775808) = false := by simpa using a2
      have t3 : (d == -9223372036854775808) = false := by simpa using a3
      clear a1 a2 a3 e1 h n0 d0
      go_enter Tryz.func43, Tryz.ntmps43
      go_wp2
      go_returns
      exact ⟨rfl, by go_grown⟩
  · rw [Bool.not_eq_true] at h
    have e1 : fmake n d = (0, 0) := by unfold fmake; rw [h]; rfl
    have h' : d = 0 ∨ n = -9223372036854775808 ∨ d = -9223372036854775808 := by
      have := of_decide_eq_false h
      omega
    rw [e1, h]
    clear e1 h
    by_cases hd : d = 0
    · have t1 : (d == 0) = true := by simpa using hd
      clear h' hd
      go_enter Tryz.func43, Tryz.ntmps43
      go_wp2
      go_returns
      exact ⟨rfl, by go_grown⟩
    · have t1 : (d == 0) = false := by simpa using hd
      by_cases hn : n = -9223372036854775808
      · have t2 : (n == -9223372036854775808) = true := by simpa using hn
        clear h' hd hn
        go_enter Tryz.func43, Tryz.ntmps43
        go_wp2
        go_returns
        exact ⟨rfl, by go_grown⟩
      · have t2 : (n == -9223372036854775808) = false := by simpa using hn
        have t3 : (d == -9223372036854775808) = true := by simp; omega
        clear h' hd hn
        go_enter Tryz.func43, Tryz.ntmps43
        go_wp2
        go_returns
        exact ⟨rfl, by go_grown⟩

theorem frac_At (v n d : Int) (w : World) (hv : I64 v) (hn : I64 n) (hd : I64 d) :
    Calls Tryz.prog 84 #[.int .i64 v, .agg #[.int .i64 n, .int .i64 d]] w fun r w' => r = .returned (.int .i64 (fat v n d)) ∧ Below w.heap.size w w' := by
  have R := Lib.hid (fun w => frac_Right n d w)
  by_cases h : 1 ≤ d
  · rw [decide_eq_true h] at R
    have M := Lib.hid (fun w => wide_Mul v n w hv hn)
    have hW := mul_W128 hv hn
    have O := Lib.hid (fun w => wide_Over (v * n) d w hW hd)
    have Z := Lib.hid (fun w => wide_Of 0 w (by unfold I64; omega))
    have C := Lib.hid (fun w => wide_Cmp (v * n) 0 w hW (by unfold W128; omega))
    have T := Lib.hid (cmpI_lt (v * n) 0)
    obtain ⟨k1, k2⟩ := fat_over v n d h
    have K1 := Lib.hid k1
    have K2 := Lib.hid k2
    clear k1 k2 hW hv hn hd h
    generalize fat v n d = A at *
    generalize cmpI (v * n) 0 = c at *
    generalize overQ (v * n) d = Q at *
    generalize hii (v * n) = x1 at *
    generalize lon (v * n) = x2 at *
    generalize v * n = p at *
    by_cases ho : overOk p d = true
    · rw [ho] at O
      obtain rfl := K1.out ho
      clear K1 K2 T ho
      go_enter Tryz.func84, Tryz.ntmps84
      go_wp2_with (first
        | (go_at_call 78; refine (R.out _).mono ?_; rintro e w1 ⟨rfl, hb⟩; obtain ⟨hc, hf, y0, y1, y2⟩ := below1 (w := w) w.heap.size (by go_grown) hb (by first | (simp; done) | (simp; omega) | omega))
        | (go_at_call 72; refine (M.out _).mono ?_; rintro e w2 ⟨rfl, hb2⟩; obtain ⟨hc2, hf2, y02, y12, y22⟩ := below1 (w := w) w.heap.size (by go_grown) hb2 (by first | (simp; done) | (simp; omega) | omega))
        | (go_at_call 99; refine (O.out _).mono ?_; rintro e w3 ⟨rfl, hb3⟩; obtain ⟨hc3, hf3, y03, y13, y23⟩ := below1 (w := w) w.heap.size (by go_grown) hb3 (by first | (simp; done) | (simp; omega) | omega)))
      go_ret
      exact ⟨rfl, by go_grown⟩
    · rw [Bool.not_eq_true] at ho
      have K3 := K2.out ho
      rw [ho] at O
      by_cases hp : p < 0
      all_goals
        first
          | (have e := K3.1 hp; have T' := T.out; rw [decide_eq_true hp] at T')
          | (have e := K3.2 (by omega); have T' := T.out; rw [decide_eq_false hp] at T')
        subst e
        clear K1 K2 K3 T ho hp
        generalize hii 0 = o1 at *
        generalize lon 0 = o2 at *
        go_enter Tryz.func84, Tryz.ntmps84
        go_wp2_with (first
          | (go_at_call 78; refine (R.out _).mono ?_; rintro e w1 ⟨rfl, hb⟩; obtain ⟨hc, hf, y0, y1, y2⟩ := below1 (w := w) w.heap.size (by go_grown) hb (by first | (simp; done) | (simp; omega) | omega))
          | (go_at_call 72; refine (M.out _).mono ?_; rintro e w2 ⟨rfl, hb2⟩; obtain ⟨hc2, hf2, y02, y12, y22⟩ := below1 (w := w) w.heap.size (by go_grown) hb2 (by first | (simp; done) | (simp; omega) | omega))
          | (go_at_call 99; refine (O.out _).mono ?_; rintro e w3 ⟨rfl, hb3⟩; obtain ⟨hc3, hf3, y03, y13, y23⟩ := below1 (w := w) w.heap.size (by go_grown) hb3 (by first | (simp; done) | (simp; omega) | omega)))
        have k0 : w3.cell? ⟨w2.heap.size, 0, none⟩ = some (.int .i64 x1) := by simp [*, go_sem]
        have k1 : w3.cell? ⟨w2.heap.size, 1, none⟩ = some (.int .u64 x2) := by simp [*, go_sem]
        have k2 : w2.heap.size < w3.heap.size := by have := hb3.size; simp at this; omega
        clear hc hf hc2 hf2 hc3 hf3 hb hb2 hb3 R M O y0 y1 y2 y02 y12 y22 y13 y23
        generalize w2.heap.size = g at *
        go_region_held3 (fun w' => w'.cell? ⟨g, 0, none⟩ = some (.int .i64 x1) ∧ w'.cell? ⟨g, 1, none⟩ = some (.int .u64 (x2 : Int))) (first | (refine ⟨?_, ?_⟩ <;> (first | assumption | (simp; assumption))) | go_keep)
          (first
            | (go_at_call 100; ((with_reducible refine (Z.out _).mono ?_)); rintro e wa ⟨rfl, hba⟩; refine keep2e (w := w) (g := g) (u := .int .i64 x1) (v := .int .u64 (x2 : Int)) hba ?_ ?_ ?_ ?_ ?_; (focus go_grown); (focus (first | (with_reducible assumption) | (simp; done) | (simp; omega) | omega)); (focus (first | (with_reducible assumption) | (simp; done) | (simp [*, go_sem]; done))); (focus (first | (with_reducible assumption) | (simp; done) | (simp [*, go_sem]; done))); intro k0a k1a k2a y0a; clear hba)
            | (go_at_call 96; ((with_reducible refine (C.out _).mono ?_)); rintro e wb ⟨rfl, hbb⟩; refine keep2e (w := w) (g := g) (u := .int .i64 x1) (v := .int .u64 (x2 : Int)) hbb ?_ ?_ ?_ ?_ ?_; (focus go_grown); (focus (first | (with_reducible assumption) | (simp; done) | (simp; omega) | omega)); (focus (first | (with_reducible assumption) | (simp; done) | (simp [*, go_sem]; done))); (focus (first | (with_reducible assumption) | (simp; done) | (simp [*, go_sem]; done))); intro k0b k1b k2b y0b; clear hbb))
        all_goals go_wp2
        all_goals go_ret
        all_goals exact ⟨rfl, by go_grown⟩
  · rw [decide_eq_false h] at R
    have e : fat v n d = 0 := by unfold fat; rw [if_pos (by omega)]
    rw [e]
    clear h e hv hn hd
    go_enter Tryz.func84, Tryz.ntmps84
    go_wp2_with (go_at_call 78; refine (R.out _).mono ?_; rintro e w1 ⟨rfl, hb⟩; obtain ⟨hc, hf, y0, y1, y2⟩ := below1 (w := w) w.heap.size (by go_grown) hb (by first | (simp; done) | (simp; omega) | omega))
    go_ret
    exact ⟨rfl, by go_grown⟩

end Go.Proofs.YtdmfmdekcojjbaaGreat
