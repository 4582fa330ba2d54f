/- Contracts of the document's own answers, layer 10 (Right and Coord, which the statements use). -/
import Derived.Test.YtomlcglnkdfemaaTt11
import Derived.Test.YtomlcglnkdfemaaTt14
import Derived.Test.YtomlcglnkdfemaaTt7
import Derived.Deep.DeepCutAuto


namespace Go.Proofs.Ytomlcglnkdfemaa
section

open Go.RowKit Go.Proofs.Sky

set_option linter.unusedVariables false

set_option maxRecDepth 100000 in
set_option maxHeartbeats 8000000 in
theorem ref10_Right (a1 a2 a3 a4 a5 a6 : Int) (w : World) :
    Calls Try.prog 52 #[.agg #[.int .i64 a1, .int .i64 a2, .int .i64 a3, .int .i64 a4, .int .i64 a5, .int .i64 a6]] w fun en w' => en = .returned (.bool (bRight ((a1, a2, a3), (a4, a5, a6)))) ∧ Below w.heap.size w w' := by
  have N1 := Lib.hid (fun w => ref6_Near a1 a2 a3 w)
  have N2 := Lib.hid (fun w => ref6_Near a4 a5 a6 w)
  unfold bRight nrT
  dsimp only
  generalize vnear a1 a2 a3 = v1 at *
  generalize vnear a4 a5 a6 = v2 at *
  cases v1 with
  | false =>
    rw [show (false && (v2 && decide (a1 ≤ a4 ∧ a2 ≤ a5 ∧ a3 ≤ a6))) = false by rfl]
    go_enter Try.func52, Try.ntmps52
    go_upto_region 1 with (fail)
    obtain ⟨W1, hW1⟩ : ∃ W, W = w.alloc (.cells #[.int .i64 a1, .int .i64 a2, .int .i64 a3, .int .i64 a4, .int .i64 a5, .int .i64 a6] 41) := ⟨_, rfl⟩
    obtain ⟨k_b, B1⟩ := st1 hW1
    rw [← hW1]
    clear hW1
    obtain ⟨c_b_0, c_b_1, c_b_2, c_b_3, c_b_4, c_b_5⟩ := bwc6 (k_b)
    obtain ⟨p1, hp1⟩ : ∃ p : BW W1, p.w = W1 := ⟨BW.start W1, rfl⟩
    rw [← hp1]
    clear hp1
    go_wp2_with (first
      | (go_at_call 69; (first | (with_reducible refine (bw_call N1.out _).mono ?_) | (with_reducible refine (bw_call N2.out _).mono ?_)); rintro e w' ⟨rfl, q, rfl⟩))
    go_ret
    exact ⟨rfl, bw_below B1 _⟩
  | true =>
   cases v2 with
   | false =>
    rw [show (true && (false && decide (a1 ≤ a4 ∧ a2 ≤ a5 ∧ a3 ≤ a6))) = false by rfl]
    go_enter Try.func52, Try.ntmps52
    go_upto_region 1 with (fail)
    obtain ⟨W1, hW1⟩ : ∃ W, W = w.alloc (.cells #[.int .i64 a1, .int .i64 a2, .int .i64 a3, .int .i64 a4, .int .i64 a5, .int .i64 a6] 41) := ⟨_, rfl⟩
    obtain ⟨k_b, B1⟩ := st1 hW1
    rw [← hW1]
    clear hW1
    obtain ⟨c_b_0, c_b_1, c_b_2, c_b_3, c_b_4, c_b_5⟩ := bwc6 (k_b)
    obtain ⟨p1, hp1⟩ : ∃ p : BW W1, p.w = W1 := ⟨BW.start W1, rfl⟩
    rw [← hp1]
    clear hp1
    go_wp2_with (first
      | (go_at_call 69; (first | (with_reducible refine (bw_call N1.out _).mono ?_) | (with_reducible refine (bw_call N2.out _).mono ?_)); rintro e w' ⟨rfl, q, rfl⟩))
    go_ret
    exact ⟨rfl, bw_below B1 _⟩
   | true =>
    by_cases h1 : a1 ≤ a4
    · by_cases h2 : a2 ≤ a5
      · by_cases h3 : a3 ≤ a6
        · rw [show (true && (true && decide (a1 ≤ a4 ∧ a2 ≤ a5 ∧ a3 ≤ a6))) = true by simp; omega]
          have t1 : decide (a1 ≤ a4) = true := decide_eq_true h1
          have t2 : decide (a2 ≤ a5) = true := decide_eq_true h2
          have t3 : decide (a3 ≤ a6) = true := decide_eq_true h3
          clear h1 h2 h3
          go_enter Try.func52, Try.ntmps52
          go_upto_region 1 with (fail)
          obtain ⟨W1, hW1⟩ : ∃ W, W = w.alloc (.cells #[.int .i64 a1, .int .i64 a2, .int .i64 a3, .int .i64 a4, .int .i64 a5, .int .i64 a6] 41) := ⟨_, rfl⟩
          obtain ⟨k_b, B1⟩ := st1 hW1
          rw [← hW1]
          clear hW1
          obtain ⟨c_b_0, c_b_1, c_b_2, c_b_3, c_b_4, c_b_5⟩ := bwc6 (k_b)
          obtain ⟨p1, hp1⟩ : ∃ p : BW W1, p.w = W1 := ⟨BW.start W1, rfl⟩
          rw [← hp1]
          clear hp1
          go_wp2_with (first
            | (go_at_call 69; (first | (with_reducible refine (bw_call N1.out _).mono ?_) | (with_reducible refine (bw_call N2.out _).mono ?_)); rintro e w' ⟨rfl, q, rfl⟩))
          go_ret
          exact ⟨rfl, bw_below B1 _⟩
        · rw [show (true && (true && decide (a1 ≤ a4 ∧ a2 ≤ a5 ∧ a3 ≤ a6))) = false by simp; omega]
          have t1 : decide (a1 ≤ a4) = true := decide_eq_true h1
          have t2 : decide (a2 ≤ a5) = true := decide_eq_true h2
          have t3 : decide (a3 ≤ a6) = false := decide_eq_false h3
          clear h1 h2 h3
          go_enter Try.func52, Try.ntmps52
          go_upto_region 1 with (fail)
          obtain ⟨W1, hW1⟩ : ∃ W, W = w.alloc (.cells #[.int .i64 a1, .int .i64 a2, .int .i64 a3, .int .i64 a4, .int .i64 a5, .int .i64 a6] 41) := ⟨_, rfl⟩
          obtain ⟨k_b, B1⟩ := st1 hW1
          rw [← hW1]
          clear hW1
          obtain ⟨c_b_0, c_b_1, c_b_2, c_b_3, c_b_4, c_b_5⟩ := bwc6 (k_b)
          obtain ⟨p1, hp1⟩ : ∃ p : BW W1, p.w = W1 := ⟨BW.start W1, rfl⟩
          rw [← hp1]
          clear hp1
          go_wp2_with (first
            | (go_at_call 69; (first | (with_reducible refine (bw_call N1.out _).mono ?_) | (with_reducible refine (bw_call N2.out _).mono ?_)); rintro e w' ⟨rfl, q, rfl⟩))
          go_ret
          exact ⟨rfl, bw_below B1 _⟩
      · rw [show (true && (true && decide (a1 ≤ a4 ∧ a2 ≤ a5 ∧ a3 ≤ a6))) = false by simp; omega]
        have t1 : decide (a1 ≤ a4) = true := decide_eq_true h1
        have t2 : decide (a2 ≤ a5) = false := decide_eq_false h2
        clear h1 h2
        go_enter Try.func52, Try.ntmps52
        go_upto_region 1 with (fail)
        obtain ⟨W1, hW1⟩ : ∃ W, W = w.alloc (.cells #[.int .i64 a1, .int .i64 a2, .int .i64 a3, .int .i64 a4, .int .i64 a5, .int .i64 a6] 41) := ⟨_, rfl⟩
        obtain ⟨k_b, B1⟩ := st1 hW1
        rw [← hW1]
        clear hW1
        obtain ⟨c_b_0, c_b_1, c_b_2, c_b_3, c_b_4, c_b_5⟩ := bwc6 (k_b)
        obtain ⟨p1, hp1⟩ : ∃ p : BW W1, p.w = W1 := ⟨BW.start W1, rfl⟩
        rw [← hp1]
        clear hp1
        go_wp2_with (first
          | (go_at_call 69; (first | (with_reducible refine (bw_call N1.out _).mono ?_) | (with_reducible refine (bw_call N2.out _).mono ?_)); rintro e w' ⟨rfl, q, rfl⟩))
        go_ret
        exact ⟨rfl, bw_below B1 _⟩
    · rw [show (true && (true && decide (a1 ≤ a4 ∧ a2 ≤ a5 ∧ a3 ≤ a6))) = false by simp; omega]
      have t1 : decide (a1 ≤ a4) = false := decide_eq_false h1
      clear h1
      go_enter Try.func52, Try.ntmps52
      go_upto_region 1 with (fail)
      obtain ⟨W1, hW1⟩ : ∃ W, W = w.alloc (.cells #[.int .i64 a1, .int .i64 a2, .int .i64 a3, .int .i64 a4, .int .i64 a5, .int .i64 a6] 41) := ⟨_, rfl⟩
      obtain ⟨k_b, B1⟩ := st1 hW1
      rw [← hW1]
      clear hW1
      obtain ⟨c_b_0, c_b_1, c_b_2, c_b_3, c_b_4, c_b_5⟩ := bwc6 (k_b)
      obtain ⟨p1, hp1⟩ : ∃ p : BW W1, p.w = W1 := ⟨BW.start W1, rfl⟩
      rw [← hp1]
      clear hp1
      go_wp2_with (first
        | (go_at_call 69; (first | (with_reducible refine (bw_call N1.out _).mono ?_) | (with_reducible refine (bw_call N2.out _).mono ?_)); rintro e w' ⟨rfl, q, rfl⟩))
      go_ret
      exact ⟨rfl, bw_below B1 _⟩

end
end Go.Proofs.Ytomlcglnkdfemaa
