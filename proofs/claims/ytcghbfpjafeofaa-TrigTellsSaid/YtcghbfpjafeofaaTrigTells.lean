/- The walk of the statement TrigTells. -/
import Derived.Test.YtcghbfpjafeofaaAwake05
import Derived.Deep.SlicePairs
import Derived.Deep.Cut
import Derived.DataReads
import Derived.ChangeKeysEq
import Derived.WideShapes
import Derived.Lib.SmallJoins
namespace Go.Proofs.Ytcghbfpjafeofaa
open Go.RowKit Go.Proofs.Sky
set_option linter.unusedVariables false

theorem stepCells_len (n : Int) (k : Nat) : (stepCells n k).length = k * 2 := by
  induction k with
  | zero => rfl
  | succ k ih => rw [stepCells_next, List.length_append, ih]; simp [stepAt]; omega

theorem stepCells_get (n : Int) (m k : Nat) (h : k < m) : (stepCells n m)[k * 2]? = some (.int .i64 (cosI ((k : Int) * 65536 / n))) ∧ (stepCells n m)[k * 2 + 1]? = some (.int .i64 (sinI ((k : Int) * 65536 / n))) := by
  induction m with
  | zero => omega
  | succ m ih =>
    rw [stepCells_next]
    by_cases e : k < m
    · have l := stepCells_len n m
      rw [List.getElem?_append_left (by omega), List.getElem?_append_left (by omega)]
      exact ih e
    · obtain rfl : k = m := by omega
      have l := stepCells_len n k
      rw [List.getElem?_append_right (by omega), List.getElem?_append_right (by omega), l]
      rw [show k * 2 - k * 2 = 0 by omega, show k * 2 + 1 - k * 2 = 1 by omega]
      exact ⟨rfl, rfl⟩

/-- m steps' sines in block g of W. -/
def StepRow (W : World) (g m : Nat) : Prop := g < W.heap.size ∧ ∀ k, k < m → W.cell? ⟨g, k * 2, none⟩ = some (.int .i64 (cosI ((k : Int) * 65536 / (m : Int)))) ∧ W.cell? ⟨g, k * 2 + 1, none⟩ = some (.int .i64 (sinI ((k : Int) * 65536 / (m : Int))))

theorem StepRow.below {W W' : World} {g m : Nat} (h : StepRow W g m) (hb : Below W.heap.size W W') : StepRow W' g m :=
  ⟨Nat.lt_of_lt_of_le h.1 hb.size, fun k hk => ⟨(hb.cell (p := ⟨g, k * 2, none⟩) h.1).trans (h.2 k hk).1, (hb.cell (p := ⟨g, k * 2 + 1, none⟩) h.1).trans (h.2 k hk).2⟩⟩

theorem stepRow_of {W : World} {base m : Nat} {v : Value} (h : W.ownsRow base 28 2 v (m + 1) (stepCells ((m + 1 : Nat) : Int) (m + 1))) : ∃ g cap, v = .slice (some ⟨g, 0, none⟩) (m + 1) cap ∧ StepRow W g (m + 1) := by
  obtain ⟨g, cap, rfl⟩ := ownsRow_succ h
  refine ⟨g, cap, rfl, (h.lt g rfl).2, fun k hk => ?_⟩
  rw [h.cellAt (k * 2) (by omega), h.cellAt (k * 2 + 1) (by omega)]
  exact stepCells_get _ _ k hk

theorem pair_under : Try.prog.underlying 28 = some (.array 2 3) := by kernel_rfl

theorem pair_int : Try.prog.underlying 3 = some (.int .i64) := by kernel_rfl

theorem pair_intinfo : ∃ i, Try.prog.info? 3 = some i := ⟨_, rfl⟩

theorem pair_intcells : Try.prog.cellsOf 3 = 1 := by kernel_rfl

theorem pair_guard : Try.prog.eqGuardType Try.prog.depth 28 = false := by kernel_rfl

theorem pair_same (x y : Int) (w : World) : (Op.equalIn 10000 28 (.agg #[.int .i64 x, .int .i64 y]) (.agg #[.int .i64 x, .int .i64 y])).run Try.prog w = .ok true w := by
  obtain ⟨i, hi⟩ := pair_intinfo
  rw [run_equalIn_array w 9999 _ _ pair_under hi, pair_intcells]
  have h := pair_int
  simp [Op.eqItems, List.range, List.range.loop, go_sem, h, run_equalIn_int]

theorem sq_in {c : Int} (h0 : -16384 ≤ c) (h1 : c ≤ 16384) : 0 ≤ c * c ∧ c * c ≤ 268435456 := by
  have a : c * c = c.natAbs * c.natAbs := by rw [Int.natAbs_mul_self']
  have b : c.natAbs ≤ 16384 := by omega
  have d := Nat.mul_le_mul b b
  rw [a]
  omega

theorem law_TrigTells_skip (h n : Int) (w : World) (hh : I64 h) (h1 : 40 < n) (h2 : n ≤ 1024) :
    Calls Try.prog 3 #[.int .i64 h, .int .i64 n] w fun e w' => e = .returned (.bool true) ∧ Below w.heap.size w w' := by
  have B := Lib.hid (fun w => trig_Both h w hh)
  have S := Lib.hid (fun w => trig_Sin h w hh)
  have C := Lib.hid (fun w => trig_Cos h w hh)
  have Q := Lib.hid (fun w => trig_Square h w hh)
  have S' := Lib.hid (below_of_same (fun w => ref5_Sin h w hh))
  have C' := Lib.hid (below_of_same (fun w => ref5_Cos h w hh))
  obtain ⟨r0, r1⟩ := sinI_range h
  obtain ⟨k0, k1⟩ := cosI_range h
  have e := show sqI h = cosI h * cosI h + sinI h * sinI h from rfl
  rw [e] at Q
  generalize sinI h = s at *
  generalize cosI h = c at *
  obtain ⟨a0, a1⟩ := sq_in k0 k1
  obtain ⟨b0, b1⟩ := sq_in r0 r1
  have m1 : wrap64 (c * c) = c * c := IntWalk.wrap64_in _ (by omega)
  have m2 : wrap64 (s * s) = s * s := IntWalk.wrap64_in _ (by omega)
  have m3 : wrap64 (c * c + s * s) = c * c + s * s := IntWalk.wrap64_in _ (by omega)
  clear a0 a1 b0 b1
  have HA := Lib.hid (fun w => awake05 w)
  have t1 : decide (40 < n) = true := decide_eq_true h1
  have t2 : decide (n ≤ 1024) = true := decide_eq_true h2
  have HB := Lib.hid (fun q : BW w => q.h)
  clear e r0 r1 k0 k1 h1 h2 hh
  suffices H : ∀ p0 : BW w, Calls Try.prog 3 #[.int .i64 h, .int .i64 n] p0.w fun e w' => e = .returned (.bool true) ∧ Below w.heap.size w w' from H (BW.start w)
  intro p0
  go_enter Try.func3, Try.ntmps3
  go_wp2_with (first
    | (go_at_call 6; (with_reducible refine (bw_call B.out _).mono ?_); rintro e w' ⟨rfl, q1, rfl⟩)
    | (go_at_call 7; (with_reducible refine (bw_call S.out _).mono ?_); rintro e w' ⟨rfl, q1, rfl⟩)
    | (go_at_call 8; (with_reducible refine (bw_call S'.out _).mono ?_); rintro e w' ⟨rfl, q1, rfl⟩)
    | (go_at_call 9; (with_reducible refine (bw_call C.out _).mono ?_); rintro e w' ⟨rfl, q1, rfl⟩)
    | (go_at_call 10; (with_reducible refine (bw_call C'.out _).mono ?_); rintro e w' ⟨rfl, q1, rfl⟩)
    | (go_at_call 11; (with_reducible refine (bw_call Q.out _).mono ?_); rintro e w' ⟨rfl, q1, rfl⟩)
    | (go_at_call 12; (with_reducible refine (bw_call HA.out _).mono ?_); rintro e w' ⟨rfl, q1, rfl⟩))
  go_ret
  exact ⟨rfl, HB.out _⟩

theorem law_TrigTells_none (h n : Int) (w : World) (hh : I64 h) (hn : I64 n) (h0 : stepN n = 0) :
    Calls Try.prog 3 #[.int .i64 h, .int .i64 n] w fun e w' => e = .returned (.bool true) ∧ Below w.heap.size w w' := by
  have B := Lib.hid (fun w => trig_Both h w hh)
  have S := Lib.hid (fun w => trig_Sin h w hh)
  have C := Lib.hid (fun w => trig_Cos h w hh)
  have Q := Lib.hid (fun w => trig_Square h w hh)
  have S' := Lib.hid (below_of_same (fun w => ref5_Sin h w hh))
  have C' := Lib.hid (below_of_same (fun w => ref5_Cos h w hh))
  obtain ⟨r0, r1⟩ := sinI_range h
  obtain ⟨k0, k1⟩ := cosI_range h
  have e := show sqI h = cosI h * cosI h + sinI h * sinI h from rfl
  rw [e] at Q
  generalize sinI h = s at *
  generalize cosI h = c at *
  obtain ⟨a0, a1⟩ := sq_in k0 k1
  obtain ⟨b0, b1⟩ := sq_in r0 r1
  have m1 : wrap64 (c * c) = c * c := IntWalk.wrap64_in _ (by omega)
  have m2 : wrap64 (s * s) = s * s := IntWalk.wrap64_in _ (by omega)
  have m3 : wrap64 (c * c + s * s) = c * c + s * s := IntWalk.wrap64_in _ (by omega)
  clear a0 a1 b0 b1
  have HA := Lib.hid (fun w => awake05 w)
  have T := Lib.hid (fun w => (trig_Steps n w hn).mono (R' := fun e w' => e = .returned (.slice none 0 0) ∧ Below w.heap.size w w') fun e w' ⟨v, he, h1, h2, h3⟩ => ⟨by rw [he, h2.2 h0], h3⟩)
  have T' := Lib.hid (fun w => (ref5_Steps n w hn).mono (R' := fun e w' => e = .returned (.slice none 0 0) ∧ Below w.heap.size w w') fun e w' ⟨v, he, h1, h2, h3⟩ => ⟨by rw [he, h2.2 h0], h3⟩)
  have t : (40 < n) = False ∨ (n ≤ 1024) = False := by
    unfold stepN at h0
    unfold I64 at hn
    by_cases g : n ≤ 1024
    · rw [if_pos g] at h0; exact .inl (eq_false (by omega))
    · exact .inr (eq_false g)
  have HB := Lib.hid (fun q : BW w => q.h)
  clear e r0 r1 k0 k1 hh
  suffices H : ∀ p0 : BW w, Calls Try.prog 3 #[.int .i64 h, .int .i64 n] p0.w fun e w' => e = .returned (.bool true) ∧ Below w.heap.size w w' from H (BW.start w)
  intro p0
  clear hn h0
  rcases t with t | t
  · have t1 : decide (40 < n) = false := by rw [decide_eq_false_iff_not, t]; exact id
    clear t
    go_enter Try.func3, Try.ntmps3
    go_wp2_with (first
      | (go_at_call 6; (with_reducible refine (bw_call B.out _).mono ?_); rintro e w' ⟨rfl, q1, rfl⟩)
      | (go_at_call 7; (with_reducible refine (bw_call S.out _).mono ?_); rintro e w' ⟨rfl, q1, rfl⟩)
      | (go_at_call 8; (with_reducible refine (bw_call S'.out _).mono ?_); rintro e w' ⟨rfl, q1, rfl⟩)
      | (go_at_call 9; (with_reducible refine (bw_call C.out _).mono ?_); rintro e w' ⟨rfl, q1, rfl⟩)
      | (go_at_call 10; (with_reducible refine (bw_call C'.out _).mono ?_); rintro e w' ⟨rfl, q1, rfl⟩)
      | (go_at_call 11; (with_reducible refine (bw_call Q.out _).mono ?_); rintro e w' ⟨rfl, q1, rfl⟩)
      | (go_at_call 13; (with_reducible refine (bw_call T.out _).mono ?_); rintro e w' ⟨rfl, q1, rfl⟩)
      | (go_at_call 14; (with_reducible refine (bw_call T'.out _).mono ?_); rintro e w' ⟨rfl, q1, rfl⟩)
      | (go_at_call 12; (with_reducible refine (bw_call HA.out _).mono ?_); rintro e w' ⟨rfl, q1, rfl⟩))
    refine wp_loop_rounds 1 ?_
    rw [rounds_succ]
    go_wp2_with (go_at_call 12; (with_reducible refine (bw_call HA.out _).mono ?_); rintro e w' ⟨rfl, q1, rfl⟩)
    go_ret
    exact ⟨rfl, HB.out _⟩
  · have t2 : decide (n ≤ 1024) = false := by rw [decide_eq_false_iff_not, t]; exact id
    have t1 : decide (40 < n) = true := by
      have : ¬ n ≤ 1024 := by rw [t]; exact id
      exact decide_eq_true (by omega)
    clear t
    go_enter Try.func3, Try.ntmps3
    go_wp2_with (first
      | (go_at_call 6; (with_reducible refine (bw_call B.out _).mono ?_); rintro e w' ⟨rfl, q1, rfl⟩)
      | (go_at_call 7; (with_reducible refine (bw_call S.out _).mono ?_); rintro e w' ⟨rfl, q1, rfl⟩)
      | (go_at_call 8; (with_reducible refine (bw_call S'.out _).mono ?_); rintro e w' ⟨rfl, q1, rfl⟩)
      | (go_at_call 9; (with_reducible refine (bw_call C.out _).mono ?_); rintro e w' ⟨rfl, q1, rfl⟩)
      | (go_at_call 10; (with_reducible refine (bw_call C'.out _).mono ?_); rintro e w' ⟨rfl, q1, rfl⟩)
      | (go_at_call 11; (with_reducible refine (bw_call Q.out _).mono ?_); rintro e w' ⟨rfl, q1, rfl⟩)
      | (go_at_call 13; (with_reducible refine (bw_call T.out _).mono ?_); rintro e w' ⟨rfl, q1, rfl⟩)
      | (go_at_call 14; (with_reducible refine (bw_call T'.out _).mono ?_); rintro e w' ⟨rfl, q1, rfl⟩)
      | (go_at_call 12; (with_reducible refine (bw_call HA.out _).mono ?_); rintro e w' ⟨rfl, q1, rfl⟩))
    refine wp_loop_rounds 1 ?_
    rw [rounds_succ]
    go_wp2_with (go_at_call 12; (with_reducible refine (bw_call HA.out _).mono ?_); rintro e w' ⟨rfl, q1, rfl⟩)
    go_ret
    exact ⟨rfl, HB.out _⟩

set_option maxRecDepth 100000 in
set_option maxHeartbeats 2000000 in
theorem law_TrigTells_some (h : Int) (m : Nat) (w : World) (hh : I64 h) (hm : m < 40) :
    Calls Try.prog 3 #[.int .i64 h, .int .i64 ((m + 1 : Nat) : Int)] w fun e w' => e = .returned (.bool true) ∧ Below w.heap.size w w' := by
  have B := Lib.hid (fun w => trig_Both h w hh)
  have S := Lib.hid (fun w => trig_Sin h w hh)
  have C := Lib.hid (fun w => trig_Cos h w hh)
  have Q := Lib.hid (fun w => trig_Square h w hh)
  have S' := Lib.hid (below_of_same (fun w => ref5_Sin h w hh))
  have C' := Lib.hid (below_of_same (fun w => ref5_Cos h w hh))
  obtain ⟨r0, r1⟩ := sinI_range h
  obtain ⟨k0, k1⟩ := cosI_range h
  have e := show sqI h = cosI h * cosI h + sinI h * sinI h from rfl
  rw [e] at Q
  generalize sinI h = s at *
  generalize cosI h = c at *
  obtain ⟨a0, a1⟩ := sq_in k0 k1
  obtain ⟨b0, b1⟩ := sq_in r0 r1
  have m1 : wrap64 (c * c) = c * c := IntWalk.wrap64_in _ (by omega)
  have m2 : wrap64 (s * s) = s * s := IntWalk.wrap64_in _ (by omega)
  have m3 : wrap64 (c * c + s * s) = c * c + s * s := IntWalk.wrap64_in _ (by omega)
  clear a0 a1 b0 b1
  have HA := Lib.hid (fun w => awake05 w)
  have hn : stepN ((m + 1 : Nat) : Int) = m + 1 := by unfold stepN; rw [if_pos (by omega)]; omega
  have T := Lib.hid (fun w => (trig_Steps ((m + 1 : Nat) : Int) w (by unfold I64; omega)).mono (R' := fun e w' => ∃ g cap, e = .returned (.slice (some ⟨g, 0, none⟩) (m + 1) cap) ∧ StepRow w' g (m + 1) ∧ Below w.heap.size w w') fun e w' ⟨v, he, h1, h2, h3⟩ => by
    rw [hn] at h1
    obtain ⟨g, cap, rfl, hs⟩ := stepRow_of h1
    exact ⟨g, cap, he, hs, h3⟩)
  have T' := Lib.hid (fun w => (ref5_Steps ((m + 1 : Nat) : Int) w (by unfold I64; omega)).mono (R' := fun e w' => ∃ g cap, e = .returned (.slice (some ⟨g, 0, none⟩) (m + 1) cap) ∧ StepRow w' g (m + 1) ∧ Below w.heap.size w w') fun e w' ⟨v, he, h1, h2, h3⟩ => by
    rw [hn] at h1
    obtain ⟨g, cap, rfl, hs⟩ := stepRow_of h1
    exact ⟨g, cap, he, hs, h3⟩)
  obtain ⟨n, hnm⟩ : ∃ n, n = m + 1 := ⟨_, rfl⟩
  rw [← hnm] at T T' ⊢
  have n0 : n ≤ 40 := by omega
  have n1 : 1 ≤ n := by omega
  have t1 : decide (40 < (n : Int)) = false := decide_eq_false (by omega)
  clear hn hnm hm
  have HB := Lib.hid (fun q : BW w => q.h)
  clear e r0 r1 k0 k1 hh
  suffices H : ∀ p0 : BW w, Calls Try.prog 3 #[.int .i64 h, .int .i64 n] p0.w fun e w' => e = .returned (.bool true) ∧ Below w.heap.size w w' from H (BW.start w)
  intro p0
  go_enter Try.func3, Try.ntmps3
  go_wp2_with (first
    | (go_at_call 6; (with_reducible refine (bw_call B.out _).mono ?_); rintro e w' ⟨rfl, q1, rfl⟩)
    | (go_at_call 7; (with_reducible refine (bw_call S.out _).mono ?_); rintro e w' ⟨rfl, q1, rfl⟩)
    | (go_at_call 8; (with_reducible refine (bw_call S'.out _).mono ?_); rintro e w' ⟨rfl, q1, rfl⟩)
    | (go_at_call 9; (with_reducible refine (bw_call C.out _).mono ?_); rintro e w' ⟨rfl, q1, rfl⟩)
    | (go_at_call 10; (with_reducible refine (bw_call C'.out _).mono ?_); rintro e w' ⟨rfl, q1, rfl⟩)
    | (go_at_call 11; (with_reducible refine (bw_call Q.out _).mono ?_); rintro e w' ⟨rfl, q1, rfl⟩)
    | (go_at_call 13; (with_reducible refine (T.out _).mono ?_); rintro e w1 ⟨g, cap, rfl, s1, h1⟩)
    | (go_at_call 14; (with_reducible refine (T'.out _).mono ?_); rintro e w2 ⟨g', cap', rfl, s2, h2⟩)
    | (go_at_call 12; (with_reducible refine (bw_call HA.out _).mono ?_); rintro e w' ⟨rfl, q1, rfl⟩))
  have s3 := s1.below h2
  have HS1 := Lib.hid s3
  have HS2 := Lib.hid s2
  have HB2 : Hid (∀ q : BW w2, Below w.heap.size w q.w) := Lib.hid (fun q => bw_below ((HB.out _).trans ((h1.trans (h2.mono h1.size)).mono (HB.out _).size)) q)
  clear s1 s2 s3 h1 h2 HB T T'
  go_loopw [9] (fun i wr => ∃ k : Nat, k ≤ n ∧ i = .int .i64 k ∧ ∃ q : BW w2, wr = q.w) (fun i _ => n - (intOf i).toNat)
  case atStart => exact ⟨0, by omega, rfl, BW.start w2, rfl⟩
  case round =>
    obtain ⟨k, hk, rfl, q0, rfl⟩ := hrel
    by_cases hlt : k < n
    · have c0 : ∀ p : BW w2, p.w.cell? ⟨g, k * 2, none⟩ = some (.int .i64 _) := bw_cell (HS1.out.2 k hlt).1
      have c1 : ∀ p : BW w2, p.w.cell? ⟨g, k * 2 + 1, none⟩ = some (.int .i64 _) := bw_cell (HS1.out.2 k hlt).2
      have c2 : ∀ p : BW w2, p.w.cell? ⟨g', k * 2, none⟩ = some (.int .i64 _) := bw_cell (HS2.out.2 k hlt).1
      have c3 : ∀ p : BW w2, p.w.cell? ⟨g', k * 2 + 1, none⟩ = some (.int .i64 _) := bw_cell (HS2.out.2 k hlt).2
      generalize cosI ((k : Int) * 65536 / (n : Int)) = x at *
      generalize sinI ((k : Int) * 65536 / (n : Int)) = y at *
      have hkn : (k : Int) < n := by omega
      have PS := fun w => pair_same x y w
      have PG := pair_guard
      go_upto_region 12 with (fail)
      refine wp_region_bw (by kernel_rfl) (by kernel_rfl) ?_
      repeat (go_big_quiet_step (fail))
      refine wpQuiet_nil ?_
      intro _ hw'
      obtain ⟨q, rfl⟩ := hw'
      go_wp2
      go_roundw
      case rel => exact ⟨k + 1, by omega, by go_num, q, rfl⟩
      case measure => simp [intOf]; omega
    · obtain rfl : k = n := by omega
      go_wp2_with (go_at_call 12; (with_reducible refine (bw_call HA.out _).mono ?_); rintro e w' ⟨rfl, q1, rfl⟩)
      go_ret
      exact ⟨rfl, HB2.out _⟩

theorem law_TrigTells (h n : Int) (w : World) (hh : I64 h) (hn : I64 n) :
    Calls Try.prog 3 #[.int .i64 h, .int .i64 n] w fun e w' => e = .returned (.bool true) ∧ Below w.heap.size w w' := by
  by_cases h0 : stepN n = 0
  · exact law_TrigTells_none h n w hh hn h0
  · have h1 : 1 ≤ n ∧ n ≤ 1024 := by
      unfold stepN at h0
      split at h0 <;> omega
    by_cases h2 : 40 < n
    · exact law_TrigTells_skip h n w hh h2 h1.2
    · obtain ⟨m, rfl⟩ : ∃ m : Nat, n = ((m + 1 : Nat) : Int) := ⟨(n - 1).toNat, by omega⟩
      exact law_TrigTells_some h m w hh (by omega)

end Go.Proofs.Ytcghbfpjafeofaa
