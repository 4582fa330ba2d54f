/- The document's own At (layer 3): by sizes. -/
import Derived.Test.YtppfemaolaigoaaRefc03
namespace Go.Proofs.Ytppfemaolaigoaa
open Go.RowKit Go.Proofs.Sky
set_option linter.unusedVariables false

theorem neg_quot (P D : Nat) (hD : 1 ≤ D) : (P / D * D = P → (-(P : Int)) / (D : Int) = -((P / D : Nat) : Int)) ∧ (P / D * D ≠ P → (-(P : Int)) / (D : Int) = -((P / D : Nat) : Int) - 1) := by
  have e := Nat.div_add_mod P D
  have l := Nat.mod_lt P (show 0 < D by omega)
  have c : P / D * D = D * (P / D) := Nat.mul_comm _ _
  generalize P / D = q at *
  generalize P % D = r at *
  have c' : (D : Int) * (q : Int) = ((D * q : Nat) : Int) := by rw [Int.natCast_mul]
  refine ⟨fun h => ?_, fun h => ?_⟩
  · exact ((Int.ediv_emod_unique (a := -(P : Int)) (b := (D : Int)) (r := 0) (q := -(q : Int)) (by omega)).2 ⟨by rw [Int.mul_neg, c']; omega, by omega, by omega⟩).1
  · exact ((Int.ediv_emod_unique (a := -(P : Int)) (b := (D : Int)) (r := (D : Int) - r) (q := -(q : Int) - 1) (by omega)).2 ⟨by rw [Int.mul_sub, Int.mul_neg, c', Int.mul_one]; omega, by omega, by omega⟩).1

/-- What is known of v times n over D: the product of the sizes (P), its halves, the halves' sum as Go has it (s), whether the product is below nought (b). -/
structure AtIn (v n : Int) (D A B P hi lo s : Nat) (b : Bool) : Prop where
  a_ : v.natAbs = A
  b_ : n.natAbs = B
  aL : A < 18446744073709551616
  bL : B < 18446744073709551616
  p_ : A * B = P
  h_ : P / 18446744073709551616 = hi
  l_ : P % 18446744073709551616 = lo
  s_ : IntKind.u64.wrap ((hi : Int) + (lo : Int)) = (s : Int)
  o_ : (((decide (v < 0) != decide (n < 0)) && decide (0 < s)) || (decide (0 < hi) && (decide (v < 0) != decide (n < 0)))) = b
  yes : b = true → v * n = -(P : Int) ∧ 0 < P
  no : b = false → v * n = (P : Int)
theorem AtIn.make (v n : Int) (D : Nat) (hv : I64 v) (hn : I64 n) : ∃ A B P hi lo s b, AtIn v n D A B P hi lo s b := by
  unfold I64 at hv hn
  refine ⟨v.natAbs, n.natAbs, v.natAbs * n.natAbs, _, _, ((v.natAbs * n.natAbs / 18446744073709551616 + v.natAbs * n.natAbs % 18446744073709551616) % 18446744073709551616), _, rfl, rfl, by omega, by omega, rfl, rfl, rfl, by rw [u64w]; omega, rfl, ?_, ?_⟩
  · intro h
    have ho : (decide (v < 0) != decide (n < 0)) = true := by
      cases g : (decide (v < 0) != decide (n < 0))
      · rw [g] at h; simp at h
      · rfl
    have hs : ¬ (v < 0 ↔ n < 0) := by
      intro g
      have k : decide (v < 0) = decide (n < 0) := decide_eq_decide.2 g
      rw [k] at ho; simp at ho
    have e := mul_opp hs
    rw [ho] at h
    refine ⟨by rw [e, Int.natCast_mul], ?_⟩
    rcases Nat.eq_zero_or_pos (v.natAbs * n.natAbs) with z | z
    · rw [z] at h; simp at h
    · exact z
  · intro h
    cases g : (decide (v < 0) != decide (n < 0))
    · have hs : v < 0 ↔ n < 0 := by simpa using g
      rw [mul_same hs, Int.natCast_mul]
    · rw [g] at h
      have hs : ¬ (v < 0 ↔ n < 0) := by
        intro k
        have k' : decide (v < 0) = decide (n < 0) := decide_eq_decide.2 k
        rw [k'] at g; simp at g
      simp only [Bool.true_and, Bool.and_true, Bool.or_eq_false_iff, decide_eq_false_iff_not] at h
      have z : v.natAbs * n.natAbs = 0 := by omega
      have e := mul_opp hs
      rw [← Int.natCast_mul, z] at e
      rw [e, z]; rfl

/-- The outcomes. -/
structure AtOut (v n : Int) (D P hi lo : Nat) (b : Bool) (q x y : Nat) : Prop where
  q_ : P / D = q
  x_ : q * D / 18446744073709551616 = x
  y_ : q * D % 18446744073709551616 = y
  big1 : b = true → (¬ hi < D ∨ 9223372036854775807 < q) → fat v n D = -9223372036854775808
  big0 : b = false → (¬ hi < D ∨ 9223372036854775807 < q) → fat v n D = 9223372036854775807
  pos : b = false → q ≤ 9223372036854775807 → fat v n D = (q : Int)
  exact_ : b = true → q ≤ 9223372036854775807 → x = hi → y = lo → fat v n D = -(q : Int)
  less1 : b = true → q ≤ 9223372036854775807 → x ≠ hi → fat v n D = -(q : Int) - 1
  less2 : b = true → q ≤ 9223372036854775807 → y ≠ lo → fat v n D = -(q : Int) - 1
theorem AtOut.make {v n : Int} {D A B P hi lo s : Nat} {b : Bool} (h : AtIn v n D A B P hi lo s b) (hD : 1 ≤ D) : AtOut v n D P hi lo b (P / D) (P / D * D / 18446744073709551616) (P / D * D % 18446744073709551616) := by
  obtain ⟨n1, n2⟩ := neg_quot P D hD
  have e : fat v n D = sat (v * n / D) := by unfold fat; rw [if_neg (by omega)]
  have hbig : ¬ hi < D ∨ 9223372036854775807 < P / D → 9223372036854775807 < P / D := by
    rintro (g | g)
    · have h1 := h.h_
      have : D * 18446744073709551616 ≤ P := by omega
      have := (Nat.le_div_iff_mul_le (show 0 < D by omega)).2 (show 18446744073709551616 * D ≤ P by omega)
      omega
    · exact g
  have hq : (P : Int) / (D : Int) = ((P / D : Nat) : Int) := by rw [Int.natCast_ediv]
  have hP := h.h_
  have hL := h.l_
  obtain ⟨q, eq⟩ : ∃ q, q = P / D := ⟨_, rfl⟩
  obtain ⟨Z, hZ⟩ : ∃ Z, Z = P / D * D := ⟨_, rfl⟩
  rw [← hZ, ← eq] at n1 n2
  rw [← eq] at hbig hq
  rw [← hZ, ← eq]
  refine ⟨eq.symm, by rw [hZ, eq], by rw [hZ, eq], fun hb g => ?_, fun hb g => ?_, fun hb g => ?_, fun hb g g1 g2 => ?_, fun hb g g1 => ?_, fun hb g g1 => ?_⟩
  all_goals clear eq hZ
  · have := hbig g
    rw [e, (h.yes hb).1]
    by_cases z : Z = P
    · rw [n1 z]; unfold sat; (repeat' split) <;> omega
    · rw [n2 z]; unfold sat; (repeat' split) <;> omega
  · have := hbig g
    rw [e, h.no hb, hq]; unfold sat; rw [if_neg (by omega), if_pos (by omega)]
  · rw [e, h.no hb, hq]; unfold sat; rw [if_neg (by omega), if_neg (by omega)]
  · rw [e, (h.yes hb).1, n1 (by omega)]; unfold sat; rw [if_neg (by omega), if_neg (by omega)]
  · rw [e, (h.yes hb).1, n2 (by omega)]; unfold sat; rw [if_neg (by omega), if_neg (by omega)]
  · rw [e, (h.yes hb).1, n2 (by omega)]; unfold sat; rw [if_neg (by omega), if_neg (by omega)]

theorem ref3_At_no (v n d : Int) (w : World) (h : d < 1) :
    Calls Try.prog 35 #[.int .i64 v, .agg #[.int .i64 n, .int .i64 d]] w fun r w' => r = .returned (.int .i64 (fat v n d)) ∧ Below w.heap.size w w' := by
  have R := Lib.hid (fun w => ref3_Right n d w)
  rw [decide_eq_false (by omega)] at R
  have e : fat v n d = 0 := by unfold fat; rw [if_pos h]
  rw [e]
  clear h e
  go_enter Try.func35, Try.ntmps35
  go_wp2_with (go_at_call 34; refine (R.out _).mono ?_; rintro e w1 ⟨rfl, hb⟩; obtain ⟨hc, hf, y0, y1, y2⟩ := below1 (w := w) w.heap.size (by go_grown) hb (by first | (simp; done) | (simp; omega) | omega))
  go_ret
  exact ⟨rfl, by go_grown⟩

set_option maxRecDepth 100000 in
set_option maxHeartbeats 4000000 in
theorem ref3_At_yes (v n : Int) (D : Nat) (w : World) (hv : I64 v) (hn : I64 n) (hD : 1 ≤ D) (hD1 : D ≤ 9223372036854775807) :
    Calls Try.prog 35 #[.int .i64 v, .agg #[.int .i64 n, .int .i64 (D : Int)]] w fun r w' => r = .returned (.int .i64 (fat v n D)) ∧ Below w.heap.size w w' := by
  obtain ⟨A, B, P, hi, lo, s, b, hA⟩ := AtIn.make v n D hv hn
  have hO := AtOut.make hA hD
  have R := Lib.hid (fun w => ref3_Right n D w)
  rw [decide_eq_true (show 1 ≤ (D : Int) by omega)] at R
  have S1 := Lib.hid (fun w => below_of_same (fun w => ref_Size v w hv) w)
  rw [hA.a_] at S1
  have S2 := Lib.hid (fun w => below_of_same (fun w => ref_Size n w hn) w)
  rw [hA.b_] at S2
  have M := Lib.hid (fun w => below_of_same (fun w => ref_Mul A B w hA.aL hA.bL) w)
  rw [hA.p_, hA.h_, hA.l_] at M
  have T := Lib.hid (fun w => below_of_same (fun w => ref_Part A B D w hA.aL hA.bL (by omega)) w)
  unfold partQ partOk at T
  rw [hA.p_, hA.h_, hO.q_] at T
  have eD : IntKind.u64.wrap (D : Int) = (D : Int) := by rw [u64w]; omega
  have es := hA.s_
  have HA := Lib.hid hA
  have HO := Lib.hid hO
  have ob := hA.o_
  have hq : P / D < 18446744073709551616 ∨ ¬ hi < D := by
    by_cases g : hi < D
    · left
      rw [Nat.div_lt_iff_lt_mul (by omega)]
      have h1 := hA.h_
      have := Nat.mul_le_mul_left 18446744073709551616 (show hi + 1 ≤ D by omega)
      omega
    · exact .inr g
  have N := Lib.hid (fun w (h : P / D < 18446744073709551616) => below_of_same (fun w => ref_Mul (P / D) D w h (by omega)) w)
  rw [hO.x_, hO.y_] at N
  clear hv hn hD hD1 hA hO
  generalize P / D * D / 18446744073709551616 = x at *
  generalize P / D * D % 18446744073709551616 = y at *
  generalize P / D = q at *
  obtain ⟨F, hF⟩ : ∃ F, F = fat v n D := ⟨_, rfl⟩
  rw [← hF]
  have HF := Lib.hid hF
  clear hF
  go_enter Try.func35, Try.ntmps35
  go_upto_region 1 with (fail)
  obtain ⟨W, hW⟩ : ∃ W, W = w.alloc (.cells #[.int .i64 n, .int .i64 (D : Int)] 25) := ⟨_, rfl⟩
  have HB := Lib.hid (fun p : BW W => bw_below (w := w) (by rw [hW]; exact (Below.refl _ _).alloc (Nat.le_refl _) _) p)
  obtain ⟨g, hg⟩ : ∃ g, g = w.heap.size := ⟨_, rfl⟩
  have c0 : ∀ p : BW W, p.w.cell? ⟨g, 0, none⟩ = some (.int .i64 n) := bw_cell (by subst hg hW; simp [go_sem])
  have c1 : ∀ p : BW W, p.w.cell? ⟨g, 1, none⟩ = some (.int .i64 (D : Int)) := bw_cell (by subst hg hW; simp [go_sem])
  obtain ⟨p0, hp0⟩ : ∃ p0 : BW W, p0.w = W := ⟨BW.start W, rfl⟩
  rw [← hW, ← hg, ← hp0]
  clear hW hg hp0
  go_upto_region 3 with (go_at_call 34; (with_reducible refine (bw_call R.out _).mono ?_); rintro e w' ⟨rfl, q1, rfl⟩)
  refine wp_region_bw (by kernel_rfl) (by kernel_rfl) ?_
  repeat (go_big_quiet_step (first
    | (go_at_call 42; (with_reducible exact bw_call S1.out _))
    | (go_at_call 42; (with_reducible exact bw_call S2.out _))))
  refine wpQuiet_nil ?_
  intro _ hw'
  obtain ⟨q2, rfl⟩ := hw'
  go_upto_region 5 with (go_at_call 43; (with_reducible refine (bw_call M.out _).mono ?_); rintro e w' ⟨rfl, q3, rfl⟩)
  go_cut [9] (fun s9 wx => s9 = .bool b ∧ wx = q3.w)
  case first =>
    clear HA HO hq N T
    cases e1 : decide (v < 0) <;> cases e2 : decide (n < 0) <;> cases e3 : decide (0 < s) <;> cases e4 : decide (0 < hi)
    all_goals
      rw [e1, e2, e3, e4] at ob
      have OB := Lib.hid ob
      clear ob
      go_wp2_with fail
      go_meet
      exact ⟨by rw [← OB.out]; rfl, rfl⟩
  case rest =>
    obtain ⟨rfl, rfl⟩ := hcut
    clear ob es HA S1 S2 M R
    by_cases h1 : hi < D
    · rw [if_pos h1, decide_eq_true h1] at T
      have hq' : q < 18446744073709551616 := by omega
      have N' := Lib.hid (fun w => N.out w hq')
      clear N hq
      by_cases h2 : 9223372036854775807 < q
      · have t2 : decide ((9223372036854775807 : Int) < (q : Int)) = true := decide_eq_true (by omega)
        cases b
        · obtain rfl : F = 9223372036854775807 := by rw [HF.out]; exact HO.out.big0 rfl (.inr h2)
          clear h1 h2 hq' HO HF
          go_wp2_with (first | (go_at_call 44; (with_reducible refine (bw_call T.out _).mono ?_); rintro e w' ⟨rfl, q4, rfl⟩) | (go_at_call 43; (with_reducible refine (bw_call N'.out _).mono ?_); rintro e w' ⟨rfl, q5, rfl⟩))
          go_ret
          exact ⟨rfl, HB.out _⟩
        · obtain rfl : F = -9223372036854775808 := by rw [HF.out]; exact HO.out.big1 rfl (.inr h2)
          clear h1 h2 hq' HO HF
          go_wp2_with (first | (go_at_call 44; (with_reducible refine (bw_call T.out _).mono ?_); rintro e w' ⟨rfl, q4, rfl⟩) | (go_at_call 43; (with_reducible refine (bw_call N'.out _).mono ?_); rintro e w' ⟨rfl, q5, rfl⟩))
          go_ret
          exact ⟨rfl, HB.out _⟩
      · have t2 : decide ((9223372036854775807 : Int) < (q : Int)) = false := decide_eq_false (by omega)
        have w1 : IntKind.i64.wrap (q : Int) = (q : Int) := by rw [i64w]; omega
        have w2 : wrap64 (-(q : Int)) = -(q : Int) := IntWalk.wrap64_in _ (by omega)
        have w3 : wrap64 (-(q : Int) - 1) = -(q : Int) - 1 := IntWalk.wrap64_in _ (by omega)
        have w4 : IntKind.i64.wrap (-(q : Int)) = -(q : Int) := by rw [i64w]; omega
        have w5 : IntKind.i64.wrap (-(q : Int) - 1) = -(q : Int) - 1 := by rw [i64w]; omega
        cases b
        · obtain rfl : F = (q : Int) := by rw [HF.out]; exact HO.out.pos rfl (by omega)
          clear h1 h2 hq' HO HF
          go_wp2_with (first | (go_at_call 44; (with_reducible refine (bw_call T.out _).mono ?_); rintro e w' ⟨rfl, q4, rfl⟩) | (go_at_call 43; (with_reducible refine (bw_call N'.out _).mono ?_); rintro e w' ⟨rfl, q5, rfl⟩))
          go_ret
          exact ⟨rfl, HB.out _⟩
        · by_cases g1 : x = hi
          · subst g1
            by_cases g2 : y = lo
            · subst g2
              obtain rfl : F = -(q : Int) := by rw [HF.out]; exact HO.out.exact_ rfl (by omega) rfl rfl
              clear h1 h2 hq' HO HF
              go_wp2_with (first | (go_at_call 44; (with_reducible refine (bw_call T.out _).mono ?_); rintro e w' ⟨rfl, q4, rfl⟩) | (go_at_call 43; (with_reducible refine (bw_call N'.out _).mono ?_); rintro e w' ⟨rfl, q5, rfl⟩))
              go_ret
              exact ⟨rfl, HB.out _⟩
            · obtain rfl : F = -(q : Int) - 1 := by rw [HF.out]; exact HO.out.less2 rfl (by omega) g2
              have t3 : ((y : Int) != (lo : Int)) = true := by simp; omega
              clear h1 h2 hq' HO HF g2
              go_wp2_with (first | (go_at_call 44; (with_reducible refine (bw_call T.out _).mono ?_); rintro e w' ⟨rfl, q4, rfl⟩) | (go_at_call 43; (with_reducible refine (bw_call N'.out _).mono ?_); rintro e w' ⟨rfl, q5, rfl⟩))
              go_ret
              exact ⟨rfl, HB.out _⟩
          · obtain rfl : F = -(q : Int) - 1 := by rw [HF.out]; exact HO.out.less1 rfl (by omega) g1
            have t3 : ((x : Int) != (hi : Int)) = true := by simp; omega
            clear h1 h2 hq' HO HF g1
            go_wp2_with (first | (go_at_call 44; (with_reducible refine (bw_call T.out _).mono ?_); rintro e w' ⟨rfl, q4, rfl⟩) | (go_at_call 43; (with_reducible refine (bw_call N'.out _).mono ?_); rintro e w' ⟨rfl, q5, rfl⟩))
            go_ret
            exact ⟨rfl, HB.out _⟩
    · rw [if_neg h1, decide_eq_false h1] at T
      clear N hq
      cases b
      · obtain rfl : F = 9223372036854775807 := by rw [HF.out]; exact HO.out.big0 rfl (.inl h1)
        clear h1 HO HF
        go_wp2_with (go_at_call 44; (with_reducible refine (bw_call T.out _).mono ?_); rintro e w' ⟨rfl, q4, rfl⟩)
        go_ret
        exact ⟨rfl, HB.out _⟩
      · obtain rfl : F = -9223372036854775808 := by rw [HF.out]; exact HO.out.big1 rfl (.inl h1)
        clear h1 HO HF
        go_wp2_with (go_at_call 44; (with_reducible refine (bw_call T.out _).mono ?_); rintro e w' ⟨rfl, q4, rfl⟩)
        go_ret
        exact ⟨rfl, HB.out _⟩

theorem ref3_At (v n d : Int) (w : World) (hv : I64 v) (hn : I64 n) (hd : I64 d) :
    Calls Try.prog 35 #[.int .i64 v, .agg #[.int .i64 n, .int .i64 d]] w fun r w' => r = .returned (.int .i64 (fat v n d)) ∧ Below w.heap.size w w' := by
  by_cases h : d < 1
  · exact ref3_At_no v n d w h
  · obtain ⟨D, rfl⟩ := Int.eq_ofNat_of_zero_le (show 0 ≤ d by omega)
    exact ref3_At_yes v n D w hv hn (by omega) (by unfold I64 at hd; omega)

end Go.Proofs.Ytppfemaolaigoaa
