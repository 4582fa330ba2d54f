/- The contract of math/bits.Div64 where the upper half is less than the divisor. -/
import Derived.Test.YtnidgokmndnenaaRoot01
import Derived.Test.YtnidgokmndnenaaKnuth
import Derived.Deep.QuietTactic
import Derived.BigQuiet
namespace Go.Proofs.Ytnidgokmndnenaa
open Go.RowKit Go.Proofs.Sky
set_option linter.unusedVariables false

theorem LZ (y s : Nat) (w : World) (h : y < 18446744073709551616) (hs : 64 - (Lib.bitLen y : Int) = s) :
    Calls Try.prog 103 #[.int .u64 y] w fun e w' => e = .returned (.int .i64 s) ∧ w = w' := by
  rw [← hs]
  exact (Try.bits_LeadingZeros64 y w (by omega) (by omega)).mono fun e w' ⟨h1, h2⟩ => ⟨h1, h2.symm⟩

theorem ret_two {Q Q' R' s m n : Nat} (a : Q * 4294967296 + Q' = m) (b : R' / 2 ^ s = n) :
    Ending.returned (.tuple #[.int .u64 ((Q : Int) * 4294967296 + (Q' : Int)), .int .u64 ((R' : Int) / 2 ^ s)]) = .returned (.tuple #[.int .u64 (m : Int), .int .u64 (n : Int)]) := by
  subst a; subst b; simp

set_option maxRecDepth 100000 in
theorem div_big (hi lo y s Y A B U V V1 V0 : Nat) (w : World) (h0 : 0 < hi) (h1 : hi < y) (h2 : y < 18446744073709551616) (h3 : lo < 18446744073709551616)
    (hs : s ≤ 63) (hL : 64 - (Lib.bitLen y : Int) = s) (K : KN hi lo y s Y A B U V V1 V0) :
    Calls Try.prog 99 #[.int .u64 hi, .int .u64 lo, .int .u64 y] w fun e w' => e = .returned (.tuple #[.int .u64 (((hi * 18446744073709551616 + lo) / y : Nat) : Int), .int .u64 (((hi * 18446744073709551616 + lo) % y : Nat) : Int)]) ∧ w = w' := by
  have b1 : ((y : Int) == 0) = false := by simp; omega
  have b2 : ((hi : Int) == 0) = false := by simp; omega
  have HL := Lib.hid hL; clear hL
  have KH := Lib.hid K
  obtain ⟨hY, hYl, hA, hA', hB, hAB, hU, hV, hV1, hV0, hN, e1, e2, e3, e6, e7, e8, e9⟩ := K
  obtain ⟨Q, R, q, r, P, O⟩ := KO.make hAB hYl hA hA' hB hV1 hU
  obtain ⟨Q', R', q', r', P', O'⟩ := KO.make hAB hYl hA hA' hB hV0 O.hRl
  have OH := Lib.hid O
  have OH' := Lib.hid O'
  have HF := Lib.hid (KH.out.fin h1 O.hQ O.hR O'.hQ O'.hR)
  have e17 : IntKind.u64.wrap ((Q : Int) * 4294967296 + (Q' : Int)) = (Q : Int) * 4294967296 + (Q' : Int) := by rw [u64w]; have := O.hQl; have := O'.hQl; omega
  clear hY hAB hV hN
  have b3 : ((A : Int) == 0) = false := by simp; omega
  obtain ⟨hQ, hR, hQl, hRl, e10, e11, e12, e13, hk, hq, hr⟩ := O
  obtain ⟨hQ', hR', hQl', hRl', e10', e11', e12', e13', hk', hq', hr'⟩ := O'
  clear hk hk' hQ hQ' hR hR'
  go_enter Try.func99, Try.ntmps99
  go_wp2_with (go_at_call 103; refine (LZ y s _ h2 HL.out).mono ?_; rintro e w' ⟨rfl, rfl⟩)
  go_loop [15, 16] (fun u v => ∃ q r : Nat, KD A B U V1 q r ∧ u = .int .u64 q ∧ v = .int .u64 r) (fun u _ => (intOf u).toNat)
  case atStart => exact ⟨q, r, OH.out.hk, rfl, rfl⟩
  case round =>
    clear e10 e11 e12 hq hr
    obtain ⟨q, r, hk, rfl, rfl⟩ := hrel
    have hr := hk.2.2.1
    have hq := hk.2.2.2
    have hYU : U < A * 4294967296 + B := by have := KH.out.hU; have := KH.out.hAB; omega
    obtain ⟨T, e20, hc⟩ := hk.round (Q := Q) hA hA' hB hV1 hYU (by rw [← KH.out.hAB]; exact OH.out.hQ)
    clear hYU hk
    rcases hc with ⟨c1, hq1, hc⟩ | ⟨c1, c2, c3⟩
    · rcases hc with ⟨c3, hn⟩ | ⟨c3, hn⟩
      · have HN := Lib.hid hn; clear hn
        have c3b : decide ((4294967296 : Int) ≤ (r : Int) + (A : Int)) = false := decide_eq_false (by omega)
        clear c3
        rcases c1 with c1 | ⟨c1, c2⟩
        · have c1b : decide ((4294967296 : Int) ≤ (q : Int)) = true := decide_eq_true (by omega)
          clear c1
          go_wp2
          go_round
          case rel => exact ⟨q - 1, r + A, HN.out, by go_num, by go_num⟩
          case measure => simp [intOf]; omega
        · have c1b : decide ((4294967296 : Int) ≤ (q : Int)) = false := decide_eq_false (by omega)
          have c2b : decide (4294967296 * (r : Int) + (V1 : Int) < (T : Int)) = true := decide_eq_true (by omega)
          clear c1 c2
          go_wp2
          go_round
          case rel => exact ⟨q - 1, r + A, HN.out, by go_num, by go_num⟩
          case measure => simp [intOf]; omega
      · have hn1 : (q : Int) - 1 = (Q : Int) := by omega
        have c3b : decide ((4294967296 : Int) ≤ (r : Int) + (A : Int)) = true := decide_eq_true (by omega)
        clear c3 hn
        rcases c1 with c1 | ⟨c1, c2⟩
        · have c1b : decide ((4294967296 : Int) ≤ (q : Int)) = true := decide_eq_true (by omega)
          clear c1
          go_wp2
          clear hn1 e20 c1b c3b hq hr hq1
          go_loop [18, 16] (fun u v => ∃ q r : Nat, KD A B R V0 q r ∧ u = .int .u64 q ∧ v = .int .u64 r) (fun u _ => (intOf u).toNat)
          case atStart => exact ⟨q', r', OH'.out.hk, rfl, rfl⟩
          case round =>
            clear e10' e11' e12' hq' hr'
            obtain ⟨q, r, hk, rfl, rfl⟩ := hrel
            have hr := hk.2.2.1
            have hq := hk.2.2.2
            have hYU : R < A * 4294967296 + B := by have := OH.out.hRl; have := KH.out.hAB; omega
            obtain ⟨T, e20, hc⟩ := hk.round (Q := Q') hA hA' hB hV0 hYU (by rw [← KH.out.hAB]; exact OH'.out.hQ)
            clear hYU hk
            rcases hc with ⟨c1, hq1, hc⟩ | ⟨c1, c2, c3⟩
            · rcases hc with ⟨c3, hn⟩ | ⟨c3, hn⟩
              · have HN := Lib.hid hn; clear hn
                have c3b : decide ((4294967296 : Int) ≤ (r : Int) + (A : Int)) = false := decide_eq_false (by omega)
                clear c3
                rcases c1 with c1 | ⟨c1, c2⟩
                · have c1b : decide ((4294967296 : Int) ≤ (q : Int)) = true := decide_eq_true (by omega)
                  clear c1
                  go_wp2
                  go_round
                  case rel => exact ⟨q - 1, r + A, HN.out, by go_num, by go_num⟩
                  case measure => simp [intOf]; omega
                · have c1b : decide ((4294967296 : Int) ≤ (q : Int)) = false := decide_eq_false (by omega)
                  have c2b : decide (4294967296 * (r : Int) + (V0 : Int) < (T : Int)) = true := decide_eq_true (by omega)
                  clear c1 c2
                  go_wp2
                  go_round
                  case rel => exact ⟨q - 1, r + A, HN.out, by go_num, by go_num⟩
                  case measure => simp [intOf]; omega
              · have hn1 : (q : Int) - 1 = (Q' : Int) := by omega
                have c3b : decide ((4294967296 : Int) ≤ (r : Int) + (A : Int)) = true := decide_eq_true (by omega)
                clear c3 hn
                rcases c1 with c1 | ⟨c1, c2⟩
                · have c1b : decide ((4294967296 : Int) ≤ (q : Int)) = true := decide_eq_true (by omega)
                  clear c1
                  go_wp2
                  go_ret2
                  exact ⟨ret_two HF.out.1 HF.out.2, rfl⟩
                · have c1b : decide ((4294967296 : Int) ≤ (q : Int)) = false := decide_eq_false (by omega)
                  have c2b : decide (4294967296 * (r : Int) + (V0 : Int) < (T : Int)) = true := decide_eq_true (by omega)
                  clear c1 c2
                  go_wp2
                  go_ret2
                  exact ⟨ret_two HF.out.1 HF.out.2, rfl⟩
            · have hn1 : (q : Int) = (Q' : Int) := by omega
              have c1b : decide ((4294967296 : Int) ≤ (q : Int)) = false := decide_eq_false (by omega)
              have c2b : decide (4294967296 * (r : Int) + (V0 : Int) < (T : Int)) = false := decide_eq_false (by omega)
              obtain rfl : q = Q' := by omega
              clear c1 c2 c3 hn1
              go_wp2
              go_ret2
              exact ⟨ret_two HF.out.1 HF.out.2, rfl⟩
        · have c1b : decide ((4294967296 : Int) ≤ (q : Int)) = false := decide_eq_false (by omega)
          have c2b : decide (4294967296 * (r : Int) + (V1 : Int) < (T : Int)) = true := decide_eq_true (by omega)
          clear c1 c2
          go_wp2
          clear hn1 e20 c1b c2b c3b hq hr hq1
          go_loop [18, 16] (fun u v => ∃ q r : Nat, KD A B R V0 q r ∧ u = .int .u64 q ∧ v = .int .u64 r) (fun u _ => (intOf u).toNat)
          case atStart => exact ⟨q', r', OH'.out.hk, rfl, rfl⟩
          case round =>
            clear e10' e11' e12' hq' hr'
            obtain ⟨q, r, hk, rfl, rfl⟩ := hrel
            have hr := hk.2.2.1
            have hq := hk.2.2.2
            have hYU : R < A * 4294967296 + B := by have := OH.out.hRl; have := KH.out.hAB; omega
            obtain ⟨T, e20, hc⟩ := hk.round (Q := Q') hA hA' hB hV0 hYU (by rw [← KH.out.hAB]; exact OH'.out.hQ)
            clear hYU hk
            rcases hc with ⟨c1, hq1, hc⟩ | ⟨c1, c2, c3⟩
            · rcases hc with ⟨c3, hn⟩ | ⟨c3, hn⟩
              · have HN := Lib.hid hn; clear hn
                have c3b : decide ((4294967296 : Int) ≤ (r : Int) + (A : Int)) = false := decide_eq_false (by omega)
                clear c3
                rcases c1 with c1 | ⟨c1, c2⟩
                · have c1b : decide ((4294967296 : Int) ≤ (q : Int)) = true := decide_eq_true (by omega)
                  clear c1
                  go_wp2
                  go_round
                  case rel => exact ⟨q - 1, r + A, HN.out, by go_num, by go_num⟩
                  case measure => simp [intOf]; omega
                · have c1b : decide ((4294967296 : Int) ≤ (q : Int)) = false := decide_eq_false (by omega)
                  have c2b : decide (4294967296 * (r : Int) + (V0 : Int) < (T : Int)) = true := decide_eq_true (by omega)
                  clear c1 c2
                  go_wp2
                  go_round
                  case rel => exact ⟨q - 1, r + A, HN.out, by go_num, by go_num⟩
                  case measure => simp [intOf]; omega
              · have hn1 : (q : Int) - 1 = (Q' : Int) := by omega
                have c3b : decide ((4294967296 : Int) ≤ (r : Int) + (A : Int)) = true := decide_eq_true (by omega)
                clear c3 hn
                rcases c1 with c1 | ⟨c1, c2⟩
                · have c1b : decide ((4294967296 : Int) ≤ (q : Int)) = true := decide_eq_true (by omega)
                  clear c1
                  go_wp2
                  go_ret2
                  exact ⟨ret_two HF.out.1 HF.out.2, rfl⟩
                · have c1b : decide ((4294967296 : Int) ≤ (q : Int)) = false := decide_eq_false (by omega)
                  have c2b : decide (4294967296 * (r : Int) + (V0 : Int) < (T : Int)) = true := decide_eq_true (by omega)
                  clear c1 c2
                  go_wp2
                  go_ret2
                  exact ⟨ret_two HF.out.1 HF.out.2, rfl⟩
            · have hn1 : (q : Int) = (Q' : Int) := by omega
              have c1b : decide ((4294967296 : Int) ≤ (q : Int)) = false := decide_eq_false (by omega)
              have c2b : decide (4294967296 * (r : Int) + (V0 : Int) < (T : Int)) = false := decide_eq_false (by omega)
              obtain rfl : q = Q' := by omega
              clear c1 c2 c3 hn1
              go_wp2
              go_ret2
              exact ⟨ret_two HF.out.1 HF.out.2, rfl⟩
    · have c1b : decide ((4294967296 : Int) ≤ (q : Int)) = false := decide_eq_false (by omega)
      have c2b : decide (4294967296 * (r : Int) + (V1 : Int) < (T : Int)) = false := decide_eq_false (by omega)
      obtain rfl : q = Q := by omega
      clear c1 c2 c3
      go_wp2
      clear e20 c1b c2b hq hr
      go_loop [18, 16] (fun u v => ∃ q r : Nat, KD A B R V0 q r ∧ u = .int .u64 q ∧ v = .int .u64 r) (fun u _ => (intOf u).toNat)
      case atStart => exact ⟨q', r', OH'.out.hk, rfl, rfl⟩
      case round =>
        clear e10' e11' e12' hq' hr'
        obtain ⟨q, r, hk, rfl, rfl⟩ := hrel
        have hr := hk.2.2.1
        have hq := hk.2.2.2
        have hYU : R < A * 4294967296 + B := by have := OH.out.hRl; have := KH.out.hAB; omega
        obtain ⟨T, e20, hc⟩ := hk.round (Q := Q') hA hA' hB hV0 hYU (by rw [← KH.out.hAB]; exact OH'.out.hQ)
        clear hYU hk
        rcases hc with ⟨c1, hq1, hc⟩ | ⟨c1, c2, c3⟩
        · rcases hc with ⟨c3, hn⟩ | ⟨c3, hn⟩
          · have HN := Lib.hid hn; clear hn
            have c3b : decide ((4294967296 : Int) ≤ (r : Int) + (A : Int)) = false := decide_eq_false (by omega)
            clear c3
            rcases c1 with c1 | ⟨c1, c2⟩
            · have c1b : decide ((4294967296 : Int) ≤ (q : Int)) = true := decide_eq_true (by omega)
              clear c1
              go_wp2
              go_round
              case rel => exact ⟨q - 1, r + A, HN.out, by go_num, by go_num⟩
              case measure => simp [intOf]; omega
            · have c1b : decide ((4294967296 : Int) ≤ (q : Int)) = false := decide_eq_false (by omega)
              have c2b : decide (4294967296 * (r : Int) + (V0 : Int) < (T : Int)) = true := decide_eq_true (by omega)
              clear c1 c2
              go_wp2
              go_round
              case rel => exact ⟨q - 1, r + A, HN.out, by go_num, by go_num⟩
              case measure => simp [intOf]; omega
          · have hn1 : (q : Int) - 1 = (Q' : Int) := by omega
            have c3b : decide ((4294967296 : Int) ≤ (r : Int) + (A : Int)) = true := decide_eq_true (by omega)
            clear c3 hn
            rcases c1 with c1 | ⟨c1, c2⟩
            · have c1b : decide ((4294967296 : Int) ≤ (q : Int)) = true := decide_eq_true (by omega)
              clear c1
              go_wp2
              go_ret2
              exact ⟨ret_two HF.out.1 HF.out.2, rfl⟩
            · have c1b : decide ((4294967296 : Int) ≤ (q : Int)) = false := decide_eq_false (by omega)
              have c2b : decide (4294967296 * (r : Int) + (V0 : Int) < (T : Int)) = true := decide_eq_true (by omega)
              clear c1 c2
              go_wp2
              go_ret2
              exact ⟨ret_two HF.out.1 HF.out.2, rfl⟩
        · have hn1 : (q : Int) = (Q' : Int) := by omega
          have c1b : decide ((4294967296 : Int) ≤ (q : Int)) = false := decide_eq_false (by omega)
          have c2b : decide (4294967296 * (r : Int) + (V0 : Int) < (T : Int)) = false := decide_eq_false (by omega)
          obtain rfl : q = Q' := by omega
          clear c1 c2 c3 hn1
          go_wp2
          go_ret2
          exact ⟨ret_two HF.out.1 HF.out.2, rfl⟩

theorem div_small (lo y : Nat) (w : World) (h1 : 0 < y) (h2 : y < 18446744073709551616) (h3 : lo < 18446744073709551616) :
    Calls Try.prog 99 #[.int .u64 0, .int .u64 lo, .int .u64 y] w fun e w' => e = .returned (.tuple #[.int .u64 ((lo / y : Nat) : Int), .int .u64 ((lo % y : Nat) : Int)]) ∧ ∃ n, w' = w.drewN n := by
  have b1 : ((y : Int) == 0) = false := by simp; omega
  have hq : lo / y ≤ lo := Nat.div_le_self _ _
  have e1 : IntKind.u64.wrap ((lo : Int) / (y : Int)) = ((lo / y : Nat) : Int) := by rw [u64w, ← Int.natCast_ediv]; generalize lo / y = q at hq ⊢; omega
  go_enter Try.func99, Try.ntmps99
  go_wp2
  go_quiet (fail)
  go_wp2
  go_ret2
  exact ⟨rfl, nq, rfl⟩

theorem Div64 (hi lo y : Nat) (w : World) (h1 : hi < y) (h2 : y < 18446744073709551616) (h3 : lo < 18446744073709551616) :
    Calls Try.prog 99 #[.int .u64 hi, .int .u64 lo, .int .u64 y] w fun e w' => e = .returned (.tuple #[.int .u64 (((hi * 18446744073709551616 + lo) / y : Nat) : Int), .int .u64 (((hi * 18446744073709551616 + lo) % y : Nat) : Int)]) ∧ ∃ n, w' = w.drewN n := by
  by_cases h0 : hi = 0
  · subst h0; rw [Nat.zero_mul, Nat.zero_add]; exact div_small lo y w h1 h2 h3
  · obtain ⟨hl, hs⟩ := bitLen_lt y h2
    have hb := (Lib.bitLenAux_bounds 64 y h2 (by omega)).2.1
    have hz := (Lib.bitLenAux_bounds 64 y h2 (by omega)).1
    have he : Lib.bitLen y = Lib.bitLenAux 64 y := rfl
    rw [← he] at hb hz
    refine (div_big hi lo y (64 - Lib.bitLen y) _ _ _ _ _ _ _ w (by omega) h1 h2 h3 (by omega) (by omega) (KN.make h1 h3 (by omega) ?_ ?_)).mono fun e w' ⟨a, b⟩ => ⟨a, 0, b.symm⟩
    · rw [show 63 - (64 - Lib.bitLen y) = Lib.bitLen y - 1 by omega]; exact hb
    · rw [show 64 - (64 - Lib.bitLen y) = Lib.bitLen y by omega]; exact hs

end Go.Proofs.Ytnidgokmndnenaa
