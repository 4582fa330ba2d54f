/- NumRoot: a root's square is not above its number, the next one's is; a part, times what it was divided by, likewise. -/
import Derived.Test.YtmmgpgmglemcdaaAwake01
namespace Go.Proofs.Ytmmgpgmglemcdaa
open Go.RowKit Go.Proofs.Sky
set_option linter.unusedVariables false

theorem sq_named (x : Nat) (h : x ≤ 4294967295) : IntKind.u64.wrap ((x : Int) * (x : Int)) = ((x * x : Nat) : Int) := by
  have := Nat.mul_le_mul h h; rw [u64w, ← Int.natCast_mul]; omega

theorem law_NumRoot_at (n a b c d : Nat) (hn : n < 18446744073709551616) (ha : a < 4294967296) (hb : b < 4294967296) (hc : c < 4294967296) (hd : 1 ≤ d) (hd' : d < 4294967296)
    (hdc : (c = 0 ∧ d = 1) ∨ (1 ≤ c ∧ d = c)) (w : World) :
    Calls Try.prog 5 #[.int .u64 n, .int .u32 a, .int .u32 b, .int .u32 c] w fun e w' => e = .returned (.bool true) ∧ ∃ n, w' = w.drewN n := by
  have hR := Lib.hid (fun w => num_Root n w hn)
  have hrl : isq n < 4294967296 := isq_lt (by omega)
  obtain ⟨h1, h2⟩ := isq_spec n
  generalize isq n = r at *
  have hab := Nat.mul_le_mul (show a ≤ 4294967295 by omega) (show b ≤ 4294967295 by omega)
  have hP : ∀ w, Calls Try.prog 6 #[.int .u64 a, .int .u64 b, .int .u64 d] w fun e w' => e = .returned (.tuple #[.int .u64 ((a * b / d : Nat) : Int), .bool true]) ∧ ∃ n, w' = w.drewN n := by
    intro w
    have h := num_Part a b d w (by omega) (by omega) (by omega)
    have e0 : a * b / 18446744073709551616 = 0 := Nat.div_eq_of_lt (by omega)
    unfold partQ partOk at h
    rw [e0, if_pos (by omega), decide_eq_true (by omega)] at h
    exact h
  have HP := Lib.hid hP; clear hP
  have hdm := Nat.div_add_mod' (a * b) d
  have hml := Nat.mod_lt (a * b) (show d > 0 by omega)
  have hqle := Nat.div_le_self (a * b) d
  obtain ⟨M, hM⟩ : ∃ M, M = a * b := ⟨_, rfl⟩
  have e1 : IntKind.u64.wrap ((a : Int) * (b : Int)) = (M : Int) := by rw [hM, u64w, ← Int.natCast_mul]; omega
  have e2 : (M : Int) / (d : Int) = ((M / d : Nat) : Int) := by simp
  rw [← hM] at hdm hml hqle hab HP
  obtain ⟨q, hq⟩ : ∃ q, q = M / d := ⟨_, rfl⟩
  rw [← hq] at hdm hqle HP e2
  obtain ⟨D, hD⟩ : ∃ D, D = q * d := ⟨_, rfl⟩
  rw [← hD] at hdm
  have e3 : IntKind.u64.wrap ((q : Int) * (d : Int)) = (D : Int) := by rw [hD, u64w, ← Int.natCast_mul]; omega
  have e4 : D ≤ M := by omega
  have e5 : decide ((M : Int) - (D : Int) < (d : Int)) = true := decide_eq_true (by omega)
  have e6 : ((d : Int) == 0) = false := by simp; omega
  have hqM : q ≤ M := hqle
  clear hM hq hD hdm hml hqle
  obtain ⟨Q, hQ⟩ : ∃ Q, Q = r * r := ⟨_, rfl⟩
  have s1 : IntKind.u64.wrap ((r : Int) * (r : Int)) = (Q : Int) := by rw [hQ]; exact sq_named r (by omega)
  have s2 : decide (n < Q) = false := decide_eq_false (by omega)
  clear hQ h1
  have i1 : (r : Int) ≤ 4294967295 := by omega
  have i2 : (a : Int) ≤ 4294967295 := by omega
  have i3 : (b : Int) ≤ 4294967295 := by omega
  have i4 : (c : Int) ≤ 4294967295 := by omega
  have i5 : (d : Int) ≤ 4294967295 := by omega
  have i6 : (M : Int) ≤ 18446744073709551615 := by omega
  have e0 : max 1 (c : Int) = (d : Int) := by omega
  have t1 : decide ((r : Int) < 0) = false := decide_eq_false (by omega)
  have t2 : decide ((4294967295 : Int) < (r : Int)) = false := decide_eq_false (by omega)
  clear hn ha hb hc hd hd' hab hdc
  by_cases hr : r < 4294967295
  · obtain ⟨Q1, hQ1⟩ : ∃ Q1, Q1 = (r + 1) * (r + 1) := ⟨_, rfl⟩
    have s3 : IntKind.u64.wrap (((r : Int) + 1) * ((r : Int) + 1)) = (Q1 : Int) := by rw [hQ1]; exact sq_named (r + 1) (by omega)
    have s4 : decide (Q1 ≤ n) = false := decide_eq_false (by omega)
    have t3 : decide ((r : Int) < 4294967295) = true := decide_eq_true (by omega)
    clear hQ1 h2 hrl hr
    go_enter Try.func5, Try.ntmps5
    go_wp2_with (first
      | (go_at_call 18; refine (hR.out _).mono ?_; rintro e w' ⟨rfl, rfl⟩)
      | (go_at_call 6; refine (HP.out _).mono ?_; rintro e w' ⟨rfl, n, rfl⟩)
      | (go_at_call 20; refine (awake01 _).mono ?_; rintro e w' ⟨rfl, n, rfl⟩))
    go_ret
    exact ⟨rfl, _, rfl⟩
  · have t3 : decide ((r : Int) < 4294967295) = false := decide_eq_false (by omega)
    clear h2 hrl hr
    go_enter Try.func5, Try.ntmps5
    go_wp2_with (first
      | (go_at_call 18; refine (hR.out _).mono ?_; rintro e w' ⟨rfl, rfl⟩)
      | (go_at_call 6; refine (HP.out _).mono ?_; rintro e w' ⟨rfl, n, rfl⟩)
      | (go_at_call 20; refine (awake01 _).mono ?_; rintro e w' ⟨rfl, n, rfl⟩))
    go_ret
    exact ⟨rfl, _, rfl⟩

theorem law_NumRoot (n a b c : Int) (hn : (Lit.int .u64 n).wf = true) (ha : (Lit.int .u32 a).wf = true) (hb : (Lit.int .u32 b).wf = true) (hc : (Lit.int .u32 c).wf = true) (w : World) :
    Calls Try.prog 5 #[.int .u64 n, .int .u32 a, .int .u32 b, .int .u32 c] w fun e w' => e = .returned (.bool true) ∧ ∃ n, w' = w.drewN n := by
  simp [Lit.wf, IntKind.min, IntKind.max, IntKind.signed, IntKind.bits] at hn ha hb hc
  obtain ⟨n', rfl⟩ := Int.eq_ofNat_of_zero_le hn.1
  obtain ⟨a', rfl⟩ := Int.eq_ofNat_of_zero_le ha.1
  obtain ⟨b', rfl⟩ := Int.eq_ofNat_of_zero_le hb.1
  obtain ⟨c', rfl⟩ := Int.eq_ofNat_of_zero_le hc.1
  exact law_NumRoot_at n' a' b' c' (max 1 c') (by omega) (by omega) (by omega) (by omega) (by omega) (by omega) (by omega) w

end Go.Proofs.Ytmmgpgmglemcdaa
