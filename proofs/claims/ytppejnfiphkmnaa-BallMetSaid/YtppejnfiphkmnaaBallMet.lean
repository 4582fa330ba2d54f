/- The walk of the statement BallMet. -/
import Derived.Test.YtppejnfiphkmnaaAwake12
import Derived.Test.YtppejnfiphkmnaaReff12
import Derived.Test.YtppejnfiphkmnaaRefd02
import Derived.Test.YtppejnfiphkmnaaTail
import Derived.Deep.DeepCutAuto
namespace Go.Proofs.Ytppejnfiphkmnaa
open Go.RowKit Go.Proofs.Sky
set_option linter.unusedVariables false

theorem u16_of_wf12 {a : Int} (h : (Lit.int .u16 a).wf = true) : 0 ≤ a ∧ a ≤ 65535 := by
  simp [Lit.wf, IntKind.min, IntKind.max, IntKind.signed, IntKind.bits] at h
  omega
theorem ballV_in {a b q n : Int} (ha : 0 ≤ a ∧ a ≤ 12000000) (hb : -24000000 ≤ b ∧ b ≤ 24000000) (hq : -48000000 ≤ q ∧ q ≤ 48000000) (hn : 0 ≤ n ∧ n ≤ 50000001) : W128 (ballV a b q n a) := by
  have p1 := mul_in (x := a) (a := n) (N := 12000000) (M := 50000001) (by omega) (by omega)
  have p2 := mul_in (x := a * n) (a := n) (N := 12000000 * 50000001) (M := 50000001) (by omega) (by omega)
  have p3 := mul_in (x := 2 * b) (a := n) (N := 48000000) (M := 50000001) (by omega) (by omega)
  have p4 := mul_in (x := 2 * b * n) (a := a) (N := 48000000 * 50000001) (M := 12000000) (by omega) (by omega)
  have p5 := mul_in (x := q) (a := a) (N := 48000000) (M := 12000000) (by omega) (by omega)
  have p6 := mul_in (x := q * a) (a := a) (N := 48000000 * 12000000) (M := 12000000) (by omega) (by omega)
  unfold ballV W128
  omega
theorem cmp_le {v : Int} (h : v ≤ 0) : decide (cmpI v 0 ≤ 0) = true := decide_eq_true (by unfold cmpI; split <;> (try split) <;> omega)
theorem cmp_gt {v : Int} (h : 0 < v) : decide (0 < cmpI v 0) = true := decide_eq_true (by unfold cmpI; split <;> (try split) <;> omega)
/-- What BallMet asks, over the document's words. -/
theorem ballH_met {c o d : T3} {k : Int} (hk : 4 ≤ k ∧ k ≤ 2003) (hc : (-1999 ≤ c.1 ∧ c.1 ≤ 1999) ∧ (-1999 ≤ c.2.1 ∧ c.2.1 ≤ 1999) ∧ (-1999 ≤ c.2.2 ∧ c.2.2 ≤ 1999)) (ho : (-1999 ≤ o.1 ∧ o.1 ≤ 1999) ∧ (-1999 ≤ o.2.1 ∧ o.2.1 ≤ 1999) ∧ (-1999 ≤ o.2.2 ∧ o.2.2 ≤ 1999)) (hd : (-1999 ≤ d.1 ∧ d.1 ≤ 1999) ∧ (-1999 ≤ d.2.1 ∧ d.2.1 ≤ 1999) ∧ (-1999 ≤ d.2.2 ∧ d.2.2 ≤ 1999)) (hm : (ballH c k o d).2 = true) :
    ∃ n : Int, (ballH c k o d).1 = (n, dtT d d) ∧ 1 ≤ n ∧ n ≤ 50000000 ∧ 1 ≤ dtT d d ∧ dtT d d ≤ 12000000 ∧ (-24000000 ≤ dtT (sbT o c) d ∧ dtT (sbT o c) d ≤ 24000000) ∧ (-48000000 ≤ ballQ c k o ∧ ballQ c k o ≤ 48000000) ∧
      ballV (dtT d d) (dtT (sbT o c) d) (ballQ c k o) n (dtT d d) ≤ 0 ∧ (ballQ c k o ≤ 0 → 0 < ballV (dtT d d) (dtT (sbT o c) d) (ballQ c k o) (n + 1) (dtT d d)) ∧ (¬ ballQ c k o ≤ 0 → 0 < ballV (dtT d d) (dtT (sbT o c) d) (ballQ c k o) (n - 1) (dtT d d)) := by
  have m1 : ∀ {x y : Int}, (-1999 ≤ x ∧ x ≤ 1999) → (-1999 ≤ y ∧ y ≤ 1999) → -3996001 ≤ x * y ∧ x * y ≤ 3996001 := fun hx hy => mul_in (N := 1999) (M := 1999) hx hy
  have m2 : ∀ {x y : Int}, (-3998 ≤ x ∧ x ≤ 3998) → (-1999 ≤ y ∧ y ≤ 1999) → -7992002 ≤ x * y ∧ x * y ≤ 7992002 := fun hx hy => mul_in (N := 3998) (M := 1999) hx hy
  have m3 : ∀ {x y : Int}, (-3998 ≤ x ∧ x ≤ 3998) → (-3998 ≤ y ∧ y ≤ 3998) → -15984004 ≤ x * y ∧ x * y ≤ 15984004 := fun hx hy => mul_in (N := 3998) (M := 3998) hx hy
  have a1 := m1 hd.1 hd.1; have a2 := m1 hd.2.1 hd.2.1; have a3 := m1 hd.2.2 hd.2.2
  have a4 := sq_nonneg d.1; have a5 := sq_nonneg d.2.1; have a6 := sq_nonneg d.2.2
  have b1 := m2 (x := o.1 - c.1) (y := d.1) (by omega) hd.1
  have b2 := m2 (x := o.2.1 - c.2.1) (y := d.2.1) (by omega) hd.2.1
  have b3 := m2 (x := o.2.2 - c.2.2) (y := d.2.2) (by omega) hd.2.2
  have q1 := m3 (x := o.1 - c.1) (y := o.1 - c.1) (by omega) (by omega)
  have q2 := m3 (x := o.2.1 - c.2.1) (y := o.2.1 - c.2.1) (by omega) (by omega)
  have q3 := m3 (x := o.2.2 - c.2.2) (y := o.2.2 - c.2.2) (by omega) (by omega)
  have q4 := sq_nonneg (o.1 - c.1); have q5 := sq_nonneg (o.2.1 - c.2.1); have q6 := sq_nonneg (o.2.2 - c.2.2)
  have kk := mul_in (x := k) (a := k) (N := 2003) (M := 2003) (by omega) (by omega)
  have kz := sq_nonneg k
  have hA : 0 ≤ dtT d d ∧ dtT d d ≤ 12000000 := by unfold dtT; omega
  have hB : -24000000 ≤ dtT (sbT o c) d ∧ dtT (sbT o c) d ≤ 24000000 := by unfold dtT sbT; dsimp only; omega
  have hQ : -4012009 ≤ ballQ c k o ∧ ballQ c k o ≤ 48000000 := by unfold ballQ dtT sbT; dsimp only; omega
  unfold ballH at hm ⊢
  by_cases g : ballM c k o d = true ∧ 0 ≤ ballD c k o d
  · rw [if_pos g] at hm ⊢
    have hz : isZ d = false := by
      have := g.1
      unfold ballM at this
      simp only [Bool.and_eq_true] at this
      simpa using this.2.2.2
    have hA1 : 1 ≤ dtT d d := by
      unfold isZ at hz
      have hz' := of_decide_eq_false hz
      have s1 : ∀ x : Int, ¬ x = 0 → 0 < x * x := fun x hx => by
        rcases Int.lt_or_gt_of_ne hx with h | h
        · rw [← Int.neg_mul_neg]; exact Int.mul_pos (by omega) (by omega)
        · exact Int.mul_pos h h
      have t1 := s1 d.1; have t2 := s1 d.2.1; have t3 := s1 d.2.2
      unfold dtT
      omega
    obtain ⟨r1, r2⟩ := isq_spec (ballD c k o d).toNat
    have hD := g.2
    have e0 : ((ballD c k o d).toNat : Int) = ballD c k o d := Int.toNat_of_nonneg hD
    unfold ballS at hm ⊢
    generalize isq (ballD c k o d).toNat = s at *
    have r1' : (s : Int) * s ≤ ballD c k o d := by rw [← e0]; exact_mod_cast r1
    have r2' : ballD c k o d < ((s : Int) + 1) * (s + 1) := by rw [← e0]; exact_mod_cast r2
    unfold ballD at r1' r2'
    generalize dtT d d = a at *
    generalize dtT (sbT o c) d = b at *
    generalize ballQ c k o = q at *
    obtain ⟨p1, p2, p3, p4, p5, p6⟩ := ball_met hA1 (Int.natCast_nonneg s) r1' r2' hm
    have bb := mul_in (x := b) (a := b) (N := 24000000) (M := 24000000) hB hB
    have aq : -(12000000 * 4012009) ≤ a * q := by
      have := Int.mul_le_mul_of_nonneg_left (show -4012009 ≤ q by omega) (show 0 ≤ a by omega)
      omega
    have sb : (s : Int) < 25000000 := by
      by_cases h : (s : Int) < 25000000
      · exact h
      · have := Int.mul_self_le_mul_self (show (0 : Int) ≤ 25000000 by omega) (show (25000000 : Int) ≤ s by omega)
        omega
    generalize ballF a b q s = F at *
    obtain ⟨⟨n, e⟩, ok⟩ := F
    dsimp only at p1 p2 p3 p4 p5 p6
    subst p2
    exact ⟨n, rfl, p1, by omega, hA1, hA.2, hB, by omega, p3, p4, p5⟩
  · rw [if_neg g] at hm
    cases hm
theorem ballH_none {c o d : T3} {k : Int} (hm : (ballH c k o d).2 = false) : (ballH c k o d).1 = (0, 0) := by
  unfold ballH ballF at hm ⊢
  split at hm
  · rename_i g
    rw [if_pos g]
    split at hm
    · cases hm
    · rename_i g1
      rw [if_neg g1]
      split at hm
      · cases hm
      · rename_i g2
        rw [if_neg g2]
  · rename_i g
    rw [if_neg g]

end Go.Proofs.Ytppejnfiphkmnaa
