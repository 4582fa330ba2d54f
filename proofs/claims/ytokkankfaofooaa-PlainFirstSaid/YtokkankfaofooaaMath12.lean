/- Plain mathematics of layer 12: balls, and what rays meet. Imports nothing of the translation. Plain mathematics of layer 12: a direction goes ahead of what it is of; through a ball's middle. Imports nothing of the translation. -/
import Derived.Test.YtokkankfaofooaaMath11

namespace Go.Proofs.Sky
section
open Go.RowKit
set_option linter.unusedVariables false

def ballR (c : T3) (r : Int) : Bool := plc c && decide (4 ≤ r ∧ r ≤ 262144)
def ballM (c : T3) (r : Int) (o d : T3) : Bool := ballR c r && (plc o && (nrT d && !isZ d))
def ballQ (c : T3) (r : Int) (o : T3) : Int := dtT (sbT o c) (sbT o c) - r * r
def ballD (c : T3) (r : Int) (o d : T3) : Int := dtT (sbT o c) d * dtT (sbT o c) d - dtT d d * ballQ c r o
def ballS (c : T3) (r : Int) (o d : T3) : Int := (isq (ballD c r o d).toNat : Int)
def ballF (a b q s : Int) : (Int × Int) × Bool := if 0 < q ∧ b < 0 then ((-b - s, a), true) else if q ≤ 0 ∧ 0 < s - b then ((s - b, a), true) else ((0, 0), false)
def ballH (c : T3) (r : Int) (o d : T3) : (Int × Int) × Bool :=
  if ballM c r o d = true ∧ 0 ≤ ballD c r o d then ballF (dtT d d) (dtT (sbT o c) d) (ballQ c r o) (ballS c r o d) else ((0, 0), false)
def ballT (c : T3) (r : Int) (o d : T3) : (Int × Int) × Bool :=
  if ballM c r o d = true ∧ dtT (sbT o c) d < 0 then ((-2 * dtT (sbT o c) d, dtT d d), true) else ((0, 0), false)
def ballN (c t : T3) : T3 := if plc c = true ∧ plc t = true ∧ okT (sbT t c) = true then unT (sbT t c) else (0, 0, 16384)
def ballI (c : T3) (r : Int) (t : T3) : Bool := ballR c r && (plc t && decide (dtT (sbT t c) (sbT t c) ≤ r * r))

/-- A ball's equation at the place n by e of the way: how far outside, times e squared. -/
def ballV (a b q n e : Int) : Int := a * n * n + 2 * b * n * e + q * e * e
theorem ballV_sq (a b q n : Int) : ballV a b q n a = a * ((n + b) * (n + b) - (b * b - a * q)) := by unfold ballV; grind
theorem sq_le_of {s b : Int} (hs : 0 ≤ s) (h : s * s < b * b) (hb : b < 0) : s < -b := by
  by_cases g : s < -b
  · exact g
  · have := Int.mul_self_le_mul_self (show 0 ≤ -b by omega) (show -b ≤ s by omega)
    rw [Int.neg_mul_neg] at this
    omega
/-- Where a ball is met: the equation there, and just beside. -/
theorem ball_met {a b q s : Int} (ha : 1 ≤ a) (hs : 0 ≤ s) (h1 : s * s ≤ b * b - a * q) (h2 : b * b - a * q < (s + 1) * (s + 1)) (hk : (ballF a b q s).2 = true) :
    1 ≤ (ballF a b q s).1.1 ∧ (ballF a b q s).1.2 = a ∧ ballV a b q (ballF a b q s).1.1 a ≤ 0 ∧ (q ≤ 0 → 0 < ballV a b q ((ballF a b q s).1.1 + 1) a) ∧ (¬ q ≤ 0 → 0 < ballV a b q ((ballF a b q s).1.1 - 1) a) ∧ ((ballF a b q s).1.1 = -b - s ∨ (ballF a b q s).1.1 = s - b) := by
  unfold ballF at hk ⊢
  have up : 0 < a * ((s + 1) * (s + 1) - (b * b - a * q)) := Int.mul_pos (by omega) (by omega)
  have dn : 0 ≤ a * ((b * b - a * q) - s * s) := Int.mul_nonneg (by omega) (by omega)
  by_cases c1 : 0 < q ∧ b < 0
  · rw [if_pos c1]
    dsimp only
    have pq : 0 < a * q := Int.mul_pos (by omega) c1.1
    have sl := sq_le_of hs (show s * s < b * b by omega) c1.2
    rw [ballV_sq, ballV_sq, ballV_sq]
    refine ⟨by omega, rfl, ?_, fun h => by omega, fun _ => ?_, .inl rfl⟩
    · have e : a * ((-b - s + b) * (-b - s + b) - (b * b - a * q)) = -(a * ((b * b - a * q) - s * s)) := by grind
      omega
    · have e : a * ((-b - s - 1 + b) * (-b - s - 1 + b) - (b * b - a * q)) = a * ((s + 1) * (s + 1) - (b * b - a * q)) := by grind
      omega
  · rw [if_neg c1] at hk ⊢
    by_cases c2 : q ≤ 0 ∧ 0 < s - b
    · rw [if_pos c2]
      dsimp only
      rw [ballV_sq, ballV_sq, ballV_sq]
      refine ⟨by omega, rfl, ?_, fun _ => ?_, fun h => absurd c2.1 h, .inr rfl⟩
      · have e : a * ((s - b + b) * (s - b + b) - (b * b - a * q)) = -(a * ((b * b - a * q) - s * s)) := by grind
        omega
      · have e : a * ((s - b + 1 + b) * (s - b + 1 + b) - (b * b - a * q)) = a * ((s + 1) * (s + 1) - (b * b - a * q)) := by grind
        omega
    · rw [if_neg c2] at hk
      cases hk

end
end Go.Proofs.Sky

namespace Go.Proofs.Sky
section
open Go.RowKit
set_option linter.unusedVariables false

theorem dblN_pos : ∀ (k : Nat) (x y z : Int), ∃ P : Int, 1 ≤ P ∧ (dblN k x y z).1 = P * x ∧ (dblN k x y z).2.1 = P * y ∧ (dblN k x y z).2.2 = P * z
  | 0, x, y, z => ⟨1, by omega, by unfold dblN; dsimp only; omega⟩
  | k + 1, x, y, z => by
    by_cases w : wi 524287 x y z = true
    · rw [dblN, if_pos w]
      obtain ⟨P, hp, h1, h2, h3⟩ := dblN_pos k (2 * x) (2 * y) (2 * z)
      exact ⟨P * 2, by omega, by rw [h1, Int.mul_assoc], by rw [h2, Int.mul_assoc], by rw [h3, Int.mul_assoc]⟩
    · rw [dblN, if_neg w]
      exact ⟨1, by omega, by dsimp only; omega⟩

/-- The same side: what is above 0 comes of what is above 0. -/
def Side (u d : Int) : Prop := (0 < u → 0 < d) ∧ (u < 0 → d < 0)

theorem Side.mul {u d : Int} (h : Side u d) : 0 ≤ u * d := by
  rcases Int.lt_trichotomy u 0 with g | g | g
  · have := h.2 g; rw [← Int.neg_mul_neg]; exact Int.mul_nonneg (by omega) (by omega)
  · subst g; simp
  · have := h.1 g; exact Int.mul_nonneg (by omega) (by omega)

theorem Side.pos {u d : Int} (h : Side u d) (hu : ¬ u = 0) : 0 < u * d := by
  rcases Int.lt_or_gt_of_ne hu with g | g
  · have := h.2 g; rw [← Int.neg_mul_neg]; exact Int.mul_pos (by omega) (by omega)
  · have := h.1 g; exact Int.mul_pos (by omega) (by omega)

theorem side_scaled {P x e Q d : Int} (hP : 1 ≤ P) (h1 : -(P - 1) ≤ x - P * e) (h2 : x - P * e ≤ P - 1) (hQ : 1 ≤ Q) (hx : x = Q * d) : Side e d := by
  constructor
  · intro he
    have : P * 1 ≤ P * e := Int.mul_le_mul_of_nonneg_left (by omega) (by omega)
    have hxp : 0 < x := by omega
    rw [hx] at hxp
    by_cases hd : 0 < d
    · exact hd
    · have := Int.mul_nonneg (show 0 ≤ Q by omega) (show 0 ≤ -d by omega)
      rw [Int.mul_neg] at this
      omega
  · intro he
    have : P * e ≤ P * (-1) := Int.mul_le_mul_of_nonneg_left (by omega) (by omega)
    have hxp : x < 0 := by omega
    rw [hx] at hxp
    by_cases hd : d < 0
    · exact hd
    · have := Int.mul_nonneg (show 0 ≤ Q by omega) (show 0 ≤ d by omega)
      omega

theorem side_tdiv {e L d : Int} (hL : 1 ≤ L) (h : Side e d) : Side ((e * 16384).tdiv L) d := by
  constructor
  · intro g
    refine h.1 ?_
    by_cases he : 0 < e
    · exact he
    · have := Int.tdiv_nonneg (a := -(e * 16384)) (b := L) (by omega) (by omega)
      rw [Int.neg_tdiv] at this
      omega
  · intro g
    refine h.2 ?_
    by_cases he : e < 0
    · exact he
    · have := Int.tdiv_nonneg (a := e * 16384) (b := L) (by omega) (by omega)
      omega

/-- A direction goes ahead of what it is of. -/
theorem unit_ahead {x y z : Int} (hok : vuOk x y z = true) : 0 < dtT (vunit x y z) (x, y, z) := by
  obtain ⟨s1, s2⟩ := evn_spec (vuOk_iff.1 hok)
  have hs : Side (evn x y z).1 x ∧ Side (evn x y z).2.1 y ∧ Side (evn x y z).2.2 z := by
    unfold evn dbl
    obtain ⟨Q, q0, q1, q2, q3⟩ := dblN_pos 20 x y z
    generalize dblN 20 x y z = d at *
    obtain ⟨j, P, hP, h1, e1, e2, e3⟩ := halN_err 44 d.1 d.2.1 d.2.2
    exact ⟨side_scaled h1 e1.1 e1.2 q0 q1, side_scaled h1 e2.1 e2.2 q0 q2, side_scaled h1 e3.1 e3.2 q0 q3⟩
  unfold vunit
  rw [if_pos hok]
  generalize evn x y z = e at *
  obtain ⟨a, b, c⟩ := e
  dsimp only at s1 s2 hs
  obtain ⟨L, hL, l1, l2, _, _⟩ := even_len s1 s2
  unfold vun dtT
  rw [hL]
  dsimp only
  have t1 := side_tdiv (L := (L : Int)) (by omega) hs.1
  have t2 := side_tdiv (L := (L : Int)) (by omega) hs.2.1
  have t3 := side_tdiv (L := (L : Int)) (by omega) hs.2.2
  have m1 := t1.mul; have m2 := t2.mul; have m3 := t3.mul
  have big : ∀ v : Int, 524288 ≤ v.natAbs → ¬ (v * 16384).tdiv (L : Int) = 0 := fun v hv h0 => by
    obtain ⟨_, p⟩ := tdiv_parts v L (by omega)
    rw [h0] at p
    simp at p
    omega
  rw [wi_no] at s1
  by_cases ha : 524288 ≤ a.natAbs
  · have := t1.pos (big a ha); omega
  · by_cases hb : 524288 ≤ b.natAbs
    · have := t2.pos (big b hb); omega
    · have := t3.pos (big c (by omega)); omega

theorem dtT_pos {d : T3} (h : isZ d = false) : 1 ≤ dtT d d := by
  unfold isZ at h
  have hz' := of_decide_eq_false h
  have s1 : ∀ x : Int, ¬ x = 0 → 0 < x * x := fun x hx => by
    rcases Int.lt_or_gt_of_ne hx with h | h
    · rw [← Int.neg_mul_neg]; exact Int.mul_pos (by omega) (by omega)
    · exact Int.mul_pos h h
  have t1 := s1 d.1; have t2 := s1 d.2.1; have t3 := s1 d.2.2
  have a4 := sq_nonneg d.1; have a5 := sq_nonneg d.2.1; have a6 := sq_nonneg d.2.2
  unfold dtT
  omega

/-- P12.2, P12.3: through its middle a ball is met; a chord's end; the direction from it. -/
theorem ball_through {c o : T3} {r : Int} (hr : ballR c r = true) (ho : plc o = true) (hz : isZ (sbT c o) = false) (hn : nrT (sbT c o) = true) :
    (ballH c r o (sbT c o)).2 = true ∧ ballT c r o (sbT c o) = ((2 * dtT (sbT c o) (sbT c o), dtT (sbT c o) (sbT c o)), true) ∧ dtT (ballN c o) (sbT c o) < 0 ∧ nrT (ballN c o) = true := by
  have hm : ballM c r o (sbT c o) = true := by unfold ballM; rw [hr, ho, hn, hz]; rfl
  have hpc : plc c = true := by unfold ballR at hr; simp only [Bool.and_eq_true] at hr; exact hr.1
  have e1 : dtT (sbT o c) (sbT c o) = -dtT (sbT c o) (sbT c o) := by unfold dtT sbT; grind
  have e2 : dtT (sbT o c) (sbT o c) = dtT (sbT c o) (sbT c o) := by unfold dtT sbT; grind
  have hA := dtT_pos hz
  have hN : ballN c o = ng (vunit (sbT c o).1 (sbT c o).2.1 (sbT c o).2.2) := by
    have e3 : (sbT o c) = (-(sbT c o).1, -(sbT c o).2.1, -(sbT c o).2.2) := by unfold sbT; simp only [Prod.mk.injEq]; omega
    unfold ballN
    have hok : okT (sbT o c) = true := by
      rw [e3]; unfold okT; dsimp only; rw [vuOk_neg]
      unfold vuOk
      unfold nrT at hn; rw [vnear_iff] at hn
      unfold isZ at hz
      have hz' := of_decide_eq_false hz
      rw [Bool.and_eq_true]
      refine ⟨wi_iff.2 (by omega), ?_⟩
      rw [wi_no.2 (by omega)]; rfl
    rw [if_pos ⟨hpc, ho, hok⟩, e3]
    unfold unT
    dsimp only
    rw [vunit_neg]
  have hok : vuOk (sbT c o).1 (sbT c o).2.1 (sbT c o).2.2 = true := by
    unfold vuOk
    unfold nrT at hn; rw [vnear_iff] at hn
    unfold isZ at hz
    have hz' := of_decide_eq_false hz
    rw [Bool.and_eq_true]
    refine ⟨wi_iff.2 (by omega), ?_⟩
    rw [wi_no.2 (by omega)]; rfl
  refine ⟨?_, ?_, ?_, ?_⟩
  · unfold ballH
    have rr := sq_nonneg r
    have hD : 0 ≤ ballD c r o (sbT c o) := by
      unfold ballD ballQ
      rw [e1, e2]
      have h := Int.mul_nonneg (show 0 ≤ dtT (sbT c o) (sbT c o) by omega) rr
      have : -dtT (sbT c o) (sbT c o) * -dtT (sbT c o) (sbT c o) - dtT (sbT c o) (sbT c o) * (dtT (sbT c o) (sbT c o) - r * r) = dtT (sbT c o) (sbT c o) * (r * r) := by grind
      omega
    rw [if_pos ⟨hm, hD⟩]
    unfold ballF ballS
    rw [e1]
    split
    · rfl
    · rename_i h
      rw [if_pos ⟨by omega, by have : (0 : Int) ≤ (isq (ballD c r o (sbT c o)).toNat : Int) := Int.natCast_nonneg _; omega⟩]
  · unfold ballT
    rw [e1, if_pos ⟨hm, by omega⟩]
    simp only [Prod.mk.injEq, and_true]
    omega
  · rw [hN]
    have := unit_ahead hok
    unfold dtT ng at *
    dsimp only at *
    rw [Int.neg_mul, Int.neg_mul, Int.neg_mul]
    omega
  · rw [hN]
    have h := vunit_small (sbT c o).1 (sbT c o).2.1 (sbT c o).2.2
    unfold nrT ng
    rw [vnear_iff]
    dsimp only
    omega

theorem sbT_vs {u v : T3} (hu : plc u = true) (hv : plc v = true) : (vsub u.1 v.1, vsub u.2.1 v.2.1, vsub u.2.2 v.2.2) = sbT u v := by
  rw [plc_iff] at hu hv
  have sx : ∀ x y : Int, -524288 ≤ x ∧ x ≤ 524288 → -524288 ≤ y ∧ y ≤ 524288 → vsub x y = x - y := fun x y hx hy => by
    unfold vsub sat
    rw [if_neg (by omega), if_neg (by omega), if_neg (by omega), if_neg (by omega)]
    omega
  unfold sbT
  rw [sx _ _ (by omega) (by omega), sx _ _ (by omega) (by omega), sx _ _ (by omega) (by omega)]

theorem vdot_dtT {u v : T3} (hu : nrT u = true) (hv : nrT v = true) : vdot u.1 u.2.1 u.2.2 v.1 v.2.1 v.2.2 = dtT u v := by
  unfold vdot
  rw [if_pos ⟨hu, hv⟩]
  rfl

theorem dtT_near {u v : T3} (hu : nrT u = true) (hv : nrT v = true) : -3298534883328 ≤ dtT u v ∧ dtT u v ≤ 3298534883328 := by
  unfold nrT at hu hv
  rw [vnear_iff] at hu hv
  have p1 := near_mul (x := u.1) (a := v.1) (by omega) (by omega)
  have p2 := near_mul (x := u.2.1) (a := v.2.1) (by omega) (by omega)
  have p3 := near_mul (x := u.2.2) (a := v.2.2) (by omega) (by omega)
  unfold dtT
  omega

theorem vdot_in (x y z a b c : Int) : -3298534883328 ≤ vdot x y z a b c ∧ vdot x y z a b c ≤ 3298534883328 := by
  unfold vdot
  split
  · rename_i h
    exact dtT_near (u := (x, y, z)) (v := (a, b, c)) h.1 h.2
  · omega

theorem ballR_eq (c : T3) (r : Int) : ballR c r = (plc c && (decide (4 ≤ r) && decide (r ≤ 262144))) := by
  unfold ballR; rw [Bool.decide_and]

theorem ballR_iff {c : T3} {r : Int} : ballR c r = true ↔ plc c = true ∧ 4 ≤ r ∧ r ≤ 262144 := by unfold ballR; simp

theorem rr_in {r : Int} (h : 4 ≤ r ∧ r ≤ 262144) : -68719476736 ≤ r * r ∧ r * r ≤ 68719476736 := mul_in (N := 262144) (M := 262144) (by omega) (by omega)

theorem vdot_self (x y z : Int) : 0 ≤ vdot x y z x y z := by
  unfold vdot
  split
  · have a4 := sq_nonneg x; have a5 := sq_nonneg y; have a6 := sq_nonneg z
    omega
  · omega

/-- What the ray meets, by its three numbers. -/
def ballG (a b z : Int) : (Int × Int) × Bool :=
  if 0 ≤ b * b - a * z ∧ 1 ≤ a then ballF a b z (isq (b * b - a * z).toNat : Int) else ((0, 0), false)

theorem ballG_none (b z : Int) : ballG 0 b z = ((0, 0), false) := by
  unfold ballG
  rw [if_neg (fun e => by omega)]

theorem ballH_G {c o d : T3} {r : Int} (hr : ballR c r = true) (ho : plc o = true) :
    ballH c r o d = ballG (vdot d.1 d.2.1 d.2.2 d.1 d.2.1 d.2.2) (vdot (sbT o c).1 (sbT o c).2.1 (sbT o c).2.2 d.1 d.2.1 d.2.2) (ballQ c r o) := by
  have hc := (ballR_iff.1 hr).1
  unfold ballH ballM
  cases hn : nrT d with
  | false =>
    rw [if_neg (by simp)]
    have e : vdot d.1 d.2.1 d.2.2 d.1 d.2.1 d.2.2 = 0 := by unfold vdot; rw [if_neg]; rintro ⟨h, _⟩; unfold nrT at hn; rw [h] at hn; cases hn
    rw [e, ballG_none]
  | true =>
    rw [vdot_dtT hn hn, vdot_dtT (nr_sb ho hc) hn]
    cases hz : isZ d with
    | true =>
      rw [if_neg (by simp)]
      have e : dtT d d = 0 := by rw [isZ_eq hz]; rfl
      rw [e, ballG_none]
    | false =>
      have hp := dtT_pos hz
      rw [hr, ho]
      unfold ballG ballS ballD
      by_cases hD : 0 ≤ dtT (sbT o c) d * dtT (sbT o c) d - dtT d d * ballQ c r o
      · rw [if_pos ⟨rfl, hD⟩, if_pos ⟨hD, hp⟩]
      · rw [if_neg (fun e => hD e.2), if_neg (fun e => hD e.1)]

theorem isq_self (b : Int) : (isq (b * b).toNat : Int) = if b < 0 then -b else b := by
  have h : isq (b * b).toNat = b.natAbs := by
    apply isq_eq
    have e : (b * b).toNat = b.natAbs * b.natAbs := by
      rw [← Int.natAbs_mul_self]
      exact Int.toNat_natCast _
    unfold IsRoot
    rw [e]
    exact ⟨Nat.le_refl _, Nat.mul_self_lt_mul_self (Nat.lt_succ_self _)⟩
  rw [h]
  split <;> omega

theorem ballT_G {c o d : T3} {r : Int} (hr : ballR c r = true) (ho : plc o = true) :
    ballT c r o d = ballG (vdot d.1 d.2.1 d.2.2 d.1 d.2.1 d.2.2) (vdot (sbT o c).1 (sbT o c).2.1 (sbT o c).2.2 d.1 d.2.1 d.2.2) 0 := by
  have hc := (ballR_iff.1 hr).1
  unfold ballT ballM
  cases hn : nrT d with
  | false =>
    rw [if_neg (by simp)]
    have e : vdot d.1 d.2.1 d.2.2 d.1 d.2.1 d.2.2 = 0 := by unfold vdot; rw [if_neg]; rintro ⟨h, _⟩; unfold nrT at hn; rw [h] at hn; cases hn
    rw [e, ballG_none]
  | true =>
    rw [vdot_dtT hn hn, vdot_dtT (nr_sb ho hc) hn]
    cases hz : isZ d with
    | true =>
      rw [if_neg (by simp)]
      have e : dtT d d = 0 := by rw [isZ_eq hz]; rfl
      rw [e, ballG_none]
    | false =>
      have hp := dtT_pos hz
      rw [hr, ho]
      unfold ballG
      generalize dtT (sbT o c) d = b at *
      have e : (if 0 ≤ b * b - dtT d d * 0 ∧ 1 ≤ dtT d d then ballF (dtT d d) b 0 (isq (b * b - dtT d d * 0).toNat : Int) else ((0, 0), false)) = ballF (dtT d d) b 0 (if b < 0 then -b else b) := by
        rw [Int.mul_zero, Int.sub_zero, if_pos ⟨sq_nonneg b, hp⟩, isq_self]
      rw [e]
      unfold ballF
      by_cases hb : b < 0
      · rw [if_pos ⟨rfl, hb⟩, if_pos hb, if_neg (by omega), if_pos ⟨by omega, by omega⟩]
        simp only [Prod.mk.injEq, and_true]
        omega
      · rw [if_neg (fun e => hb e.2), if_neg hb, if_neg (by omega), if_neg (by omega)]

theorem sq_zero {x : Int} (h : x * x ≤ 0) : x = 0 := by
  rcases Int.lt_trichotomy x 0 with g | g | g
  · have := Int.mul_pos (show 0 < -x by omega) (show 0 < -x by omega)
    rw [Int.neg_mul_neg] at this
    omega
  · exact g
  · have := Int.mul_pos g g
    omega

theorem ballQ_in {c o : T3} {r : Int} (h1 : plc c = true) (h2 : plc o = true) (h3 : 4 ≤ r ∧ r ≤ 262144) : -3298534883328 ≤ ballQ c r o ∧ ballQ c r o ≤ 3298534883328 := by
  have nn := nr_sb h2 h1
  have ds := dtT_near nn nn
  have d0 : 0 ≤ dtT (sbT o c) (sbT o c) := by
    have a4 := sq_nonneg (sbT o c).1; have a5 := sq_nonneg (sbT o c).2.1; have a6 := sq_nonneg (sbT o c).2.2
    unfold dtT
    omega
  have ir := rr_in h3
  have r0 := sq_nonneg r
  unfold ballQ
  omega

end
end Go.Proofs.Sky
