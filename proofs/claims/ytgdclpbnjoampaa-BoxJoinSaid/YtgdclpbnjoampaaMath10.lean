/- Plain mathematics of layer 10: boxes, and what rays meet. Imports nothing of the translation. -/
import Derived.Test.YtgdclpbnjoampaaMath07
namespace Go.Proofs.Sky
open Go.RowKit
set_option linter.unusedVariables false

abbrev Bx := T3 × T3
def bRight (b : Bx) : Bool := nrT b.1 && (nrT b.2 && decide (b.1.1 ≤ b.2.1 ∧ b.1.2.1 ≤ b.2.2.1 ∧ b.1.2.2 ≤ b.2.2.2))
def bJoin (a b : Bx) : Bx := if bRight a = true ∧ bRight b = true then ((min a.1.1 b.1.1, min a.1.2.1 b.1.2.1, min a.1.2.2 b.1.2.2), (max a.2.1 b.2.1, max a.2.2.1 b.2.2.1, max a.2.2.2 b.2.2.2)) else ((0, 0, 0), (0, 0, 0))
def bHas (b : Bx) (v : T3) : Bool := bRight b && decide (b.1.1 ≤ v.1 ∧ v.1 ≤ b.2.1 ∧ b.1.2.1 ≤ v.2.1 ∧ v.2.1 ≤ b.2.2.1 ∧ b.1.2.2 ≤ v.2.2 ∧ v.2.2 ≤ b.2.2.2)
def bArea (b : Bx) : Int := if bRight b = true then (b.2.1 - b.1.1) * (b.2.2.1 - b.1.2.1) + (b.2.2.1 - b.1.2.1) * (b.2.2.2 - b.1.2.2) + (b.2.2.2 - b.1.2.2) * (b.2.1 - b.1.1) else 0
def crd (v : T3) (axis : Int) : Int := if axis = 0 then v.1 else if axis = 1 then v.2.1 else v.2.2
def bMid (b : Bx) (axis : Int) : Int := if bRight b = true ∧ 0 ≤ axis ∧ axis ≤ 2 then crd b.1 axis + crd b.2 axis else 0
def gro (x n : Int) : Int := hold (x + n) (-1048576) 1048576
def bGrow (b : Bx) (n : Int) : Bx := if bRight b = true ∧ 0 ≤ n ∧ n ≤ 16 then ((gro b.1.1 (-n), gro b.1.2.1 (-n), gro b.1.2.2 (-n)), (gro b.2.1 n, gro b.2.2.1 n, gro b.2.2.2 n)) else ((0, 0, 0), (0, 0, 0))
/-- The least box with the first k vectors. -/
def bHull (V : Nat → T3) : Nat → Bx
  | 0 => ((0, 0, 0), (0, 0, 0))
  | k + 1 => if k = 0 then (V 0, V 0) else bJoin (bHull V k) (V k, V k)
def bOfOk (V : Nat → T3) (n : Nat) : Bool := decide (0 < n) && (List.range n).all (fun k => nrT (V k))
def bOf (V : Nat → T3) (n : Nat) : Bx := if bOfOk V n = true then bHull V n else ((0, 0, 0), (0, 0, 0))
/-- At time p / q the ray from o along d lies between the faces, on one axis. -/
def onAx (lo hi o d p q : Int) : Prop := lo * q ≤ o * q + d * p ∧ o * q + d * p ≤ hi * q
/-- The ray meets the box up to n / m (without a limit for m below 1). -/
def hits (b : Bx) (o d : T3) (n m : Int) : Prop :=
  ∃ p q : Int, 1 ≤ q ∧ 0 ≤ p ∧ (1 ≤ m → p * m ≤ n * q) ∧ onAx b.1.1 b.2.1 o.1 d.1 p q ∧ onAx b.1.2.1 b.2.2.1 o.2.1 d.2.1 p q ∧ onAx b.1.2.2 b.2.2.2 o.2.2 d.2.2 p q
noncomputable def bHit (b : Bx) (o d : T3) (n m : Int) : Bool := @decide (bRight b = true ∧ nrT o = true ∧ nrT d = true ∧ hits b o d n m) (Classical.propDecidable _)
theorem bHit_iff {b : Bx} {o d : T3} {n m : Int} : bHit b o d n m = true ↔ (bRight b = true ∧ nrT o = true ∧ nrT d = true ∧ hits b o d n m) := by
  unfold bHit; exact @decide_eq_true_iff _ (Classical.propDecidable _)
/-- A box, as six numbers. -/
def bx6 (b : Bx) : Array Value := #[.int .i64 b.1.1, .int .i64 b.1.2.1, .int .i64 b.1.2.2, .int .i64 b.2.1, .int .i64 b.2.2.1, .int .i64 b.2.2.2]

theorem bRight_iff {b : Bx} : bRight b = true ↔ (nrT b.1 = true ∧ nrT b.2 = true ∧ b.1.1 ≤ b.2.1 ∧ b.1.2.1 ≤ b.2.2.1 ∧ b.1.2.2 ≤ b.2.2.2) := by
  unfold bRight; simp [Bool.and_eq_true]
theorem nrT_iff {v : T3} : nrT v = true ↔ -1048576 ≤ v.1 ∧ v.1 ≤ 1048576 ∧ -1048576 ≤ v.2.1 ∧ v.2.1 ≤ 1048576 ∧ -1048576 ≤ v.2.2 ∧ v.2.2 ≤ 1048576 := by
  unfold nrT; exact vnear_iff
theorem bJoin_yes {a b : Bx} (ha : bRight a = true) (hb : bRight b = true) : bJoin a b = ((min a.1.1 b.1.1, min a.1.2.1 b.1.2.1, min a.1.2.2 b.1.2.2), (max a.2.1 b.2.1, max a.2.2.1 b.2.2.1, max a.2.2.2 b.2.2.2)) := by
  unfold bJoin; rw [if_pos ⟨ha, hb⟩]
theorem bJoin_right {a b : Bx} (ha : bRight a = true) (hb : bRight b = true) : bRight (bJoin a b) = true := by
  rw [bJoin_yes ha hb]
  rw [bRight_iff, nrT_iff, nrT_iff] at *
  dsimp only
  omega
theorem onAx_mono {lo hi lo' hi' o d p q : Int} (hq : 1 ≤ q) (h1 : lo' ≤ lo) (h2 : hi ≤ hi') (h : onAx lo hi o d p q) : onAx lo' hi' o d p q := by
  have e1 := Int.mul_le_mul_of_nonneg_right h1 (show 0 ≤ q by omega)
  have e2 := Int.mul_le_mul_of_nonneg_right h2 (show 0 ≤ q by omega)
  unfold onAx at *
  omega
theorem hits_join {a b : Bx} {o d : T3} {n m : Int} (ha : bRight a = true) (hb : bRight b = true) (h : hits a o d n m) : hits (bJoin a b) o d n m := by
  rw [bJoin_yes ha hb]
  obtain ⟨p, q, hq, hp, hm, h1, h2, h3⟩ := h
  exact ⟨p, q, hq, hp, hm, onAx_mono hq (by dsimp only; omega) (by dsimp only; omega) h1, onAx_mono hq (by dsimp only; omega) (by dsimp only; omega) h2, onAx_mono hq (by dsimp only; omega) (by dsimp only; omega) h3⟩
theorem hits_free {a : Bx} {o d : T3} {n m : Int} (h : hits a o d n m) : hits a o d 0 0 := by
  obtain ⟨p, q, hq, hp, hm, h1, h2, h3⟩ := h
  exact ⟨p, q, hq, hp, fun h => by omega, h1, h2, h3⟩
theorem onAx_now {lo hi o d p q : Int} (hq : 1 ≤ q) (hp : p = 0) : onAx lo hi o d p q ↔ lo ≤ o ∧ o ≤ hi := by
  subst hp
  unfold onAx
  rw [Int.mul_zero, Int.add_zero]
  constructor
  · rintro ⟨h1, h2⟩
    exact ⟨Int.le_of_mul_le_mul_right h1 (by omega), Int.le_of_mul_le_mul_right h2 (by omega)⟩
  · rintro ⟨h1, h2⟩
    exact ⟨Int.mul_le_mul_of_nonneg_right h1 (by omega), Int.mul_le_mul_of_nonneg_right h2 (by omega)⟩
theorem hits_now {a : Bx} {o d : T3} : hits a o d 0 1 ↔ (a.1.1 ≤ o.1 ∧ o.1 ≤ a.2.1) ∧ (a.1.2.1 ≤ o.2.1 ∧ o.2.1 ≤ a.2.2.1) ∧ (a.1.2.2 ≤ o.2.2 ∧ o.2.2 ≤ a.2.2.2) := by
  constructor
  · rintro ⟨p, q, hq, hp, hm, h1, h2, h3⟩
    have hp0 : p = 0 := by have := hm (by omega); omega
    rw [onAx_now hq hp0] at h1 h2 h3
    exact ⟨h1, h2, h3⟩
  · rintro ⟨h1, h2, h3⟩
    refine ⟨0, 1, by omega, by omega, fun _ => by omega, ?_, ?_, ?_⟩
    · rw [onAx_now (by omega) rfl]; exact h1
    · rw [onAx_now (by omega) rfl]; exact h2
    · rw [onAx_now (by omega) rfl]; exact h3
/-- What BoxHit needs. -/
theorem boxhit_ways {a b : Bx} {o d : T3} {n m : Int} (ha : bRight a = true) (hb : bRight b = true) (ho : nrT o = true) (hd : nrT d = true) (hn : 0 ≤ n) (hm : 1 ≤ m) (inn : Bool) (hi : inn = true → onAx a.1.1 a.2.1 o.1 d.1 n m ∧ onAx a.1.2.1 a.2.2.1 o.2.1 d.2.1 n m ∧ onAx a.1.2.2 a.2.2.2 o.2.2 d.2.2 n m) :
    ((inn = true ∧ bHit a o d n m = true ∧ bHit a o d 0 0 = true ∧ bHit (bJoin a b) o d n m = true) ∨ (inn = false ∧ bHit a o d n m = true ∧ bHit a o d 0 0 = true ∧ bHit (bJoin a b) o d n m = true) ∨ (inn = false ∧ bHit a o d n m = false)) ∧ bHas a o = bHit a o d 0 1 := by
  have key : hits a o d n m → bHit a o d n m = true ∧ bHit a o d 0 0 = true ∧ bHit (bJoin a b) o d n m = true := fun h =>
    ⟨bHit_iff.2 ⟨ha, ho, hd, h⟩, bHit_iff.2 ⟨ha, ho, hd, hits_free h⟩, bHit_iff.2 ⟨bJoin_right ha hb, ho, hd, hits_join ha hb h⟩⟩
  refine ⟨?_, ?_⟩
  · cases inn with
    | true =>
      obtain ⟨h1, h2, h3⟩ := hi rfl
      exact .inl ⟨rfl, key ⟨n, m, hm, hn, fun _ => Int.le_refl _, h1, h2, h3⟩⟩
    | false =>
      right
      cases h : bHit a o d n m with
      | true =>
        obtain ⟨_, k1, k2⟩ := key (bHit_iff.1 h).2.2.2
        exact .inl ⟨rfl, rfl, k1, k2⟩
      | false => exact .inr ⟨rfl, rfl⟩
  · rw [Bool.eq_iff_iff, bHit_iff, hits_now]
    unfold bHas
    rw [ha]
    simp only [Bool.true_and, decide_eq_true_eq]
    constructor
    · rintro ⟨h1, h2, h3, h4, h5, h6⟩; exact ⟨trivial, ho, hd, ⟨h1, h2⟩, ⟨h3, h4⟩, h5, h6⟩
    · rintro ⟨_, _, _, ⟨h1, h2⟩, ⟨h3, h4⟩, h5, h6⟩; exact ⟨h1, h2, h3, h4, h5, h6⟩
theorem area_mono {x y z X Y Z : Int} (x0 : 0 ≤ x) (y0 : 0 ≤ y) (z0 : 0 ≤ z) (hx : x ≤ X) (hy : y ≤ Y) (hz : z ≤ Z) : x * y + y * z + z * x ≤ X * Y + Y * Z + Z * X := by
  have a := Int.mul_le_mul hx hy y0 (by omega)
  have b := Int.mul_le_mul hy hz z0 (by omega)
  have c := Int.mul_le_mul hz hx x0 (by omega)
  omega
theorem bArea_join {a b : Bx} (ha : bRight a = true) (hb : bRight b = true) : bArea a ≤ bArea (bJoin a b) ∧ bArea b ≤ bArea (bJoin a b) := by
  have hj := bJoin_right ha hb
  unfold bArea
  rw [if_pos ha, if_pos hb, if_pos hj]
  rw [bJoin_yes ha hb]
  rw [bRight_iff] at ha hb
  obtain ⟨_, _, a1, a2, a3⟩ := ha
  obtain ⟨_, _, b1, b2, b3⟩ := hb
  dsimp only
  exact ⟨area_mono (by omega) (by omega) (by omega) (by omega) (by omega) (by omega), area_mono (by omega) (by omega) (by omega) (by omega) (by omega) (by omega)⟩
theorem bJoin_comm {a b : Bx} : bJoin a b = bJoin b a := by
  unfold bJoin
  by_cases h : bRight a = true ∧ bRight b = true
  · rw [if_pos h, if_pos h.symm]
    simp only [Int.min_comm, Int.max_comm]
  · rw [if_neg h, if_neg (fun e => h e.symm)]
theorem bJoin_self {a : Bx} (ha : bRight a = true) : bJoin a a = a := by
  rw [bJoin_yes ha ha]
  obtain ⟨⟨x, y, z⟩, u, v, t⟩ := a
  simp
theorem bJoin_again {a b : Bx} (ha : bRight a = true) (hb : bRight b = true) : bJoin (bJoin a b) a = bJoin a b := by
  rw [bJoin_yes (bJoin_right ha hb) ha, bJoin_yes ha hb]
  obtain ⟨⟨x, y, z⟩, u, v, t⟩ := a
  obtain ⟨⟨x', y', z'⟩, u', v', t'⟩ := b
  simp only [Prod.mk.injEq]
  omega
theorem bHas_join {a b : Bx} {v : T3} (ha : bRight a = true) (hb : bRight b = true) : (bHas a v || bHas b v) = true → bHas (bJoin a b) v = true := by
  have hj := bJoin_right ha hb
  unfold bHas
  rw [ha, hb, hj, bJoin_yes ha hb]
  simp only [Bool.true_and, Bool.or_eq_true, decide_eq_true_eq]
  omega
theorem bHas_corner {a b : Bx} (ha : bRight a = true) (hb : bRight b = true) : bHas (bJoin a b) a.1 = true ∧ bHas (bJoin a b) b.2 = true := by
  have hj := bJoin_right ha hb
  unfold bHas
  rw [hj, bJoin_yes ha hb]
  rw [bRight_iff] at ha hb
  simp only [Bool.true_and, decide_eq_true_eq]
  omega
theorem crd_join {a b : Bx} (ha : bRight a = true) (hb : bRight b = true) (i : Int) : (crd (bJoin a b).1 i = crd a.1 i ∨ crd (bJoin a b).1 i = crd b.1 i) ∧ (crd (bJoin a b).2 i = crd a.2 i ∨ crd (bJoin a b).2 i = crd b.2 i) := by
  rw [bJoin_yes ha hb]
  unfold crd
  dsimp only
  split
  · omega
  · split <;> omega

end Go.Proofs.Sky
