/- Plain mathematics of layer 10: boxes, and what rays meet. Imports nothing of the translation. Plain mathematics of layer 10: intervals of times, and that a ray meets a box just if the three axes' intervals share a time. Imports nothing of the translation. -/
import Derived.Test.YtfdolgdfadipeaaMath07
import Derived.Test.YtfdolgdfadipeaaMath03
import Derived.Test.YtfdolgdfadipeaaMath06

namespace Go.Proofs.Sky
section
open Go.RowKit
set_option linter.unusedVariables false

abbrev Bx := T3 × T3
def bRight (b : Bx) : Bool := nrT b.1 && (nrT b.2 && decide (b.1.1 ≤ b.2.1 ∧ b.1.2.1 ≤ b.2.2.1 ∧ b.1.2.2 ≤ b.2.2.2))
def bJoin (a b : Bx) : Bx := if bRight a = true ∧ bRight b = true then ((min a.1.1 b.1.1, min a.1.2.1 b.1.2.1, min a.1.2.2 b.1.2.2), (max a.2.1 b.2.1, max a.2.2.1 b.2.2.1, max a.2.2.2 b.2.2.2)) else ((0, 0, 0), (0, 0, 0))
def bHas (b : Bx) (v : T3) : Bool := bRight b && decide (b.1.1 ≤ v.1 ∧ v.1 ≤ b.2.1 ∧ b.1.2.1 ≤ v.2.1 ∧ v.2.1 ≤ b.2.2.1 ∧ b.1.2.2 ≤ v.2.2 ∧ v.2.2 ≤ b.2.2.2)
def bArea (b : Bx) : Int := if bRight b = true then (b.2.1 - b.1.1) * (b.2.2.1 - b.1.2.1) + (b.2.2.1 - b.1.2.1) * (b.2.2.2 - b.1.2.2) + (b.2.2.2 - b.1.2.2) * (b.2.1 - b.1.1) else 0
def crd (v : T3) (axis : Int) : Int := if axis = 0 then v.1 else if axis = 1 then v.2.1 else v.2.2
def bMid (b : Bx) (axis : Int) : Int := if bRight b = true ∧ 0 ≤ axis ∧ axis ≤ 2 then crd b.1 axis + crd b.2 axis else 0
def gro (x n : Int) : Int := hold (x + n) (-1048576) 1048576
def bGrow (b : Bx) (n : Int) : Bx := if bRight b = true ∧ 0 ≤ n ∧ n ≤ 16 then ((gro b.1.1 (-n), gro b.1.2.1 (-n), gro b.1.2.2 (-n)), (gro b.2.1 n, gro b.2.2.1 n, gro b.2.2.2 n)) else ((0, 0, 0), (0, 0, 0))
/-- The least box with the first k vectors. -/
def bHull (V : Nat → T3) : Nat → Bx
  | 0 => ((0, 0, 0), (0, 0, 0))
  | k + 1 => if k = 0 then (V 0, V 0) else bJoin (bHull V k) (V k, V k)
def bOfOk (V : Nat → T3) (n : Nat) : Bool := decide (0 < n) && (List.range n).all (fun k => nrT (V k))
def bOf (V : Nat → T3) (n : Nat) : Bx := if bOfOk V n = true then bHull V n else ((0, 0, 0), (0, 0, 0))
/-- At time p / q the ray from o along d lies between the faces, on one axis. -/
def onAx (lo hi o d p q : Int) : Prop := lo * q ≤ o * q + d * p ∧ o * q + d * p ≤ hi * q
/-- The ray meets the box up to n / m (without a limit for m below 1). -/
def hits (b : Bx) (o d : T3) (n m : Int) : Prop :=
  ∃ p q : Int, 1 ≤ q ∧ 0 ≤ p ∧ (1 ≤ m → p * m ≤ n * q) ∧ onAx b.1.1 b.2.1 o.1 d.1 p q ∧ onAx b.1.2.1 b.2.2.1 o.2.1 d.2.1 p q ∧ onAx b.1.2.2 b.2.2.2 o.2.2 d.2.2 p q
noncomputable def bHit (b : Bx) (o d : T3) (n m : Int) : Bool := @decide (bRight b = true ∧ nrT o = true ∧ nrT d = true ∧ hits b o d n m) (Classical.propDecidable _)
theorem bHit_iff {b : Bx} {o d : T3} {n m : Int} : bHit b o d n m = true ↔ (bRight b = true ∧ nrT o = true ∧ nrT d = true ∧ hits b o d n m) := by
  unfold bHit; exact @decide_eq_true_iff _ (Classical.propDecidable _)
/-- A box, as six numbers. -/
def bx6 (b : Bx) : Array Value := #[.int .i64 b.1.1, .int .i64 b.1.2.1, .int .i64 b.1.2.2, .int .i64 b.2.1, .int .i64 b.2.2.1, .int .i64 b.2.2.2]

theorem bRight_iff {b : Bx} : bRight b = true ↔ (nrT b.1 = true ∧ nrT b.2 = true ∧ b.1.1 ≤ b.2.1 ∧ b.1.2.1 ≤ b.2.2.1 ∧ b.1.2.2 ≤ b.2.2.2) := by
  unfold bRight; simp [Bool.and_eq_true]
theorem nrT_iff {v : T3} : nrT v = true ↔ -1048576 ≤ v.1 ∧ v.1 ≤ 1048576 ∧ -1048576 ≤ v.2.1 ∧ v.2.1 ≤ 1048576 ∧ -1048576 ≤ v.2.2 ∧ v.2.2 ≤ 1048576 := by
  unfold nrT; exact vnear_iff
theorem bJoin_yes {a b : Bx} (ha : bRight a = true) (hb : bRight b = true) : bJoin a b = ((min a.1.1 b.1.1, min a.1.2.1 b.1.2.1, min a.1.2.2 b.1.2.2), (max a.2.1 b.2.1, max a.2.2.1 b.2.2.1, max a.2.2.2 b.2.2.2)) := by
  unfold bJoin; rw [if_pos ⟨ha, hb⟩]
theorem bJoin_right {a b : Bx} (ha : bRight a = true) (hb : bRight b = true) : bRight (bJoin a b) = true := by
  rw [bJoin_yes ha hb]
  rw [bRight_iff, nrT_iff, nrT_iff] at *
  dsimp only
  omega
theorem onAx_mono {lo hi lo' hi' o d p q : Int} (hq : 1 ≤ q) (h1 : lo' ≤ lo) (h2 : hi ≤ hi') (h : onAx lo hi o d p q) : onAx lo' hi' o d p q := by
  have e1 := Int.mul_le_mul_of_nonneg_right h1 (show 0 ≤ q by omega)
  have e2 := Int.mul_le_mul_of_nonneg_right h2 (show 0 ≤ q by omega)
  unfold onAx at *
  omega
theorem hits_join {a b : Bx} {o d : T3} {n m : Int} (ha : bRight a = true) (hb : bRight b = true) (h : hits a o d n m) : hits (bJoin a b) o d n m := by
  rw [bJoin_yes ha hb]
  obtain ⟨p, q, hq, hp, hm, h1, h2, h3⟩ := h
  exact ⟨p, q, hq, hp, hm, onAx_mono hq (by dsimp only; omega) (by dsimp only; omega) h1, onAx_mono hq (by dsimp only; omega) (by dsimp only; omega) h2, onAx_mono hq (by dsimp only; omega) (by dsimp only; omega) h3⟩
theorem hits_free {a : Bx} {o d : T3} {n m : Int} (h : hits a o d n m) : hits a o d 0 0 := by
  obtain ⟨p, q, hq, hp, hm, h1, h2, h3⟩ := h
  exact ⟨p, q, hq, hp, fun h => by omega, h1, h2, h3⟩
theorem onAx_now {lo hi o d p q : Int} (hq : 1 ≤ q) (hp : p = 0) : onAx lo hi o d p q ↔ lo ≤ o ∧ o ≤ hi := by
  subst hp
  unfold onAx
  rw [Int.mul_zero, Int.add_zero]
  constructor
  · rintro ⟨h1, h2⟩
    exact ⟨Int.le_of_mul_le_mul_right h1 (by omega), Int.le_of_mul_le_mul_right h2 (by omega)⟩
  · rintro ⟨h1, h2⟩
    exact ⟨Int.mul_le_mul_of_nonneg_right h1 (by omega), Int.mul_le_mul_of_nonneg_right h2 (by omega)⟩
theorem hits_now {a : Bx} {o d : T3} : hits a o d 0 1 ↔ (a.1.1 ≤ o.1 ∧ o.1 ≤ a.2.1) ∧ (a.1.2.1 ≤ o.2.1 ∧ o.2.1 ≤ a.2.2.1) ∧ (a.1.2.2 ≤ o.2.2 ∧ o.2.2 ≤ a.2.2.2) := by
  constructor
  · rintro ⟨p, q, hq, hp, hm, h1, h2, h3⟩
    have hp0 : p = 0 := by have := hm (by omega); omega
    rw [onAx_now hq hp0] at h1 h2 h3
    exact ⟨h1, h2, h3⟩
  · rintro ⟨h1, h2, h3⟩
    refine ⟨0, 1, by omega, by omega, fun _ => by omega, ?_, ?_, ?_⟩
    · rw [onAx_now (by omega) rfl]; exact h1
    · rw [onAx_now (by omega) rfl]; exact h2
    · rw [onAx_now (by omega) rfl]; exact h3
/-- What BoxHit needs. -/
theorem boxhit_ways {a b : Bx} {o d : T3} {n m : Int} (ha : bRight a = true) (hb : bRight b = true) (ho : nrT o = true) (hd : nrT d = true) (hn : 0 ≤ n) (hm : 1 ≤ m) (inn : Bool) (hi : inn = true → onAx a.1.1 a.2.1 o.1 d.1 n m ∧ onAx a.1.2.1 a.2.2.1 o.2.1 d.2.1 n m ∧ onAx a.1.2.2 a.2.2.2 o.2.2 d.2.2 n m) :
    ((inn = true ∧ bHit a o d n m = true ∧ bHit a o d 0 0 = true ∧ bHit (bJoin a b) o d n m = true) ∨ (inn = false ∧ bHit a o d n m = true ∧ bHit a o d 0 0 = true ∧ bHit (bJoin a b) o d n m = true) ∨ (inn = false ∧ bHit a o d n m = false)) ∧ bHas a o = bHit a o d 0 1 := by
  have key : hits a o d n m → bHit a o d n m = true ∧ bHit a o d 0 0 = true ∧ bHit (bJoin a b) o d n m = true := fun h =>
    ⟨bHit_iff.2 ⟨ha, ho, hd, h⟩, bHit_iff.2 ⟨ha, ho, hd, hits_free h⟩, bHit_iff.2 ⟨bJoin_right ha hb, ho, hd, hits_join ha hb h⟩⟩
  refine ⟨?_, ?_⟩
  · cases inn with
    | true =>
      obtain ⟨h1, h2, h3⟩ := hi rfl
      exact .inl ⟨rfl, key ⟨n, m, hm, hn, fun _ => Int.le_refl _, h1, h2, h3⟩⟩
    | false =>
      right
      cases h : bHit a o d n m with
      | true =>
        obtain ⟨_, k1, k2⟩ := key (bHit_iff.1 h).2.2.2
        exact .inl ⟨rfl, rfl, k1, k2⟩
      | false => exact .inr ⟨rfl, rfl⟩
  · rw [Bool.eq_iff_iff, bHit_iff, hits_now]
    unfold bHas
    rw [ha]
    simp only [Bool.true_and, decide_eq_true_eq]
    constructor
    · rintro ⟨h1, h2, h3, h4, h5, h6⟩; exact ⟨trivial, ho, hd, ⟨h1, h2⟩, ⟨h3, h4⟩, h5, h6⟩
    · rintro ⟨_, _, _, ⟨h1, h2⟩, ⟨h3, h4⟩, h5, h6⟩; exact ⟨h1, h2, h3, h4, h5, h6⟩
theorem area_mono {x y z X Y Z : Int} (x0 : 0 ≤ x) (y0 : 0 ≤ y) (z0 : 0 ≤ z) (hx : x ≤ X) (hy : y ≤ Y) (hz : z ≤ Z) : x * y + y * z + z * x ≤ X * Y + Y * Z + Z * X := by
  have a := Int.mul_le_mul hx hy y0 (by omega)
  have b := Int.mul_le_mul hy hz z0 (by omega)
  have c := Int.mul_le_mul hz hx x0 (by omega)
  omega
theorem bArea_join {a b : Bx} (ha : bRight a = true) (hb : bRight b = true) : bArea a ≤ bArea (bJoin a b) ∧ bArea b ≤ bArea (bJoin a b) := by
  have hj := bJoin_right ha hb
  unfold bArea
  rw [if_pos ha, if_pos hb, if_pos hj]
  rw [bJoin_yes ha hb]
  rw [bRight_iff] at ha hb
  obtain ⟨_, _, a1, a2, a3⟩ := ha
  obtain ⟨_, _, b1, b2, b3⟩ := hb
  dsimp only
  exact ⟨area_mono (by omega) (by omega) (by omega) (by omega) (by omega) (by omega), area_mono (by omega) (by omega) (by omega) (by omega) (by omega) (by omega)⟩
theorem bJoin_comm {a b : Bx} : bJoin a b = bJoin b a := by
  unfold bJoin
  by_cases h : bRight a = true ∧ bRight b = true
  · rw [if_pos h, if_pos h.symm]
    simp only [Int.min_comm, Int.max_comm]
  · rw [if_neg h, if_neg (fun e => h e.symm)]
theorem bJoin_self {a : Bx} (ha : bRight a = true) : bJoin a a = a := by
  rw [bJoin_yes ha ha]
  obtain ⟨⟨x, y, z⟩, u, v, t⟩ := a
  simp
theorem bJoin_again {a b : Bx} (ha : bRight a = true) (hb : bRight b = true) : bJoin (bJoin a b) a = bJoin a b := by
  rw [bJoin_yes (bJoin_right ha hb) ha, bJoin_yes ha hb]
  obtain ⟨⟨x, y, z⟩, u, v, t⟩ := a
  obtain ⟨⟨x', y', z'⟩, u', v', t'⟩ := b
  simp only [Prod.mk.injEq]
  omega
theorem bHas_join {a b : Bx} {v : T3} (ha : bRight a = true) (hb : bRight b = true) : (bHas a v || bHas b v) = true → bHas (bJoin a b) v = true := by
  have hj := bJoin_right ha hb
  unfold bHas
  rw [ha, hb, hj, bJoin_yes ha hb]
  simp only [Bool.true_and, Bool.or_eq_true, decide_eq_true_eq]
  omega
theorem bHas_corner {a b : Bx} (ha : bRight a = true) (hb : bRight b = true) : bHas (bJoin a b) a.1 = true ∧ bHas (bJoin a b) b.2 = true := by
  have hj := bJoin_right ha hb
  unfold bHas
  rw [hj, bJoin_yes ha hb]
  rw [bRight_iff] at ha hb
  simp only [Bool.true_and, decide_eq_true_eq]
  omega
theorem crd_join {a b : Bx} (ha : bRight a = true) (hb : bRight b = true) (i : Int) : (crd (bJoin a b).1 i = crd a.1 i ∨ crd (bJoin a b).1 i = crd b.1 i) ∧ (crd (bJoin a b).2 i = crd a.2 i ∨ crd (bJoin a b).2 i = crd b.2 i) := by
  rw [bJoin_yes ha hb]
  unfold crd
  dsimp only
  split
  · omega
  · split <;> omega

end
end Go.Proofs.Sky

namespace Go.Proofs.Sky
section
open Go.RowKit
set_option linter.unusedVariables false

/-- From the first fraction on, up to the last one (no end, where that is none). -/
abbrev Iv := (Int × Int) × (Int × Int)
def ivLater (a b : Int × Int) : Int × Int := if fless a.1 a.2 b.1 b.2 = true then b else a
def ivEarlier (a b : Int × Int) : Int × Int := if a.2 < 1 ∨ fless b.1 b.2 a.1 a.2 = true then b else a
def ivShared (i o : Iv) : Iv := (ivLater i.1 o.1, ivEarlier i.2 o.2)
def ivEmpty (i : Iv) : Bool := fless i.2.1 i.2.2 i.1.1 i.1.2
def btw (lo hi way : Int) : Iv := if way = 0 then (if 0 < lo ∨ hi < 0 then ((1, 1), (0, 1)) else ((0, 1), (0, 0))) else if way < 0 then ((-hi, -way), (-lo, -way)) else ((lo, way), (hi, way))
/-- p / q lies in it. -/
def Inn (i : Iv) (p q : Int) : Prop := i.1.1 * q ≤ p * i.1.2 ∧ (1 ≤ i.2.2 → p * i.2.2 ≤ i.2.1 * q)
def ivInts (i : Iv) : Prop := I64 i.1.1 ∧ I64 i.1.2 ∧ I64 i.2.1 ∧ I64 i.2.2
def iv4 (i : Iv) : Array Value := #[.int .i64 i.1.1, .int .i64 i.1.2, .int .i64 i.2.1, .int .i64 i.2.2]
/-- What is left behind some axes. -/
def ivFold (i : Iv) (l : List Iv) : Iv := l.foldl ivShared i
theorem ivFold_snoc (i : Iv) (l : List Iv) (x : Iv) : ivFold i (l ++ [x]) = ivShared (ivFold i l) x := by unfold ivFold; rw [List.foldl_append]; rfl

theorem fless_iff {n d m e : Int} : fless n d m e = true ↔ 1 ≤ d ∧ 1 ≤ e ∧ n * e < m * d := by
  unfold fless; simp only [Bool.and_eq_true, decide_eq_true_eq]
/-- a/b ≤ c/d, c/d ≤ p/q: a/b ≤ p/q. -/
theorem frac_trans {a b c d p q : Int} (hb : 1 ≤ b) (hd : 1 ≤ d) (hq : 1 ≤ q) (h1 : a * d ≤ c * b) (h2 : c * q ≤ p * d) : a * q ≤ p * b := by
  have e1 := Int.mul_le_mul_of_nonneg_right h1 (show 0 ≤ q by omega)
  have e2 := Int.mul_le_mul_of_nonneg_right h2 (show 0 ≤ b by omega)
  have e3 : a * q * d ≤ p * b * d := by
    have r1 : a * q * d = a * d * q := by rw [Int.mul_right_comm]
    have r2 : p * b * d = p * d * b := by rw [Int.mul_right_comm]
    have r3 : c * b * q = c * q * b := by rw [Int.mul_right_comm]
    rw [r1, r2]
    omega
  exact Int.le_of_mul_le_mul_right e3 (by omega)
theorem inn_later {a b : Int × Int} {p q : Int} (ha : 1 ≤ a.2) (hb : 1 ≤ b.2) (hq : 1 ≤ q) : (ivLater a b).1 * q ≤ p * (ivLater a b).2 ↔ (a.1 * q ≤ p * a.2 ∧ b.1 * q ≤ p * b.2) := by
  unfold ivLater
  cases h : fless a.1 a.2 b.1 b.2 with
  | true =>
    rw [if_pos rfl]
    have h' := (fless_iff.1 h).2.2
    exact ⟨fun g => ⟨frac_trans ha hb hq (by omega) g, g⟩, fun g => g.2⟩
  | false =>
    rw [if_neg (by simp)]
    have h' : b.1 * a.2 ≤ a.1 * b.2 := by
      have : ¬ (1 ≤ a.2 ∧ 1 ≤ b.2 ∧ a.1 * b.2 < b.1 * a.2) := fun g => by rw [fless_iff.2 g] at h; cases h
      omega
    exact ⟨fun g => ⟨g, frac_trans hb ha hq h' g⟩, fun g => g.1⟩
theorem inn_earlier {a b : Int × Int} {p q : Int} (hq : 1 ≤ q) : (1 ≤ (ivEarlier a b).2 → p * (ivEarlier a b).2 ≤ (ivEarlier a b).1 * q) ↔ ((1 ≤ a.2 → p * a.2 ≤ a.1 * q) ∧ (1 ≤ b.2 → p * b.2 ≤ b.1 * q)) := by
  unfold ivEarlier
  by_cases ha : a.2 < 1
  · rw [if_pos (.inl ha)]
    exact ⟨fun g => ⟨fun k => by omega, g⟩, fun g => g.2⟩
  · cases h : fless b.1 b.2 a.1 a.2 with
    | true =>
      rw [if_pos (.inr rfl)]
      obtain ⟨h1, h2, h3⟩ := fless_iff.1 h
      refine ⟨fun g => ⟨fun k => ?_, g⟩, fun g => g.2⟩
      -- p/q ≤ b ≤ a
      have g' := g h1
      exact frac_trans hq h1 (by omega) g' (by omega)
    | false =>
      rw [if_neg (by simp; omega)]
      refine ⟨fun g => ⟨g, fun k => ?_⟩, fun g => g.1⟩
      have h' : a.1 * b.2 ≤ b.1 * a.2 := by
        have : ¬ (1 ≤ b.2 ∧ 1 ≤ a.2 ∧ b.1 * a.2 < a.1 * b.2) := fun g => by rw [fless_iff.2 g] at h; cases h
        omega
      have g' := g (by omega)
      exact frac_trans hq (show 1 ≤ a.2 by omega) k g' h'
theorem inn_shared {i o : Iv} {p q : Int} (hi : 1 ≤ i.1.2) (ho : 1 ≤ o.1.2) (hq : 1 ≤ q) : Inn (ivShared i o) p q ↔ Inn i p q ∧ Inn o p q := by
  unfold Inn ivShared
  rw [inn_later hi ho hq, inn_earlier hq]
  exact ⟨fun g => ⟨⟨g.1.1, g.2.1⟩, g.1.2, g.2.2⟩, fun g => ⟨⟨g.1.1, g.2.1⟩, g.1.2, g.2.2⟩⟩
theorem ivShared_ok {i o : Iv} (hi : 1 ≤ i.1.2) (ho : 1 ≤ o.1.2) : 1 ≤ (ivShared i o).1.2 := by
  unfold ivShared ivLater; dsimp only; split <;> assumption
theorem ivShared_ints {i o : Iv} (hi : ivInts i) (ho : ivInts o) : ivInts (ivShared i o) := by
  obtain ⟨i1, i2, i3, i4⟩ := hi
  obtain ⟨o1, o2, o3, o4⟩ := ho
  unfold ivInts ivShared ivLater ivEarlier
  dsimp only
  refine ⟨?_, ?_, ?_, ?_⟩ <;> split <;> assumption
theorem empty_iff {i : Iv} (hi : 1 ≤ i.1.2) : ivEmpty i = false ↔ ∃ p q, 1 ≤ q ∧ Inn i p q := by
  unfold ivEmpty
  constructor
  · intro h
    refine ⟨i.1.1, i.1.2, hi, Int.le_refl _, fun g => ?_⟩
    have : ¬ (1 ≤ i.2.2 ∧ 1 ≤ i.1.2 ∧ i.2.1 * i.1.2 < i.1.1 * i.2.2) := fun k => by rw [fless_iff.2 k] at h; cases h
    omega
  · rintro ⟨p, q, hq, h1, h2⟩
    cases h : fless i.2.1 i.2.2 i.1.1 i.1.2 with
    | false => rfl
    | true =>
      obtain ⟨g1, g2, g3⟩ := fless_iff.1 h
      have := frac_trans hi hq g1 h1 (h2 g1)
      omega
theorem empty_more {i o : Iv} (hi : 1 ≤ i.1.2) (ho : 1 ≤ o.1.2) (h : ivEmpty i = true) : ivEmpty (ivShared i o) = true := by
  cases g : ivEmpty (ivShared i o) with
  | true => rfl
  | false =>
    obtain ⟨p, q, hq, k⟩ := (empty_iff (ivShared_ok hi ho)).1 g
    rw [inn_shared hi ho hq] at k
    rw [(empty_iff hi).2 ⟨p, q, hq, k.1⟩] at h
    cases h
theorem empty_fold {l : List Iv} : ∀ {i : Iv}, 1 ≤ i.1.2 → (∀ x ∈ l, 1 ≤ x.1.2) → ivEmpty i = true → ivEmpty (ivFold i l) = true := by
  induction l with
  | nil => intro i _ _ h; exact h
  | cons x l ih =>
    intro i hi hl h
    exact ih (ivShared_ok hi (hl x (by simp))) (fun y hy => hl y (by simp [hy])) (empty_more hi (hl x (by simp)) h)
theorem inn_btw {lo hi o d p q : Int} (hp : 0 ≤ p) (hq : 1 ≤ q) : Inn (btw (lo - o) (hi - o) d) p q ↔ onAx lo hi o d p q := by
  have e1 : (lo - o) * q = lo * q - o * q := Int.sub_mul ..
  have e2 : (hi - o) * q = hi * q - o * q := Int.sub_mul ..
  unfold btw
  by_cases h0 : d = 0
  · subst h0
    rw [if_pos rfl]
    unfold onAx
    rw [Int.zero_mul, Int.add_zero]
    by_cases h : 0 < lo - o ∨ hi - o < 0
    · rw [if_pos h]
      unfold Inn
      dsimp only
      constructor
      · rintro ⟨g1, g2⟩; have := g2 (by omega); omega
      · rintro ⟨g1, g2⟩
        exfalso
        rcases h with h | h
        · have := Int.mul_pos h (show 0 < q by omega); omega
        · have := Int.mul_pos (show 0 < -(hi - o) by omega) (show 0 < q by omega)
          rw [Int.neg_mul] at this
          omega
    · rw [if_neg h]
      unfold Inn
      dsimp only
      have g1 := Int.mul_le_mul_of_nonneg_right (show lo - o ≤ 0 by omega) (show 0 ≤ q by omega)
      have g2 := Int.mul_le_mul_of_nonneg_right (show 0 ≤ hi - o by omega) (show 0 ≤ q by omega)
      constructor
      · intro _; omega
      · intro _; exact ⟨by omega, fun k => by omega⟩
  · rw [if_neg h0]
    have e3 : p * d = d * p := Int.mul_comm ..
    by_cases h : d < 0
    · rw [if_pos h]
      unfold Inn onAx
      dsimp only
      rw [Int.neg_mul, Int.neg_mul, Int.mul_neg]
      constructor
      · rintro ⟨g1, g2⟩; have := g2 (by omega); omega
      · rintro ⟨g1, g2⟩; exact ⟨by omega, fun _ => by omega⟩
    · rw [if_neg h]
      unfold Inn onAx
      dsimp only
      constructor
      · rintro ⟨g1, g2⟩; have := g2 (by omega); omega
      · rintro ⟨g1, g2⟩; exact ⟨by omega, fun _ => by omega⟩
theorem btw_ok {lo hi d : Int} : 1 ≤ (btw lo hi d).1.2 := by
  unfold btw
  split
  · split <;> simp
  · split
    · dsimp only; omega
    · dsimp only; omega
theorem btw_ints {lo hi d : Int} (h1 : -4194304 ≤ lo ∧ lo ≤ 4194304) (h2 : -4194304 ≤ hi ∧ hi ≤ 4194304) (h3 : -4194304 ≤ d ∧ d ≤ 4194304) : ivInts (btw lo hi d) := by
  unfold btw
  split
  · split <;> (unfold ivInts I64; simp)
  · split <;> (unfold ivInts I64; dsimp only; omega)
/-- The three axes' intervals. -/
def ivs (b : Bx) (o d : T3) : List Iv := [btw (b.1.1 - o.1) (b.2.1 - o.1) d.1, btw (b.1.2.1 - o.2.1) (b.2.2.1 - o.2.1) d.2.1, btw (b.1.2.2 - o.2.2) (b.2.2.2 - o.2.2) d.2.2]
theorem ivs_ok {b : Bx} {o d : T3} : ∀ x ∈ ivs b o d, 1 ≤ x.1.2 := by
  intro x hx
  simp only [ivs, List.mem_cons, List.not_mem_nil, or_false] at hx
  rcases hx with rfl | rfl | rfl <;> exact btw_ok
theorem ivs_ints {b : Bx} {o d : T3} (hb : bRight b = true) (ho : nrT o = true) (hd : nrT d = true) : ∀ x ∈ ivs b o d, ivInts x := by
  rw [bRight_iff, nrT_iff, nrT_iff] at hb
  rw [nrT_iff] at ho hd
  intro x hx
  simp only [ivs, List.mem_cons, List.not_mem_nil, or_false] at hx
  rcases hx with rfl | rfl | rfl <;> exact btw_ints (by omega) (by omega) (by omega)
theorem hits_iff {b : Bx} {o d : T3} {n m : Int} : hits b o d n m ↔ ivEmpty (ivFold ((0, 1), (n, m)) (ivs b o d)) = false := by
  have k0 : 1 ≤ (((0, 1), (n, m)) : Iv).1.2 := by simp
  have k1 := ivShared_ok k0 (btw_ok (lo := b.1.1 - o.1) (hi := b.2.1 - o.1) (d := d.1))
  have k2 := ivShared_ok k1 (btw_ok (lo := b.1.2.1 - o.2.1) (hi := b.2.2.1 - o.2.1) (d := d.2.1))
  have k3 := ivShared_ok k2 (btw_ok (lo := b.1.2.2 - o.2.2) (hi := b.2.2.2 - o.2.2) (d := d.2.2))
  show _ ↔ ivEmpty (ivShared (ivShared (ivShared ((0, 1), (n, m)) _) _) _) = false
  rw [empty_iff k3]
  unfold hits
  have one : ∀ p q : Int, 1 ≤ q → (Inn ((0, 1), (n, m)) p q ↔ 0 ≤ p ∧ (1 ≤ m → p * m ≤ n * q)) := fun p q hq => by
    unfold Inn; dsimp only; rw [Int.zero_mul, Int.mul_one]
  constructor
  · rintro ⟨p, q, hq, hp, hm, h1, h2, h3⟩
    refine ⟨p, q, hq, ?_⟩
    rw [inn_shared k2 btw_ok hq, inn_shared k1 btw_ok hq, inn_shared k0 btw_ok hq, one p q hq, inn_btw hp hq, inn_btw hp hq, inn_btw hp hq]
    exact ⟨⟨⟨⟨hp, hm⟩, h1⟩, h2⟩, h3⟩
  · rintro ⟨p, q, hq, h⟩
    rw [inn_shared k2 btw_ok hq, inn_shared k1 btw_ok hq, inn_shared k0 btw_ok hq, one p q hq] at h
    obtain ⟨⟨⟨⟨hp, hm⟩, h1⟩, h2⟩, h3⟩ := h
    rw [inn_btw hp hq] at h1 h2 h3
    exact ⟨p, q, hq, hp, hm, h1, h2, h3⟩
theorem bHit_no {b : Bx} {o d : T3} {n m : Int} (h : ¬ (bRight b = true ∧ nrT o = true ∧ nrT d = true)) : bHit b o d n m = false := by
  cases g : bHit b o d n m with
  | false => rfl
  | true => have := bHit_iff.1 g; exact (h ⟨this.1, this.2.1, this.2.2.1⟩).elim
theorem bHit_yes {b : Bx} {o d : T3} {n m : Int} (hb : bRight b = true) (ho : nrT o = true) (hd : nrT d = true) : bHit b o d n m = !(ivEmpty (ivFold ((0, 1), (n, m)) (ivs b o d))) := by
  rw [Bool.eq_iff_iff, bHit_iff, hits_iff]
  simp [hb, ho, hd]
/-- The end of all rounds, and of a stop. -/
theorem bHit_stop {b : Bx} {o d : T3} {n m : Int} {pre rest : List Iv} (h : ivs b o d = pre ++ rest) (he : ivEmpty (ivFold ((0, 1), (n, m)) pre) = true) (k : 1 ≤ (ivFold ((0, 1), (n, m)) pre).1.2) : bHit b o d n m = false := by
  by_cases hc : bRight b = true ∧ nrT o = true ∧ nrT d = true
  · rw [bHit_yes hc.1 hc.2.1 hc.2.2, h]
    have : ivFold ((0, 1), (n, m)) (pre ++ rest) = ivFold (ivFold ((0, 1), (n, m)) pre) rest := by unfold ivFold; rw [List.foldl_append]
    rw [this, empty_fold k (fun x hx => ivs_ok (b := b) (o := o) (d := d) x (by rw [h]; simp [hx])) he]
    rfl
  · exact bHit_no hc
theorem ivFold_ok {l : List Iv} : ∀ {i : Iv}, 1 ≤ i.1.2 → (∀ x ∈ l, 1 ≤ x.1.2) → 1 ≤ (ivFold i l).1.2 := by
  induction l with
  | nil => intro i h _; exact h
  | cons x l ih => intro i h hl; exact ih (ivShared_ok h (hl x (by simp))) (fun y hy => hl y (by simp [hy]))
theorem ivFold_ints {l : List Iv} : ∀ {i : Iv}, ivInts i → (∀ x ∈ l, ivInts x) → ivInts (ivFold i l) := by
  induction l with
  | nil => intro i h _; exact h
  | cons x l ih => intro i h hl; exact ih (ivShared_ints h (hl x (by simp))) (fun y hy => hl y (by simp [hy]))

end
end Go.Proofs.Sky
