/- Plain mathematics of layer 11: triangles, and what rays meet. Imports nothing of the translation. -/
import Derived.Test.YtnidgokmndnenaaMath07
namespace Go.Proofs.Sky
open Go.RowKit
set_option linter.unusedVariables false

def I3 (v : T3) : Prop := I64 v.1 ∧ I64 v.2.1 ∧ I64 v.2.2
def plc (v : T3) : Bool := wi 524288 v.1 v.2.1 v.2.2
theorem plc_iff {v : T3} : plc v = true ↔ -524288 ≤ v.1 ∧ v.1 ≤ 524288 ∧ -524288 ≤ v.2.1 ∧ v.2.1 ≤ 524288 ∧ -524288 ≤ v.2.2 ∧ v.2.2 ≤ 524288 := by unfold plc; exact wi_iff
def pl3 (a b c : T3) : Bool := plc a && (plc b && plc c)
theorem pl3_iff {a b c : T3} : pl3 a b c = true ↔ plc a = true ∧ plc b = true ∧ plc c = true := by unfold pl3; simp
def sbT (u v : T3) : T3 := (u.1 - v.1, u.2.1 - v.2.1, u.2.2 - v.2.2)
def adT (u v : T3) : T3 := (u.1 + v.1, u.2.1 + v.2.1, u.2.2 + v.2.2)
def ngT (u : T3) : T3 := (-u.1, -u.2.1, -u.2.2)
def crX (u v : T3) : T3 := (u.2.1 * v.2.2 - u.2.2 * v.2.1, u.2.2 * v.1 - u.1 * v.2.2, u.1 * v.2.1 - u.2.1 * v.1)
def vlX (u v w : T3) : Int := u.1 * (v.2.1 * w.2.2 - v.2.2 * w.2.1) + u.2.1 * (v.2.2 * w.1 - v.1 * w.2.2) + u.2.2 * (v.1 * w.2.1 - v.2.1 * w.1)
def upsT (a b c : T3) : T3 := crX (sbT b a) (sbT c a)
def isZ (u : T3) : Bool := decide (u.1 = 0 ∧ u.2.1 = 0 ∧ u.2.2 = 0)
def tFlat (a b c : T3) : Bool := !(pl3 a b c) || isZ (upsT a b c)
def tNorm (a b c : T3) : T3 × Bool := if tFlat a b c = true then ((0, 0, 0), false) else (unT (upsT a b c), okT (upsT a b c))
def tArea (a b c : T3) : Int := if tFlat a b c = true then 0 else (isq (dtT (upsT a b c) (upsT a b c)).toNat : Int)
def tFin (x y z n : Int) : (Int × Int) × Bool := if x < 0 ∨ y < 0 ∨ z < 0 ∨ x + y + z = 0 ∨ n ≤ 0 then ((0, 0), false) else ((n, x + y + z), true)
def tG (x y z n : Int) : (Int × Int) × Bool := if x ≤ 0 ∧ y ≤ 0 ∧ z ≤ 0 then tFin (-x) (-y) (-z) (-n) else tFin x y z n
def tHit (a b c o d : T3) : (Int × Int) × Bool :=
  if pl3 a b c = true ∧ plc o = true ∧ nrT d = true then tG (vlX d (sbT b o) (sbT c o)) (vlX d (sbT c o) (sbT a o)) (vlX d (sbT a o) (sbT b o)) (vlX (sbT a o) (sbT b o) (sbT c o)) else ((0, 0), false)
def c16 (u : Int) : Bool := decide (0 ≤ u ∧ u ≤ 65536)
def tAt (a b c : T3) (u v : Int) : T3 :=
  if pl3 a b c = true ∧ c16 u = true ∧ c16 v = true then
    (if 65536 < u + v then (a.1 + ((b.1 - a.1) * (65536 - u) + (c.1 - a.1) * (65536 - v)) / 65536, a.2.1 + ((b.2.1 - a.2.1) * (65536 - u) + (c.2.1 - a.2.1) * (65536 - v)) / 65536, a.2.2 + ((b.2.2 - a.2.2) * (65536 - u) + (c.2.2 - a.2.2) * (65536 - v)) / 65536)
     else (a.1 + ((b.1 - a.1) * u + (c.1 - a.1) * v) / 65536, a.2.1 + ((b.2.1 - a.2.1) * u + (c.2.1 - a.2.1) * v) / 65536, a.2.2 + ((b.2.2 - a.2.2) * u + (c.2.2 - a.2.2) * v) / 65536))
  else (0, 0, 0)

theorem tG_neg (x y z n : Int) : tG (-x) (-y) (-z) (-n) = tG x y z n := by
  unfold tG
  by_cases h1 : x ≤ 0 ∧ y ≤ 0 ∧ z ≤ 0
  · by_cases h2 : -x ≤ 0 ∧ -y ≤ 0 ∧ -z ≤ 0
    · rw [if_pos h1, if_pos h2]
      obtain rfl : x = 0 := by omega
      obtain rfl : y = 0 := by omega
      obtain rfl : z = 0 := by omega
      unfold tFin
      rw [if_pos (by omega), if_pos (by omega)]
    · rw [if_pos h1, if_neg h2]
  · by_cases h2 : -x ≤ 0 ∧ -y ≤ 0 ∧ -z ≤ 0
    · rw [if_neg h1, if_pos h2, Int.neg_neg, Int.neg_neg, Int.neg_neg, Int.neg_neg]
    · rw [if_neg h1, if_neg h2]
      unfold tFin
      rw [if_pos (by omega), if_pos (by omega)]
theorem tFin_swap (x y z n : Int) : tFin y x z n = tFin x y z n := by
  unfold tFin
  by_cases h : x < 0 ∨ y < 0 ∨ z < 0 ∨ x + y + z = 0 ∨ n ≤ 0
  · rw [if_pos h, if_pos (by omega)]
  · rw [if_neg h, if_neg (by omega), Int.add_comm y x]
theorem tFin_rot (x y z n : Int) : tFin y z x n = tFin x y z n := by
  unfold tFin
  by_cases h : x < 0 ∨ y < 0 ∨ z < 0 ∨ x + y + z = 0 ∨ n ≤ 0
  · rw [if_pos h, if_pos (by omega)]
  · rw [if_neg h, if_neg (by omega), show y + z + x = x + y + z by omega]
theorem tG_swap (x y z n : Int) : tG y x z n = tG x y z n := by
  unfold tG
  rw [tFin_swap x y z n, tFin_swap (-x) (-y) (-z) (-n)]
  by_cases h : x ≤ 0 ∧ y ≤ 0 ∧ z ≤ 0
  · rw [if_pos h, if_pos ⟨h.2.1, h.1, h.2.2⟩]
  · rw [if_neg h, if_neg (fun e => h ⟨e.2.1, e.1, e.2.2⟩)]
theorem tG_rot (x y z n : Int) : tG y z x n = tG x y z n := by
  unfold tG
  rw [tFin_rot x y z n, tFin_rot (-x) (-y) (-z) (-n)]
  by_cases h : x ≤ 0 ∧ y ≤ 0 ∧ z ≤ 0
  · rw [if_pos h, if_pos ⟨h.2.1, h.2.2, h.1⟩]
  · rw [if_neg h, if_neg (fun e => h ⟨e.2.2, e.1, e.2.1⟩)]
theorem vlX_rot (u v w : T3) : vlX v w u = vlX u v w := by unfold vlX; grind
theorem vlX_swap (u v w : T3) : vlX u w v = -vlX u v w := by unfold vlX; grind
theorem vlX_swap2 (u v w : T3) : vlX v u w = -vlX u v w := by unfold vlX; grind
theorem tHit_bca (a b c o d : T3) : tHit b c a o d = tHit a b c o d := by
  unfold tHit
  rw [show pl3 b c a = pl3 a b c by unfold pl3; cases plc a <;> cases plc b <;> cases plc c <;> rfl]
  rw [vlX_rot (sbT a o) (sbT b o) (sbT c o), tG_rot]
theorem tHit_acb (a b c o d : T3) : tHit a c b o d = tHit a b c o d := by
  unfold tHit
  rw [show pl3 a c b = pl3 a b c by unfold pl3; cases plc a <;> cases plc b <;> cases plc c <;> rfl]
  rw [vlX_swap d (sbT b o) (sbT c o), vlX_swap d (sbT a o) (sbT b o), vlX_swap d (sbT c o) (sbT a o), vlX_swap (sbT a o) (sbT b o) (sbT c o), tG_neg]
  rw [← tG_rot, tG_swap, ← tG_rot, ← tG_rot]
theorem upsT_bca (a b c : T3) : upsT b c a = upsT a b c := by
  unfold upsT crX sbT
  simp only [Prod.mk.injEq]
  refine ⟨?_, ?_, ?_⟩ <;> grind
theorem upsT_acb (a b c : T3) : upsT a c b = ngT (upsT a b c) := by
  unfold upsT crX sbT ngT
  simp only [Prod.mk.injEq]
  refine ⟨?_, ?_, ?_⟩ <;> grind
theorem isZ_ng (u : T3) : isZ (ngT u) = isZ u := by
  unfold isZ ngT
  rw [decide_eq_decide]
  dsimp only
  omega
theorem dtT_ng (u : T3) : dtT (ngT u) (ngT u) = dtT u u := by
  unfold dtT ngT
  dsimp only
  rw [Int.neg_mul_neg, Int.neg_mul_neg, Int.neg_mul_neg]
theorem tFlat_bca (a b c : T3) : tFlat b c a = tFlat a b c := by
  unfold tFlat
  rw [upsT_bca, show pl3 b c a = pl3 a b c by unfold pl3; cases plc a <;> cases plc b <;> cases plc c <;> rfl]
theorem tFlat_acb (a b c : T3) : tFlat a c b = tFlat a b c := by
  unfold tFlat
  rw [upsT_acb, isZ_ng, show pl3 a c b = pl3 a b c by unfold pl3; cases plc a <;> cases plc b <;> cases plc c <;> rfl]
theorem tArea_bca (a b c : T3) : tArea b c a = tArea a b c := by
  unfold tArea; rw [tFlat_bca, upsT_bca]
theorem tArea_acb (a b c : T3) : tArea a c b = tArea a b c := by
  unfold tArea; rw [tFlat_acb, upsT_acb, dtT_ng]
theorem sbT_moved (a o m : T3) : sbT (adT a m) (adT o m) = sbT a o := by
  unfold sbT adT
  simp only [Prod.mk.injEq]
  omega
theorem tHit_moved {a b c o d m : T3} (h1 : pl3 a b c = true) (h2 : plc o = true) (h3 : pl3 (adT a m) (adT b m) (adT c m) = true) (h4 : plc (adT o m) = true) : tHit (adT a m) (adT b m) (adT c m) (adT o m) d = tHit a b c o d := by
  unfold tHit
  rw [h1, h2, h3, h4, sbT_moved, sbT_moved, sbT_moved]
/-- A point by weights, seen from o. -/
def wayT (u v w : Int) (a b c o : T3) : T3 := (u * a.1 + v * b.1 + w * c.1 - (u + v + w) * o.1, u * a.2.1 + v * b.2.1 + w * c.2.1 - (u + v + w) * o.2.1, u * a.2.2 + v * b.2.2 + w * c.2.2 - (u + v + w) * o.2.2)
theorem way_vols (u v w : Int) (a b c o : T3) : vlX (wayT u v w a b c o) (sbT b o) (sbT c o) = u * vlX (sbT a o) (sbT b o) (sbT c o) ∧ vlX (wayT u v w a b c o) (sbT c o) (sbT a o) = v * vlX (sbT a o) (sbT b o) (sbT c o) ∧ vlX (wayT u v w a b c o) (sbT a o) (sbT b o) = w * vlX (sbT a o) (sbT b o) (sbT c o) := by
  unfold vlX wayT sbT
  dsimp only
  refine ⟨?_, ?_, ?_⟩ <;> grind
theorem vol_plane (a b c o : T3) : vlX (sbT b a) (sbT c a) (sbT o a) = -vlX (sbT a o) (sbT b o) (sbT c o) := by
  unfold vlX sbT
  dsimp only
  grind
/-- What TriMet asks. -/
theorem tri_met {u v w : Int} {a b c o : T3} (hu : 0 ≤ u) (hv : 0 ≤ v) (hw : 0 ≤ w) (hall : u + v + w ≠ 0) (h1 : pl3 a b c = true) (h2 : plc o = true) (h3 : nrT (wayT u v w a b c o) = true) :
    (vlX (sbT b a) (sbT c a) (sbT o a) = 0 ∧ (tHit a b c o (wayT u v w a b c o)).2 = false) ∨
    (vlX (sbT b a) (sbT c a) (sbT o a) ≠ 0 ∧ (tHit a b c o (wayT u v w a b c o)).2 = true ∧ (tHit a b c o (wayT u v w a b c o)).1.1 * (u + v + w) = (tHit a b c o (wayT u v w a b c o)).1.2 ∧ 0 < (tHit a b c o (wayT u v w a b c o)).1.2 ∧ ((tHit a b c o (wayT u v w a b c o)).1.1 = vlX (sbT b a) (sbT c a) (sbT o a) ∨ (tHit a b c o (wayT u v w a b c o)).1.1 = -vlX (sbT b a) (sbT c a) (sbT o a))) := by
  obtain ⟨e1, e2, e3⟩ := way_vols u v w a b c o
  rw [vol_plane]
  have e : tHit a b c o (wayT u v w a b c o) = tG (u * vlX (sbT a o) (sbT b o) (sbT c o)) (v * vlX (sbT a o) (sbT b o) (sbT c o)) (w * vlX (sbT a o) (sbT b o) (sbT c o)) (vlX (sbT a o) (sbT b o) (sbT c o)) := by
    unfold tHit
    rw [if_pos ⟨h1, h2, h3⟩, e1, e2, e3]
  rw [e]
  generalize vlX (sbT a o) (sbT b o) (sbT c o) = n
  have pos : ∀ k : Int, 0 < k → tG (u * k) (v * k) (w * k) k = ((k, u * k + v * k + w * k), true) ∧ k * (u + v + w) = u * k + v * k + w * k ∧ 0 < u * k + v * k + w * k := fun k hk => by
    have a1 := Int.mul_nonneg hu (show 0 ≤ k by omega)
    have a2 := Int.mul_nonneg hv (show 0 ≤ k by omega)
    have a3 := Int.mul_nonneg hw (show 0 ≤ k by omega)
    have s : k * (u + v + w) = u * k + v * k + w * k := by grind
    have sp : 0 < k * (u + v + w) := Int.mul_pos hk (by omega)
    refine ⟨?_, s, by omega⟩
    unfold tG
    rw [if_neg (by omega)]
    unfold tFin
    rw [if_neg (by omega)]
  by_cases z : n = 0
  · subst z
    left
    refine ⟨rfl, ?_⟩
    unfold tG tFin
    simp
  · right
    refine ⟨by omega, ?_⟩
    by_cases hp : 0 < n
    · obtain ⟨p1, p2, p3⟩ := pos n hp
      rw [p1]
      exact ⟨rfl, p2, p3, .inr (by simp)⟩
    · obtain ⟨p1, p2, p3⟩ := pos (-n) (by omega)
      have : tG (u * n) (v * n) (w * n) n = ((-n, u * -n + v * -n + w * -n), true) := by
        rw [← p1, ← tG_neg (u * n), Int.mul_neg, Int.mul_neg, Int.mul_neg]
      rw [this]
      exact ⟨rfl, p2, p3, .inl (by simp)⟩
/-- The three together: no greater than one. -/
theorem vols_sum (a b c o d : T3) : vlX d (sbT b o) (sbT c o) + vlX d (sbT c o) (sbT a o) + vlX d (sbT a o) (sbT b o) = vlX d (sbT b a) (sbT c a) := by
  unfold vlX sbT
  dsimp only
  grind
theorem plc_I3 {v : T3} (h : plc v = true) : I3 v := by
  rw [plc_iff] at h
  unfold I3 I64
  omega
theorem nrT_I3 {v : T3} (h : nrT v = true) : I3 v := by
  unfold nrT at h
  rw [vnear_iff] at h
  unfold I3 I64
  omega
theorem vlX_small {u v w : T3} (hu : (-1000 ≤ u.1 ∧ u.1 ≤ 1000) ∧ (-1000 ≤ u.2.1 ∧ u.2.1 ≤ 1000) ∧ (-1000 ≤ u.2.2 ∧ u.2.2 ≤ 1000)) (hv : (-1000 ≤ v.1 ∧ v.1 ≤ 1000) ∧ (-1000 ≤ v.2.1 ∧ v.2.1 ≤ 1000) ∧ (-1000 ≤ v.2.2 ∧ v.2.2 ≤ 1000)) (hw : (-1000 ≤ w.1 ∧ w.1 ≤ 1000) ∧ (-1000 ≤ w.2.1 ∧ w.2.1 ≤ 1000) ∧ (-1000 ≤ w.2.2 ∧ w.2.2 ≤ 1000)) : -6000000000 ≤ vlX u v w ∧ vlX u v w ≤ 6000000000 := by
  have m : ∀ {a b : Int}, (-1000 ≤ a ∧ a ≤ 1000) → (-1000 ≤ b ∧ b ≤ 1000) → -1000000 ≤ a * b ∧ a * b ≤ 1000000 := fun ha hb => mul_in (N := 1000) (M := 1000) ha hb
  have k : ∀ {a b : Int}, (-1000 ≤ a ∧ a ≤ 1000) → (-2000000 ≤ b ∧ b ≤ 2000000) → -2000000000 ≤ a * b ∧ a * b ≤ 2000000000 := fun ha hb => mul_in (N := 1000) (M := 2000000) ha hb
  have p1 := m hv.2.1 hw.2.2
  have p2 := m hv.2.2 hw.2.1
  have p3 := m hv.2.2 hw.1
  have p4 := m hv.1 hw.2.2
  have p5 := m hv.1 hw.2.1
  have p6 := m hv.2.1 hw.1
  unfold vlX
  have q1 := k hu.1 (b := v.2.1 * w.2.2 - v.2.2 * w.2.1) (by omega)
  have q2 := k hu.2.1 (b := v.2.2 * w.1 - v.1 * w.2.2) (by omega)
  have q3 := k hu.2.2 (b := v.1 * w.2.1 - v.2.1 * w.1) (by omega)
  omega

end Go.Proofs.Sky
