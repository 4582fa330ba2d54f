/- Plain mathematics of layer 11: triangles, and what rays meet. Imports nothing of the translation. Plain mathematics of layer 11, for the triangles as they landed: cross products of sides, sides of a line, hits by a fraction of two volumes. Imports nothing of the translation. -/
import Derived.Test.YtokkankfaofooaaMath07

namespace Go.Proofs.Sky
section
open Go.RowKit
set_option linter.unusedVariables false

def I3 (v : T3) : Prop := I64 v.1 ∧ I64 v.2.1 ∧ I64 v.2.2
def plc (v : T3) : Bool := wi 524288 v.1 v.2.1 v.2.2
theorem plc_iff {v : T3} : plc v = true ↔ -524288 ≤ v.1 ∧ v.1 ≤ 524288 ∧ -524288 ≤ v.2.1 ∧ v.2.1 ≤ 524288 ∧ -524288 ≤ v.2.2 ∧ v.2.2 ≤ 524288 := by unfold plc; exact wi_iff
def pl3 (a b c : T3) : Bool := plc a && (plc b && plc c)
theorem pl3_iff {a b c : T3} : pl3 a b c = true ↔ plc a = true ∧ plc b = true ∧ plc c = true := by unfold pl3; simp
def sbT (u v : T3) : T3 := (u.1 - v.1, u.2.1 - v.2.1, u.2.2 - v.2.2)
def adT (u v : T3) : T3 := (u.1 + v.1, u.2.1 + v.2.1, u.2.2 + v.2.2)
def ngT (u : T3) : T3 := (-u.1, -u.2.1, -u.2.2)
def crX (u v : T3) : T3 := (u.2.1 * v.2.2 - u.2.2 * v.2.1, u.2.2 * v.1 - u.1 * v.2.2, u.1 * v.2.1 - u.2.1 * v.1)
def vlX (u v w : T3) : Int := u.1 * (v.2.1 * w.2.2 - v.2.2 * w.2.1) + u.2.1 * (v.2.2 * w.1 - v.1 * w.2.2) + u.2.2 * (v.1 * w.2.1 - v.2.1 * w.1)
def upsT (a b c : T3) : T3 := crX (sbT b a) (sbT c a)
def isZ (u : T3) : Bool := decide (u.1 = 0 ∧ u.2.1 = 0 ∧ u.2.2 = 0)
def tFlat (a b c : T3) : Bool := !(pl3 a b c) || isZ (upsT a b c)
def tNorm (a b c : T3) : T3 × Bool := if tFlat a b c = true then ((0, 0, 0), false) else (unT (upsT a b c), okT (upsT a b c))
def tArea (a b c : T3) : Int := if tFlat a b c = true then 0 else (isq (dtT (upsT a b c) (upsT a b c)).toNat : Int)
def tFin (x y z n : Int) : (Int × Int) × Bool := if x < 0 ∨ y < 0 ∨ z < 0 ∨ x + y + z = 0 ∨ n ≤ 0 then ((0, 0), false) else ((n, x + y + z), true)
def tG (x y z n : Int) : (Int × Int) × Bool := if x ≤ 0 ∧ y ≤ 0 ∧ z ≤ 0 then tFin (-x) (-y) (-z) (-n) else tFin x y z n
def tHit (a b c o d : T3) : (Int × Int) × Bool :=
  if pl3 a b c = true ∧ plc o = true ∧ nrT d = true then tG (vlX d (sbT b o) (sbT c o)) (vlX d (sbT c o) (sbT a o)) (vlX d (sbT a o) (sbT b o)) (vlX (sbT a o) (sbT b o) (sbT c o)) else ((0, 0), false)
def c16 (u : Int) : Bool := decide (0 ≤ u ∧ u ≤ 65536)
def tAt (a b c : T3) (u v : Int) : T3 :=
  if pl3 a b c = true ∧ c16 u = true ∧ c16 v = true then
    (if 65536 < u + v then (a.1 + ((b.1 - a.1) * (65536 - u) + (c.1 - a.1) * (65536 - v)) / 65536, a.2.1 + ((b.2.1 - a.2.1) * (65536 - u) + (c.2.1 - a.2.1) * (65536 - v)) / 65536, a.2.2 + ((b.2.2 - a.2.2) * (65536 - u) + (c.2.2 - a.2.2) * (65536 - v)) / 65536)
     else (a.1 + ((b.1 - a.1) * u + (c.1 - a.1) * v) / 65536, a.2.1 + ((b.2.1 - a.2.1) * u + (c.2.1 - a.2.1) * v) / 65536, a.2.2 + ((b.2.2 - a.2.2) * u + (c.2.2 - a.2.2) * v) / 65536))
  else (0, 0, 0)

theorem tG_neg (x y z n : Int) : tG (-x) (-y) (-z) (-n) = tG x y z n := by
  unfold tG
  by_cases h1 : x ≤ 0 ∧ y ≤ 0 ∧ z ≤ 0
  · by_cases h2 : -x ≤ 0 ∧ -y ≤ 0 ∧ -z ≤ 0
    · rw [if_pos h1, if_pos h2]
      obtain rfl : x = 0 := by omega
      obtain rfl : y = 0 := by omega
      obtain rfl : z = 0 := by omega
      unfold tFin
      rw [if_pos (by omega), if_pos (by omega)]
    · rw [if_pos h1, if_neg h2]
  · by_cases h2 : -x ≤ 0 ∧ -y ≤ 0 ∧ -z ≤ 0
    · rw [if_neg h1, if_pos h2, Int.neg_neg, Int.neg_neg, Int.neg_neg, Int.neg_neg]
    · rw [if_neg h1, if_neg h2]
      unfold tFin
      rw [if_pos (by omega), if_pos (by omega)]
theorem tFin_swap (x y z n : Int) : tFin y x z n = tFin x y z n := by
  unfold tFin
  by_cases h : x < 0 ∨ y < 0 ∨ z < 0 ∨ x + y + z = 0 ∨ n ≤ 0
  · rw [if_pos h, if_pos (by omega)]
  · rw [if_neg h, if_neg (by omega), Int.add_comm y x]
theorem tFin_rot (x y z n : Int) : tFin y z x n = tFin x y z n := by
  unfold tFin
  by_cases h : x < 0 ∨ y < 0 ∨ z < 0 ∨ x + y + z = 0 ∨ n ≤ 0
  · rw [if_pos h, if_pos (by omega)]
  · rw [if_neg h, if_neg (by omega), show y + z + x = x + y + z by omega]
theorem tG_swap (x y z n : Int) : tG y x z n = tG x y z n := by
  unfold tG
  rw [tFin_swap x y z n, tFin_swap (-x) (-y) (-z) (-n)]
  by_cases h : x ≤ 0 ∧ y ≤ 0 ∧ z ≤ 0
  · rw [if_pos h, if_pos ⟨h.2.1, h.1, h.2.2⟩]
  · rw [if_neg h, if_neg (fun e => h ⟨e.2.1, e.1, e.2.2⟩)]
theorem tG_rot (x y z n : Int) : tG y z x n = tG x y z n := by
  unfold tG
  rw [tFin_rot x y z n, tFin_rot (-x) (-y) (-z) (-n)]
  by_cases h : x ≤ 0 ∧ y ≤ 0 ∧ z ≤ 0
  · rw [if_pos h, if_pos ⟨h.2.1, h.2.2, h.1⟩]
  · rw [if_neg h, if_neg (fun e => h ⟨e.2.2, e.1, e.2.1⟩)]
theorem vlX_rot (u v w : T3) : vlX v w u = vlX u v w := by unfold vlX; grind
theorem vlX_swap (u v w : T3) : vlX u w v = -vlX u v w := by unfold vlX; grind
theorem vlX_swap2 (u v w : T3) : vlX v u w = -vlX u v w := by unfold vlX; grind
theorem tHit_bca (a b c o d : T3) : tHit b c a o d = tHit a b c o d := by
  unfold tHit
  rw [show pl3 b c a = pl3 a b c by unfold pl3; cases plc a <;> cases plc b <;> cases plc c <;> rfl]
  rw [vlX_rot (sbT a o) (sbT b o) (sbT c o), tG_rot]
theorem tHit_acb (a b c o d : T3) : tHit a c b o d = tHit a b c o d := by
  unfold tHit
  rw [show pl3 a c b = pl3 a b c by unfold pl3; cases plc a <;> cases plc b <;> cases plc c <;> rfl]
  rw [vlX_swap d (sbT b o) (sbT c o), vlX_swap d (sbT a o) (sbT b o), vlX_swap d (sbT c o) (sbT a o), vlX_swap (sbT a o) (sbT b o) (sbT c o), tG_neg]
  rw [← tG_rot, tG_swap, ← tG_rot, ← tG_rot]
theorem upsT_bca (a b c : T3) : upsT b c a = upsT a b c := by
  unfold upsT crX sbT
  simp only [Prod.mk.injEq]
  refine ⟨?_, ?_, ?_⟩ <;> grind
theorem upsT_acb (a b c : T3) : upsT a c b = ngT (upsT a b c) := by
  unfold upsT crX sbT ngT
  simp only [Prod.mk.injEq]
  refine ⟨?_, ?_, ?_⟩ <;> grind
theorem isZ_ng (u : T3) : isZ (ngT u) = isZ u := by
  unfold isZ ngT
  rw [decide_eq_decide]
  dsimp only
  omega
theorem dtT_ng (u : T3) : dtT (ngT u) (ngT u) = dtT u u := by
  unfold dtT ngT
  dsimp only
  rw [Int.neg_mul_neg, Int.neg_mul_neg, Int.neg_mul_neg]
theorem tFlat_bca (a b c : T3) : tFlat b c a = tFlat a b c := by
  unfold tFlat
  rw [upsT_bca, show pl3 b c a = pl3 a b c by unfold pl3; cases plc a <;> cases plc b <;> cases plc c <;> rfl]
theorem tFlat_acb (a b c : T3) : tFlat a c b = tFlat a b c := by
  unfold tFlat
  rw [upsT_acb, isZ_ng, show pl3 a c b = pl3 a b c by unfold pl3; cases plc a <;> cases plc b <;> cases plc c <;> rfl]
theorem tArea_bca (a b c : T3) : tArea b c a = tArea a b c := by
  unfold tArea; rw [tFlat_bca, upsT_bca]
theorem tArea_acb (a b c : T3) : tArea a c b = tArea a b c := by
  unfold tArea; rw [tFlat_acb, upsT_acb, dtT_ng]
theorem sbT_moved (a o m : T3) : sbT (adT a m) (adT o m) = sbT a o := by
  unfold sbT adT
  simp only [Prod.mk.injEq]
  omega
theorem tHit_moved {a b c o d m : T3} (h1 : pl3 a b c = true) (h2 : plc o = true) (h3 : pl3 (adT a m) (adT b m) (adT c m) = true) (h4 : plc (adT o m) = true) : tHit (adT a m) (adT b m) (adT c m) (adT o m) d = tHit a b c o d := by
  unfold tHit
  rw [h1, h2, h3, h4, sbT_moved, sbT_moved, sbT_moved]
/-- A point by weights, seen from o. -/
def wayT (u v w : Int) (a b c o : T3) : T3 := (u * a.1 + v * b.1 + w * c.1 - (u + v + w) * o.1, u * a.2.1 + v * b.2.1 + w * c.2.1 - (u + v + w) * o.2.1, u * a.2.2 + v * b.2.2 + w * c.2.2 - (u + v + w) * o.2.2)
theorem way_vols (u v w : Int) (a b c o : T3) : vlX (wayT u v w a b c o) (sbT b o) (sbT c o) = u * vlX (sbT a o) (sbT b o) (sbT c o) ∧ vlX (wayT u v w a b c o) (sbT c o) (sbT a o) = v * vlX (sbT a o) (sbT b o) (sbT c o) ∧ vlX (wayT u v w a b c o) (sbT a o) (sbT b o) = w * vlX (sbT a o) (sbT b o) (sbT c o) := by
  unfold vlX wayT sbT
  dsimp only
  refine ⟨?_, ?_, ?_⟩ <;> grind
theorem vol_plane (a b c o : T3) : vlX (sbT b a) (sbT c a) (sbT o a) = -vlX (sbT a o) (sbT b o) (sbT c o) := by
  unfold vlX sbT
  dsimp only
  grind
/-- What TriMet asks. -/
theorem tri_met {u v w : Int} {a b c o : T3} (hu : 0 ≤ u) (hv : 0 ≤ v) (hw : 0 ≤ w) (hall : u + v + w ≠ 0) (h1 : pl3 a b c = true) (h2 : plc o = true) (h3 : nrT (wayT u v w a b c o) = true) :
    (vlX (sbT b a) (sbT c a) (sbT o a) = 0 ∧ (tHit a b c o (wayT u v w a b c o)).2 = false) ∨
    (vlX (sbT b a) (sbT c a) (sbT o a) ≠ 0 ∧ (tHit a b c o (wayT u v w a b c o)).2 = true ∧ (tHit a b c o (wayT u v w a b c o)).1.1 * (u + v + w) = (tHit a b c o (wayT u v w a b c o)).1.2 ∧ 0 < (tHit a b c o (wayT u v w a b c o)).1.2 ∧ ((tHit a b c o (wayT u v w a b c o)).1.1 = vlX (sbT b a) (sbT c a) (sbT o a) ∨ (tHit a b c o (wayT u v w a b c o)).1.1 = -vlX (sbT b a) (sbT c a) (sbT o a))) := by
  obtain ⟨e1, e2, e3⟩ := way_vols u v w a b c o
  rw [vol_plane]
  have e : tHit a b c o (wayT u v w a b c o) = tG (u * vlX (sbT a o) (sbT b o) (sbT c o)) (v * vlX (sbT a o) (sbT b o) (sbT c o)) (w * vlX (sbT a o) (sbT b o) (sbT c o)) (vlX (sbT a o) (sbT b o) (sbT c o)) := by
    unfold tHit
    rw [if_pos ⟨h1, h2, h3⟩, e1, e2, e3]
  rw [e]
  generalize vlX (sbT a o) (sbT b o) (sbT c o) = n
  have pos : ∀ k : Int, 0 < k → tG (u * k) (v * k) (w * k) k = ((k, u * k + v * k + w * k), true) ∧ k * (u + v + w) = u * k + v * k + w * k ∧ 0 < u * k + v * k + w * k := fun k hk => by
    have a1 := Int.mul_nonneg hu (show 0 ≤ k by omega)
    have a2 := Int.mul_nonneg hv (show 0 ≤ k by omega)
    have a3 := Int.mul_nonneg hw (show 0 ≤ k by omega)
    have s : k * (u + v + w) = u * k + v * k + w * k := by grind
    have sp : 0 < k * (u + v + w) := Int.mul_pos hk (by omega)
    refine ⟨?_, s, by omega⟩
    unfold tG
    rw [if_neg (by omega)]
    unfold tFin
    rw [if_neg (by omega)]
  by_cases z : n = 0
  · subst z
    left
    refine ⟨rfl, ?_⟩
    unfold tG tFin
    simp
  · right
    refine ⟨by omega, ?_⟩
    by_cases hp : 0 < n
    · obtain ⟨p1, p2, p3⟩ := pos n hp
      rw [p1]
      exact ⟨rfl, p2, p3, .inr (by simp)⟩
    · obtain ⟨p1, p2, p3⟩ := pos (-n) (by omega)
      have : tG (u * n) (v * n) (w * n) n = ((-n, u * -n + v * -n + w * -n), true) := by
        rw [← p1, ← tG_neg (u * n), Int.mul_neg, Int.mul_neg, Int.mul_neg]
      rw [this]
      exact ⟨rfl, p2, p3, .inl (by simp)⟩
/-- The three together: no greater than one. -/
theorem vols_sum (a b c o d : T3) : vlX d (sbT b o) (sbT c o) + vlX d (sbT c o) (sbT a o) + vlX d (sbT a o) (sbT b o) = vlX d (sbT b a) (sbT c a) := by
  unfold vlX sbT
  dsimp only
  grind
theorem plc_I3 {v : T3} (h : plc v = true) : I3 v := by
  rw [plc_iff] at h
  unfold I3 I64
  omega
theorem nrT_I3 {v : T3} (h : nrT v = true) : I3 v := by
  unfold nrT at h
  rw [vnear_iff] at h
  unfold I3 I64
  omega
theorem vlX_small {u v w : T3} (hu : (-1000 ≤ u.1 ∧ u.1 ≤ 1000) ∧ (-1000 ≤ u.2.1 ∧ u.2.1 ≤ 1000) ∧ (-1000 ≤ u.2.2 ∧ u.2.2 ≤ 1000)) (hv : (-1000 ≤ v.1 ∧ v.1 ≤ 1000) ∧ (-1000 ≤ v.2.1 ∧ v.2.1 ≤ 1000) ∧ (-1000 ≤ v.2.2 ∧ v.2.2 ≤ 1000)) (hw : (-1000 ≤ w.1 ∧ w.1 ≤ 1000) ∧ (-1000 ≤ w.2.1 ∧ w.2.1 ≤ 1000) ∧ (-1000 ≤ w.2.2 ∧ w.2.2 ≤ 1000)) : -6000000000 ≤ vlX u v w ∧ vlX u v w ≤ 6000000000 := by
  have m : ∀ {a b : Int}, (-1000 ≤ a ∧ a ≤ 1000) → (-1000 ≤ b ∧ b ≤ 1000) → -1000000 ≤ a * b ∧ a * b ≤ 1000000 := fun ha hb => mul_in (N := 1000) (M := 1000) ha hb
  have k : ∀ {a b : Int}, (-1000 ≤ a ∧ a ≤ 1000) → (-2000000 ≤ b ∧ b ≤ 2000000) → -2000000000 ≤ a * b ∧ a * b ≤ 2000000000 := fun ha hb => mul_in (N := 1000) (M := 2000000) ha hb
  have p1 := m hv.2.1 hw.2.2
  have p2 := m hv.2.2 hw.2.1
  have p3 := m hv.2.2 hw.1
  have p4 := m hv.1 hw.2.2
  have p5 := m hv.1 hw.2.1
  have p6 := m hv.2.1 hw.1
  unfold vlX
  have q1 := k hu.1 (b := v.2.1 * w.2.2 - v.2.2 * w.2.1) (by omega)
  have q2 := k hu.2.1 (b := v.2.2 * w.1 - v.1 * w.2.2) (by omega)
  have q3 := k hu.2.2 (b := v.1 * w.2.1 - v.2.1 * w.1) (by omega)
  omega

end
end Go.Proofs.Sky

namespace Go.Proofs.Sky
section
open Go.RowKit
set_option linter.unusedVariables false

theorem vsub_pl {x a : Int} (hx : -524288 ≤ x ∧ x ≤ 524288) (ha : -524288 ≤ a ∧ a ≤ 524288) : vsub x a = x - a := by
  unfold vsub sat
  rw [if_neg (by omega), if_neg (by omega), if_neg (by omega), if_neg (by omega)]
  omega
/-- The cross product of the sides from a; zero if a corner is no place. -/
def uprT (a b c : T3) : T3 := if pl3 a b c = true then upsT a b c else (0, 0, 0)
theorem nr_sb {a b : T3} (ha : plc a = true) (hb : plc b = true) : nrT (sbT a b) = true := by
  have q1 := plc_iff.1 ha
  have q2 := plc_iff.1 hb
  unfold nrT sbT
  rw [vnear_iff]
  dsimp only
  omega
theorem vcr_X {u v : T3} (hu : nrT u = true) (hv : nrT v = true) : vcr u.1 u.2.1 u.2.2 v.1 v.2.1 v.2.2 = crX u v := by
  unfold vcr crX
  unfold nrT at hu hv
  rw [if_pos ⟨hu, hv⟩]
theorem vvol_X {u v w : T3} (hu : nrT u = true) (hv : nrT v = true) (hw : nrT w = true) : vvol u.1 u.2.1 u.2.2 v.1 v.2.1 v.2.2 w.1 w.2.1 w.2.2 = vlX u v w := by
  unfold vvol vlX
  unfold nrT at hu hv hw
  rw [if_pos ⟨hu, hv, hw⟩]
theorem flat_upr (a b c : T3) : tFlat a b c = isZ (uprT a b c) := by
  unfold tFlat uprT
  cases pl3 a b c <;> rfl
theorem isZ_eq {u : T3} (h : isZ u = true) : u = (0, 0, 0) := by
  unfold isZ at h
  have h := of_decide_eq_true h
  obtain ⟨x, y, z⟩ := u
  obtain ⟨rfl, rfl, rfl⟩ := h
  rfl
theorem flat_zero {a b c : T3} (h : tFlat a b c = true) : uprT a b c = (0, 0, 0) := isZ_eq (by rw [← flat_upr]; exact h)
theorem flat_not {a b c : T3} (h : tFlat a b c = false) : uprT a b c = upsT a b c := by
  unfold tFlat at h
  unfold uprT
  cases hp : pl3 a b c with
  | true => rfl
  | false => rw [hp] at h; cases h
theorem norm_upr (a b c : T3) : tNorm a b c = (unT (uprT a b c), okT (uprT a b c)) := by
  unfold tNorm
  cases h : tFlat a b c with
  | true => rw [flat_zero h, if_pos rfl]; decide
  | false => rw [flat_not h, if_neg (by simp)]
theorem area_upr (a b c : T3) : tArea a b c = (isq (dtT (uprT a b c) (uprT a b c)).toNat : Int) := by
  unfold tArea
  cases h : tFlat a b c with
  | true => rw [flat_zero h, if_pos rfl]; decide
  | false => rw [flat_not h, if_neg (by simp)]
theorem crX_small {u v : T3} (hu : nrT u = true) (hv : nrT v = true) : (-2199023255552 ≤ (crX u v).1 ∧ (crX u v).1 ≤ 2199023255552) ∧ (-2199023255552 ≤ (crX u v).2.1 ∧ (crX u v).2.1 ≤ 2199023255552) ∧ (-2199023255552 ≤ (crX u v).2.2 ∧ (crX u v).2.2 ≤ 2199023255552) := by
  unfold nrT at hu hv
  rw [vnear_iff] at hu hv
  unfold crX
  have p1 := near_mul (x := u.2.1) (a := v.2.2) (by omega) (by omega)
  have p2 := near_mul (x := u.2.2) (a := v.2.1) (by omega) (by omega)
  have p3 := near_mul (x := u.2.2) (a := v.1) (by omega) (by omega)
  have p4 := near_mul (x := u.1) (a := v.2.2) (by omega) (by omega)
  have p5 := near_mul (x := u.1) (a := v.2.1) (by omega) (by omega)
  have p6 := near_mul (x := u.2.1) (a := v.1) (by omega) (by omega)
  dsimp only
  omega
theorem uprT_small (a b c : T3) : (-2199023255552 ≤ (uprT a b c).1 ∧ (uprT a b c).1 ≤ 2199023255552) ∧ (-2199023255552 ≤ (uprT a b c).2.1 ∧ (uprT a b c).2.1 ≤ 2199023255552) ∧ (-2199023255552 ≤ (uprT a b c).2.2 ∧ (uprT a b c).2.2 ≤ 2199023255552) := by
  unfold uprT
  split
  · rename_i h
    obtain ⟨h1, h2, h3⟩ := pl3_iff.1 h
    exact crX_small (nr_sb h2 h1) (nr_sb h3 h1)
  · dsimp only; omega
theorem sq_sml {x : Int} (h : -2199023255552 ≤ x ∧ x ≤ 2199023255552) : 0 ≤ x * x ∧ x * x ≤ 4835703278458516698824704 :=
  ⟨sq_nonneg x, (mul_in (N := 2199023255552) (M := 2199023255552) h h).2⟩

/-- All on one side, or passed through. -/
def srd (x y z : Int) : Bool := !((decide (x < 0) || decide (y < 0)) || decide (z < 0)) || !((decide (0 < x) || decide (0 < y)) || decide (0 < z))
theorem srd_iff {x y z : Int} : srd x y z = true ↔ (0 ≤ x ∧ 0 ≤ y ∧ 0 ≤ z) ∨ (x ≤ 0 ∧ y ≤ 0 ∧ z ≤ 0) := by
  unfold srd
  simp only [Bool.or_eq_true, Bool.not_eq_true', Bool.or_eq_false_iff, decide_eq_false_iff_not]
  omega
/-- A hit, out of the three sides and the volume. -/
def tMk (x y z n s : Int) : (Int × Int) × Bool := if fmakeOk n s = true ∧ 0 < (fmake n s).1 ∧ srd x y z = true then (fmake n s, true) else ((0, 0), false)
theorem tG_mk {x y z n : Int} (hn : -6917529027641081856 ≤ n ∧ n ≤ 6917529027641081856) (hs : -6917529027641081856 ≤ x + y + z ∧ x + y + z ≤ 6917529027641081856) : tG x y z n = tMk x y z n (x + y + z) := by
  have hsr := @srd_iff x y z
  by_cases h0 : x + y + z = 0
  · have hk : fmakeOk n (x + y + z) = false := decide_eq_false (by omega)
    have e2 : tMk x y z n (x + y + z) = ((0, 0), false) := by unfold tMk; rw [if_neg (fun e => by rw [hk] at e; cases e.1)]
    rw [e2]
    unfold tG tFin
    by_cases ha : x ≤ 0 ∧ y ≤ 0 ∧ z ≤ 0
    · rw [if_pos ha, if_pos (by omega)]
    · rw [if_neg ha, if_pos (by omega)]
  · have hk : fmakeOk n (x + y + z) = true := decide_eq_true (by omega)
    have hf : fmake n (x + y + z) = if x + y + z < 0 then (-n, -(x + y + z)) else (n, x + y + z) := by unfold fmake; rw [if_pos hk]
    by_cases hneg : x + y + z < 0
    · rw [if_pos hneg] at hf
      by_cases ha : x ≤ 0 ∧ y ≤ 0 ∧ z ≤ 0
      · by_cases hm : 0 < -n
        · have e2 : tMk x y z n (x + y + z) = ((-n, -(x + y + z)), true) := by unfold tMk; rw [hf, if_pos ⟨hk, hm, hsr.2 (.inr ha)⟩]
          rw [e2]
          unfold tG tFin
          rw [if_pos ha, if_neg (by omega), show -x + -y + -z = -(x + y + z) by omega]
        · have e2 : tMk x y z n (x + y + z) = ((0, 0), false) := by unfold tMk; rw [hf, if_neg (fun e => hm e.2.1)]
          rw [e2]
          unfold tG tFin
          rw [if_pos ha, if_pos (by omega)]
      · have e2 : tMk x y z n (x + y + z) = ((0, 0), false) := by
          unfold tMk
          rw [if_neg]
          intro e
          have := hsr.1 e.2.2
          omega
        rw [e2]
        unfold tG tFin
        rw [if_neg ha, if_pos (by omega)]
    · rw [if_neg hneg] at hf
      have ha : ¬ (x ≤ 0 ∧ y ≤ 0 ∧ z ≤ 0) := by omega
      by_cases hb : 0 ≤ x ∧ 0 ≤ y ∧ 0 ≤ z
      · by_cases hm : 0 < n
        · have e2 : tMk x y z n (x + y + z) = ((n, x + y + z), true) := by unfold tMk; rw [hf, if_pos ⟨hk, hm, hsr.2 (.inl hb)⟩]
          rw [e2]
          unfold tG tFin
          rw [if_neg ha, if_neg (by omega)]
        · have e2 : tMk x y z n (x + y + z) = ((0, 0), false) := by unfold tMk; rw [hf, if_neg (fun e => hm e.2.1)]
          rw [e2]
          unfold tG tFin
          rw [if_neg ha, if_pos (by omega)]
      · have e2 : tMk x y z n (x + y + z) = ((0, 0), false) := by
          unfold tMk
          rw [if_neg]
          intro e
          have := hsr.1 e.2.2
          omega
        rw [e2]
        unfold tG tFin
        rw [if_neg ha, if_pos (by omega)]
theorem vlX_61 {u v w : T3} (hu : nrT u = true) (hv : nrT v = true) (hw : nrT w = true) : -6917529027641081856 ≤ vlX u v w ∧ vlX u v w ≤ 6917529027641081856 := by
  obtain ⟨h1, h2, h3⟩ := crX_small hv hw
  unfold nrT at hu
  rw [vnear_iff] at hu
  unfold crX at h1 h2 h3
  dsimp only at h1 h2 h3
  unfold vlX
  have p1 := near_mul3 (x := u.1) (by omega) h1
  have p2 := near_mul3 (x := u.2.1) (by omega) h2
  have p3 := near_mul3 (x := u.2.2) (by omega) h3
  omega
theorem vvol_61 (x y z a b c d e f : Int) : -6917529027641081856 ≤ vvol x y z a b c d e f ∧ vvol x y z a b c d e f ≤ 6917529027641081856 := by
  by_cases h : vnear x y z = true ∧ vnear a b c = true ∧ vnear d e f = true
  · have := vlX_61 (u := (x, y, z)) (v := (a, b, c)) (w := (d, e, f)) h.1 h.2.1 h.2.2
    rw [← vvol_X (u := (x, y, z)) (v := (a, b, c)) (w := (d, e, f)) h.1 h.2.1 h.2.2] at this
    exact this
  · unfold vvol
    rw [if_neg h]
    omega
/-- The volume that the ray is divided by. -/
theorem vols_den (a b c o d : T3) : vlX (sbT b a) (sbT c a) d = vlX d (sbT a o) (sbT b o) + vlX d (sbT b o) (sbT c o) + vlX d (sbT c o) (sbT a o) := by
  unfold vlX sbT
  dsimp only
  grind
theorem vols_num (a b c o : T3) : vlX (sbT b a) (sbT c a) (sbT a o) = vlX (sbT a o) (sbT b o) (sbT c o) := by
  unfold vlX sbT
  dsimp only
  grind
theorem tHit_mk {a b c o d : T3} (h : pl3 a b c = true) (ho : plc o = true) (hd : nrT d = true) :
    tHit a b c o d = tMk (vlX d (sbT a o) (sbT b o)) (vlX d (sbT b o) (sbT c o)) (vlX d (sbT c o) (sbT a o)) (vlX (sbT b a) (sbT c a) (sbT a o)) (vlX (sbT b a) (sbT c a) d) := by
  obtain ⟨h1, h2, h3⟩ := pl3_iff.1 h
  unfold tHit
  rw [if_pos ⟨h, ho, hd⟩, vols_num, vols_den a b c o d, ← tG_mk (vlX_61 (nr_sb h1 ho) (nr_sb h2 ho) (nr_sb h3 ho)) (by rw [← vols_den]; exact vlX_61 (nr_sb h2 h1) (nr_sb h3 h1) hd)]
  exact tG_rot _ _ _ _
theorem tHit_far {a b c o d : T3} (hd : nrT d = false) : tHit a b c o d = ((0, 0), false) := by
  unfold tHit
  rw [if_neg (by rw [hd]; simp)]
theorem tHit_no {a b c o d : T3} (h : (pl3 a b c && plc o) = false) : tHit a b c o d = ((0, 0), false) := by
  unfold tHit
  rw [if_neg]
  rintro ⟨h1, h2, h3⟩
  rw [h1, h2] at h
  cases h

/-- All of the first n are places. -/
def allp (V : Nat → T3) : Nat → Bool
  | 0 => true
  | k + 1 => allp V k && plc (V k)
theorem allp_no {V : Nat → T3} {k : Nat} (h : plc (V k) = false) : ∀ n, k < n → allp V n = false
  | 0, hk => absurd hk (by omega)
  | n + 1, hk => by
    unfold allp
    by_cases e : k = n
    · subst e; rw [h, Bool.and_false]
    · rw [allp_no h n (by omega), Bool.false_and]
def rw3 (u v t : T3) : Nat → T3 | 0 => u | 1 => v | _ => t
def rw4 (u v t s : T3) : Nat → T3 | 0 => u | 1 => v | 2 => t | _ => s
theorem allp3 (u v t : T3) : allp (rw3 u v t) 3 = pl3 u v t := by
  show (((true && plc u) && plc v) && plc t) = _
  unfold pl3
  cases plc u <;> cases plc v <;> cases plc t <;> rfl
theorem allp4 (u v t s : T3) : allp (rw4 u v t s) 4 = (pl3 u v t && plc s) := by
  show ((((true && plc u) && plc v) && plc t) && plc s) = _
  unfold pl3
  cases plc u <;> cases plc v <;> cases plc t <;> cases plc s <;> rfl

theorem fat_one {x u : Int} (hx : -1048576 ≤ x ∧ x ≤ 1048576) (hu : 0 ≤ u ∧ u ≤ 65536) : fat x u 1 = x * u ∧ -68719476736 ≤ x * u ∧ x * u ≤ 68719476736 := by
  have m := mul_in (x := x) (a := u) (N := 1048576) (M := 65536) (by omega) (by omega)
  refine ⟨?_, by omega, by omega⟩
  unfold fat sat
  rw [if_neg (by omega), Int.ediv_one, if_neg (by omega), if_neg (by omega)]
theorem fat_part {s : Int} (hs : -137438953472 ≤ s ∧ s ≤ 137438953472) : fat s 1 65536 = s / 65536 ∧ -2097152 ≤ s / 65536 ∧ s / 65536 ≤ 2097152 := by
  refine ⟨?_, by omega, by omega⟩
  unfold fat sat
  rw [if_neg (by omega), Int.mul_one, if_neg (by omega), if_neg (by omega)]
theorem sat_mid {x : Int} (h : -1099511627776 ≤ x ∧ x ≤ 1099511627776) : sat x = x := by
  unfold sat
  rw [if_neg (by omega), if_neg (by omega)]

end
end Go.Proofs.Sky
