/- Plain mathematics of layer 11: triangles, and what rays meet. Imports nothing of the translation. Plain mathematics of layer 11, for the triangles as they landed: cross products of sides, sides of a line, hits by a fraction of two volumes. Imports nothing of the translation. -/
import Derived.Test.YtneacfhoinaeeaaMc12


namespace Go.Proofs.Sky
section

section

open Go.RowKit

set_option linter.unusedVariables false

def I3 (v : T3) : Prop := I64 v.1 ∧ I64 v.2.1 ∧ I64 v.2.2

def plc (v : T3) : Bool := wi 524288 v.1 v.2.1 v.2.2

theorem plc_iff {v : T3} : plc v = true ↔ -524288 ≤ v.1 ∧ v.1 ≤ 524288 ∧ -524288 ≤ v.2.1 ∧ v.2.1 ≤ 524288 ∧ -524288 ≤ v.2.2 ∧ v.2.2 ≤ 524288 := by unfold plc; exact wi_iff

def pl3 (a b c : T3) : Bool := plc a && (plc b && plc c)

theorem pl3_iff {a b c : T3} : pl3 a b c = true ↔ plc a = true ∧ plc b = true ∧ plc c = true := by unfold pl3; simp

def sbT (u v : T3) : T3 := (u.1 - v.1, u.2.1 - v.2.1, u.2.2 - v.2.2)

def adT (u v : T3) : T3 := (u.1 + v.1, u.2.1 + v.2.1, u.2.2 + v.2.2)

def ngT (u : T3) : T3 := (-u.1, -u.2.1, -u.2.2)

def crX (u v : T3) : T3 := (u.2.1 * v.2.2 - u.2.2 * v.2.1, u.2.2 * v.1 - u.1 * v.2.2, u.1 * v.2.1 - u.2.1 * v.1)

def vlX (u v w : T3) : Int := u.1 * (v.2.1 * w.2.2 - v.2.2 * w.2.1) + u.2.1 * (v.2.2 * w.1 - v.1 * w.2.2) + u.2.2 * (v.1 * w.2.1 - v.2.1 * w.1)

def upsT (a b c : T3) : T3 := crX (sbT b a) (sbT c a)

def isZ (u : T3) : Bool := decide (u.1 = 0 ∧ u.2.1 = 0 ∧ u.2.2 = 0)

def tFlat (a b c : T3) : Bool := !(pl3 a b c) || isZ (upsT a b c)

def tNorm (a b c : T3) : T3 × Bool := if tFlat a b c = true then ((0, 0, 0), false) else (unT (upsT a b c), okT (upsT a b c))

def tArea (a b c : T3) : Int := if tFlat a b c = true then 0 else (isq (dtT (upsT a b c) (upsT a b c)).toNat : Int)

def tFin (x y z n : Int) : (Int × Int) × Bool := if x < 0 ∨ y < 0 ∨ z < 0 ∨ x + y + z = 0 ∨ n ≤ 0 then ((0, 0), false) else ((n, x + y + z), true)

def tG (x y z n : Int) : (Int × Int) × Bool := if x ≤ 0 ∧ y ≤ 0 ∧ z ≤ 0 then tFin (-x) (-y) (-z) (-n) else tFin x y z n

def tHit (a b c o d : T3) : (Int × Int) × Bool :=
  if pl3 a b c = true ∧ plc o = true ∧ nrT d = true then tG (vlX d (sbT b o) (sbT c o)) (vlX d (sbT c o) (sbT a o)) (vlX d (sbT a o) (sbT b o)) (vlX (sbT a o) (sbT b o) (sbT c o)) else ((0, 0), false)

def c16 (u : Int) : Bool := decide (0 ≤ u ∧ u ≤ 65536)

def tAt (a b c : T3) (u v : Int) : T3 :=
  if pl3 a b c = true ∧ c16 u = true ∧ c16 v = true then
    (if 65536 < u + v then (a.1 + ((b.1 - a.1) * (65536 - u) + (c.1 - a.1) * (65536 - v)) / 65536, a.2.1 + ((b.2.1 - a.2.1) * (65536 - u) + (c.2.1 - a.2.1) * (65536 - v)) / 65536, a.2.2 + ((b.2.2 - a.2.2) * (65536 - u) + (c.2.2 - a.2.2) * (65536 - v)) / 65536)
     else (a.1 + ((b.1 - a.1) * u + (c.1 - a.1) * v) / 65536, a.2.1 + ((b.2.1 - a.2.1) * u + (c.2.1 - a.2.1) * v) / 65536, a.2.2 + ((b.2.2 - a.2.2) * u + (c.2.2 - a.2.2) * v) / 65536))
  else (0, 0, 0)

/-- A point by weights, seen from o. -/
def wayT (u v w : Int) (a b c o : T3) : T3 := (u * a.1 + v * b.1 + w * c.1 - (u + v + w) * o.1, u * a.2.1 + v * b.2.1 + w * c.2.1 - (u + v + w) * o.2.1, u * a.2.2 + v * b.2.2 + w * c.2.2 - (u + v + w) * o.2.2)

theorem plc_I3 {v : T3} (h : plc v = true) : I3 v := by
  rw [plc_iff] at h
  unfold I3 I64
  omega

end

end
end Go.Proofs.Sky

namespace Go.Proofs.Sky
section

section

open Go.RowKit

set_option linter.unusedVariables false

theorem vsub_pl {x a : Int} (hx : -524288 ≤ x ∧ x ≤ 524288) (ha : -524288 ≤ a ∧ a ≤ 524288) : vsub x a = x - a := by
  unfold vsub sat
  rw [if_neg (by omega), if_neg (by omega), if_neg (by omega), if_neg (by omega)]
  omega

/-- The cross product of the sides from a; zero if a corner is no place. -/
def uprT (a b c : T3) : T3 := if pl3 a b c = true then upsT a b c else (0, 0, 0)

theorem nr_sb {a b : T3} (ha : plc a = true) (hb : plc b = true) : nrT (sbT a b) = true := by
  have q1 := plc_iff.1 ha
  have q2 := plc_iff.1 hb
  unfold nrT sbT
  rw [vnear_iff]
  dsimp only
  omega

theorem vcr_X {u v : T3} (hu : nrT u = true) (hv : nrT v = true) : vcr u.1 u.2.1 u.2.2 v.1 v.2.1 v.2.2 = crX u v := by
  unfold vcr crX
  unfold nrT at hu hv
  rw [if_pos ⟨hu, hv⟩]

theorem flat_upr (a b c : T3) : tFlat a b c = isZ (uprT a b c) := by
  unfold tFlat uprT
  cases pl3 a b c <;> rfl

/-- All on one side, or passed through. -/
def srd (x y z : Int) : Bool := !((decide (x < 0) || decide (y < 0)) || decide (z < 0)) || !((decide (0 < x) || decide (0 < y)) || decide (0 < z))

/-- A hit, out of the three sides and the volume. -/
def tMk (x y z n s : Int) : (Int × Int) × Bool := if fmakeOk n s = true ∧ 0 < (fmake n s).1 ∧ srd x y z = true then (fmake n s, true) else ((0, 0), false)

/-- All of the first n are places. -/
def allp (V : Nat → T3) : Nat → Bool
  | 0 => true
  | k + 1 => allp V k && plc (V k)

theorem allp_no {V : Nat → T3} {k : Nat} (h : plc (V k) = false) : ∀ n, k < n → allp V n = false
  | 0, hk => absurd hk (by omega)
  | n + 1, hk => by
    unfold allp
    by_cases e : k = n
    · subst e; rw [h, Bool.and_false]
    · rw [allp_no h n (by omega), Bool.false_and]

def rw3 (u v t : T3) : Nat → T3 | 0 => u | 1 => v | _ => t

def rw4 (u v t s : T3) : Nat → T3 | 0 => u | 1 => v | 2 => t | _ => s

theorem allp3 (u v t : T3) : allp (rw3 u v t) 3 = pl3 u v t := by
  show (((true && plc u) && plc v) && plc t) = _
  unfold pl3
  cases plc u <;> cases plc v <;> cases plc t <;> rfl

end

end
end Go.Proofs.Sky
