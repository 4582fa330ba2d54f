/- Plain mathematics of layer 12: balls, and what rays meet. Imports nothing of the translation. Plain mathematics of layer 12: a direction goes ahead of what it is of; through a ball's middle. Imports nothing of the translation. -/
import Derived.Test.YtneacfhoinaeeaaMc17


namespace Go.Proofs.Sky
section

section

open Go.RowKit

set_option linter.unusedVariables false

def ballR (c : T3) (r : Int) : Bool := plc c && decide (4 ≤ r ∧ r ≤ 262144)

def ballM (c : T3) (r : Int) (o d : T3) : Bool := ballR c r && (plc o && (nrT d && !isZ d))

def ballQ (c : T3) (r : Int) (o : T3) : Int := dtT (sbT o c) (sbT o c) - r * r

def ballD (c : T3) (r : Int) (o d : T3) : Int := dtT (sbT o c) d * dtT (sbT o c) d - dtT d d * ballQ c r o

def ballS (c : T3) (r : Int) (o d : T3) : Int := (isq (ballD c r o d).toNat : Int)

def ballF (a b q s : Int) : (Int × Int) × Bool := if 0 < q ∧ b < 0 then ((-b - s, a), true) else if q ≤ 0 ∧ 0 < s - b then ((s - b, a), true) else ((0, 0), false)

def ballH (c : T3) (r : Int) (o d : T3) : (Int × Int) × Bool :=
  if ballM c r o d = true ∧ 0 ≤ ballD c r o d then ballF (dtT d d) (dtT (sbT o c) d) (ballQ c r o) (ballS c r o d) else ((0, 0), false)

def ballT (c : T3) (r : Int) (o d : T3) : (Int × Int) × Bool :=
  if ballM c r o d = true ∧ dtT (sbT o c) d < 0 then ((-2 * dtT (sbT o c) d, dtT d d), true) else ((0, 0), false)

def ballN (c t : T3) : T3 := if plc c = true ∧ plc t = true ∧ okT (sbT t c) = true then unT (sbT t c) else (0, 0, 16384)

def ballI (c : T3) (r : Int) (t : T3) : Bool := ballR c r && (plc t && decide (dtT (sbT t c) (sbT t c) ≤ r * r))

/-- A ball's equation at the place n by e of the way: how far outside, times e squared. -/
def ballV (a b q n e : Int) : Int := a * n * n + 2 * b * n * e + q * e * e

end

end
end Go.Proofs.Sky

namespace Go.Proofs.Sky
section

section

open Go.RowKit

set_option linter.unusedVariables false

/-- The same side: what is above 0 comes of what is above 0. -/
def Side (u d : Int) : Prop := (0 < u → 0 < d) ∧ (u < 0 → d < 0)

theorem Side.pos {u d : Int} (h : Side u d) (hu : ¬ u = 0) : 0 < u * d := by
  rcases Int.lt_or_gt_of_ne hu with g | g
  · have := h.2 g; rw [← Int.neg_mul_neg]; exact Int.mul_pos (by omega) (by omega)
  · have := h.1 g; exact Int.mul_pos (by omega) (by omega)

theorem ballR_eq (c : T3) (r : Int) : ballR c r = (plc c && (decide (4 ≤ r) && decide (r ≤ 262144))) := by
  unfold ballR; rw [Bool.decide_and]

/-- What the ray meets, by its three numbers. -/
def ballG (a b z : Int) : (Int × Int) × Bool :=
  if 0 ≤ b * b - a * z ∧ 1 ≤ a then ballF a b z (isq (b * b - a * z).toNat : Int) else ((0, 0), false)

end

end
end Go.Proofs.Sky
