/- Plain mathematics of layer 10: boxes, and what rays meet. Imports nothing of the translation. Plain mathematics of layer 10: intervals of times, and that a ray meets a box just if the three axes' intervals share a time. Imports nothing of the translation. -/
import Derived.Test.YtneacfhoinaeeaaMc12
import Derived.Test.YtneacfhoinaeeaaMc6


namespace Go.Proofs.Sky
section

section

open Go.RowKit

set_option linter.unusedVariables false

abbrev Bx := T3 × T3

def bRight (b : Bx) : Bool := nrT b.1 && (nrT b.2 && decide (b.1.1 ≤ b.2.1 ∧ b.1.2.1 ≤ b.2.2.1 ∧ b.1.2.2 ≤ b.2.2.2))

def bJoin (a b : Bx) : Bx := if bRight a = true ∧ bRight b = true then ((min a.1.1 b.1.1, min a.1.2.1 b.1.2.1, min a.1.2.2 b.1.2.2), (max a.2.1 b.2.1, max a.2.2.1 b.2.2.1, max a.2.2.2 b.2.2.2)) else ((0, 0, 0), (0, 0, 0))

def bHas (b : Bx) (v : T3) : Bool := bRight b && decide (b.1.1 ≤ v.1 ∧ v.1 ≤ b.2.1 ∧ b.1.2.1 ≤ v.2.1 ∧ v.2.1 ≤ b.2.2.1 ∧ b.1.2.2 ≤ v.2.2 ∧ v.2.2 ≤ b.2.2.2)

def bArea (b : Bx) : Int := if bRight b = true then (b.2.1 - b.1.1) * (b.2.2.1 - b.1.2.1) + (b.2.2.1 - b.1.2.1) * (b.2.2.2 - b.1.2.2) + (b.2.2.2 - b.1.2.2) * (b.2.1 - b.1.1) else 0

def crd (v : T3) (axis : Int) : Int := if axis = 0 then v.1 else if axis = 1 then v.2.1 else v.2.2

def bMid (b : Bx) (axis : Int) : Int := if bRight b = true ∧ 0 ≤ axis ∧ axis ≤ 2 then crd b.1 axis + crd b.2 axis else 0

def gro (x n : Int) : Int := hold (x + n) (-1048576) 1048576

def bGrow (b : Bx) (n : Int) : Bx := if bRight b = true ∧ 0 ≤ n ∧ n ≤ 16 then ((gro b.1.1 (-n), gro b.1.2.1 (-n), gro b.1.2.2 (-n)), (gro b.2.1 n, gro b.2.2.1 n, gro b.2.2.2 n)) else ((0, 0, 0), (0, 0, 0))

/-- The least box with the first k vectors. -/
def bHull (V : Nat → T3) : Nat → Bx
  | 0 => ((0, 0, 0), (0, 0, 0))
  | k + 1 => if k = 0 then (V 0, V 0) else bJoin (bHull V k) (V k, V k)

def bOfOk (V : Nat → T3) (n : Nat) : Bool := decide (0 < n) && (List.range n).all (fun k => nrT (V k))

def bOf (V : Nat → T3) (n : Nat) : Bx := if bOfOk V n = true then bHull V n else ((0, 0, 0), (0, 0, 0))

/-- At time p / q the ray from o along d lies between the faces, on one axis. -/
def onAx (lo hi o d p q : Int) : Prop := lo * q ≤ o * q + d * p ∧ o * q + d * p ≤ hi * q

/-- The ray meets the box up to n / m (without a limit for m below 1). -/
def hits (b : Bx) (o d : T3) (n m : Int) : Prop :=
  ∃ p q : Int, 1 ≤ q ∧ 0 ≤ p ∧ (1 ≤ m → p * m ≤ n * q) ∧ onAx b.1.1 b.2.1 o.1 d.1 p q ∧ onAx b.1.2.1 b.2.2.1 o.2.1 d.2.1 p q ∧ onAx b.1.2.2 b.2.2.2 o.2.2 d.2.2 p q

noncomputable def bHit (b : Bx) (o d : T3) (n m : Int) : Bool := @decide (bRight b = true ∧ nrT o = true ∧ nrT d = true ∧ hits b o d n m) (Classical.propDecidable _)

/-- A box, as six numbers. -/
def bx6 (b : Bx) : Array Value := #[.int .i64 b.1.1, .int .i64 b.1.2.1, .int .i64 b.1.2.2, .int .i64 b.2.1, .int .i64 b.2.2.1, .int .i64 b.2.2.2]

end

end
end Go.Proofs.Sky

namespace Go.Proofs.Sky
section

section

open Go.RowKit

set_option linter.unusedVariables false

/-- From the first fraction on, up to the last one (no end, where that is none). -/
abbrev Iv := (Int × Int) × (Int × Int)

def ivLater (a b : Int × Int) : Int × Int := if fless a.1 a.2 b.1 b.2 = true then b else a

def ivEarlier (a b : Int × Int) : Int × Int := if a.2 < 1 ∨ fless b.1 b.2 a.1 a.2 = true then b else a

def ivShared (i o : Iv) : Iv := (ivLater i.1 o.1, ivEarlier i.2 o.2)

def ivEmpty (i : Iv) : Bool := fless i.2.1 i.2.2 i.1.1 i.1.2

def btw (lo hi way : Int) : Iv := if way = 0 then (if 0 < lo ∨ hi < 0 then ((1, 1), (0, 1)) else ((0, 1), (0, 0))) else if way < 0 then ((-hi, -way), (-lo, -way)) else ((lo, way), (hi, way))

/-- p / q lies in it. -/
def Inn (i : Iv) (p q : Int) : Prop := i.1.1 * q ≤ p * i.1.2 ∧ (1 ≤ i.2.2 → p * i.2.2 ≤ i.2.1 * q)

def ivInts (i : Iv) : Prop := I64 i.1.1 ∧ I64 i.1.2 ∧ I64 i.2.1 ∧ I64 i.2.2

def iv4 (i : Iv) : Array Value := #[.int .i64 i.1.1, .int .i64 i.1.2, .int .i64 i.2.1, .int .i64 i.2.2]

/-- What is left behind some axes. -/
def ivFold (i : Iv) (l : List Iv) : Iv := l.foldl ivShared i

/-- The three axes' intervals. -/
def ivs (b : Bx) (o d : T3) : List Iv := [btw (b.1.1 - o.1) (b.2.1 - o.1) d.1, btw (b.1.2.1 - o.2.1) (b.2.2.1 - o.2.1) d.2.1, btw (b.1.2.2 - o.2.2) (b.2.2.2 - o.2.2) d.2.2]

end

end
end Go.Proofs.Sky
