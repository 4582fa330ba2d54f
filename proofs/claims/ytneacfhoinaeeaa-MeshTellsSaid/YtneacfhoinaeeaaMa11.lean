/- Plain mathematics of layer 8: poses. Imports nothing of the translation. Plain mathematics of layer 12: balls, and what rays meet. Imports nothing of the translation. Plain mathematics of layer 12: a direction goes ahead of what it is of; through a ball's middle. Imports nothing of the translation. Plain mathematics of layer 13: things, their boxes, and what rays meet. Imports nothing of the translation. Plain mathematics of layer 15: bins of boxes, groups of boxes, what a split costs, and the best split. Imports nothing of the translation. -/
import Derived.Test.YtneacfhoinaeeaaMa10
import Derived.Test.YtneacfhoinaeeaaMa2


namespace Go.Proofs.Sky
section

open Go.RowKit

set_option linter.unusedVariables false

abbrev P4 := T3 × T3 × T3 × T3

def qRight (p : P4) : Bool := nrT p.1 && (nrT p.2.1 && (nrT p.2.2.1 && nrT p.2.2.2))

def pRow (r v : T3) : Int := vdot r.1 r.2.1 r.2.2 v.1 v.2.1 v.2.2 / 16384

def pPut (p : P4) (v : T3) : T3 := if qRight p = true ∧ nrT v = true then (pRow p.1 v + p.2.2.2.1, pRow p.2.1 v + p.2.2.2.2.1, pRow p.2.2.1 v + p.2.2.2.2.2) else (0, 0, 0)

def pRows (r : T3) (a : P4) : T3 := (pRow r (a.1.1, a.2.1.1, a.2.2.1.1), pRow r (a.1.2.1, a.2.1.2.1, a.2.2.1.2.1), pRow r (a.1.2.2, a.2.1.2.2, a.2.2.1.2.2))

def pThen (a b : P4) : P4 := if qRight a = true ∧ qRight b = true then (pRows b.1 a, pRows b.2.1 a, pRows b.2.2.1 a, pPut b a.2.2.2) else ((0, 0, 0), (0, 0, 0), (0, 0, 0), (0, 0, 0))

def pNone (k : Int) : P4 := ((k, 0, 0), (0, k, 0), (0, 0, k), (0, 0, 0))

def pTurned (axis h : Int) : P4 :=
  if axis = 0 then ((16384, 0, 0), (0, cosI h, -sinI h), (0, sinI h, cosI h), (0, 0, 0))
  else if axis = 1 then ((cosI h, 0, sinI h), (0, 16384, 0), (-sinI h, 0, cosI h), (0, 0, 0))
  else if axis = 2 then ((cosI h, -sinI h, 0), (sinI h, cosI h, 0), (0, 0, 16384), (0, 0, 0)) else pNone 16384

def pSized (n d : Int) : P4 := if 1 ≤ n ∧ 1 ≤ d ∧ n ≤ 64 ∧ d ≤ 64 then pNone (16384 * n / d) else pNone 16384

def pMoved (v : T3) : P4 := if nrT v = true then ((16384, 0, 0), (0, 16384, 0), (0, 0, 16384), v) else pNone 16384

/-- A pose, as twelve numbers. -/
def p12 (p : P4) : Array Value := #[.int .i64 p.1.1, .int .i64 p.1.2.1, .int .i64 p.1.2.2, .int .i64 p.2.1.1, .int .i64 p.2.1.2.1, .int .i64 p.2.1.2.2, .int .i64 p.2.2.1.1, .int .i64 p.2.2.1.2.1, .int .i64 p.2.2.1.2.2, .int .i64 p.2.2.2.1, .int .i64 p.2.2.2.2.1, .int .i64 p.2.2.2.2.2]

theorem pRow_small (r v : T3) : -201326592 ≤ pRow r v ∧ pRow r v ≤ 201326592 := by
  unfold pRow
  have : -3298534883328 ≤ vdot r.1 r.2.1 r.2.2 v.1 v.2.1 v.2.2 ∧ vdot r.1 r.2.1 r.2.2 v.1 v.2.1 v.2.2 ≤ 3298534883328 := by
    unfold vdot
    split
    · rename_i h
      obtain ⟨h1, h2⟩ := h
      rw [vnear_iff] at h1 h2
      have p := near_mul (x := r.1) (a := v.1) (by omega) (by omega)
      have q := near_mul (x := r.2.1) (a := v.2.1) (by omega) (by omega)
      have s := near_mul (x := r.2.2) (a := v.2.2) (by omega) (by omega)
      omega
    · omega
  omega

end
end Go.Proofs.Sky

namespace Go.Proofs.Sky
section

section

open Go.RowKit

set_option linter.unusedVariables false

def ballR (c : T3) (r : Int) : Bool := plc c && decide (4 ≤ r ∧ r ≤ 262144)

def ballM (c : T3) (r : Int) (o d : T3) : Bool := ballR c r && (plc o && (nrT d && !isZ d))

def ballQ (c : T3) (r : Int) (o : T3) : Int := dtT (sbT o c) (sbT o c) - r * r

def ballD (c : T3) (r : Int) (o d : T3) : Int := dtT (sbT o c) d * dtT (sbT o c) d - dtT d d * ballQ c r o

def ballS (c : T3) (r : Int) (o d : T3) : Int := (isq (ballD c r o d).toNat : Int)

def ballF (a b q s : Int) : (Int × Int) × Bool := if 0 < q ∧ b < 0 then ((-b - s, a), true) else if q ≤ 0 ∧ 0 < s - b then ((s - b, a), true) else ((0, 0), false)

def ballH (c : T3) (r : Int) (o d : T3) : (Int × Int) × Bool :=
  if ballM c r o d = true ∧ 0 ≤ ballD c r o d then ballF (dtT d d) (dtT (sbT o c) d) (ballQ c r o) (ballS c r o d) else ((0, 0), false)

def ballT (c : T3) (r : Int) (o d : T3) : (Int × Int) × Bool :=
  if ballM c r o d = true ∧ dtT (sbT o c) d < 0 then ((-2 * dtT (sbT o c) d, dtT d d), true) else ((0, 0), false)

def ballN (c t : T3) : T3 := if plc c = true ∧ plc t = true ∧ okT (sbT t c) = true then unT (sbT t c) else (0, 0, 16384)

def ballI (c : T3) (r : Int) (t : T3) : Bool := ballR c r && (plc t && decide (dtT (sbT t c) (sbT t c) ≤ r * r))

/-- A ball's equation at the place n by e of the way: how far outside, times e squared. -/
def ballV (a b q n e : Int) : Int := a * n * n + 2 * b * n * e + q * e * e

end

end
end Go.Proofs.Sky

namespace Go.Proofs.Sky
section

section

open Go.RowKit

set_option linter.unusedVariables false

/-- The same side: what is above 0 comes of what is above 0. -/
def Side (u d : Int) : Prop := (0 < u → 0 < d) ∧ (u < 0 → d < 0)

theorem Side.pos {u d : Int} (h : Side u d) (hu : ¬ u = 0) : 0 < u * d := by
  rcases Int.lt_or_gt_of_ne hu with g | g
  · have := h.2 g; rw [← Int.neg_mul_neg]; exact Int.mul_pos (by omega) (by omega)
  · have := h.1 g; exact Int.mul_pos (by omega) (by omega)

/-- What the ray meets, by its three numbers. -/
def ballG (a b z : Int) : (Int × Int) × Bool :=
  if 0 ≤ b * b - a * z ∧ 1 ≤ a then ballF a b z (isq (b * b - a * z).toNat : Int) else ((0, 0), false)

end

end
end Go.Proofs.Sky

namespace Go.Proofs.Sky
section

open Go.RowKit

set_option linter.unusedVariables false

structure Pr where
  k : Int
  a : T3
  b : T3
  c : T3
  r : Int
  m : Int

def tri3 (a b c : T3) : Nat → T3 := fun i => if i = 0 then a else if i = 1 then b else c

def pRight (p : Pr) : Bool := decide (0 ≤ p.m ∧ p.m ≤ 63) && (if p.k = 1 then !tFlat p.a p.b p.c && decide (p.r = 0) else decide (p.k = 2) && (ballR p.a p.r && (isZ p.b && isZ p.c)))

def ballB (a : T3) (r : Int) : Bx := ((a.1 - r, a.2.1 - r, a.2.2 - r), (a.1 + r, a.2.1 + r, a.2.2 + r))

def pBox (p : Pr) : Bx := if pRight p = true then (if p.k = 1 then bOf (tri3 p.a p.b p.c) 3 else ballB p.a p.r) else ((0, 0, 0), (0, 0, 0))

def pHit (p : Pr) (ix : Int) (o d : T3) (fr : Int) : (Int × Int) × Bool :=
  if pRight p = true then (if p.k = 1 then (if fr = ix then ((0, 0), false) else tHit p.a p.b p.c o d) else if fr = ix then ballT p.a p.r o d else ballH p.a p.r o d) else ((0, 0), false)

def pNormal (p : Pr) (t : T3) : T3 := if pRight p = true then (if p.k = 2 then ballN p.a t else (tNorm p.a p.b p.c).1) else (0, 0, 0)

def pArea (p : Pr) : Int := if pRight p = true ∧ ¬ p.k = 2 then tArea p.a p.b p.c else 0

def pPoint (p : Pr) (u v : Int) : T3 := if pRight p = true then (if p.k = 2 then p.a else tAt p.a p.b p.c u v) else (0, 0, 0)

def Pr.I (p : Pr) : Prop := I64 p.k ∧ I3 p.a ∧ I3 p.b ∧ I3 p.c ∧ I64 p.r ∧ I64 p.m

end
end Go.Proofs.Sky

namespace Go.Proofs.Sky
section

open Go.RowKit

set_option linter.unusedVariables false

/-- The bin of a box; -1 if there is none. -/
def bBin (b : Bx) (ax lo hi : Int) : Int :=
  if bRight b = true ∧ 0 ≤ ax ∧ ax ≤ 2 ∧ -2097152 ≤ lo ∧ hi ≤ 2097152 ∧ lo ≤ bMid b ax ∧ bMid b ax ≤ hi then (bMid b ax - lo) * 8 / (hi - lo + 1) else -1

def uJoin (a b : Bx) : Bx := ((min a.1.1 b.1.1, min a.1.2.1 b.1.2.1, min a.1.2.2 b.1.2.2), (max a.2.1 b.2.1, max a.2.2.1 b.2.2.1, max a.2.2.2 b.2.2.2))

/-- The least box around some boxes, and how many they are. -/
abbrev Gp := Bx × Nat

def g0 : Gp := (((0, 0, 0), (0, 0, 0)), 0)

def gW (g h : Gp) : Gp := if g.2 = 0 then h else if h.2 = 0 then g else (uJoin g.1 h.1, g.2 + h.2)

def gPut (p : Bx → Bool) (g : Gp) (b : Bx) : Gp := if p b = true then gW g (b, 1) else g

/-- Those of a list of which p holds. -/
def gL (p : Bx → Bool) (l : List Bx) : Gp := l.foldl (gPut p) g0

/-- The first n boxes. -/
def bls (V : Nat → Bx) (n : Nat) : List Bx := (List.range n).map V

def isL (ax lo hi : Int) (a : Int) (b : Bx) : Bool := decide (0 ≤ bBin b ax lo hi ∧ bBin b ax lo hi < a)

def isB (ax lo hi : Int) (a : Int) (b : Bx) : Bool := decide (bBin b ax lo hi = a)

def isR (ax lo hi : Int) (a : Int) (b : Bx) : Bool := decide (a ≤ bBin b ax lo hi)

def allBin (ax lo hi : Int) (l : List Bx) : Bool := l.all (fun b => decide (0 ≤ bBin b ax lo hi))

def gCost (g : Gp) : Int := bArea g.1 * g.2

def sOk (ax lo hi a : Int) (l : List Bx) : Bool := decide (l.length ≤ 1024) && (allBin ax lo hi l && (decide ((gL (isL ax lo hi a) l).2 ≠ 0) && decide ((gL (fun b => !isL ax lo hi a b) l).2 ≠ 0)))

def sVal (ax lo hi a : Int) (l : List Bx) : Int := gCost (gL (isL ax lo hi a) l) + gCost (gL (fun b => !isL ax lo hi a b) l)

def sCost (ax lo hi a : Int) (l : List Bx) : Int := if sOk ax lo hi a l = true then sVal ax lo hi a l else 0

/-- The least, the greatest middle of the first k + 1. -/
def mnAt (V : Nat → Bx) (ax : Int) : Nat → Int
  | 0 => bMid (V 0) ax
  | k + 1 => min (mnAt V ax k) (bMid (V k) ax)

def mxAt (V : Nat → Bx) (ax : Int) : Nat → Int
  | 0 => bMid (V 0) ax
  | k + 1 => max (mxAt V ax k) (bMid (V k) ax)

def mnV (V : Nat → Bx) (n : Nat) (ax : Int) : Int := if n = 0 then 0 else mnAt V ax n

def mxV (V : Nat → Bx) (n : Nat) (ax : Int) : Int := if n = 0 then 0 else mxAt V ax n

abbrev Sp := Int × Int × Int × Int

/-- The best split so far, what it costs, and whether there is one. -/
abbrev Bst := Sp × Int × Bool

def b0 : Bst := ((0, 0, 0, 0), 0, false)

def bTry (ok : Bool) (c : Int) (s : Sp) (st : Bst) : Bst := if ok = true ∧ (st.2.2 = false ∨ c < st.2.1) then (s, c, true) else st

/-- Behind the places 1 to k of one axis. -/
def bIn (ax lo hi : Int) (l : List Bx) (st : Bst) : Nat → Bst
  | 0 => st
  | k + 1 => bTry (sOk ax lo hi (k + 1 : Nat) l) (sVal ax lo hi (k + 1 : Nat) l) (ax, (k + 1 : Nat), lo, hi) (bIn ax lo hi l st k)

/-- Behind the first axes. -/
def bOut (V : Nat → Bx) (n : Nat) : Nat → Bst
  | 0 => b0
  | a + 1 => bIn (a : Int) (mnV V n a) (mxV V n a) (bls V n) (bOut V n a) 7

def allR (l : List Bx) : Bool := l.all bRight

def bestOk (V : Nat → Bx) (n : Nat) : Bool := decide (n ≤ 1024) && allR (bls V n)

def bBest (V : Nat → Bx) (n : Nat) : Sp × Bool := if bestOk V n = true then ((bOut V n 3).1, (bOut V n 3).2.2) else ((0, 0, 0, 0), false)

-- middles and bins

-- groups

/-- A group of boxes that may be. -/
def gOk (g : Gp) : Prop := g.2 = 0 ∨ bRight g.1 = true

-- areas

-- what a split costs

-- least and greatest middles

-- the best split

/-- A split that is the best one of its axis. -/
def Nice (V : Nat → Bx) (n : Nat) (st : Bst) (a top : Nat) : Prop :=
  ∃ k : Nat, k ≤ top ∧ st.1 = ((a : Int), (k : Int), mnV V n a, mxV V n a) ∧ st.2.2 = true ∧ sOk a (mnV V n a) (mxV V n a) k (bls V n) = true ∧ st.2.1 = sVal a (mnV V n a) (mxV V n a) k (bls V n) ∧
    ∀ j : Nat, 1 ≤ j → j ≤ top → sOk a (mnV V n a) (mxV V n a) j (bls V n) = true → ¬ (sVal a (mnV V n a) (mxV V n a) j (bls V n) < st.2.1) ∧ (sVal a (mnV V n a) (mxV V n a) j (bls V n) = st.2.1 → (k : Int) ≤ j)

-- another order

-- indices of those on a side

def ix (p : Bx → Bool) (V : Nat → Bx) (n : Nat) : List Nat := (List.range n).filter (fun k => p (V k))

/-- The box around the boxes at the first i + 1 of some places, the first one twice. -/
def around (V : Nat → Bx) (w : List Nat) : Nat → Bx
  | 0 => V (w.getD 0 0)
  | i + 1 => bJoin (around V w i) (V (w.getD i 0))

end
end Go.Proofs.Sky
