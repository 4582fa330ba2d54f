/- Contracts of package wide's small functions: halves, and their sums. Contracts of package frac (all but Least). Plain mathematics of layer 3: the least one of a row of fractions. Contracts of the document's own answers of layer 5 (skylightref05). Contract of the document's own Steps (layer 5). Rows that a call makes, and blocks beside them. Imports nothing of the translation. Plain mathematics of layer 8: poses. Imports nothing of the translation. Plain mathematics of layer 8: poses of quarter turns and moves. Imports nothing of the translation. Plain mathematics of layer 13: things, their boxes, and what rays meet. Imports nothing of the translation. Plain mathematics of layer 14: hits, and the first of them. Imports nothing of the translation. Rows of things, and of hits. -/
import Derived.Test.YtneacfhoinaeeaaMc13
import Derived.Test.YtneacfhoinaeeaaMc5
import Derived.Handy
import Derived.Deep.RegionHeld3
import Derived.Deep.QuietTactic
import Derived.BigQuiet
import Derived.Deep.Draws
import Derived.Deep.DrawnRows
import Derived.Laws.Externs
import Derived.Deep.DeepCutAuto
import Derived.StillTailTactics
import Derived.Test.YtneacfhoinaeeaaMc6
import Derived.Test.YtneacfhoinaeeaaMc14
import Derived.Test.YtneacfhoinaeeaaMc12
import Derived.Laws.AppendOwn
import Derived.RangeFuncBox
import Derived.Test.YtneacfhoinaeeaaMc16
import Derived.Test.YtneacfhoinaeeaaMc18
import Derived.Test.YtneacfhoinaeeaaMc15


namespace Go.Proofs.Ytneacfhoinaeeaa
section

open Go.RowKit Go.Proofs.Sky

set_option linter.unusedVariables false

attribute [local go_sem ↓] Go.wp_at_zero Go.wp_at_succ

end
end Go.Proofs.Ytneacfhoinaeeaa

namespace Go.Proofs.Ytneacfhoinaeeaa
section

open Go.RowKit Go.Proofs.Sky

set_option linter.unusedVariables false

attribute [local go_sem ↓] Go.wp_at_zero Go.wp_at_succ

end
end Go.Proofs.Ytneacfhoinaeeaa

namespace Go.Proofs.Sky
section

open Go.RowKit

set_option linter.unusedVariables false

/-- The better of two places of a row. -/
def pk (N D : Nat → Int) (m x : Nat) : Nat := if N x * D m < N m * D x then x else m

/-- The best of places f 0 to f k, the first of equals. -/
def mnf (N D : Nat → Int) (f : Nat → Nat) : Nat → Nat
  | 0 => f 0
  | k + 1 => pk N D (mnf N D f k) (f (k + 1))

/-- The first of the least fractions that may be, among the places below k; -1: none may be. -/
def lst (N D : Nat → Int) : Nat → Int
  | 0 => -1
  | k + 1 => if 1 ≤ D k ∧ (lst N D k < 0 ∨ N k * D (lst N D k).toNat < N (lst N D k).toNat * D k) then (k : Int) else lst N D k

/-- The places, as they come. -/
def vpN (D : Nat → Int) (k : Nat) : List Nat := (List.range k).filter (fun i : Nat => decide (1 ≤ D i))

end
end Go.Proofs.Sky

namespace Go.Proofs.Ytneacfhoinaeeaa
section

open Go.RowKit Go.Proofs.Sky

set_option linter.unusedVariables false

end
end Go.Proofs.Ytneacfhoinaeeaa

namespace Go.Proofs.Ytneacfhoinaeeaa
section

open Go.RowKit Go.Proofs.Sky

set_option linter.unusedVariables false

def stepN (n : Int) : Nat := if n ≤ 1024 then n.toNat else 0

def stepAt (n : Int) (i : Nat) : List Value := [.int .i64 (cosI ((i : Int) * 65536 / n)), .int .i64 (sinI ((i : Int) * 65536 / n))]

def stepCells (n : Int) (k : Nat) : List Value := (List.range k).flatMap (stepAt n)

theorem pair_info : (Try.prog.info? 62).map (fun i => (i.zero, i.size, i.bytes)) = some (some (.agg #[.int .i64 0, .int .i64 0]), 2, 16) := by kernel_rfl

end
end Go.Proofs.Ytneacfhoinaeeaa

namespace Go.Proofs.Sky
section

open Go.RowKit

set_option linter.unusedVariables false

/-- A block that is no part of a row that grows lies as it lay. -/
theorem Bk.grown {w w' : World} {b : Nat} {t : TypeId} {cs : Array Value} {row : Option Nat} (h : Bk w b t cs) (hg : w.grownBy w' row) (hne : some b ≠ row) : Bk w' b t cs := (hg.block b h.lt hne).trans h

theorem owns_below {w w' : World} {B : Nat} {e : TypeId} {size n : Nat} {v : Value} {xs : List Value} (h : w.ownsRow B e size v n xs) (hb : Below w.heap.size w w') : w'.ownsRow B e size v n xs := by
  obtain ⟨hl, h⟩ := h
  refine ⟨hl, ?_⟩
  rcases h with h | ⟨g, cap, cur, e1, hB, hg, rest⟩
  · exact .inl h
  · have hlt := (Array.getElem?_eq_some_iff.1 hg).1
    exact .inr ⟨g, cap, cur, e1, hB, (hb.block g hlt).trans hg, rest⟩

theorem owns_mono {w : World} {B C : Nat} {e : TypeId} {size n : Nat} {v : Value} {xs : List Value} (h : w.ownsRow B e size v n xs) (hC : C ≤ B) : w.ownsRow C e size v n xs := by
  obtain ⟨hl, h⟩ := h
  refine ⟨hl, ?_⟩
  rcases h with h | ⟨g, cap, cur, e1, hB, rest⟩
  · exact .inl h
  · exact .inr ⟨g, cap, cur, e1, by omega, rest⟩

end
end Go.Proofs.Sky

namespace Go.Proofs.Sky
section

open Go.RowKit

set_option linter.unusedVariables false

abbrev P4 := T3 × T3 × T3 × T3

def qRight (p : P4) : Bool := nrT p.1 && (nrT p.2.1 && (nrT p.2.2.1 && nrT p.2.2.2))

def pRow (r v : T3) : Int := vdot r.1 r.2.1 r.2.2 v.1 v.2.1 v.2.2 / 16384

def pPut (p : P4) (v : T3) : T3 := if qRight p = true ∧ nrT v = true then (pRow p.1 v + p.2.2.2.1, pRow p.2.1 v + p.2.2.2.2.1, pRow p.2.2.1 v + p.2.2.2.2.2) else (0, 0, 0)

def pRows (r : T3) (a : P4) : T3 := (pRow r (a.1.1, a.2.1.1, a.2.2.1.1), pRow r (a.1.2.1, a.2.1.2.1, a.2.2.1.2.1), pRow r (a.1.2.2, a.2.1.2.2, a.2.2.1.2.2))

def pThen (a b : P4) : P4 := if qRight a = true ∧ qRight b = true then (pRows b.1 a, pRows b.2.1 a, pRows b.2.2.1 a, pPut b a.2.2.2) else ((0, 0, 0), (0, 0, 0), (0, 0, 0), (0, 0, 0))

def pNone (k : Int) : P4 := ((k, 0, 0), (0, k, 0), (0, 0, k), (0, 0, 0))

def pTurned (axis h : Int) : P4 :=
  if axis = 0 then ((16384, 0, 0), (0, cosI h, -sinI h), (0, sinI h, cosI h), (0, 0, 0))
  else if axis = 1 then ((cosI h, 0, sinI h), (0, 16384, 0), (-sinI h, 0, cosI h), (0, 0, 0))
  else if axis = 2 then ((cosI h, -sinI h, 0), (sinI h, cosI h, 0), (0, 0, 16384), (0, 0, 0)) else pNone 16384

def pSized (n d : Int) : P4 := if 1 ≤ n ∧ 1 ≤ d ∧ n ≤ 64 ∧ d ≤ 64 then pNone (16384 * n / d) else pNone 16384

def pMoved (v : T3) : P4 := if nrT v = true then ((16384, 0, 0), (0, 16384, 0), (0, 0, 16384), v) else pNone 16384

/-- A pose, as twelve numbers. -/
def p12 (p : P4) : Array Value := #[.int .i64 p.1.1, .int .i64 p.1.2.1, .int .i64 p.1.2.2, .int .i64 p.2.1.1, .int .i64 p.2.1.2.1, .int .i64 p.2.1.2.2, .int .i64 p.2.2.1.1, .int .i64 p.2.2.1.2.1, .int .i64 p.2.2.1.2.2, .int .i64 p.2.2.2.1, .int .i64 p.2.2.2.2.1, .int .i64 p.2.2.2.2.2]

theorem pRow_small (r v : T3) : -201326592 ≤ pRow r v ∧ pRow r v ≤ 201326592 := by
  unfold pRow
  have : -3298534883328 ≤ vdot r.1 r.2.1 r.2.2 v.1 v.2.1 v.2.2 ∧ vdot r.1 r.2.1 r.2.2 v.1 v.2.1 v.2.2 ≤ 3298534883328 := by
    unfold vdot
    split
    · rename_i h
      obtain ⟨h1, h2⟩ := h
      rw [vnear_iff] at h1 h2
      have p := near_mul (x := r.1) (a := v.1) (by omega) (by omega)
      have q := near_mul (x := r.2.1) (a := v.2.1) (by omega) (by omega)
      have s := near_mul (x := r.2.2) (a := v.2.2) (by omega) (by omega)
      omega
    · omega
  omega

end
end Go.Proofs.Sky

namespace Go.Proofs.Sky
section

open Go.RowKit

set_option linter.unusedVariables false

/-- A row of a quarter turn: one coordinate is 1 or -1, the others are 0. -/
def rs (r : T3) : Prop := r = (1, 0, 0) ∨ r = (-1, 0, 0) ∨ r = (0, 1, 0) ∨ r = (0, -1, 0) ∨ r = (0, 0, 1) ∨ r = (0, 0, -1)

def in3 (B : Int) (v : T3) : Prop := (-B ≤ v.1 ∧ v.1 ≤ B) ∧ (-B ≤ v.2.1 ∧ v.2.1 ≤ B) ∧ (-B ≤ v.2.2 ∧ v.2.2 ≤ B)

def s3 (k : Int) (v : T3) : T3 := (k * v.1, k * v.2.1, k * v.2.2)

/-- A pose of quarter turns and moves, rows of ones. -/
def up (m : P4) : P4 := (s3 16384 m.1, s3 16384 m.2.1, s3 16384 m.2.2.1, m.2.2.2)

def ap (m : P4) (v : T3) : T3 := (dtT m.1 v + m.2.2.2.1, dtT m.2.1 v + m.2.2.2.2.1, dtT m.2.2.1 v + m.2.2.2.2.2)

def rowm (r : T3) (a : P4) : T3 := (dtT r (a.1.1, a.2.1.1, a.2.2.1.1), dtT r (a.1.2.1, a.2.1.2.1, a.2.2.1.2.1), dtT r (a.1.2.2, a.2.1.2.2, a.2.2.1.2.2))

def tn (a b : P4) : P4 := (rowm b.1 a, rowm b.2.1 a, rowm b.2.2.1 a, ap b a.2.2.2)

def qs (m : P4) (B : Int) : Prop := rs m.1 ∧ rs m.2.1 ∧ rs m.2.2.1 ∧ in3 B m.2.2.2

def qNone : P4 := ((1, 0, 0), (0, 1, 0), (0, 0, 1), (0, 0, 0))

def qMove (v : T3) : P4 := ((1, 0, 0), (0, 1, 0), (0, 0, 1), v)

end
end Go.Proofs.Sky

namespace Go.Proofs.Sky
section

open Go.RowKit

set_option linter.unusedVariables false

structure Pr where
  k : Int
  a : T3
  b : T3
  c : T3
  r : Int
  m : Int

def tri3 (a b c : T3) : Nat → T3 := fun i => if i = 0 then a else if i = 1 then b else c

def pRight (p : Pr) : Bool := decide (0 ≤ p.m ∧ p.m ≤ 63) && (if p.k = 1 then !tFlat p.a p.b p.c && decide (p.r = 0) else decide (p.k = 2) && (ballR p.a p.r && (isZ p.b && isZ p.c)))

def ballB (a : T3) (r : Int) : Bx := ((a.1 - r, a.2.1 - r, a.2.2 - r), (a.1 + r, a.2.1 + r, a.2.2 + r))

def pBox (p : Pr) : Bx := if pRight p = true then (if p.k = 1 then bOf (tri3 p.a p.b p.c) 3 else ballB p.a p.r) else ((0, 0, 0), (0, 0, 0))

def pHit (p : Pr) (ix : Int) (o d : T3) (fr : Int) : (Int × Int) × Bool :=
  if pRight p = true then (if p.k = 1 then (if fr = ix then ((0, 0), false) else tHit p.a p.b p.c o d) else if fr = ix then ballT p.a p.r o d else ballH p.a p.r o d) else ((0, 0), false)

def pNormal (p : Pr) (t : T3) : T3 := if pRight p = true then (if p.k = 2 then ballN p.a t else (tNorm p.a p.b p.c).1) else (0, 0, 0)

def pArea (p : Pr) : Int := if pRight p = true ∧ ¬ p.k = 2 then tArea p.a p.b p.c else 0

def pPoint (p : Pr) (u v : Int) : T3 := if pRight p = true then (if p.k = 2 then p.a else tAt p.a p.b p.c u v) else (0, 0, 0)

def Pr.I (p : Pr) : Prop := I64 p.k ∧ I3 p.a ∧ I3 p.b ∧ I3 p.c ∧ I64 p.r ∧ I64 p.m

theorem pRight_tri {p : Pr} (h : pRight p = true) (hk : p.k = 1) : pl3 p.a p.b p.c = true ∧ isZ (upsT p.a p.b p.c) = false := by
  unfold pRight at h
  rw [if_pos hk] at h
  unfold tFlat at h
  simp only [Bool.and_eq_true, Bool.not_eq_true', Bool.or_eq_false_iff, Bool.not_eq_false'] at h
  exact h.2.1

end
end Go.Proofs.Sky

namespace Go.Proofs.Sky
section

open Go.RowKit

set_option linter.unusedVariables false

abbrev H3 := Int × Int × Int

def hb (a b : H3) : Bool := fless a.2.1 a.2.2 b.2.1 b.2.2 || (fsame a.2.1 a.2.2 b.2.1 b.2.2 && decide (a.1 < b.1))

def hitAt (p : Pr) (i : Nat) (o d : T3) (fr : Int) : List H3 := if (pHit p i o d fr).2 = true then [((i : Int), (pHit p i o d fr).1)] else []

def hUp (P : Nat → Pr) (k : Nat) (o d : T3) (fr : Int) : List H3 := (List.range k).flatMap (fun i => hitAt (P i) i o d fr)

def hBest (l : List H3) (x : H3) : Bool := l.all (fun y => !hb y x)

def hFirst (l : List H3) : H3 × Bool := match l.find? (hBest l) with | some x => (x, true) | none => ((0, 0, 0), false)

def hClosest (P : Nat → Pr) (n : Nat) (o d : T3) (fr : Int) : H3 × Bool := hFirst (hUp P n o d fr)

def hAny (P : Nat → Pr) (n : Nat) (o d : T3) (fr m e : Int) : Bool := (hUp P n o d fr).any (fun h => !decide (1 ≤ e) || fless h.2.1 h.2.2 m e)

def hSel (h : H3) (Z : Nat → Int) (n : Nat) : List H3 := (List.range n).flatMap (fun k => if Z k = h.1 then [h] else [])

def hSome (l : List H3) (Z : Nat → Int) (n : Nat) : List H3 := l.flatMap (fun h => hSel h Z n)

def hAmong (P : Nat → Pr) (n : Nat) (Z : Nat → Int) (m : Nat) (o d : T3) (fr : Int) : H3 × Bool := hFirst (hSome (hUp P n o d fr) Z m)

/-- A hit that may be. -/
def Hok (a : H3) : Prop := 1 ≤ a.2.1 ∧ 1 ≤ a.2.2

end
end Go.Proofs.Sky

namespace Go.Proofs.Ytneacfhoinaeeaa
section

open Go.RowKit Go.Proofs.Sky

set_option linter.unusedVariables false

def pcells (p : Pr) : List Value := [.int .i64 p.k, .int .i64 p.a.1, .int .i64 p.a.2.1, .int .i64 p.a.2.2, .int .i64 p.b.1, .int .i64 p.b.2.1, .int .i64 p.b.2.2, .int .i64 p.c.1, .int .i64 p.c.2.1, .int .i64 p.c.2.2, .int .i64 p.r, .int .i64 p.m]

def hcells (h : H3) : List Value := [.int .i64 h.1, .int .i64 h.2.1, .int .i64 h.2.2]

/-- A slice of things. -/
def Prims (w : World) (v : Value) (n : Nat) (P : Nat → Pr) : Prop := Sl w v n 12 (fun i => pcells (P i)) ∧ ∀ i, i < n → (P i).I

theorem Prims.below {w w' : World} {B : Nat} {v : Value} {n : Nat} {P : Nat → Pr} (h : Prims w v n P) (hb : Below B w w') (hB : w.heap.size ≤ B) : Prims w' v n P := ⟨h.1.below hb hB, h.2⟩

/-- A slice of hits. -/
def Hits (w : World) (v : Value) (l : List H3) : Prop := Sll w v 3 hcells l

end
end Go.Proofs.Ytneacfhoinaeeaa
