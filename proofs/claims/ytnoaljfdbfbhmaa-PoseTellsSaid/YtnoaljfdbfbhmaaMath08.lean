/- Plain mathematics of layer 8: poses. Imports nothing of the translation. -/
import Derived.Test.YtnoaljfdbfbhmaaMathb07
import Derived.Test.YtnoaljfdbfbhmaaMath05
namespace Go.Proofs.Sky
open Go.RowKit
set_option linter.unusedVariables false

abbrev P4 := T3 × T3 × T3 × T3
def pRight (p : P4) : Bool := nrT p.1 && (nrT p.2.1 && (nrT p.2.2.1 && nrT p.2.2.2))
def pRow (r v : T3) : Int := vdot r.1 r.2.1 r.2.2 v.1 v.2.1 v.2.2 / 16384
def pPut (p : P4) (v : T3) : T3 := if pRight p = true ∧ nrT v = true then (pRow p.1 v + p.2.2.2.1, pRow p.2.1 v + p.2.2.2.2.1, pRow p.2.2.1 v + p.2.2.2.2.2) else (0, 0, 0)
def pRows (r : T3) (a : P4) : T3 := (pRow r (a.1.1, a.2.1.1, a.2.2.1.1), pRow r (a.1.2.1, a.2.1.2.1, a.2.2.1.2.1), pRow r (a.1.2.2, a.2.1.2.2, a.2.2.1.2.2))
def pThen (a b : P4) : P4 := if pRight a = true ∧ pRight b = true then (pRows b.1 a, pRows b.2.1 a, pRows b.2.2.1 a, pPut b a.2.2.2) else ((0, 0, 0), (0, 0, 0), (0, 0, 0), (0, 0, 0))
def pNone (k : Int) : P4 := ((k, 0, 0), (0, k, 0), (0, 0, k), (0, 0, 0))
def pTurned (axis h : Int) : P4 :=
  if axis = 0 then ((16384, 0, 0), (0, cosI h, -sinI h), (0, sinI h, cosI h), (0, 0, 0))
  else if axis = 1 then ((cosI h, 0, sinI h), (0, 16384, 0), (-sinI h, 0, cosI h), (0, 0, 0))
  else if axis = 2 then ((cosI h, -sinI h, 0), (sinI h, cosI h, 0), (0, 0, 16384), (0, 0, 0)) else pNone 16384
def pSized (n d : Int) : P4 := if 1 ≤ n ∧ 1 ≤ d ∧ n ≤ 64 ∧ d ≤ 64 then pNone (16384 * n / d) else pNone 16384
def pMoved (v : T3) : P4 := if nrT v = true then ((16384, 0, 0), (0, 16384, 0), (0, 0, 16384), v) else pNone 16384
/-- A pose, as twelve numbers. -/
def p12 (p : P4) : Array Value := #[.int .i64 p.1.1, .int .i64 p.1.2.1, .int .i64 p.1.2.2, .int .i64 p.2.1.1, .int .i64 p.2.1.2.1, .int .i64 p.2.1.2.2, .int .i64 p.2.2.1.1, .int .i64 p.2.2.1.2.1, .int .i64 p.2.2.1.2.2, .int .i64 p.2.2.2.1, .int .i64 p.2.2.2.2.1, .int .i64 p.2.2.2.2.2]
theorem pRow_small (r v : T3) : -201326592 ≤ pRow r v ∧ pRow r v ≤ 201326592 := by
  unfold pRow
  have : -3298534883328 ≤ vdot r.1 r.2.1 r.2.2 v.1 v.2.1 v.2.2 ∧ vdot r.1 r.2.1 r.2.2 v.1 v.2.1 v.2.2 ≤ 3298534883328 := by
    unfold vdot
    split
    · rename_i h
      obtain ⟨h1, h2⟩ := h
      rw [vnear_iff] at h1 h2
      have p := near_mul (x := r.1) (a := v.1) (by omega) (by omega)
      have q := near_mul (x := r.2.1) (a := v.2.1) (by omega) (by omega)
      have s := near_mul (x := r.2.2) (a := v.2.2) (by omega) (by omega)
      omega
    · omega
  omega

end Go.Proofs.Sky
