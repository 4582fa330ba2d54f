/- Words for memory: three blocks of two cells of a call's own, behind a call that makes memory. -/
import Derived.Test.YtapflinfkjoinaaMem02
namespace Go.Proofs.Sky
open Go.RowKit
set_option linter.unusedVariables false

/-- In W: nothing that lay in w has turned; blocks g0, g1, g2 hold these. -/
structure Six (w W : World) (g0 g1 g2 : Nat) (a b c d e f : Value) : Prop where
  h : Below w.heap.size w W
  l0 : g0 < W.heap.size
  l1 : g1 < W.heap.size
  l2 : g2 < W.heap.size
  c0 : W.cell? ⟨g0, 0, none⟩ = some a
  c1 : W.cell? ⟨g0, 1, none⟩ = some b
  c2 : W.cell? ⟨g1, 0, none⟩ = some c
  c3 : W.cell? ⟨g1, 1, none⟩ = some d
  c4 : W.cell? ⟨g2, 0, none⟩ = some e
  c5 : W.cell? ⟨g2, 1, none⟩ = some f
theorem Six.below {w W w1 : World} {g0 g1 g2 : Nat} {a b c d e f : Value} (s : Six w W g0 g1 g2 a b c d e f) (hb : Below W.heap.size W w1) : Six w w1 g0 g1 g2 a b c d e f :=
  ⟨s.h.trans (hb.mono s.h.size), Nat.lt_of_lt_of_le s.l0 hb.size, Nat.lt_of_lt_of_le s.l1 hb.size, Nat.lt_of_lt_of_le s.l2 hb.size,
   (hb.cell (p := ⟨g0, 0, none⟩) s.l0).trans s.c0, (hb.cell (p := ⟨g0, 1, none⟩) s.l0).trans s.c1, (hb.cell (p := ⟨g1, 0, none⟩) s.l1).trans s.c2, (hb.cell (p := ⟨g1, 1, none⟩) s.l1).trans s.c3,
   (hb.cell (p := ⟨g2, 0, none⟩) s.l2).trans s.c4, (hb.cell (p := ⟨g2, 1, none⟩) s.l2).trans s.c5⟩
theorem keep6e {w W w1 : World} {g0 g1 g2 : Nat} {a b c d e f : Value} {C : Prop} (hb : Below W.heap.size W w1) (s : Six w W g0 g1 g2 a b c d e f)
    (K : Below w.heap.size w w1 → g0 < w1.heap.size → g1 < w1.heap.size → g2 < w1.heap.size → w1.cell? ⟨g0, 0, none⟩ = some a → w1.cell? ⟨g0, 1, none⟩ = some b → w1.cell? ⟨g1, 0, none⟩ = some c → w1.cell? ⟨g1, 1, none⟩ = some d →
      w1.cell? ⟨g2, 0, none⟩ = some e → w1.cell? ⟨g2, 1, none⟩ = some f → C) : C := by
  have t := s.below hb
  exact K t.h t.l0 t.l1 t.l2 t.c0 t.c1 t.c2 t.c3 t.c4 t.c5

end Go.Proofs.Sky
