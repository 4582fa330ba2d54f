/- Words for memory: three numbers in a row. Imports nothing of the translation. -/
import Derived.Test.YtfdolgdfadipeaaMem02
import Derived.Test.YtfdolgdfadipeaaBw
import Derived.Test.YtfdolgdfadipeaaRow
namespace Go.Proofs.Sky
open Go.RowKit
set_option linter.unusedVariables false

/-- A block of three cells, all of them written. -/
theorem Bk.put3 {w : World} {g : Nat} {t : TypeId} {a b c : Value} (h : Bk w g t #[a, b, c]) (u v x : Value) :
    (((w.setCell ⟨g, 0, none⟩ u).setCell ⟨g, 1, none⟩ v).setCell ⟨g, 2, none⟩ x).cell? ⟨g, 0, none⟩ = some u ∧
    (((w.setCell ⟨g, 0, none⟩ u).setCell ⟨g, 1, none⟩ v).setCell ⟨g, 2, none⟩ x).cell? ⟨g, 1, none⟩ = some v ∧
    (((w.setCell ⟨g, 0, none⟩ u).setCell ⟨g, 1, none⟩ v).setCell ⟨g, 2, none⟩ x).cell? ⟨g, 2, none⟩ = some x ∧
    Bk (((w.setCell ⟨g, 0, none⟩ u).setCell ⟨g, 1, none⟩ v).setCell ⟨g, 2, none⟩ x) g t #[u, v, x] := by
  have k : Bk (((w.setCell ⟨g, 0, none⟩ u).setCell ⟨g, 1, none⟩ v).setCell ⟨g, 2, none⟩ x) g t #[u, v, x] := ((h.set 0 u).set 1 v).set 2 x
  exact ⟨k.cell rfl, k.cell rfl, k.cell rfl, k⟩
/-- The three cells of a block that lay in W, in every later world. -/
theorem bw_bk3 {W : World} {g : Nat} {t : TypeId} {a b c : Value} (h : Bk W g t #[a, b, c]) :
    (∀ p : BW W, p.w.cell? ⟨g, 0, none⟩ = some a) ∧ (∀ p : BW W, p.w.cell? ⟨g, 1, none⟩ = some b) ∧ (∀ p : BW W, p.w.cell? ⟨g, 2, none⟩ = some c) :=
  ⟨bw_cell (h.cell rfl), bw_cell (h.cell rfl), bw_cell (h.cell rfl)⟩
theorem bw_drew {wb : World} (q : BW wb) : ∃ r : BW wb, r.w = q.w.drew := ⟨q.next q.w.drew ⟨rfl, rfl, rfl, Nat.le_refl _, fun _ _ => rfl⟩, rfl⟩
theorem bw_take {wb w1 : World} {p : BW wb} (hb : Below p.w.heap.size p.w w1) : ∃ q : BW wb, w1 = q.w := ⟨p.next w1 hb, rfl⟩
theorem bw_take_drew {wb w1 : World} {p : BW wb} (hb : Below p.w.drew.heap.size p.w.drew w1) : ∃ q : BW wb, w1 = q.w := ⟨p.next w1 ⟨hb.os, hb.tape, hb.output, hb.size, hb.block⟩, rfl⟩

end Go.Proofs.Sky
