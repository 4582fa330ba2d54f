/- Rows of vectors. -/
import Derived.Test.YtfdolgdfadipeaaMem06
import Derived.Test.YtfdolgdfadipeaaMath07
namespace Go.Proofs.Ytfdolgdfadipeaa
open Go.RowKit Go.Proofs.Sky
set_option linter.unusedVariables false

/-- From cell off of block b on lie n vectors. -/
def VcRow (w : World) (b off n : Nat) (V : Nat → T3) : Prop :=
  ∀ i, i < n → w.cell? ⟨b, off + i * 3, none⟩ = some (.int .i64 (V i).1) ∧ w.cell? ⟨b, off + i * 3 + 1, none⟩ = some (.int .i64 (V i).2.1) ∧ w.cell? ⟨b, off + i * 3 + 2, none⟩ = some (.int .i64 (V i).2.2)
def vcells (v : T3) : List Value := [.int .i64 v.1, .int .i64 v.2.1, .int .i64 v.2.2]
theorem VcRow.below {w w' : World} {b off n : Nat} {V : Nat → T3} (h : VcRow w b off n V) (hb : Below w.heap.size w w') (hl : b < w.heap.size) : VcRow w' b off n V := fun i hi => by
  obtain ⟨h1, h2, h3⟩ := h i hi
  exact ⟨(hb.cell (p := ⟨b, off + i * 3, none⟩) hl).trans h1, (hb.cell (p := ⟨b, off + i * 3 + 1, none⟩) hl).trans h2, (hb.cell (p := ⟨b, off + i * 3 + 2, none⟩) hl).trans h3⟩

end Go.Proofs.Ytfdolgdfadipeaa
