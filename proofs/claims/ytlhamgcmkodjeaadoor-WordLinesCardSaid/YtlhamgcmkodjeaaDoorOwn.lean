/- Rows that a call makes, and blocks beside them. Imports nothing of the translation. -/
import Derived.Test.YtlhamgcmkodjeaaDoorMem02
import Derived.Laws.AppendOwn
namespace Go.Proofs.Sky
open Go.RowKit
set_option linter.unusedVariables false

/-- A block that is no part of a row that grows lies as it lay. -/
theorem Bk.grown {w w' : World} {b : Nat} {t : TypeId} {cs : Array Value} {row : Option Nat} (h : Bk w b t cs) (hg : w.grownBy w' row) (hne : some b ≠ row) : Bk w' b t cs := (hg.block b h.lt hne).trans h

theorem owns_below {w w' : World} {B : Nat} {e : TypeId} {size n : Nat} {v : Value} {xs : List Value} (h : w.ownsRow B e size v n xs) (hb : Below w.heap.size w w') : w'.ownsRow B e size v n xs := by
  obtain ⟨hl, h⟩ := h
  refine ⟨hl, ?_⟩
  rcases h with h | ⟨g, cap, cur, e1, hB, hg, rest⟩
  · exact .inl h
  · have hlt := (Array.getElem?_eq_some_iff.1 hg).1
    exact .inr ⟨g, cap, cur, e1, hB, (hb.block g hlt).trans hg, rest⟩

theorem owns_mono {w : World} {B C : Nat} {e : TypeId} {size n : Nat} {v : Value} {xs : List Value} (h : w.ownsRow B e size v n xs) (hC : C ≤ B) : w.ownsRow C e size v n xs := by
  obtain ⟨hl, h⟩ := h
  refine ⟨hl, ?_⟩
  rcases h with h | ⟨g, cap, cur, e1, hB, rest⟩
  · exact .inl h
  · exact .inr ⟨g, cap, cur, e1, by omega, rest⟩

end Go.Proofs.Sky
