/- Worlds in which all that lay in a first one lies unturned: one class for a whole walk; a region that draws its order, whose operations read and whose callees make memory, walked once. Imports nothing of the translation. -/
import Derived.Below
import Derived.BigQuiet
import Derived.Handy
import Derived.Deep.Draws
import Derived.WalkKit
namespace Go.Proofs.Sky
open Go.RowKit
set_option linter.unusedVariables false

/-- A world in which all that lay in wb lies as it lay. -/
structure BW (wb : World) where
  w : World
  h : Below wb.heap.size wb w
def BW.start (wb : World) : BW wb := ⟨wb, Below.refl _ _⟩
instance bwNonempty (wb : World) : Nonempty (BW wb) := ⟨BW.start wb⟩
def BW.next {wb : World} (p : BW wb) (w : World) (h : Below p.w.heap.size p.w w) : BW wb := ⟨w, p.h.trans (h.mono p.h.size)⟩

theorem bw_cell {wb : World} {a : Addr} {v : Value} (h : wb.cell? a = some v) (p : BW wb) : p.w.cell? a = some v :=
  (p.h.cell (World.block_lt_of_cell? wb a h)).trans h
theorem bw_call {P : Program} {f : FuncId} {args : Array Value} {v : Value} {wb : World} (h : ∀ w, Calls P f args w fun e w' => e = .returned v ∧ Below w.heap.size w w') (p : BW wb) :
    Calls P f args p.w fun e w' => e = .returned v ∧ ∃ q : BW wb, w' = q.w :=
  (h p.w).mono fun e w' ⟨he, hb⟩ => ⟨he, p.next w' hb, rfl⟩
theorem bw_below {w wb : World} (h : Below w.heap.size w wb) (p : BW wb) : Below w.heap.size w p.w := h.trans (p.h.mono h.size)

theorem wp_region_bw {P : Program} {id : Nat} {Q : Exit → Act → World → Prop} {a : Act} {wb : World} {p : BW wb} {l : List Oper} (hm : P.follows .mixedOrders = true) (hB : Region.lexB .any l.toArray = true)
    (h : wpQuiet P l.toArray (fun w' => ∃ q : BW wb, w' = q.w) (fun a' => ∀ w', (∃ q : BW wb, w' = q.w) → Q .normal a' w') l a) : (Code.region id l.toArray true).wp P Q a p.w :=
  wp_region_quiet (C := fun w' => ∃ q : BW wb, w' = q.w) hm hB ⟨p.next { p.w with drawn := p.w.drawn + 1 } ⟨rfl, rfl, rfl, Nat.le_refl _, fun _ _ => rfl⟩, rfl⟩ (by simpa using h)

/-- A contract of a function that only computes, as one of a function that makes memory. -/
theorem below_of_same {P : Program} {f : FuncId} {args : Array Value} {v : Value} (h : ∀ w, Calls P f args w fun e w' => e = .returned v ∧ w = w') (w : World) :
    Calls P f args w fun e w' => e = .returned v ∧ Below w.heap.size w w' :=
  (h w).mono fun e w' ⟨he, hw⟩ => ⟨he, by subst hw; exact Below.refl _ _⟩

end Go.Proofs.Sky
