/- Rows of things, and of hits. -/
import Derived.Test.YtokkankfaofooaaSl
import Derived.Test.YtokkankfaofooaaMath14
import Derived.Test.YtokkankfaofooaaMem06
import Derived.Test.YtokkankfaofooaaOwn
namespace Go.Proofs.Ytokkankfaofooaa
open Go.RowKit Go.Proofs.Sky
set_option linter.unusedVariables false

def pcells (p : Pr) : List Value := [.int .i64 p.k, .int .i64 p.a.1, .int .i64 p.a.2.1, .int .i64 p.a.2.2, .int .i64 p.b.1, .int .i64 p.b.2.1, .int .i64 p.b.2.2, .int .i64 p.c.1, .int .i64 p.c.2.1, .int .i64 p.c.2.2, .int .i64 p.r, .int .i64 p.m]

def hcells (h : H3) : List Value := [.int .i64 h.1, .int .i64 h.2.1, .int .i64 h.2.2]

theorem hcells_len (h : H3) : (hcells h).length = 3 := rfl

/-- A slice of things. -/
def Prims (w : World) (v : Value) (n : Nat) (P : Nat → Pr) : Prop := Sl w v n 12 (fun i => pcells (P i)) ∧ ∀ i, i < n → (P i).I

theorem Prims.below {w w' : World} {B : Nat} {v : Value} {n : Nat} {P : Nat → Pr} (h : Prims w v n P) (hb : Below B w w') (hB : w.heap.size ≤ B) : Prims w' v n P := ⟨h.1.below hb hB, h.2⟩

/-- A slice of hits. -/
def Hits (w : World) (v : Value) (l : List H3) : Prop := Sll w v 3 hcells l

theorem flat_hits_next (P : Nat → Pr) (k : Nat) (o d : T3) (fr : Int) (h : (pHit (P k) k o d fr).2 = true) : (hUp P (k + 1) o d fr).length = (hUp P k o d fr).length + 1 ∧ (hUp P (k + 1) o d fr).flatMap hcells = (hUp P k o d fr).flatMap hcells ++ [.int .i64 (k : Int), .int .i64 (pHit (P k) k o d fr).1.1, .int .i64 (pHit (P k) k o d fr).1.2] := by
  rw [hUp_succ, hitAt_yes h, List.length_append, List.flatMap_append]
  exact ⟨rfl, rfl⟩

theorem flat_hits_same (P : Nat → Pr) (k : Nat) (o d : T3) (fr : Int) (h : (pHit (P k) k o d fr).2 = false) : hUp P (k + 1) o d fr = hUp P k o d fr := by
  rw [hUp_succ, hitAt_no h, List.append_nil]

end Go.Proofs.Ytokkankfaofooaa
