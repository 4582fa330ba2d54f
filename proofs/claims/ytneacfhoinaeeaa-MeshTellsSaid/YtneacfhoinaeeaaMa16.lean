/- Contracts of package wide's small functions: halves, and their sums. Contracts of the document's own answers of layer 2 (skylightref02), over the same plain mathematics. Contracts of the document's sums and differences (skylightref02). Contract of the document's differences (skylightref02). Contract of the document's order (skylightref02). Contracts of the document's products (skylightref02). Contract of the document's product, digit by digit (skylightref02). Contracts of the document's roots and quotients (skylightref02). Contracts of package frac (all but Least). A range over a function value whose first arguments are laid in (a method value), whose rounds all go on: what the iterator owes (GivesAll), and the statement's law. Imports nothing of the translation. Plain mathematics of layer 3: the least one of a row of fractions. Plain mathematics of layer 8: poses of quarter turns and moves. Imports nothing of the translation. Rows of things, and of hits. Memory of layer 15: slices of boxes; an array of eight groups of boxes, whole, in parts. Memory of layer 16: rows of boxes, nodes, steps and parts that a call makes; a row made shorter; one cell of it written. Contracts of the document's own answers, layer 16: a part gone through; all; ordered, depth, leaves. The landed Build in memory: rows of nodes, of indices, of boxes, and of parts that are still to be built. A tree that came in, opened: a struct of two slices; things that came in. -/
import Derived.Test.YtneacfhoinaeeaaMa14
import Derived.Test.YtneacfhoinaeeaaMa3
import Derived.Handy
import Derived.Deep.RegionHeld3
import Derived.Deep.QuietTactic
import Derived.BigQuiet
import Derived.Deep.Draws
import Derived.Deep.DrawnRows
import Derived.Laws.Externs
import Derived.Deep.DeepCutAuto
import Derived.StillTailTactics
import Derived.Test.YtneacfhoinaeeaaMa13
import Derived.Test.YtneacfhoinaeeaaMa5
import Derived.RangeFuncNested
import Derived.RangeFuncBox
import Derived.RangeFuncLeaves
import Derived.WalkKit
import Derived.Test.YtneacfhoinaeeaaMa11
import Derived.Test.YtneacfhoinaeeaaMa10
import Derived.Deep.MidRow
import Derived.Laws.CopyRow
import Derived.Deep.WholeRow
import Derived.Maps.AppendAt
import Derived.OwnWalk
import Derived.Laws.OwnMore
import Derived.Test.YtneacfhoinaeeaaMa12
import Derived.Test.YtneacfhoinaeeaaMa6
import Derived.Lib.MinMax
import Derived.Lib.SmallJoins


namespace Go.Proofs.Ytneacfhoinaeeaa
section

open Go.RowKit Go.Proofs.Sky

set_option linter.unusedVariables false

attribute [local go_sem ↓] Go.wp_at_zero Go.wp_at_succ

end
end Go.Proofs.Ytneacfhoinaeeaa

namespace Go.Proofs.Ytneacfhoinaeeaa
section

section

open Go.RowKit Go.Proofs.Sky

set_option linter.unusedVariables false

attribute [local go_sem ↓] Go.wp_at_zero Go.wp_at_succ

end

end
end Go.Proofs.Ytneacfhoinaeeaa

namespace Go.Proofs.Ytneacfhoinaeeaa
section

section

open Go.RowKit Go.Proofs.Sky

set_option linter.unusedVariables false

set_option linter.unusedSimpArgs false

attribute [local go_sem ↓] Go.wp_at_zero Go.wp_at_succ

end

end
end Go.Proofs.Ytneacfhoinaeeaa

namespace Go.Proofs.Ytneacfhoinaeeaa
section

section

open Go.RowKit Go.Proofs.Sky

set_option linter.unusedVariables false

set_option linter.unusedSimpArgs false

attribute [local go_sem ↓] Go.wp_at_zero Go.wp_at_succ

end

end
end Go.Proofs.Ytneacfhoinaeeaa

namespace Go.Proofs.Ytneacfhoinaeeaa
section

section

open Go.RowKit Go.Proofs.Sky

set_option linter.unusedVariables false

set_option linter.unusedSimpArgs false

attribute [local go_sem ↓] Go.wp_at_zero Go.wp_at_succ

end

end
end Go.Proofs.Ytneacfhoinaeeaa

namespace Go.Proofs.Ytneacfhoinaeeaa
section

section

open Go.RowKit Go.Proofs.Sky

set_option linter.unusedVariables false

set_option linter.unusedSimpArgs false

attribute [local go_sem ↓] Go.wp_at_zero Go.wp_at_succ

/-- The products of the first digits of u with v, added. -/
def sumP (u v : Int) : Nat → Int
  | 0 => 0
  | k + 1 => sumP u v k + dg u k * 65536 ^ k * v

/-- One row of the product: digit i of u with n digits of v, i places on. -/
def rowP (u v : Int) (i n : Nat) : Nat → Int := fun j => if i ≤ j ∧ j < i + n then dg u i * dg v (j - i) else 0

end

end
end Go.Proofs.Ytneacfhoinaeeaa

namespace Go.Proofs.Ytneacfhoinaeeaa
section

section

open Go.RowKit Go.Proofs.Sky

set_option linter.unusedVariables false

set_option linter.unusedSimpArgs false

attribute [local go_sem ↓] Go.wp_at_zero Go.wp_at_succ

end

end
end Go.Proofs.Ytneacfhoinaeeaa

namespace Go.Proofs.Ytneacfhoinaeeaa
section

section

open Go.RowKit Go.Proofs.Sky

set_option linter.unusedVariables false

set_option linter.unusedSimpArgs false

attribute [local go_sem ↓] Go.wp_at_zero Go.wp_at_succ

end

end
end Go.Proofs.Ytneacfhoinaeeaa

namespace Go.Proofs.Ytneacfhoinaeeaa
section

open Go.RowKit Go.Proofs.Sky

set_option linter.unusedVariables false

attribute [local go_sem ↓] Go.wp_at_zero Go.wp_at_succ

end
end Go.Proofs.Ytneacfhoinaeeaa

namespace Go.Proofs.Sky
section

open Go.RowKit

set_option linter.unusedVariables false

/-- What is asked of the caller's invariant between two rounds: blocks of its own, no others, have turned. -/
def Stays {β : Type} (J : β → World → Prop) : Prop := ∀ s X Y, J s X → Below X.heap.size X Y → J s Y

/-- The iterator gives just xs, in their order, to whatever loop; a round keeps what lay below B. -/
def GivesAll {α : Type} (P : Program) (gf : Nat) (bd lb : Array Value) (encs : α → Array Value) (xs : List α) (B : Nat) (w : World) : Prop :=
  ∀ (l : Nat) (J : List α → World → Prop) (W : World), Below w.heap.size w W → Stays J →
    (∀ pre x rest W1, xs = pre ++ x :: rest → J pre W1 → YieldAt Fence.wide 0 P l (encs x) W1 fun e W' => e = .returned (.bool true) ∧ J (pre ++ [x]) W' ∧ Below B W1 W') →
    J [] W → CallsIn Fence.wide 0 P gf ((bd ++ #[.func (.yield l) #[] #[]]) ++ lb) W fun e W' => (∃ v, e = .returned v) ∧ J xs W'

/-- How a round may be left: off its end. -/
def goesOn {α : Type} (B0 B : Nat) (I : List α → World → Prop) (xs : List α) (W : World) : Exit → Act → World → Prop
  | .normal, _, W' => KeepsFrom B0 W W' ∧ Below B W W' ∧ I xs W'
  | _, _, _ => False

theorem grown_of_below {X Y : World} (h : Below X.heap.size X Y) : X.grownBy Y none := ⟨h.os, h.tape, h.output, h.size, fun k hk _ => h.block k hk⟩

end
end Go.Proofs.Sky

namespace Go.Proofs.Sky
section

open Go.RowKit

set_option linter.unusedVariables false

/-- The better of two places of a row. -/
def pk (N D : Nat → Int) (m x : Nat) : Nat := if N x * D m < N m * D x then x else m

/-- The best of places f 0 to f k, the first of equals. -/
def mnf (N D : Nat → Int) (f : Nat → Nat) : Nat → Nat
  | 0 => f 0
  | k + 1 => pk N D (mnf N D f k) (f (k + 1))

/-- The first of the least fractions that may be, among the places below k; -1: none may be. -/
def lst (N D : Nat → Int) : Nat → Int
  | 0 => -1
  | k + 1 => if 1 ≤ D k ∧ (lst N D k < 0 ∨ N k * D (lst N D k).toNat < N (lst N D k).toNat * D k) then (k : Int) else lst N D k

/-- The places, as they come. -/
def vpN (D : Nat → Int) (k : Nat) : List Nat := (List.range k).filter (fun i : Nat => decide (1 ≤ D i))

end
end Go.Proofs.Sky

namespace Go.Proofs.Sky
section

open Go.RowKit

set_option linter.unusedVariables false

/-- A row of a quarter turn: one coordinate is 1 or -1, the others are 0. -/
def rs (r : T3) : Prop := r = (1, 0, 0) ∨ r = (-1, 0, 0) ∨ r = (0, 1, 0) ∨ r = (0, -1, 0) ∨ r = (0, 0, 1) ∨ r = (0, 0, -1)

def in3 (B : Int) (v : T3) : Prop := (-B ≤ v.1 ∧ v.1 ≤ B) ∧ (-B ≤ v.2.1 ∧ v.2.1 ≤ B) ∧ (-B ≤ v.2.2 ∧ v.2.2 ≤ B)

def s3 (k : Int) (v : T3) : T3 := (k * v.1, k * v.2.1, k * v.2.2)

/-- A pose of quarter turns and moves, rows of ones. -/
def up (m : P4) : P4 := (s3 16384 m.1, s3 16384 m.2.1, s3 16384 m.2.2.1, m.2.2.2)

def ap (m : P4) (v : T3) : T3 := (dtT m.1 v + m.2.2.2.1, dtT m.2.1 v + m.2.2.2.2.1, dtT m.2.2.1 v + m.2.2.2.2.2)

def rowm (r : T3) (a : P4) : T3 := (dtT r (a.1.1, a.2.1.1, a.2.2.1.1), dtT r (a.1.2.1, a.2.1.2.1, a.2.2.1.2.1), dtT r (a.1.2.2, a.2.1.2.2, a.2.2.1.2.2))

def tn (a b : P4) : P4 := (rowm b.1 a, rowm b.2.1 a, rowm b.2.2.1 a, ap b a.2.2.2)

def qs (m : P4) (B : Int) : Prop := rs m.1 ∧ rs m.2.1 ∧ rs m.2.2.1 ∧ in3 B m.2.2.2

def qNone : P4 := ((1, 0, 0), (0, 1, 0), (0, 0, 1), (0, 0, 0))

def qMove (v : T3) : P4 := ((1, 0, 0), (0, 1, 0), (0, 0, 1), v)

end
end Go.Proofs.Sky

namespace Go.Proofs.Ytneacfhoinaeeaa
section

open Go.RowKit Go.Proofs.Sky

set_option linter.unusedVariables false

def pcells (p : Pr) : List Value := [.int .i64 p.k, .int .i64 p.a.1, .int .i64 p.a.2.1, .int .i64 p.a.2.2, .int .i64 p.b.1, .int .i64 p.b.2.1, .int .i64 p.b.2.2, .int .i64 p.c.1, .int .i64 p.c.2.1, .int .i64 p.c.2.2, .int .i64 p.r, .int .i64 p.m]

def hcells (h : H3) : List Value := [.int .i64 h.1, .int .i64 h.2.1, .int .i64 h.2.2]

/-- A slice of things. -/
def Prims (w : World) (v : Value) (n : Nat) (P : Nat → Pr) : Prop := Sl w v n 12 (fun i => pcells (P i)) ∧ ∀ i, i < n → (P i).I

theorem Prims.below {w w' : World} {B : Nat} {v : Value} {n : Nat} {P : Nat → Pr} (h : Prims w v n P) (hb : Below B w w') (hB : w.heap.size ≤ B) : Prims w' v n P := ⟨h.1.below hb hB, h.2⟩

/-- A slice of hits. -/
def Hits (w : World) (v : Value) (l : List H3) : Prop := Sll w v 3 hcells l

end
end Go.Proofs.Ytneacfhoinaeeaa

namespace Go.Proofs.Ytneacfhoinaeeaa
section

open Go.RowKit Go.Proofs.Sky

set_option linter.unusedVariables false

def bcells (b : Bx) : List Value := [.int .i64 b.1.1, .int .i64 b.1.2.1, .int .i64 b.1.2.2, .int .i64 b.2.1, .int .i64 b.2.2.1, .int .i64 b.2.2.2]

/-- A slice of boxes. -/
def Boxes (w : World) (v : Value) (n : Nat) (V : Nat → Bx) : Prop := Sl w v n 6 (fun i => bcells (V i))

theorem Boxes.below {w w' : World} {B : Nat} {v : Value} {n : Nat} {V : Nat → Bx} (h : Boxes w v n V) (hb : Below B w w') (hB : w.heap.size ≤ B) : Boxes w' v n V := Sl.below h hb hB

/-- The seven cells of a group. -/
def gcells (g : Gp) : List Value := [.int .i64 g.1.1.1, .int .i64 g.1.1.2.1, .int .i64 g.1.1.2.2, .int .i64 g.1.2.1, .int .i64 g.1.2.2.1, .int .i64 g.1.2.2.2, .int .i64 (g.2 : Int)]

/-- Eight groups, as they lie. -/
def GL (G : Nat → Gp) : List Value := (List.range 8).flatMap (fun j => gcells (G j))

def GA (G : Nat → Gp) : Array Value := (GL G).toArray

def gset (G : Nat → Gp) (k : Nat) (g : Gp) : Nat → Gp := fun j => if j = k then g else G j

section

variable {K : Act → World → Prop} {Q : Exit → Act → World → Prop} {a : Act} {w : World} {dst : Option Nat} {tz : TypeId} {ps : String} {af : Array Edge} {gd : Option (Nat × Bool)} {x y : Operand} {g : Nat} {t : TypeId} {G H : Nat → Gp}

end

section

variable {K : Act → World → Prop} {Q : Exit → Act → World → Prop} {a : Act} {w : World} {dst : Option Nat} {tz : TypeId} {ps : String} {af : Array Edge} {gd : Option (Nat × Bool)} {x y : Operand} {g : Nat} {t : TypeId} {G H : Nat → Gp}

end

section

variable {K : Act → World → Prop} {Q : Exit → Act → World → Prop} {a : Act} {w : World} {dst : Option Nat} {tz : TypeId} {ps : String} {af : Array Edge} {gd : Option (Nat × Bool)} {x y : Operand} {g : Nat} {t : TypeId} {G H : Nat → Gp} {c : Array Value}

end

/-- The sums from both ends, as far as they have come. -/
def gBefore (ax lo hi : Int) (l : List Bx) (k : Nat) : Nat → Gp := fun j => if j ≤ k then gL (isL ax lo hi j) l else g0

def gOthers (ax lo hi : Int) (l : List Bx) (k : Nat) : Nat → Gp := fun j => if 7 ≤ j + k then gL (isR ax lo hi j) l else g0

/-- A row of indices that a call made. -/
def Ints (w : World) (B : Nat) (v : Value) (l : List Nat) : Prop := w.ownsRow B 3 1 v l.length (l.map (fun k : Nat => Value.int .i64 (k : Int)))

theorem Ints.below {w w' : World} {B : Nat} {v : Value} {l : List Nat} (h : Ints w B v l) (hb : Below w.heap.size w w') : Ints w' B v l := owns_below h hb

theorem Ints.mono {w : World} {B C : Nat} {v : Value} {l : List Nat} (h : Ints w B v l) (hC : C ≤ B) : Ints w C v l := owns_mono h hC

/-- A row of indices, as a slice of ints. -/
theorem Ints.slice {w : World} {B : Nat} {v : Value} {l : List Nat} (h : Ints w B v l) (hk : ∀ k ∈ l, k ≤ 1048576) : ∃ (o : Option Addr) (cap : Nat), v = .slice o l.length cap ∧ IntSlice w o l.length (fun i => ((l.getD i 0 : Nat) : Int)) := by
  obtain ⟨hl, h⟩ := h
  rcases h with ⟨rfl, hz⟩ | ⟨g, cap, cur, rfl, hB, hg, hn, hms, hs, hx⟩
  · exact ⟨none, 0, by rw [hz], .inl hz⟩
  · refine ⟨_, cap, rfl, .inr ⟨g, 0, rfl, fun k hlt => ?_, (Array.getElem?_eq_some_iff.1 hg).1⟩⟩
    have e : l.getD k 0 = l[k] := by rw [List.getD_eq_getElem?_getD, List.getElem?_eq_getElem hlt]; rfl
    have e1 : (l.map (fun k : Nat => Value.int .i64 (k : Int)))[k]? = some (.int .i64 ((l[k] : Nat) : Int)) := by rw [List.getElem?_map, List.getElem?_eq_getElem hlt]; rfl
    refine ⟨?_, ?_⟩
    · rw [← hx, List.getElem?_take, if_pos (by omega)] at e1
      show w.cell? ⟨g, 0 + k, none⟩ = some (.int .i64 ((l.getD k 0 : Nat) : Int))
      rw [Nat.zero_add, e]
      simp only [World.cell?, hg]
      simpa using e1
    · have := hk _ (List.getElem_mem hlt)
      rw [← e] at this
      dsimp only
      unfold I64
      omega

/-- One of two rows, behind an index that was put at its end. -/
theorem Ints.put {w w' : World} {B k : Nat} {u u' v : Value} {l m : List Nat} (hu' : w'.ownsRow B 3 1 u' (l.length + 1) (l.map (fun k : Nat => Value.int .i64 (k : Int)) ++ [.int .i64 (k : Int)])) (hv : Ints w B v m) (hap : Apart2 u v) (hg : w.grownBy w' u.ownBlock) (hb : u'.ownBlock = u.ownBlock ∨ u'.ownBlock = some w.heap.size) :
    Ints w' B u' (l ++ [k]) ∧ Ints w' B v m ∧ Apart2 u' v := by
  refine ⟨?_, owns_grown hv hg (fun j hj e => hap j e hj), fun j hj e => ?_⟩
  · unfold Ints
    rw [List.length_append, List.map_append]
    exact hu'
  · rcases hb with hb | hb
    · rw [hb] at hj; exact hap j hj e
    · rw [hb] at hj
      cases hj
      have := (World.ownsRow.lt hv _ e).2
      omega

end
end Go.Proofs.Ytneacfhoinaeeaa

namespace Go.Proofs.Ytneacfhoinaeeaa
section

open Go.RowKit Go.Proofs.Sky

set_option linter.unusedVariables false

/-- A row that lies behind the block of a cell that is written. -/
theorem owns_set {w : World} {B : Nat} {e : TypeId} {size n : Nat} {v : Value} {xs : List Value} (h : w.ownsRow B e size v n xs) {a : Addr} (ha : a.block < B) (x : Value) : (w.setCell a x).ownsRow B e size v n xs := by
  obtain ⟨hl, h⟩ := h
  refine ⟨hl, ?_⟩
  rcases h with h | ⟨g, cap, cur, e1, hB, hg, rest⟩
  · exact .inl h
  · exact .inr ⟨g, cap, cur, e1, hB, (Below.heap_setCell w a x g (by omega)).trans hg, rest⟩

/-- Places of steps: a place and a depth. -/
def scells (x : Int × Int) : List Value := [.int .i64 x.1, .int .i64 x.2]

end
end Go.Proofs.Ytneacfhoinaeeaa

namespace Go.Proofs.Ytneacfhoinaeeaa
section

open Go.RowKit Go.Proofs.Sky

set_option linter.unusedVariables false

set_option linter.unusedSimpArgs false

def ncells (d : Nd) : List Value := [.int .i64 d.1.1.1, .int .i64 d.1.1.2.1, .int .i64 d.1.1.2.2, .int .i64 d.1.2.1, .int .i64 d.1.2.2.1, .int .i64 d.1.2.2.2, .int .i64 d.2.1, .int .i64 d.2.2.1, .int .i64 d.2.2.2]

/-- A slice of nodes. -/
def Nodes (w : World) (v : Value) (ns : List Nd) : Prop := Sll w v 9 ncells ns

theorem Nodes.below {w w' : World} {B : Nat} {v : Value} {ns : List Nd} (h : Nodes w v ns) (hb : Below B w w') (hB : w.heap.size ≤ B) : Nodes w' v ns := Sll.below h hb hB

/-- A part's value. -/
def pv (p : Pt) : Value := .agg #[.int .i64 p.1, .int .i64 p.2.1, .int .i64 p.2.2.1, .int .i64 p.2.2.2.1, .bool p.2.2.2.2]

end
end Go.Proofs.Ytneacfhoinaeeaa

namespace Go.Proofs.Ytneacfhoinaeeaa
section

open Go.RowKit Go.Proofs.Sky

set_option linter.unusedVariables false

def pint : Option Nat → Int
  | none => -1
  | some i => (i : Int)

/-- A part that is still to be built: the slice of its things, they, and the place of the node whose right part it is. -/
abbrev Pc := Value × List Nat × Option Nat

def pcell2 (x : Pc) : List Value := [x.1, .int .i64 (pint x.2.2)]

variable {w w' W : World} {B b : Nat} {ub un uo us : Value} {bx : List Bx} {ns : List Nd} {od : List Nat} {X : List Pc}

/-- The number of elements of a slice in a cell. -/
def lenV : Value → Nat
  | .slice _ n _ => n
  | _ => 0

def cellL (W : World) (b i : Nat) : Nat := ((W.cell? ⟨b, i, none⟩).map lenV).getD 0

end
end Go.Proofs.Ytneacfhoinaeeaa

namespace Go.Proofs.Sky
section

open Go.ChangeShapes Go.WideShapes Go.RowKit

set_option linter.unusedVariables false

theorem open_rows16 {P : Program} {H : Type} {enc : TypeId × Value → H} {W : World} {n fuel : Nat} {t e : TypeId} {ks : List LK} {v : Value} {x : DataW H × List MemPlace} (ht : P.underlying t = some (.slice e)) (hk : flat P n e = some ks)
    (hc : P.cellsOf e = ks.length) (h0 : 0 < ks.length) (hf : DataW.trod enc P W 0 (fun _ => true) true fuel t [v] = some x) :
    ∃ (a : Option Addr) (len cap : Nat) (V : Nat → List Value), v = .slice a len cap ∧ len ≤ cap ∧ len ≤ maxLen ∧ (len = 0 ∨ ∃ b off, a = some ⟨b, off, none⟩ ∧ RowsAt W b off len ks.length ks V ∧ b < W.heap.size) := by
  rcases Go.Deep.open_slice ht hf with ⟨hc', hx⟩ | ⟨A, len, cap, m, k, D, Pl, hc', _, hl, hm, hmm, hx, hall⟩
  · cases hc'
    exact ⟨_, 0, 0, fun _ => [], rfl, by omega, by unfold maxLen; omega, .inl rfl⟩
  · cases hc'
    rw [if_pos rfl] at hmm
    obtain ⟨V, hV⟩ := Go.Deep.choose_lt (α := List Value) (p := fun i cs => LeafAll ks cs ∧ ∀ j, j < ks.length → W.cell? (A.add (i * ks.length + j)) = cs[j]?) (n := len) (fun i hi => by
      obtain ⟨cs, h1, h2⟩ := hall i (by omega)
      have hL := flat_trod n e ks hk _ _ _ h2
      obtain ⟨_, hlen, hcell⟩ := World.cells?_some h1
      refine ⟨cs, hL, fun j hj => ?_⟩
      have := hcell j (by omega)
      rw [Go.Deep.add_add, hc] at this
      exact this)
    refine ⟨_, len, cap, V, rfl, hl, by omega, ?_⟩
    by_cases hz : len = 0
    · exact .inl hz
    · right
      have hsp : A.spot = none := by
        have g := hV 0 (by omega)
        have hl0 := g.1.length
        have h1 := g.2 0 h0
        rw [List.getElem?_eq_getElem (by omega)] at h1
        have := World.cell?_spot h1
        simpa [Addr.add] using this
      obtain ⟨b, off, sp⟩ := A
      simp only at hsp
      subst hsp
      have adds : ∀ i, (⟨b, off, none⟩ : Addr).add i = ⟨b, off + i, none⟩ := fun i => by
        unfold Addr.add; split
        · rename_i h; rw [h]; rfl
        · rfl
      refine ⟨b, off, rfl, fun i hi => ⟨(hV i hi).1, fun j hj => ?_⟩, ?_⟩
      · have := (hV i hi).2 j hj
        rw [adds, ← Nat.add_assoc] at this
        exact this
      · have g := hV 0 (by omega)
        have hl0 := g.1.length
        have h1 := g.2 0 h0
        rw [List.getElem?_eq_getElem (by omega)] at h1
        rw [adds] at h1
        exact World.block_lt_of_cell? W _ h1

end
end Go.Proofs.Sky

namespace Go.Proofs.Ytneacfhoinaeeaa
section

open Go.RowKit Go.Proofs.Sky

set_option linter.unusedVariables false

def ndOf (V : List Value) : Nd := (((intOf (V.getD 0 (.bool false)), intOf (V.getD 1 (.bool false)), intOf (V.getD 2 (.bool false))), (intOf (V.getD 3 (.bool false)), intOf (V.getD 4 (.bool false)), intOf (V.getD 5 (.bool false)))), intOf (V.getD 6 (.bool false)), intOf (V.getD 7 (.bool false)), intOf (V.getD 8 (.bool false)))

end
end Go.Proofs.Ytneacfhoinaeeaa
