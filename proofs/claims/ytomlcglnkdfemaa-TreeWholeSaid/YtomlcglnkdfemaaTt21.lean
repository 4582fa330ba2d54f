/- Contracts of package wide's small functions: halves, and their sums. Contracts of package frac (all but Least). As XSeq, where the iterator asks more of the world between two rounds (C: a cell of its own, that lies beyond what the caller writes to). Imports nothing of the translation. Rows of vectors. Slices of structs, seen as rows of cells: that came in, or that a call made. Plain mathematics of layer 14: hits, and the first of them. Imports nothing of the translation. Rows of things, and of hits. Contracts of the document's own answers, layer 14: Better, All. -/
import Derived.Test.YtomlcglnkdfemaaTt8
import Derived.Test.YtomlcglnkdfemaaTt3
import Derived.Handy
import Derived.Deep.RegionHeld3
import Derived.Deep.QuietTactic
import Derived.BigQuiet
import Derived.Deep.Draws
import Derived.Deep.DrawnRows
import Derived.Laws.Externs
import Derived.Deep.DeepCutAuto
import Derived.StillTailTactics
import Derived.Test.YtomlcglnkdfemaaTt4
import Derived.Test.YtomlcglnkdfemaaTt7
import Derived.Laws.AppendOwn
import Derived.Test.YtomlcglnkdfemaaTt14
import Derived.Test.YtomlcglnkdfemaaTt16
import Derived.Test.YtomlcglnkdfemaaTt10
import Derived.Test.YtomlcglnkdfemaaTt6


namespace Go.Proofs.Ytomlcglnkdfemaa
section

open Go.RowKit Go.Proofs.Sky

set_option linter.unusedVariables false

attribute [local go_sem ↓] Go.wp_at_zero Go.wp_at_succ

end
end Go.Proofs.Ytomlcglnkdfemaa

namespace Go.Proofs.Ytomlcglnkdfemaa
section

open Go.RowKit Go.Proofs.Sky

set_option linter.unusedVariables false

attribute [local go_sem ↓] Go.wp_at_zero Go.wp_at_succ

end
end Go.Proofs.Ytomlcglnkdfemaa

namespace Go.Proofs.Sky
section

open Go.RowKit

set_option linter.unusedVariables false

/-- The iterator gives just xs, in their order, to whatever loop whose rounds keep C. -/
def GivesIf {α : Type} (P : Program) (gf : Nat) (bd lb : Array Value) (encs : α → Array Value) (xs : List α) (C : World → Prop) (w : World) : Prop :=
  ∀ (l : Nat) (J : List α → World → Prop) (W : World), Below w.heap.size w W → Stays J → (∀ s W, J s W → C W) →
    (∀ pre x rest W1, xs = pre ++ x :: rest → J pre W1 → YieldAt Fence.wide 0 P l (encs x) W1 fun e W' => e = .returned (.bool true) ∧ J (pre ++ [x]) W') →
    J [] W → CallsIn Fence.wide 0 P gf ((bd ++ #[.func (.yield l) #[] #[]]) ++ lb) W fun e W' => (∃ v, e = .returned v) ∧ J xs W'

/-- How a round may be left: off its end. -/
def goesOnIf {α : Type} (B0 : Nat) (I : List α → World → Prop) (xs : List α) (W : World) : Exit → Act → World → Prop
  | .normal, _, W' => KeepsFrom B0 W W' ∧ I xs W'
  | _, _, _ => False

end
end Go.Proofs.Sky

namespace Go.Proofs.Ytomlcglnkdfemaa
section

open Go.RowKit Go.Proofs.Sky

set_option linter.unusedVariables false

/-- From cell off of block b on lie n vectors. -/
def VcRow (w : World) (b off n : Nat) (V : Nat → T3) : Prop :=
  ∀ i, i < n → w.cell? ⟨b, off + i * 3, none⟩ = some (.int .i64 (V i).1) ∧ w.cell? ⟨b, off + i * 3 + 1, none⟩ = some (.int .i64 (V i).2.1) ∧ w.cell? ⟨b, off + i * 3 + 2, none⟩ = some (.int .i64 (V i).2.2)

def vcells (v : T3) : List Value := [.int .i64 v.1, .int .i64 v.2.1, .int .i64 v.2.2]

theorem VcRow.below {w w' : World} {b off n : Nat} {V : Nat → T3} (h : VcRow w b off n V) (hb : Below w.heap.size w w') (hl : b < w.heap.size) : VcRow w' b off n V := fun i hi => by
  obtain ⟨h1, h2, h3⟩ := h i hi
  exact ⟨(hb.cell (p := ⟨b, off + i * 3, none⟩) hl).trans h1, (hb.cell (p := ⟨b, off + i * 3 + 1, none⟩) hl).trans h2, (hb.cell (p := ⟨b, off + i * 3 + 2, none⟩) hl).trans h3⟩

end
end Go.Proofs.Ytomlcglnkdfemaa

namespace Go.Proofs.Ytomlcglnkdfemaa
section

open Go.RowKit Go.Proofs.Sky

set_option linter.unusedVariables false

/-- v is a slice of n elements, of c cells each, that lie in w: V. -/
def Sl (w : World) (v : Value) (n c : Nat) (V : Nat → List Value) : Prop :=
  ∃ (a : Option Addr) (cap : Nat), v = .slice a n cap ∧ n ≤ maxLen ∧ (n = 0 ∨ ∃ b off, a = some ⟨b, off, none⟩ ∧ b < w.heap.size ∧ ∀ i, i < n → ∀ j, j < c → w.cell? ⟨b, off + i * c + j, none⟩ = (V i)[j]?)

theorem Sl.below {w w' : World} {B : Nat} {v : Value} {n c : Nat} {V : Nat → List Value} (h : Sl w v n c V) (hb : Below B w w') (hB : w.heap.size ≤ B) : Sl w' v n c V := by
  obtain ⟨a, cap, rfl, hm, h⟩ := h
  refine ⟨a, cap, rfl, hm, ?_⟩
  rcases h with h | ⟨b, off, rfl, hlt, hc⟩
  · exact .inl h
  · exact .inr ⟨b, off, rfl, Nat.lt_of_lt_of_le hlt hb.size, fun i hi j hj => (hb.cell (p := ⟨b, off + i * c + j, none⟩) (Nat.lt_of_lt_of_le hlt hB)).trans (hc i hi j hj)⟩

theorem Sl.congr {w : World} {v : Value} {n c : Nat} {V U : Nat → List Value} (h : Sl w v n c V) (e : ∀ i, i < n → V i = U i) : Sl w v n c U := by
  obtain ⟨a, cap, rfl, hm, h⟩ := h
  refine ⟨a, cap, rfl, hm, ?_⟩
  rcases h with h | ⟨b, off, rfl, hlt, hc⟩
  · exact .inl h
  · exact .inr ⟨b, off, rfl, hlt, fun i hi j hj => by rw [← e i hi]; exact hc i hi j hj⟩

theorem Sl.nil (w : World) (a : Option Addr) (cap c : Nat) (V : Nat → List Value) : Sl w (.slice a 0 cap) 0 c V := ⟨a, cap, rfl, by unfold maxLen; omega, .inl rfl⟩

/-- Rows of one length, laid behind one another: the cell j of row i. -/
theorem flat_at {α : Type} (f : α → List Value) (c : Nat) (hf : ∀ x, (f x).length = c) : ∀ (l : List α) (i : Nat) (h : i < l.length) (j : Nat), j < c → (l.flatMap f)[i * c + j]? = (f l[i])[j]?
  | [], i, h, j, hj => by simp at h
  | x :: l, 0, h, j, hj => by
    rw [List.flatMap_cons, Nat.zero_mul, Nat.zero_add, List.getElem?_append_left (by rw [hf]; exact hj)]
    rfl
  | x :: l, i + 1, h, j, hj => by
    have h' : i < l.length := by simpa using h
    rw [List.flatMap_cons, List.getElem?_append_right (by rw [hf, Nat.succ_mul]; omega), hf, show (i + 1) * c + j - c = i * c + j by rw [Nat.succ_mul]; omega]
    exact flat_at f c hf l i h' j hj

theorem flat_len {α : Type} (f : α → List Value) (c : Nat) (hf : ∀ x, (f x).length = c) : ∀ l : List α, (l.flatMap f).length = l.length * c
  | [] => by simp
  | x :: l => by rw [List.flatMap_cons, List.length_append, hf, flat_len f c hf l, List.length_cons, Nat.succ_mul]; omega

/-- v is a slice whose elements are those of the list l, each laid by f. -/
def Sll {α : Type} (w : World) (v : Value) (c : Nat) (f : α → List Value) (l : List α) : Prop :=
  ∃ (a : Option Addr) (cap : Nat), v = .slice a l.length cap ∧ l.length ≤ maxLen ∧ (l.length = 0 ∨ ∃ b off, a = some ⟨b, off, none⟩ ∧ b < w.heap.size ∧ ∀ i (h : i < l.length), ∀ j, j < c → w.cell? ⟨b, off + i * c + j, none⟩ = (f l[i])[j]?)

theorem Sll.below {α : Type} {w w' : World} {B : Nat} {v : Value} {c : Nat} {f : α → List Value} {l : List α} (h : Sll w v c f l) (hb : Below B w w') (hB : w.heap.size ≤ B) : Sll w' v c f l := by
  obtain ⟨a, cap, rfl, hm, h⟩ := h
  refine ⟨a, cap, rfl, hm, ?_⟩
  rcases h with h | ⟨b, off, rfl, hlt, hc⟩
  · exact .inl h
  · exact .inr ⟨b, off, rfl, Nat.lt_of_lt_of_le hlt hb.size, fun i hi j hj => (hb.cell (p := ⟨b, off + i * c + j, none⟩) (Nat.lt_of_lt_of_le hlt hB)).trans (hc i hi j hj)⟩

/-- A row that a call made, as a slice. -/
theorem owns_sll {α : Type} {w : World} {B : Nat} {e : TypeId} {size n : Nat} {v : Value} {f : α → List Value} {l : List α} (hf : ∀ x, (f x).length = size) (h0 : 0 < size) (hn : n = l.length) (hm : n ≤ maxLen) (h : w.ownsRow B e size v n (l.flatMap f)) : Sll w v size f l := by
  subst hn
  obtain ⟨hl, h⟩ := h
  rcases h with ⟨rfl, hz⟩ | ⟨g, cap, cur, rfl, hB, hg, hn, hms, hs, hx⟩
  · exact ⟨none, 0, by rw [hz], hm, .inl hz⟩
  · refine ⟨_, cap, rfl, hm, ?_⟩
    by_cases hz : l.length = 0
    · exact .inl hz
    · refine .inr ⟨g, 0, rfl, ?_, fun i hi j hj => ?_⟩
      · rcases Nat.lt_or_ge g w.heap.size with q | q
        · exact q
        · rw [Array.getElem?_eq_none q] at hg; cases hg
      · have e1 := flat_at f size hf l i hi j hj
        rw [Nat.zero_add, ← e1]
        have e2 := e1
        rw [← hx, List.getElem?_take] at e2
        split at e2
        · rename_i hlt
          simp only [World.cell?, hg]
          rw [← hx, List.getElem?_take, if_pos hlt]
          simp
        · have hl2 : j < (f l[i]).length := by rw [hf]; exact hj
          rw [List.getElem?_eq_getElem hl2] at e2
          cases e2

end
end Go.Proofs.Ytomlcglnkdfemaa

namespace Go.Proofs.Sky
section

open Go.RowKit

set_option linter.unusedVariables false

abbrev H3 := Int × Int × Int

def hb (a b : H3) : Bool := fless a.2.1 a.2.2 b.2.1 b.2.2 || (fsame a.2.1 a.2.2 b.2.1 b.2.2 && decide (a.1 < b.1))

def hitAt (p : Pr) (i : Nat) (o d : T3) (fr : Int) : List H3 := if (pHit p i o d fr).2 = true then [((i : Int), (pHit p i o d fr).1)] else []

def hUp (P : Nat → Pr) (k : Nat) (o d : T3) (fr : Int) : List H3 := (List.range k).flatMap (fun i => hitAt (P i) i o d fr)

def hBest (l : List H3) (x : H3) : Bool := l.all (fun y => !hb y x)

def hFirst (l : List H3) : H3 × Bool := match l.find? (hBest l) with | some x => (x, true) | none => ((0, 0, 0), false)

def hClosest (P : Nat → Pr) (n : Nat) (o d : T3) (fr : Int) : H3 × Bool := hFirst (hUp P n o d fr)

def hAny (P : Nat → Pr) (n : Nat) (o d : T3) (fr m e : Int) : Bool := (hUp P n o d fr).any (fun h => !decide (1 ≤ e) || fless h.2.1 h.2.2 m e)

def hSel (h : H3) (Z : Nat → Int) (n : Nat) : List H3 := (List.range n).flatMap (fun k => if Z k = h.1 then [h] else [])

def hSome (l : List H3) (Z : Nat → Int) (n : Nat) : List H3 := l.flatMap (fun h => hSel h Z n)

def hAmong (P : Nat → Pr) (n : Nat) (Z : Nat → Int) (m : Nat) (o d : T3) (fr : Int) : H3 × Bool := hFirst (hSome (hUp P n o d fr) Z m)

/-- A hit that may be. -/
def Hok (a : H3) : Prop := 1 ≤ a.2.1 ∧ 1 ≤ a.2.2

end
end Go.Proofs.Sky

namespace Go.Proofs.Ytomlcglnkdfemaa
section

open Go.RowKit Go.Proofs.Sky

set_option linter.unusedVariables false

def pcells (p : Pr) : List Value := [.int .i64 p.k, .int .i64 p.a.1, .int .i64 p.a.2.1, .int .i64 p.a.2.2, .int .i64 p.b.1, .int .i64 p.b.2.1, .int .i64 p.b.2.2, .int .i64 p.c.1, .int .i64 p.c.2.1, .int .i64 p.c.2.2, .int .i64 p.r, .int .i64 p.m]

def hcells (h : H3) : List Value := [.int .i64 h.1, .int .i64 h.2.1, .int .i64 h.2.2]

/-- A slice of things. -/
def Prims (w : World) (v : Value) (n : Nat) (P : Nat → Pr) : Prop := Sl w v n 12 (fun i => pcells (P i)) ∧ ∀ i, i < n → (P i).I

theorem Prims.below {w w' : World} {B : Nat} {v : Value} {n : Nat} {P : Nat → Pr} (h : Prims w v n P) (hb : Below B w w') (hB : w.heap.size ≤ B) : Prims w' v n P := ⟨h.1.below hb hB, h.2⟩

/-- A slice of hits. -/
def Hits (w : World) (v : Value) (l : List H3) : Prop := Sll w v 3 hcells l

end
end Go.Proofs.Ytomlcglnkdfemaa

namespace Go.Proofs.Ytomlcglnkdfemaa
section

open Go.RowKit Go.Proofs.Sky

set_option linter.unusedVariables false

end
end Go.Proofs.Ytomlcglnkdfemaa
