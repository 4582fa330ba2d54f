/- The contract of num.Root. Contracts of the document's own answers of layer 2 (skylightref02), over the same plain mathematics. Contracts of the document's sums and differences (skylightref02). Contract of the document's differences (skylightref02). Contract of the document's order (skylightref02). Contracts of the document's products (skylightref02). Contract of the document's product, digit by digit (skylightref02). Contracts of the document's roots and quotients (skylightref02). Plain mathematics of layer 3: the least one of a row of fractions. Words for memory: three numbers in a row. Imports nothing of the translation. Slices of structs, seen as rows of cells: that came in, or that a call made. Plain mathematics of layer 14: hits, and the first of them. Imports nothing of the translation. Rows of things, and of hits. Plain mathematics of layer 16: a tree that is built with a stack of parts. Imports nothing of the translation. Contracts of the document's own answers, layer 16: a part gone through; all; ordered, depth, leaves. Contracts of the document's own answers, layer 16: a whole tree gone through; ordered, depth, leaves. -/
import Derived.Test.YtomlcglnkdfemaaGreatTb5
import Derived.Lib.ItoaNum
import Derived.Lib.Hide
import Derived.Handy
import Derived.Deep.RegionHeld3
import Derived.Deep.QuietTactic
import Derived.BigQuiet
import Derived.Deep.Draws
import Derived.Deep.DrawnRows
import Derived.Deep.DeepCutAuto
import Derived.Test.YtomlcglnkdfemaaGreatTb4
import Derived.Test.YtomlcglnkdfemaaGreatTb1
import Derived.Test.YtomlcglnkdfemaaGreatTb6
import Derived.Laws.AppendOwn
import Derived.Test.YtomlcglnkdfemaaGreatTb10
import Derived.Test.YtomlcglnkdfemaaGreatTb12
import Derived.Lib.MinMax


namespace Go.Proofs.YtomlcglnkdfemaaGreat
section

open Go.RowKit Go.Proofs.Sky

set_option linter.unusedVariables false

end
end Go.Proofs.YtomlcglnkdfemaaGreat

namespace Go.Proofs.YtomlcglnkdfemaaGreat
section

section

open Go.RowKit Go.Proofs.Sky

set_option linter.unusedVariables false

attribute [local go_sem ↓] Go.wp_at_zero Go.wp_at_succ

end

end
end Go.Proofs.YtomlcglnkdfemaaGreat

namespace Go.Proofs.YtomlcglnkdfemaaGreat
section

section

open Go.RowKit Go.Proofs.Sky

set_option linter.unusedVariables false

set_option linter.unusedSimpArgs false

attribute [local go_sem ↓] Go.wp_at_zero Go.wp_at_succ

end

end
end Go.Proofs.YtomlcglnkdfemaaGreat

namespace Go.Proofs.YtomlcglnkdfemaaGreat
section

section

open Go.RowKit Go.Proofs.Sky

set_option linter.unusedVariables false

set_option linter.unusedSimpArgs false

attribute [local go_sem ↓] Go.wp_at_zero Go.wp_at_succ

end

end
end Go.Proofs.YtomlcglnkdfemaaGreat

namespace Go.Proofs.YtomlcglnkdfemaaGreat
section

section

open Go.RowKit Go.Proofs.Sky

set_option linter.unusedVariables false

set_option linter.unusedSimpArgs false

attribute [local go_sem ↓] Go.wp_at_zero Go.wp_at_succ

end

end
end Go.Proofs.YtomlcglnkdfemaaGreat

namespace Go.Proofs.YtomlcglnkdfemaaGreat
section

section

open Go.RowKit Go.Proofs.Sky

set_option linter.unusedVariables false

set_option linter.unusedSimpArgs false

attribute [local go_sem ↓] Go.wp_at_zero Go.wp_at_succ

/-- The products of the first digits of u with v, added. -/
def sumP (u v : Int) : Nat → Int
  | 0 => 0
  | k + 1 => sumP u v k + dg u k * 65536 ^ k * v

/-- One row of the product: digit i of u with n digits of v, i places on. -/
def rowP (u v : Int) (i n : Nat) : Nat → Int := fun j => if i ≤ j ∧ j < i + n then dg u i * dg v (j - i) else 0

end

end
end Go.Proofs.YtomlcglnkdfemaaGreat

namespace Go.Proofs.YtomlcglnkdfemaaGreat
section

section

open Go.RowKit Go.Proofs.Sky

set_option linter.unusedVariables false

set_option linter.unusedSimpArgs false

attribute [local go_sem ↓] Go.wp_at_zero Go.wp_at_succ

end

end
end Go.Proofs.YtomlcglnkdfemaaGreat

namespace Go.Proofs.YtomlcglnkdfemaaGreat
section

section

open Go.RowKit Go.Proofs.Sky

set_option linter.unusedVariables false

set_option linter.unusedSimpArgs false

attribute [local go_sem ↓] Go.wp_at_zero Go.wp_at_succ

end

end
end Go.Proofs.YtomlcglnkdfemaaGreat

namespace Go.Proofs.Sky
section

open Go.RowKit

set_option linter.unusedVariables false

/-- The better of two places of a row. -/
def pk (N D : Nat → Int) (m x : Nat) : Nat := if N x * D m < N m * D x then x else m

/-- The best of places f 0 to f k, the first of equals. -/
def mnf (N D : Nat → Int) (f : Nat → Nat) : Nat → Nat
  | 0 => f 0
  | k + 1 => pk N D (mnf N D f k) (f (k + 1))

/-- The first of the least fractions that may be, among the places below k; -1: none may be. -/
def lst (N D : Nat → Int) : Nat → Int
  | 0 => -1
  | k + 1 => if 1 ≤ D k ∧ (lst N D k < 0 ∨ N k * D (lst N D k).toNat < N (lst N D k).toNat * D k) then (k : Int) else lst N D k

/-- The places, as they come. -/
def vpN (D : Nat → Int) (k : Nat) : List Nat := (List.range k).filter (fun i : Nat => decide (1 ≤ D i))

end
end Go.Proofs.Sky

namespace Go.Proofs.Sky
section

open Go.RowKit

set_option linter.unusedVariables false

/-- A block of three cells, all of them written. -/
theorem Bk.put3 {w : World} {g : Nat} {t : TypeId} {a b c : Value} (h : Bk w g t #[a, b, c]) (u v x : Value) :
    (((w.setCell ⟨g, 0, none⟩ u).setCell ⟨g, 1, none⟩ v).setCell ⟨g, 2, none⟩ x).cell? ⟨g, 0, none⟩ = some u ∧
    (((w.setCell ⟨g, 0, none⟩ u).setCell ⟨g, 1, none⟩ v).setCell ⟨g, 2, none⟩ x).cell? ⟨g, 1, none⟩ = some v ∧
    (((w.setCell ⟨g, 0, none⟩ u).setCell ⟨g, 1, none⟩ v).setCell ⟨g, 2, none⟩ x).cell? ⟨g, 2, none⟩ = some x ∧
    Bk (((w.setCell ⟨g, 0, none⟩ u).setCell ⟨g, 1, none⟩ v).setCell ⟨g, 2, none⟩ x) g t #[u, v, x] := by
  have k : Bk (((w.setCell ⟨g, 0, none⟩ u).setCell ⟨g, 1, none⟩ v).setCell ⟨g, 2, none⟩ x) g t #[u, v, x] := ((h.set 0 u).set 1 v).set 2 x
  exact ⟨k.cell rfl, k.cell rfl, k.cell rfl, k⟩

theorem bw_take {wb w1 : World} {p : BW wb} (hb : Below p.w.heap.size p.w w1) : ∃ q : BW wb, w1 = q.w := ⟨p.next w1 hb, rfl⟩

end
end Go.Proofs.Sky

namespace Go.Proofs.YtomlcglnkdfemaaGreat
section

open Go.RowKit Go.Proofs.Sky

set_option linter.unusedVariables false

/-- v is a slice of n elements, of c cells each, that lie in w: V. -/
def Sl (w : World) (v : Value) (n c : Nat) (V : Nat → List Value) : Prop :=
  ∃ (a : Option Addr) (cap : Nat), v = .slice a n cap ∧ n ≤ maxLen ∧ (n = 0 ∨ ∃ b off, a = some ⟨b, off, none⟩ ∧ b < w.heap.size ∧ ∀ i, i < n → ∀ j, j < c → w.cell? ⟨b, off + i * c + j, none⟩ = (V i)[j]?)

theorem Sl.below {w w' : World} {B : Nat} {v : Value} {n c : Nat} {V : Nat → List Value} (h : Sl w v n c V) (hb : Below B w w') (hB : w.heap.size ≤ B) : Sl w' v n c V := by
  obtain ⟨a, cap, rfl, hm, h⟩ := h
  refine ⟨a, cap, rfl, hm, ?_⟩
  rcases h with h | ⟨b, off, rfl, hlt, hc⟩
  · exact .inl h
  · exact .inr ⟨b, off, rfl, Nat.lt_of_lt_of_le hlt hb.size, fun i hi j hj => (hb.cell (p := ⟨b, off + i * c + j, none⟩) (Nat.lt_of_lt_of_le hlt hB)).trans (hc i hi j hj)⟩

theorem Sl.congr {w : World} {v : Value} {n c : Nat} {V U : Nat → List Value} (h : Sl w v n c V) (e : ∀ i, i < n → V i = U i) : Sl w v n c U := by
  obtain ⟨a, cap, rfl, hm, h⟩ := h
  refine ⟨a, cap, rfl, hm, ?_⟩
  rcases h with h | ⟨b, off, rfl, hlt, hc⟩
  · exact .inl h
  · exact .inr ⟨b, off, rfl, hlt, fun i hi j hj => by rw [← e i hi]; exact hc i hi j hj⟩

theorem Sl.nil (w : World) (a : Option Addr) (cap c : Nat) (V : Nat → List Value) : Sl w (.slice a 0 cap) 0 c V := ⟨a, cap, rfl, by unfold maxLen; omega, .inl rfl⟩

/-- Rows of one length, laid behind one another: the cell j of row i. -/
theorem flat_at {α : Type} (f : α → List Value) (c : Nat) (hf : ∀ x, (f x).length = c) : ∀ (l : List α) (i : Nat) (h : i < l.length) (j : Nat), j < c → (l.flatMap f)[i * c + j]? = (f l[i])[j]?
  | [], i, h, j, hj => by simp at h
  | x :: l, 0, h, j, hj => by
    rw [List.flatMap_cons, Nat.zero_mul, Nat.zero_add, List.getElem?_append_left (by rw [hf]; exact hj)]
    rfl
  | x :: l, i + 1, h, j, hj => by
    have h' : i < l.length := by simpa using h
    rw [List.flatMap_cons, List.getElem?_append_right (by rw [hf, Nat.succ_mul]; omega), hf, show (i + 1) * c + j - c = i * c + j by rw [Nat.succ_mul]; omega]
    exact flat_at f c hf l i h' j hj

theorem flat_len {α : Type} (f : α → List Value) (c : Nat) (hf : ∀ x, (f x).length = c) : ∀ l : List α, (l.flatMap f).length = l.length * c
  | [] => by simp
  | x :: l => by rw [List.flatMap_cons, List.length_append, hf, flat_len f c hf l, List.length_cons, Nat.succ_mul]; omega

/-- v is a slice whose elements are those of the list l, each laid by f. -/
def Sll {α : Type} (w : World) (v : Value) (c : Nat) (f : α → List Value) (l : List α) : Prop :=
  ∃ (a : Option Addr) (cap : Nat), v = .slice a l.length cap ∧ l.length ≤ maxLen ∧ (l.length = 0 ∨ ∃ b off, a = some ⟨b, off, none⟩ ∧ b < w.heap.size ∧ ∀ i (h : i < l.length), ∀ j, j < c → w.cell? ⟨b, off + i * c + j, none⟩ = (f l[i])[j]?)

theorem Sll.below {α : Type} {w w' : World} {B : Nat} {v : Value} {c : Nat} {f : α → List Value} {l : List α} (h : Sll w v c f l) (hb : Below B w w') (hB : w.heap.size ≤ B) : Sll w' v c f l := by
  obtain ⟨a, cap, rfl, hm, h⟩ := h
  refine ⟨a, cap, rfl, hm, ?_⟩
  rcases h with h | ⟨b, off, rfl, hlt, hc⟩
  · exact .inl h
  · exact .inr ⟨b, off, rfl, Nat.lt_of_lt_of_le hlt hb.size, fun i hi j hj => (hb.cell (p := ⟨b, off + i * c + j, none⟩) (Nat.lt_of_lt_of_le hlt hB)).trans (hc i hi j hj)⟩

/-- A row that a call made, as a slice. -/
theorem owns_sll {α : Type} {w : World} {B : Nat} {e : TypeId} {size n : Nat} {v : Value} {f : α → List Value} {l : List α} (hf : ∀ x, (f x).length = size) (h0 : 0 < size) (hn : n = l.length) (hm : n ≤ maxLen) (h : w.ownsRow B e size v n (l.flatMap f)) : Sll w v size f l := by
  subst hn
  obtain ⟨hl, h⟩ := h
  rcases h with ⟨rfl, hz⟩ | ⟨g, cap, cur, rfl, hB, hg, hn, hms, hs, hx⟩
  · exact ⟨none, 0, by rw [hz], hm, .inl hz⟩
  · refine ⟨_, cap, rfl, hm, ?_⟩
    by_cases hz : l.length = 0
    · exact .inl hz
    · refine .inr ⟨g, 0, rfl, ?_, fun i hi j hj => ?_⟩
      · rcases Nat.lt_or_ge g w.heap.size with q | q
        · exact q
        · rw [Array.getElem?_eq_none q] at hg; cases hg
      · have e1 := flat_at f size hf l i hi j hj
        rw [Nat.zero_add, ← e1]
        have e2 := e1
        rw [← hx, List.getElem?_take] at e2
        split at e2
        · rename_i hlt
          simp only [World.cell?, hg]
          rw [← hx, List.getElem?_take, if_pos hlt]
          simp
        · have hl2 : j < (f l[i]).length := by rw [hf]; exact hj
          rw [List.getElem?_eq_getElem hl2] at e2
          cases e2

end
end Go.Proofs.YtomlcglnkdfemaaGreat

namespace Go.Proofs.Sky
section

open Go.RowKit

set_option linter.unusedVariables false

abbrev H3 := Int × Int × Int

def hb (a b : H3) : Bool := fless a.2.1 a.2.2 b.2.1 b.2.2 || (fsame a.2.1 a.2.2 b.2.1 b.2.2 && decide (a.1 < b.1))

def hitAt (p : Pr) (i : Nat) (o d : T3) (fr : Int) : List H3 := if (pHit p i o d fr).2 = true then [((i : Int), (pHit p i o d fr).1)] else []

def hUp (P : Nat → Pr) (k : Nat) (o d : T3) (fr : Int) : List H3 := (List.range k).flatMap (fun i => hitAt (P i) i o d fr)

def hBest (l : List H3) (x : H3) : Bool := l.all (fun y => !hb y x)

def hFirst (l : List H3) : H3 × Bool := match l.find? (hBest l) with | some x => (x, true) | none => ((0, 0, 0), false)

def hClosest (P : Nat → Pr) (n : Nat) (o d : T3) (fr : Int) : H3 × Bool := hFirst (hUp P n o d fr)

def hAny (P : Nat → Pr) (n : Nat) (o d : T3) (fr m e : Int) : Bool := (hUp P n o d fr).any (fun h => !decide (1 ≤ e) || fless h.2.1 h.2.2 m e)

def hSel (h : H3) (Z : Nat → Int) (n : Nat) : List H3 := (List.range n).flatMap (fun k => if Z k = h.1 then [h] else [])

def hSome (l : List H3) (Z : Nat → Int) (n : Nat) : List H3 := l.flatMap (fun h => hSel h Z n)

def hAmong (P : Nat → Pr) (n : Nat) (Z : Nat → Int) (m : Nat) (o d : T3) (fr : Int) : H3 × Bool := hFirst (hSome (hUp P n o d fr) Z m)

/-- A hit that may be. -/
def Hok (a : H3) : Prop := 1 ≤ a.2.1 ∧ 1 ≤ a.2.2

end
end Go.Proofs.Sky

namespace Go.Proofs.YtomlcglnkdfemaaGreat
section

open Go.RowKit Go.Proofs.Sky

set_option linter.unusedVariables false

def pcells (p : Pr) : List Value := [.int .i64 p.k, .int .i64 p.a.1, .int .i64 p.a.2.1, .int .i64 p.a.2.2, .int .i64 p.b.1, .int .i64 p.b.2.1, .int .i64 p.b.2.2, .int .i64 p.c.1, .int .i64 p.c.2.1, .int .i64 p.c.2.2, .int .i64 p.r, .int .i64 p.m]

def hcells (h : H3) : List Value := [.int .i64 h.1, .int .i64 h.2.1, .int .i64 h.2.2]

/-- A slice of things. -/
def Prims (w : World) (v : Value) (n : Nat) (P : Nat → Pr) : Prop := Sl w v n 12 (fun i => pcells (P i)) ∧ ∀ i, i < n → (P i).I

theorem Prims.below {w w' : World} {B : Nat} {v : Value} {n : Nat} {P : Nat → Pr} (h : Prims w v n P) (hb : Below B w w') (hB : w.heap.size ≤ B) : Prims w' v n P := ⟨h.1.below hb hB, h.2⟩

/-- A slice of hits. -/
def Hits (w : World) (v : Value) (l : List H3) : Prop := Sll w v 3 hcells l

end
end Go.Proofs.YtomlcglnkdfemaaGreat

namespace Go.Proofs.Sky
section

open Go.RowKit

set_option linter.unusedVariables false

theorem mGrow_more {P : Nat → Pr} : ∀ (f g : Nat) (which : List Nat) (k o : Nat), 0 < which.length → which.length ≤ f → which.length ≤ g → mGrow P f which k o = mGrow P g which k o
  | 0, _, which, k, o, h, h1, _ => by omega
  | _, 0, which, k, o, h, _, h1 => by omega
  | f + 1, g + 1, which, k, o, h, h1, h2 => by
    cases he : wEnds P which with
    | true => rw [mGrow_leaf he, mGrow_leaf he]
    | false =>
      obtain ⟨l1, l2, l3⟩ := wSplit_less he
      rw [mGrow_node he rfl rfl, mGrow_node he rfl rfl, mGrow_more f g (wAt which (wLeft P which)) (k + 1) o (by rw [wAt_len]; omega) (by rw [wAt_len]; omega) (by rw [wAt_len]; omega),
        mGrow_more f g (wAt which (wRight P which)) _ _ (by rw [wAt_len]; omega) (by rw [wAt_len]; omega) (by rw [wAt_len]; omega)]

theorem wEnds_not (P : Nat → Pr) (th : List Nat) : (decide (2 < th.length) && (bBest (wBox P th) th.length).2) = !wEnds P th := by
  unfold wEnds wSplit
  by_cases h : th.length ≤ 2
  · rw [decide_eq_true h, decide_eq_false (by omega)]; simp
  · rw [decide_eq_false h, decide_eq_true (by omega)]; simp

def setRight (d : Nd) (k : Nat) : Nd := (d.1, d.2.1, d.2.2.1, (k : Int))

/-- The nodes, once the right part of one of them is known. -/
def setR (ns : List Nd) : Option Nat → Nat → List Nd
  | none, _ => ns
  | some i, k => ns.set i (setRight (ns.getD i nd0) k)

theorem setR_len (ns : List Nd) (r : Option Nat) (k : Nat) : (setR ns r k).length = ns.length := by
  cases r with
  | none => rfl
  | some i => exact List.length_set

/-- What a stack of parts (the top first) comes to. -/
def mRun (P : Nat → Pr) : List (List Nat × Option Nat) → List Nd × List Nat → List Nd × List Nat
  | [], s => s
  | (th, r) :: rest, s => mRun P rest (setR s.1 r s.1.length ++ (mGrow P th.length th s.1.length s.2.length).1, s.2 ++ (mGrow P th.length th s.1.length s.2.length).2)

theorem mRun_cons (P : Nat → Pr) (th : List Nat) (r : Option Nat) (rest : List (List Nat × Option Nat)) (s : List Nd × List Nat) :
    mRun P ((th, r) :: rest) s = mRun P rest (setR s.1 r s.1.length ++ (mGrow P th.length th s.1.length s.2.length).1, s.2 ++ (mGrow P th.length th s.1.length s.2.length).2) := rfl

theorem mRun_leaf {P : Nat → Pr} {th : List Nat} {r : Option Nat} {rest : List (List Nat × Option Nat)} {ns : List Nd} {od : List Nat} (h0 : 0 < th.length) (h : wEnds P th = true) :
    mRun P ((th, r) :: rest) (ns, od) = mRun P rest (setR ns r ns.length ++ [(bAll (wBox P th) th.length, (od.length : Int), (th.length : Int), 0)], od ++ th) := by
  rw [mRun_cons, mGrow_more th.length ((th.length - 1) + 1) th _ _ h0 (Nat.le_refl _) (by omega), mGrow_leaf h]

theorem mRun_node {P : Nat → Pr} {th : List Nat} {r : Option Nat} {rest : List (List Nat × Option Nat)} {ns : List Nd} {od : List Nat} (h : wEnds P th = false) :
    mRun P ((th, r) :: rest) (ns, od) = mRun P ((wAt th (wLeft P th), none) :: (wAt th (wRight P th), some ns.length) :: rest) (setR ns r ns.length ++ [(bAll (wBox P th) th.length, 0, 0, 0)], od) := by
  obtain ⟨l1, l2, l3⟩ := wSplit_less h
  rw [mRun_cons, mRun_cons, mRun_cons]
  dsimp only
  rw [mGrow_more th.length ((th.length - 1) + 1) th _ _ (by omega) (Nat.le_refl _) (by omega), mGrow_node h rfl rfl]
  rw [mGrow_more (th.length - 1) (wAt th (wLeft P th)).length (wAt th (wLeft P th)) (ns.length + 1) od.length (by rw [wAt_len]; omega) (by rw [wAt_len]; omega) (Nat.le_refl _)]
  have e1 : (setR ns r ns.length ++ [(bAll (wBox P th) th.length, (0 : Int), (0 : Int), (0 : Int))]).length = ns.length + 1 := by rw [List.length_append, setR_len]; rfl
  rw [show setR (setR ns r ns.length ++ [(bAll (wBox P th) th.length, (0 : Int), (0 : Int), (0 : Int))]) none (setR ns r ns.length ++ [(bAll (wBox P th) th.length, (0 : Int), (0 : Int), (0 : Int))]).length = setR ns r ns.length ++ [(bAll (wBox P th) th.length, (0 : Int), (0 : Int), (0 : Int))] from rfl, e1]
  generalize mGrow P (wAt th (wLeft P th)).length (wAt th (wLeft P th)) (ns.length + 1) od.length = gl
  have e2 : (setR ns r ns.length ++ [(bAll (wBox P th) th.length, (0 : Int), (0 : Int), (0 : Int))] ++ gl.1).length = ns.length + 1 + gl.1.length := by rw [List.length_append, e1]
  rw [mGrow_more (th.length - 1) (wAt th (wRight P th)).length (wAt th (wRight P th)) (ns.length + 1 + gl.1.length) (od.length + gl.2.length) (by rw [wAt_len]; omega) (by rw [wAt_len]; omega) (Nat.le_refl _), e2, List.length_append]
  generalize mGrow P (wAt th (wRight P th)).length (wAt th (wRight P th)) (ns.length + 1 + gl.1.length) (od.length + gl.2.length) = gr
  have hl := setR_len ns r ns.length
  generalize setR ns r ns.length = n1 at *
  have e3 : setR (n1 ++ [(bAll (wBox P th) th.length, (0 : Int), (0 : Int), (0 : Int))] ++ gl.1) (some ns.length) (ns.length + 1 + gl.1.length) = n1 ++ [(bAll (wBox P th) th.length, (0 : Int), (0 : Int), ((ns.length + 1 + gl.1.length : Nat) : Int))] ++ gl.1 := by
    show (n1 ++ [(bAll (wBox P th) th.length, (0 : Int), (0 : Int), (0 : Int))] ++ gl.1).set ns.length (setRight ((n1 ++ [(bAll (wBox P th) th.length, (0 : Int), (0 : Int), (0 : Int))] ++ gl.1).getD ns.length nd0) (ns.length + 1 + gl.1.length)) = _
    rw [← hl, List.append_assoc, List.set_append_right _ _ (Nat.le_refl _), Nat.sub_self, getD_at (by simp), List.getElem_append_right (Nat.le_refl _)]
    simp [setRight]
  rw [e3]
  simp only [List.append_assoc, List.cons_append, List.nil_append]

theorem mBuild_run {P : Nat → Pr} {n : Nat} (h : 0 < n ∧ n ≤ 1024 ∧ pAll P n = true) : mRun P [(List.range n, none)] ([], []) = mBuild P n := by
  unfold mBuild
  rw [if_pos h]
  show ([] ++ (mGrow P (List.range n).length (List.range n) 0 0).1, [] ++ (mGrow P (List.range n).length (List.range n) 0 0).2) = _
  rw [List.length_range]
  rfl

/-- How many things the parts of a stack have. -/
def mMass : List (List Nat × Option Nat) → Nat
  | [] => 0
  | x :: r => x.1.length + mMass r

theorem mMass_le : ∀ r : List (List Nat × Option Nat), (∀ x ∈ r, 0 < x.1.length) → r.length ≤ mMass r
  | [], _ => Nat.le_refl _
  | x :: r, h => by
    have h1 := mMass_le r (fun y hy => h y (List.mem_cons_of_mem _ hy))
    have h2 := h x List.mem_cons_self
    simp only [List.length_cons, mMass]
    omega

end
end Go.Proofs.Sky

namespace Go.Proofs.YtomlcglnkdfemaaGreat
section

open Go.RowKit Go.Proofs.Sky

set_option linter.unusedVariables false

set_option linter.unusedSimpArgs false

def ncells (d : Nd) : List Value := [.int .i64 d.1.1.1, .int .i64 d.1.1.2.1, .int .i64 d.1.1.2.2, .int .i64 d.1.2.1, .int .i64 d.1.2.2.1, .int .i64 d.1.2.2.2, .int .i64 d.2.1, .int .i64 d.2.2.1, .int .i64 d.2.2.2]

/-- A slice of nodes. -/
def Nodes (w : World) (v : Value) (ns : List Nd) : Prop := Sll w v 9 ncells ns

theorem Nodes.below {w w' : World} {B : Nat} {v : Value} {ns : List Nd} (h : Nodes w v ns) (hb : Below B w w') (hB : w.heap.size ≤ B) : Nodes w' v ns := Sll.below h hb hB

/-- A part's value. -/
def pv (p : Pt) : Value := .agg #[.int .i64 p.1, .int .i64 p.2.1, .int .i64 p.2.2.1, .int .i64 p.2.2.2.1, .bool p.2.2.2.2]

end
end Go.Proofs.YtomlcglnkdfemaaGreat

namespace Go.Proofs.YtomlcglnkdfemaaGreat
section

open Go.RowKit Go.Proofs.Sky

set_option linter.unusedVariables false

set_option linter.unusedSimpArgs false

end
end Go.Proofs.YtomlcglnkdfemaaGreat
