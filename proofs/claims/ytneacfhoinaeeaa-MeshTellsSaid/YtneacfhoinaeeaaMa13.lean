/- A slice of structs of ints and bools that came in, opened: its elements' cells, one by one. Imports nothing of the translation. The contract of num.Root. Slices that came in, opened. Rows that a call makes, and blocks beside them. Imports nothing of the translation. Rows that grow, and what lies beside them. Imports nothing of the translation. Rows of vectors. Slices of structs, seen as rows of cells: that came in, or that a call made. Plain mathematics of layer 14: hits, and the first of them. Imports nothing of the translation. Plain mathematics of layer 16: the things under a node; the least boxes, from the last node on and from the things. Imports nothing of the translation. Plain mathematics of layer 16: a tree that is built with a stack of parts. Imports nothing of the translation. -/
import Derived.Test.YtneacfhoinaeeaaMa12
import Derived.Deep.Slices
import Derived.Test.YtneacfhoinaeeaaMa5
import Derived.Lib.ItoaNum
import Derived.Lib.Hide
import Derived.Test.YtneacfhoinaeeaaMa1
import Derived.Test.YtneacfhoinaeeaaMa2
import Derived.Test.YtneacfhoinaeeaaProg
import Derived.ChangeSlices
import Derived.WideShapes
import Derived.DataReads
import Derived.Laws.AppendOwn
import Derived.Test.YtneacfhoinaeeaaMa6
import Derived.Maps.AppendAt
import Derived.OwnWalk
import Derived.Laws.ResultCell
import Derived.Laws.OwnMore
import Derived.Test.YtneacfhoinaeeaaMa10
import Derived.Test.YtneacfhoinaeeaaMa11


namespace Go.Proofs.Sky
section

open Go.ChangeShapes Go.WideShapes Go.RowKit

set_option linter.unusedVariables false

/-- From cell off of block b on lie n elements of c cells each: V. -/
def RowsAt (w : World) (b off n c : Nat) (ks : List LK) (V : Nat → List Value) : Prop :=
  ∀ i, i < n → LeafAll ks (V i) ∧ ∀ j, j < c → w.cell? ⟨b, off + i * c + j, none⟩ = (V i)[j]?

theorem LeafAll.length : ∀ {ks : List LK} {cs : List Value}, LeafAll ks cs → cs.length = ks.length
  | [], cs, h => by
    have : cs = [] := h
    subst this
    rfl
  | k :: ks, cs, h => by
    obtain ⟨v, r, rfl, _, h2⟩ := h
    simp [h2.length]

end
end Go.Proofs.Sky

namespace Go.Proofs.Ytneacfhoinaeeaa
section

open Go.RowKit Go.Proofs.Sky

set_option linter.unusedVariables false

end
end Go.Proofs.Ytneacfhoinaeeaa

namespace Go.Proofs.Ytneacfhoinaeeaa
section

open Go.RowKit Go.Proofs.Sky

set_option linter.unusedVariables false

/-- A slice of ints that came in. -/
def IntSlice (w : World) (a : Option Addr) (n : Nat) (Z : Nat → Int) : Prop :=
  n = 0 ∨ ∃ b off, a = some ⟨b, off, none⟩ ∧ (∀ k, k < n → w.cell? ⟨b, off + k, none⟩ = some (.int .i64 (Z k)) ∧ I64 (Z k)) ∧ b < w.heap.size

end
end Go.Proofs.Ytneacfhoinaeeaa

namespace Go.Proofs.Sky
section

open Go.RowKit

set_option linter.unusedVariables false

/-- A block that is no part of a row that grows lies as it lay. -/
theorem Bk.grown {w w' : World} {b : Nat} {t : TypeId} {cs : Array Value} {row : Option Nat} (h : Bk w b t cs) (hg : w.grownBy w' row) (hne : some b ≠ row) : Bk w' b t cs := (hg.block b h.lt hne).trans h

theorem owns_below {w w' : World} {B : Nat} {e : TypeId} {size n : Nat} {v : Value} {xs : List Value} (h : w.ownsRow B e size v n xs) (hb : Below w.heap.size w w') : w'.ownsRow B e size v n xs := by
  obtain ⟨hl, h⟩ := h
  refine ⟨hl, ?_⟩
  rcases h with h | ⟨g, cap, cur, e1, hB, hg, rest⟩
  · exact .inl h
  · have hlt := (Array.getElem?_eq_some_iff.1 hg).1
    exact .inr ⟨g, cap, cur, e1, hB, (hb.block g hlt).trans hg, rest⟩

theorem owns_mono {w : World} {B C : Nat} {e : TypeId} {size n : Nat} {v : Value} {xs : List Value} (h : w.ownsRow B e size v n xs) (hC : C ≤ B) : w.ownsRow C e size v n xs := by
  obtain ⟨hl, h⟩ := h
  refine ⟨hl, ?_⟩
  rcases h with h | ⟨g, cap, cur, e1, hB, rest⟩
  · exact .inl h
  · exact .inr ⟨g, cap, cur, e1, by omega, rest⟩

end
end Go.Proofs.Sky

namespace Go.Proofs.Sky
section

open Go.RowKit

set_option linter.unusedVariables false

set_option linter.unusedSimpArgs false

/-- Two rows of a call's own share no block. -/
def Apart2 (u v : Value) : Prop := ∀ j, u.ownBlock = some j → v.ownBlock ≠ some j

theorem Apart2.symm {u v : Value} (h : Apart2 u v) : Apart2 v u := fun j hj e => h j e hj

theorem owns_grown {w w' : World} {B : Nat} {e : TypeId} {size n : Nat} {v : Value} {xs : List Value} {row : Option Nat} (h : w.ownsRow B e size v n xs) (hg : w.grownBy w' row) (hne : ∀ j, v.ownBlock = some j → row ≠ some j) : w'.ownsRow B e size v n xs := by
  obtain ⟨hl, h⟩ := h
  refine ⟨hl, ?_⟩
  rcases h with h | ⟨g, cap, cur, e1, hB, hg', rest⟩
  · exact .inl h
  · have hlt := (Array.getElem?_eq_some_iff.1 hg').1
    exact .inr ⟨g, cap, cur, e1, hB, (hg.block g hlt (fun e2 => hne g (by rw [e1]; rfl) e2.symm)).trans hg', rest⟩

theorem owns_types {w : World} {B C : Nat} {e e' : TypeId} {s s' n n' : Nat} {v v' : Value} {xs xs' : List Value} (h : w.ownsRow B e s v n xs) (h' : w.ownsRow C e' s' v' n' xs') (hne : e ≠ e') : Apart2 v v' := by
  intro j hj hj'
  obtain ⟨_, ⟨e1, _⟩ | ⟨g, cap, cur, e1, _, hg, _⟩⟩ := h
  · rw [e1] at hj; cases hj
  · obtain ⟨_, ⟨e2, _⟩ | ⟨g', cap', cur', e2, _, hg', _⟩⟩ := h'
    · rw [e2] at hj'; cases hj'
    · rw [e1] at hj; rw [e2] at hj'
      cases hj; cases hj'
      rw [hg] at hg'
      cases hg'
      exact hne rfl

theorem owns_bk {w : World} {B : Nat} {e t : TypeId} {s n b : Nat} {v : Value} {xs : List Value} {cs : Array Value} (h : w.ownsRow B e s v n xs) (hb : Bk w b t cs) (hne : e ≠ t) : v.ownBlock ≠ some b := by
  intro hj
  obtain ⟨_, ⟨e1, _⟩ | ⟨g, cap, cur, e1, _, hg, _⟩⟩ := h
  · rw [e1] at hj; cases hj
  · rw [e1] at hj
    cases hj
    have h2 : w.heap[g]? = some (.cells cs t (0, 0)) := hb
    rw [hg] at h2
    cases h2
    exact hne rfl

theorem wpList_append_at {P : Program} {w : World} {ops : Array Oper} {rest : List Oper} {o : Oper} {a : Act} {Q : Exit → Act → World → Prop} (hgd : o.guard = none) (s x : Operand) (t : TypeId)
    (ho : o.op = .call { callee := .builtin .append, args := #[s, x], argTypes := #[t, t] })
    (base : Nat) (e : TypeId) (i : TypeInfo) (z : Value) (size bytes : Nat) (ht : P.underlying t = some (.slice e)) (hi : P.info? e = some i) (hz : i.zero = some z)
    (hsize : i.size = size) (hby : i.bytes = bytes) (hzs : z.cells.size = size) (hsz : 0 < size)
    (v : Value) (n : Nat) (xs : List Value) (hs : a.eval s = v) (hown : w.ownsRow base e size v n xs)
    (ad : Addr) (m c : Nat) (news : List Value) (hx : a.eval x = .slice (some ad) m c) (hl : news.length = m * size) (hnews : ∀ j u, news[j]? = some u → w.cell? (ad.add j) = some u) (h1 : ∀ u ∈ news, u.oneCell' = true)
    (h63 : n + m ≤ maxLen) (hbytes : (n + m) * bytes ≤ 140737488355328) (hbase : base ≤ w.heap.size)
    (h : ∀ v' w', w'.ownsRow base e size v' (n + m) (xs ++ news) → w.grownBy w' v.ownBlock → (v'.ownBlock = v.ownBlock ∨ v'.ownBlock = some w.heap.size) → wpList P ops Q rest (a.put o.dst v') w') : wpList P ops Q (o :: rest) a w :=
  wpList_plain hgd fun K hK => by
    obtain ⟨v', w', hr, h2, h3, h4, h5⟩ := run_append_own_at (P := P) w base t o.type e i z size bytes ht hi hz hsize hby hzs hsz v n xs hown ad m c news hl hnews h1 h63 hbytes hbase
    unfold Oper.wp
    simp [execOp, ho, resolve, invoke, builtin, hs, hx, hr, Result.andThen]
    exact hK _ _ (h v' w' h2 h3 h5)

theorem cells_new (w : World) (cs : Array Value) (t : TypeId) : ∀ j u, cs.toList[j]? = some u → (w.alloc (.cells cs t)).cell? ((⟨w.heap.size, 0, none⟩ : Addr).add j) = some u := by
  intro j u hj
  have h := (Bk.new w cs t).cell (i := j) (v := u) (by simpa using hj)
  by_cases h0 : j = 0
  · subst h0; exact h
  · simpa [Addr.add, h0] using h

theorem owns_slice {w : World} {B : Nat} {e : TypeId} {size n : Nat} {v : Value} {xs : List Value} (h : w.ownsRow B e size v n xs) : ∃ a cap, v = .slice a n cap := by
  obtain ⟨_, ⟨e1, e2⟩ | ⟨g, cap, cur, e1, _⟩⟩ := h
  · exact ⟨none, 0, by rw [e1, e2]⟩
  · exact ⟨_, _, e1⟩

theorem owns_set {w : World} {B : Nat} {e : TypeId} {size n : Nat} {v x : Value} {xs : List Value} {a : Addr} (h : w.ownsRow B e size v n xs) (hne : v.ownBlock ≠ some a.block) : (w.setCell a x).ownsRow B e size v n xs := by
  obtain ⟨hl, h⟩ := h
  refine ⟨hl, ?_⟩
  rcases h with h | ⟨g, cap, cur, e1, hB, hg', rest⟩
  · exact .inl h
  · exact .inr ⟨g, cap, cur, e1, hB, (Below.heap_setCell w a x g (fun e2 => hne (by rw [e1, ← e2]; rfl))).trans hg', rest⟩

end
end Go.Proofs.Sky

namespace Go.Proofs.Ytneacfhoinaeeaa
section

open Go.RowKit Go.Proofs.Sky

set_option linter.unusedVariables false

/-- From cell off of block b on lie n vectors. -/
def VcRow (w : World) (b off n : Nat) (V : Nat → T3) : Prop :=
  ∀ i, i < n → w.cell? ⟨b, off + i * 3, none⟩ = some (.int .i64 (V i).1) ∧ w.cell? ⟨b, off + i * 3 + 1, none⟩ = some (.int .i64 (V i).2.1) ∧ w.cell? ⟨b, off + i * 3 + 2, none⟩ = some (.int .i64 (V i).2.2)

def vcells (v : T3) : List Value := [.int .i64 v.1, .int .i64 v.2.1, .int .i64 v.2.2]

theorem VcRow.below {w w' : World} {b off n : Nat} {V : Nat → T3} (h : VcRow w b off n V) (hb : Below w.heap.size w w') (hl : b < w.heap.size) : VcRow w' b off n V := fun i hi => by
  obtain ⟨h1, h2, h3⟩ := h i hi
  exact ⟨(hb.cell (p := ⟨b, off + i * 3, none⟩) hl).trans h1, (hb.cell (p := ⟨b, off + i * 3 + 1, none⟩) hl).trans h2, (hb.cell (p := ⟨b, off + i * 3 + 2, none⟩) hl).trans h3⟩

end
end Go.Proofs.Ytneacfhoinaeeaa

namespace Go.Proofs.Ytneacfhoinaeeaa
section

open Go.RowKit Go.Proofs.Sky

set_option linter.unusedVariables false

/-- v is a slice of n elements, of c cells each, that lie in w: V. -/
def Sl (w : World) (v : Value) (n c : Nat) (V : Nat → List Value) : Prop :=
  ∃ (a : Option Addr) (cap : Nat), v = .slice a n cap ∧ n ≤ maxLen ∧ (n = 0 ∨ ∃ b off, a = some ⟨b, off, none⟩ ∧ b < w.heap.size ∧ ∀ i, i < n → ∀ j, j < c → w.cell? ⟨b, off + i * c + j, none⟩ = (V i)[j]?)

theorem Sl.below {w w' : World} {B : Nat} {v : Value} {n c : Nat} {V : Nat → List Value} (h : Sl w v n c V) (hb : Below B w w') (hB : w.heap.size ≤ B) : Sl w' v n c V := by
  obtain ⟨a, cap, rfl, hm, h⟩ := h
  refine ⟨a, cap, rfl, hm, ?_⟩
  rcases h with h | ⟨b, off, rfl, hlt, hc⟩
  · exact .inl h
  · exact .inr ⟨b, off, rfl, Nat.lt_of_lt_of_le hlt hb.size, fun i hi j hj => (hb.cell (p := ⟨b, off + i * c + j, none⟩) (Nat.lt_of_lt_of_le hlt hB)).trans (hc i hi j hj)⟩

theorem Sl.congr {w : World} {v : Value} {n c : Nat} {V U : Nat → List Value} (h : Sl w v n c V) (e : ∀ i, i < n → V i = U i) : Sl w v n c U := by
  obtain ⟨a, cap, rfl, hm, h⟩ := h
  refine ⟨a, cap, rfl, hm, ?_⟩
  rcases h with h | ⟨b, off, rfl, hlt, hc⟩
  · exact .inl h
  · exact .inr ⟨b, off, rfl, hlt, fun i hi j hj => by rw [← e i hi]; exact hc i hi j hj⟩

theorem Sl.nil (w : World) (a : Option Addr) (cap c : Nat) (V : Nat → List Value) : Sl w (.slice a 0 cap) 0 c V := ⟨a, cap, rfl, by unfold maxLen; omega, .inl rfl⟩

/-- Rows of one length, laid behind one another: the cell j of row i. -/
theorem flat_at {α : Type} (f : α → List Value) (c : Nat) (hf : ∀ x, (f x).length = c) : ∀ (l : List α) (i : Nat) (h : i < l.length) (j : Nat), j < c → (l.flatMap f)[i * c + j]? = (f l[i])[j]?
  | [], i, h, j, hj => by simp at h
  | x :: l, 0, h, j, hj => by
    rw [List.flatMap_cons, Nat.zero_mul, Nat.zero_add, List.getElem?_append_left (by rw [hf]; exact hj)]
    rfl
  | x :: l, i + 1, h, j, hj => by
    have h' : i < l.length := by simpa using h
    rw [List.flatMap_cons, List.getElem?_append_right (by rw [hf, Nat.succ_mul]; omega), hf, show (i + 1) * c + j - c = i * c + j by rw [Nat.succ_mul]; omega]
    exact flat_at f c hf l i h' j hj

/-- v is a slice whose elements are those of the list l, each laid by f. -/
def Sll {α : Type} (w : World) (v : Value) (c : Nat) (f : α → List Value) (l : List α) : Prop :=
  ∃ (a : Option Addr) (cap : Nat), v = .slice a l.length cap ∧ l.length ≤ maxLen ∧ (l.length = 0 ∨ ∃ b off, a = some ⟨b, off, none⟩ ∧ b < w.heap.size ∧ ∀ i (h : i < l.length), ∀ j, j < c → w.cell? ⟨b, off + i * c + j, none⟩ = (f l[i])[j]?)

theorem Sll.below {α : Type} {w w' : World} {B : Nat} {v : Value} {c : Nat} {f : α → List Value} {l : List α} (h : Sll w v c f l) (hb : Below B w w') (hB : w.heap.size ≤ B) : Sll w' v c f l := by
  obtain ⟨a, cap, rfl, hm, h⟩ := h
  refine ⟨a, cap, rfl, hm, ?_⟩
  rcases h with h | ⟨b, off, rfl, hlt, hc⟩
  · exact .inl h
  · exact .inr ⟨b, off, rfl, Nat.lt_of_lt_of_le hlt hb.size, fun i hi j hj => (hb.cell (p := ⟨b, off + i * c + j, none⟩) (Nat.lt_of_lt_of_le hlt hB)).trans (hc i hi j hj)⟩

/-- A row that a call made, as a slice. -/
theorem owns_sll {α : Type} {w : World} {B : Nat} {e : TypeId} {size n : Nat} {v : Value} {f : α → List Value} {l : List α} (hf : ∀ x, (f x).length = size) (h0 : 0 < size) (hn : n = l.length) (hm : n ≤ maxLen) (h : w.ownsRow B e size v n (l.flatMap f)) : Sll w v size f l := by
  subst hn
  obtain ⟨hl, h⟩ := h
  rcases h with ⟨rfl, hz⟩ | ⟨g, cap, cur, rfl, hB, hg, hn, hms, hs, hx⟩
  · exact ⟨none, 0, by rw [hz], hm, .inl hz⟩
  · refine ⟨_, cap, rfl, hm, ?_⟩
    by_cases hz : l.length = 0
    · exact .inl hz
    · refine .inr ⟨g, 0, rfl, ?_, fun i hi j hj => ?_⟩
      · rcases Nat.lt_or_ge g w.heap.size with q | q
        · exact q
        · rw [Array.getElem?_eq_none q] at hg; cases hg
      · have e1 := flat_at f size hf l i hi j hj
        rw [Nat.zero_add, ← e1]
        have e2 := e1
        rw [← hx, List.getElem?_take] at e2
        split at e2
        · rename_i hlt
          simp only [World.cell?, hg]
          rw [← hx, List.getElem?_take, if_pos hlt]
          simp
        · have hl2 : j < (f l[i]).length := by rw [hf]; exact hj
          rw [List.getElem?_eq_getElem hl2] at e2
          cases e2

end
end Go.Proofs.Ytneacfhoinaeeaa

namespace Go.Proofs.Sky
section

open Go.RowKit

set_option linter.unusedVariables false

abbrev H3 := Int × Int × Int

def hb (a b : H3) : Bool := fless a.2.1 a.2.2 b.2.1 b.2.2 || (fsame a.2.1 a.2.2 b.2.1 b.2.2 && decide (a.1 < b.1))

def hitAt (p : Pr) (i : Nat) (o d : T3) (fr : Int) : List H3 := if (pHit p i o d fr).2 = true then [((i : Int), (pHit p i o d fr).1)] else []

def hUp (P : Nat → Pr) (k : Nat) (o d : T3) (fr : Int) : List H3 := (List.range k).flatMap (fun i => hitAt (P i) i o d fr)

def hBest (l : List H3) (x : H3) : Bool := l.all (fun y => !hb y x)

def hFirst (l : List H3) : H3 × Bool := match l.find? (hBest l) with | some x => (x, true) | none => ((0, 0, 0), false)

def hClosest (P : Nat → Pr) (n : Nat) (o d : T3) (fr : Int) : H3 × Bool := hFirst (hUp P n o d fr)

def hAny (P : Nat → Pr) (n : Nat) (o d : T3) (fr m e : Int) : Bool := (hUp P n o d fr).any (fun h => !decide (1 ≤ e) || fless h.2.1 h.2.2 m e)

def hSel (h : H3) (Z : Nat → Int) (n : Nat) : List H3 := (List.range n).flatMap (fun k => if Z k = h.1 then [h] else [])

def hSome (l : List H3) (Z : Nat → Int) (n : Nat) : List H3 := l.flatMap (fun h => hSel h Z n)

def hAmong (P : Nat → Pr) (n : Nat) (Z : Nat → Int) (m : Nat) (o d : T3) (fr : Int) : H3 × Bool := hFirst (hSome (hUp P n o d fr) Z m)

/-- A hit that may be. -/
def Hok (a : H3) : Prop := 1 ≤ a.2.1 ∧ 1 ≤ a.2.2

end
end Go.Proofs.Sky

namespace Go.Proofs.Sky
section

open Go.RowKit

set_option linter.unusedVariables false

def nd0 : Nd := (((0, 0, 0), (0, 0, 0)), 0, 0, 0)

/-- Where the things of node i's part begin: behind the last leaf ahead of it. -/
def mFrom (ns : List Nd) : Nat → Int
  | 0 => 0
  | k + 1 => if 0 < (ns.getD k nd0).2.2.1 then (ns.getD k nd0).2.1 + (ns.getD k nd0).2.2.1 else mFrom ns k

def mThing (ns : List Nd) (m : Int) (i : Nat) : Int := (mPart ns m i (mFrom ns i)).2.1

-- the least box around things

/-- The least box around the things that stand in the order from a on, ahead of b. -/
def mBox (P : Nat → Pr) (ord : List Int) (k : Nat) : Bx := pBox (P (ord.getD k 0).toNat)

def mAt (P : Nat → Pr) (ord : List Int) (a b : Int) : Bx := bAll (fun k => mBox P ord (a.toNat + k)) (b - a).toNat

/-- What the least box of a node is, if those of its parts are least. -/
def mLeast (ns : List Nd) (P : Nat → Pr) (ord : List Int) (d : Nd) (j : Nat) : Bx :=
  if 0 < d.2.2.1 then mAt P ord d.2.1 (d.2.1 + d.2.2.1) else bJoin (ns.getD (j + 1) nd0).1 (ns.getD d.2.2.2.toNat nd0).1

/-- All boxes from node k on are those. -/
def mLow (ns : List Nd) (P : Nat → Pr) (ord : List Int) (k : Nat) : Bool := (List.range ns.length).all (fun j => decide (j < k) || decide ((ns.getD j nd0).1 = mLeast ns P ord (ns.getD j nd0) j))

/-- All boxes are the least ones around their things. -/
def mBoxes (ns : List Nd) (P : Nat → Pr) (ord : List Int) : Nat → Bool
  | 0 => true
  | k + 1 => mBoxes ns P ord k && decide ((ns.getD k nd0).1 = mAt P ord (mFrom ns k) (mThing ns ord.length k))

def mWh (ns : List Nd) (P : Nat → Pr) (ord : List Int) (n : Nat) : Bool :=
  (mWhole ns ord.length).2.2.2.2 && (pAll P n && (mOnce ord n && mBoxes ns P ord ns.length))

end
end Go.Proofs.Sky

namespace Go.Proofs.Sky
section

open Go.RowKit

set_option linter.unusedVariables false

def setRight (d : Nd) (k : Nat) : Nd := (d.1, d.2.1, d.2.2.1, (k : Int))

/-- The nodes, once the right part of one of them is known. -/
def setR (ns : List Nd) : Option Nat → Nat → List Nd
  | none, _ => ns
  | some i, k => ns.set i (setRight (ns.getD i nd0) k)

/-- What a stack of parts (the top first) comes to. -/
def mRun (P : Nat → Pr) : List (List Nat × Option Nat) → List Nd × List Nat → List Nd × List Nat
  | [], s => s
  | (th, r) :: rest, s => mRun P rest (setR s.1 r s.1.length ++ (mGrow P th.length th s.1.length s.2.length).1, s.2 ++ (mGrow P th.length th s.1.length s.2.length).2)

/-- How many things the parts of a stack have. -/
def mMass : List (List Nat × Option Nat) → Nat
  | [] => 0
  | x :: r => x.1.length + mMass r

end
end Go.Proofs.Sky
