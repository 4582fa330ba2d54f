/- Slices of structs, seen as rows of cells: that came in, or that a call made. -/
import Derived.Test.YtneacfhoinaeeaaMc12
import Derived.Test.YtneacfhoinaeeaaMc6
import Derived.Laws.AppendOwn


namespace Go.Proofs.Ytneacfhoinaeeaa
section

open Go.RowKit Go.Proofs.Sky

set_option linter.unusedVariables false

/-- v is a slice of n elements, of c cells each, that lie in w: V. -/
def Sl (w : World) (v : Value) (n c : Nat) (V : Nat → List Value) : Prop :=
  ∃ (a : Option Addr) (cap : Nat), v = .slice a n cap ∧ n ≤ maxLen ∧ (n = 0 ∨ ∃ b off, a = some ⟨b, off, none⟩ ∧ b < w.heap.size ∧ ∀ i, i < n → ∀ j, j < c → w.cell? ⟨b, off + i * c + j, none⟩ = (V i)[j]?)

theorem Sl.below {w w' : World} {B : Nat} {v : Value} {n c : Nat} {V : Nat → List Value} (h : Sl w v n c V) (hb : Below B w w') (hB : w.heap.size ≤ B) : Sl w' v n c V := by
  obtain ⟨a, cap, rfl, hm, h⟩ := h
  refine ⟨a, cap, rfl, hm, ?_⟩
  rcases h with h | ⟨b, off, rfl, hlt, hc⟩
  · exact .inl h
  · exact .inr ⟨b, off, rfl, Nat.lt_of_lt_of_le hlt hb.size, fun i hi j hj => (hb.cell (p := ⟨b, off + i * c + j, none⟩) (Nat.lt_of_lt_of_le hlt hB)).trans (hc i hi j hj)⟩

theorem Sl.congr {w : World} {v : Value} {n c : Nat} {V U : Nat → List Value} (h : Sl w v n c V) (e : ∀ i, i < n → V i = U i) : Sl w v n c U := by
  obtain ⟨a, cap, rfl, hm, h⟩ := h
  refine ⟨a, cap, rfl, hm, ?_⟩
  rcases h with h | ⟨b, off, rfl, hlt, hc⟩
  · exact .inl h
  · exact .inr ⟨b, off, rfl, hlt, fun i hi j hj => by rw [← e i hi]; exact hc i hi j hj⟩

theorem Sl.nil (w : World) (a : Option Addr) (cap c : Nat) (V : Nat → List Value) : Sl w (.slice a 0 cap) 0 c V := ⟨a, cap, rfl, by unfold maxLen; omega, .inl rfl⟩

/-- Rows of one length, laid behind one another: the cell j of row i. -/
theorem flat_at {α : Type} (f : α → List Value) (c : Nat) (hf : ∀ x, (f x).length = c) : ∀ (l : List α) (i : Nat) (h : i < l.length) (j : Nat), j < c → (l.flatMap f)[i * c + j]? = (f l[i])[j]?
  | [], i, h, j, hj => by simp at h
  | x :: l, 0, h, j, hj => by
    rw [List.flatMap_cons, Nat.zero_mul, Nat.zero_add, List.getElem?_append_left (by rw [hf]; exact hj)]
    rfl
  | x :: l, i + 1, h, j, hj => by
    have h' : i < l.length := by simpa using h
    rw [List.flatMap_cons, List.getElem?_append_right (by rw [hf, Nat.succ_mul]; omega), hf, show (i + 1) * c + j - c = i * c + j by rw [Nat.succ_mul]; omega]
    exact flat_at f c hf l i h' j hj

/-- v is a slice whose elements are those of the list l, each laid by f. -/
def Sll {α : Type} (w : World) (v : Value) (c : Nat) (f : α → List Value) (l : List α) : Prop :=
  ∃ (a : Option Addr) (cap : Nat), v = .slice a l.length cap ∧ l.length ≤ maxLen ∧ (l.length = 0 ∨ ∃ b off, a = some ⟨b, off, none⟩ ∧ b < w.heap.size ∧ ∀ i (h : i < l.length), ∀ j, j < c → w.cell? ⟨b, off + i * c + j, none⟩ = (f l[i])[j]?)

theorem Sll.below {α : Type} {w w' : World} {B : Nat} {v : Value} {c : Nat} {f : α → List Value} {l : List α} (h : Sll w v c f l) (hb : Below B w w') (hB : w.heap.size ≤ B) : Sll w' v c f l := by
  obtain ⟨a, cap, rfl, hm, h⟩ := h
  refine ⟨a, cap, rfl, hm, ?_⟩
  rcases h with h | ⟨b, off, rfl, hlt, hc⟩
  · exact .inl h
  · exact .inr ⟨b, off, rfl, Nat.lt_of_lt_of_le hlt hb.size, fun i hi j hj => (hb.cell (p := ⟨b, off + i * c + j, none⟩) (Nat.lt_of_lt_of_le hlt hB)).trans (hc i hi j hj)⟩

/-- A row that a call made, as a slice. -/
theorem owns_sll {α : Type} {w : World} {B : Nat} {e : TypeId} {size n : Nat} {v : Value} {f : α → List Value} {l : List α} (hf : ∀ x, (f x).length = size) (h0 : 0 < size) (hn : n = l.length) (hm : n ≤ maxLen) (h : w.ownsRow B e size v n (l.flatMap f)) : Sll w v size f l := by
  subst hn
  obtain ⟨hl, h⟩ := h
  rcases h with ⟨rfl, hz⟩ | ⟨g, cap, cur, rfl, hB, hg, hn, hms, hs, hx⟩
  · exact ⟨none, 0, by rw [hz], hm, .inl hz⟩
  · refine ⟨_, cap, rfl, hm, ?_⟩
    by_cases hz : l.length = 0
    · exact .inl hz
    · refine .inr ⟨g, 0, rfl, ?_, fun i hi j hj => ?_⟩
      · rcases Nat.lt_or_ge g w.heap.size with q | q
        · exact q
        · rw [Array.getElem?_eq_none q] at hg; cases hg
      · have e1 := flat_at f size hf l i hi j hj
        rw [Nat.zero_add, ← e1]
        have e2 := e1
        rw [← hx, List.getElem?_take] at e2
        split at e2
        · rename_i hlt
          simp only [World.cell?, hg]
          rw [← hx, List.getElem?_take, if_pos hlt]
          simp
        · have hl2 : j < (f l[i]).length := by rw [hf]; exact hj
          rw [List.getElem?_eq_getElem hl2] at e2
          cases e2

end
end Go.Proofs.Ytneacfhoinaeeaa
