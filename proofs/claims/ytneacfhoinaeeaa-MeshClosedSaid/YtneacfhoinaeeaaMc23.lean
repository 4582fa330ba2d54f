/- Rows that grow, and what lies beside them. Imports nothing of the translation. -/
import Derived.Test.YtneacfhoinaeeaaMc19
import Derived.Test.YtneacfhoinaeeaaMc7
import Derived.Maps.AppendAt
import Derived.OwnWalk
import Derived.Laws.ResultCell
import Derived.Laws.OwnMore


namespace Go.Proofs.Sky
section

open Go.RowKit

set_option linter.unusedVariables false

set_option linter.unusedSimpArgs false

/-- Two rows of a call's own share no block. -/
def Apart2 (u v : Value) : Prop := ∀ j, u.ownBlock = some j → v.ownBlock ≠ some j

theorem Apart2.symm {u v : Value} (h : Apart2 u v) : Apart2 v u := fun j hj e => h j e hj

theorem owns_grown {w w' : World} {B : Nat} {e : TypeId} {size n : Nat} {v : Value} {xs : List Value} {row : Option Nat} (h : w.ownsRow B e size v n xs) (hg : w.grownBy w' row) (hne : ∀ j, v.ownBlock = some j → row ≠ some j) : w'.ownsRow B e size v n xs := by
  obtain ⟨hl, h⟩ := h
  refine ⟨hl, ?_⟩
  rcases h with h | ⟨g, cap, cur, e1, hB, hg', rest⟩
  · exact .inl h
  · have hlt := (Array.getElem?_eq_some_iff.1 hg').1
    exact .inr ⟨g, cap, cur, e1, hB, (hg.block g hlt (fun e2 => hne g (by rw [e1]; rfl) e2.symm)).trans hg', rest⟩

theorem owns_types {w : World} {B C : Nat} {e e' : TypeId} {s s' n n' : Nat} {v v' : Value} {xs xs' : List Value} (h : w.ownsRow B e s v n xs) (h' : w.ownsRow C e' s' v' n' xs') (hne : e ≠ e') : Apart2 v v' := by
  intro j hj hj'
  obtain ⟨_, ⟨e1, _⟩ | ⟨g, cap, cur, e1, _, hg, _⟩⟩ := h
  · rw [e1] at hj; cases hj
  · obtain ⟨_, ⟨e2, _⟩ | ⟨g', cap', cur', e2, _, hg', _⟩⟩ := h'
    · rw [e2] at hj'; cases hj'
    · rw [e1] at hj; rw [e2] at hj'
      cases hj; cases hj'
      rw [hg] at hg'
      cases hg'
      exact hne rfl

theorem owns_bk {w : World} {B : Nat} {e t : TypeId} {s n b : Nat} {v : Value} {xs : List Value} {cs : Array Value} (h : w.ownsRow B e s v n xs) (hb : Bk w b t cs) (hne : e ≠ t) : v.ownBlock ≠ some b := by
  intro hj
  obtain ⟨_, ⟨e1, _⟩ | ⟨g, cap, cur, e1, _, hg, _⟩⟩ := h
  · rw [e1] at hj; cases hj
  · rw [e1] at hj
    cases hj
    have h2 : w.heap[g]? = some (.cells cs t (0, 0)) := hb
    rw [hg] at h2
    cases h2
    exact hne rfl

theorem wpList_append_at {P : Program} {w : World} {ops : Array Oper} {rest : List Oper} {o : Oper} {a : Act} {Q : Exit → Act → World → Prop} (hgd : o.guard = none) (s x : Operand) (t : TypeId)
    (ho : o.op = .call { callee := .builtin .append, args := #[s, x], argTypes := #[t, t] })
    (base : Nat) (e : TypeId) (i : TypeInfo) (z : Value) (size bytes : Nat) (ht : P.underlying t = some (.slice e)) (hi : P.info? e = some i) (hz : i.zero = some z)
    (hsize : i.size = size) (hby : i.bytes = bytes) (hzs : z.cells.size = size) (hsz : 0 < size)
    (v : Value) (n : Nat) (xs : List Value) (hs : a.eval s = v) (hown : w.ownsRow base e size v n xs)
    (ad : Addr) (m c : Nat) (news : List Value) (hx : a.eval x = .slice (some ad) m c) (hl : news.length = m * size) (hnews : ∀ j u, news[j]? = some u → w.cell? (ad.add j) = some u) (h1 : ∀ u ∈ news, u.oneCell' = true)
    (h63 : n + m ≤ maxLen) (hbytes : (n + m) * bytes ≤ 140737488355328) (hbase : base ≤ w.heap.size)
    (h : ∀ v' w', w'.ownsRow base e size v' (n + m) (xs ++ news) → w.grownBy w' v.ownBlock → (v'.ownBlock = v.ownBlock ∨ v'.ownBlock = some w.heap.size) → wpList P ops Q rest (a.put o.dst v') w') : wpList P ops Q (o :: rest) a w :=
  wpList_plain hgd fun K hK => by
    obtain ⟨v', w', hr, h2, h3, h4, h5⟩ := run_append_own_at (P := P) w base t o.type e i z size bytes ht hi hz hsize hby hzs hsz v n xs hown ad m c news hl hnews h1 h63 hbytes hbase
    unfold Oper.wp
    simp [execOp, ho, resolve, invoke, builtin, hs, hx, hr, Result.andThen]
    exact hK _ _ (h v' w' h2 h3 h5)

theorem cells_new (w : World) (cs : Array Value) (t : TypeId) : ∀ j u, cs.toList[j]? = some u → (w.alloc (.cells cs t)).cell? ((⟨w.heap.size, 0, none⟩ : Addr).add j) = some u := by
  intro j u hj
  have h := (Bk.new w cs t).cell (i := j) (v := u) (by simpa using hj)
  by_cases h0 : j = 0
  · subst h0; exact h
  · simpa [Addr.add, h0] using h

theorem owns_slice {w : World} {B : Nat} {e : TypeId} {size n : Nat} {v : Value} {xs : List Value} (h : w.ownsRow B e size v n xs) : ∃ a cap, v = .slice a n cap := by
  obtain ⟨_, ⟨e1, e2⟩ | ⟨g, cap, cur, e1, _⟩⟩ := h
  · exact ⟨none, 0, by rw [e1, e2]⟩
  · exact ⟨_, _, e1⟩

theorem owns_set {w : World} {B : Nat} {e : TypeId} {size n : Nat} {v x : Value} {xs : List Value} {a : Addr} (h : w.ownsRow B e size v n xs) (hne : v.ownBlock ≠ some a.block) : (w.setCell a x).ownsRow B e size v n xs := by
  obtain ⟨hl, h⟩ := h
  refine ⟨hl, ?_⟩
  rcases h with h | ⟨g, cap, cur, e1, hB, hg', rest⟩
  · exact .inl h
  · exact .inr ⟨g, cap, cur, e1, hB, (Below.heap_setCell w a x g (fun e2 => hne (by rw [e1, ← e2]; rfl))).trans hg', rest⟩

end
end Go.Proofs.Sky
