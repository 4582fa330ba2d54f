/- The landed Build in memory: rows of nodes, of indices, of boxes, and of parts that are still to be built. -/
import Derived.Test.YtomlcglnkdfemaaTt35
import Derived.Test.YtomlcglnkdfemaaTt24


namespace Go.Proofs.Ytomlcglnkdfemaa
section

open Go.RowKit Go.Proofs.Sky

set_option linter.unusedVariables false

def pint : Option Nat → Int
  | none => -1
  | some i => (i : Int)

/-- A part that is still to be built: the slice of its things, they, and the place of the node whose right part it is. -/
abbrev Pc := Value × List Nat × Option Nat

def pcell2 (x : Pc) : List Value := [x.1, .int .i64 (pint x.2.2)]

theorem pcell2_len (x : Pc) : (pcell2 x).length = 2 := rfl

def PrtRow (w : World) (B : Nat) (v : Value) (X : List Pc) : Prop := w.ownsRow B 74 2 v X.length (X.reverse.flatMap pcell2)

def NodRow (w : World) (B : Nat) (v : Value) (l : List Nd) : Prop := w.ownsRow B 48 9 v l.length (l.flatMap ncells)

theorem NodRow.below {w w' : World} {B : Nat} {v : Value} {l : List Nd} (h : NodRow w B v l) (hb : Below w.heap.size w w') : NodRow w' B v l := owns_below h hb

theorem nodrow_alloc {w W : World} {B : Nat} {v : Value} {l : List Nd} {o : Obj} (hW : W = w.alloc o) (h : NodRow w B v l) : NodRow W B v l := by
  subst hW; exact World.ownsRow.alloc h o

theorem nodrow_nodes {w : World} {B : Nat} {v : Value} {l : List Nd} (h : NodRow w B v l) (hn : l.length ≤ 1048576) : Nodes w v l :=
  owns_sll (f := ncells) ncells_len (by omega) rfl (by unfold maxLen; omega) h

theorem part_info : (Try.prog.info? 74).map (fun i => (i.zero, i.size, i.bytes)) = some (some (.agg #[.slice none 0 0, .int .i64 0]), 2, 32) := by kernel_rfl

theorem node_info : (Try.prog.info? 48).map (fun i => (i.zero, i.size, i.bytes)) = some (some (.agg #[.int .i64 0, .int .i64 0, .int .i64 0, .int .i64 0, .int .i64 0, .int .i64 0, .int .i64 0, .int .i64 0, .int .i64 0]), 9, 72) := by kernel_rfl

theorem owns_types {w : World} {B C : Nat} {e e' : TypeId} {s s' n n' : Nat} {v v' : Value} {xs xs' : List Value} (h : w.ownsRow B e s v n xs) (h' : w.ownsRow C e' s' v' n' xs') (hne : e ≠ e') : Apart2 v v' := by
  intro j hj hj'
  obtain ⟨_, ⟨e1, _⟩ | ⟨g, cap, cur, e1, _, hg, _⟩⟩ := h
  · rw [e1] at hj; cases hj
  · obtain ⟨_, ⟨e2, _⟩ | ⟨g', cap', cur', e2, _, hg', _⟩⟩ := h'
    · rw [e2] at hj'; cases hj'
    · rw [e1] at hj; rw [e2] at hj'
      cases hj; cases hj'
      rw [hg] at hg'
      cases hg'
      exact hne rfl

theorem owns_bk {w : World} {B : Nat} {e t : TypeId} {s n b : Nat} {v : Value} {xs : List Value} {cs : Array Value} (h : w.ownsRow B e s v n xs) (hb : Bk w b t cs) (hne : e ≠ t) : v.ownBlock ≠ some b := by
  intro hj
  obtain ⟨_, ⟨e1, _⟩ | ⟨g, cap, cur, e1, _, hg, _⟩⟩ := h
  · rw [e1] at hj; cases hj
  · rw [e1] at hj
    cases hj
    have h2 : w.heap[g]? = some (.cells cs t (0, 0)) := hb
    rw [hg] at h2
    cases h2
    exact hne rfl

theorem owns_setbk {w : World} {B : Nat} {e : TypeId} {size n : Nat} {v : Value} {xs : List Value} (h : w.ownsRow B e size v n xs) {a : Addr} (ha : v.ownBlock ≠ some a.block) (x : Value) : (w.setCell a x).ownsRow B e size v n xs := by
  obtain ⟨hl, h⟩ := h
  refine ⟨hl, ?_⟩
  rcases h with h | ⟨g, cap, cur, e1, hB, hg, rest⟩
  · exact .inl h
  · exact .inr ⟨g, cap, cur, e1, hB, (Below.heap_setCell w a x g (fun e2 => ha (by rw [e1, ← e2]; rfl))).trans hg, rest⟩

theorem grown_bk {w w' : World} {B : Nat} {e t : TypeId} {size n b : Nat} {v : Value} {xs : List Value} {cs : Array Value} (h : w.ownsRow B e size v n xs) (hb : Bk w b t cs) (hne : e ≠ t) (hg : w.grownBy w' v.ownBlock) : Bk w' b t cs :=
  Bk.grown hb hg (fun e2 => owns_bk h hb hne e2.symm)

structure BSt (w : World) (B : Nat) (ub un uo us : Value) (bx : List Bx) (ns : List Nd) (od : List Nat) (X : List Pc) : Prop where
  box : BoxRow w B ub bx
  nod : NodRow w B un ns
  ord : Ints w B uo od
  stk : PrtRow w B us X
  prt : ∀ x ∈ X, Ints w B x.1 x.2.1 ∧ Apart2 x.1 uo

variable {w w' W : World} {B b : Nat} {ub un uo us : Value} {bx : List Bx} {ns : List Nd} {od : List Nat} {X : List Pc}

theorem BSt.below (h : BSt w B ub un uo us bx ns od X) (hb : Below w.heap.size w w') : BSt w' B ub un uo us bx ns od X :=
  ⟨h.box.below hb, owns_below h.nod hb, h.ord.below hb, owns_below h.stk hb, fun x hx => ⟨(h.prt x hx).1.below hb, (h.prt x hx).2⟩⟩

theorem bst_alloc {o : Obj} (hW : W = w.alloc o) (h : BSt w B ub un uo us bx ns od X) : BSt W B ub un uo us bx ns od X := by
  subst hW
  exact ⟨World.ownsRow.alloc h.box o, World.ownsRow.alloc h.nod o, World.ownsRow.alloc h.ord o, World.ownsRow.alloc h.stk o, fun x hx => ⟨World.ownsRow.alloc (h.prt x hx).1 o, (h.prt x hx).2⟩⟩

theorem BSt.setT {cs : Array Value} {i : Nat} {x : Value} (h : BSt w B ub un uo us bx ns od X) (hb : Bk w b 30 cs) : BSt (w.setCell ⟨b, i, none⟩ x) B ub un uo us bx ns od X :=
  ⟨owns_setbk h.box (a := ⟨b, i, none⟩) (owns_bk h.box hb (by decide)) x, owns_setbk h.nod (a := ⟨b, i, none⟩) (owns_bk h.nod hb (by decide)) x, owns_setbk h.ord (a := ⟨b, i, none⟩) (owns_bk h.ord hb (by decide)) x, owns_setbk h.stk (a := ⟨b, i, none⟩) (owns_bk h.stk hb (by decide)) x,
    fun y hy => ⟨owns_setbk (h.prt y hy).1 (a := ⟨b, i, none⟩) (owns_bk (h.prt y hy).1 hb (by decide)) x, (h.prt y hy).2⟩⟩

theorem apart_row {u v : Value} (h : Apart2 u v) : ∀ j, v.ownBlock = some j → u.ownBlock ≠ some j := fun j hj e => h j e hj

theorem BSt.putNode {un' : Value} {ns' : List Nd} (h : BSt w B ub un uo us bx ns od X) (hn : NodRow w' B un' ns') (hg : w.grownBy w' un.ownBlock) : BSt w' B ub un' uo us bx ns' od X :=
  ⟨owns_grown h.box hg (apart_row (owns_types h.nod h.box (by decide))), hn, owns_grown h.ord hg (apart_row (owns_types h.nod h.ord (by decide))), owns_grown h.stk hg (apart_row (owns_types h.nod h.stk (by decide))),
    fun x hx => ⟨owns_grown (h.prt x hx).1 hg (apart_row (owns_types h.nod (h.prt x hx).1 (by decide))), (h.prt x hx).2⟩⟩

theorem BSt.putOrd {uo' : Value} {od' : List Nat} (h : BSt w B ub un uo us bx ns od X) (ho : Ints w' B uo' od') (hg : w.grownBy w' uo.ownBlock) (hat : uo'.ownBlock = uo.ownBlock ∨ uo'.ownBlock = some w.heap.size) : BSt w' B ub un uo' us bx ns od' X :=
  ⟨owns_grown h.box hg (apart_row (owns_types h.ord h.box (by decide))), owns_grown h.nod hg (apart_row (owns_types h.ord h.nod (by decide))), ho, owns_grown h.stk hg (apart_row (owns_types h.ord h.stk (by decide))),
    fun x hx => ⟨owns_grown (h.prt x hx).1 hg (apart_row (h.prt x hx).2.symm), fun j hj e => by
      rcases hat with q | q
      · exact (h.prt x hx).2 j hj (by rw [← q]; exact e)
      · rw [q] at e
        cases e
        have := (World.ownsRow.lt (h.prt x hx).1 _ hj).2
        omega⟩⟩

theorem BSt.putStk {us' : Value} {X' : List Pc} (h : BSt w B ub un uo us bx ns od X) (hs : PrtRow w' B us' X') (hg : w.grownBy w' us.ownBlock) (hx : ∀ x ∈ X', Ints w B x.1 x.2.1 ∧ Apart2 x.1 uo) : BSt w' B ub un uo us' bx ns od X' :=
  ⟨owns_grown h.box hg (apart_row (owns_types h.stk h.box (by decide))), owns_grown h.nod hg (apart_row (owns_types h.stk h.nod (by decide))), owns_grown h.ord hg (apart_row (owns_types h.stk h.ord (by decide))), hs,
    fun x hm => ⟨owns_grown (hx x hm).1 hg (apart_row (owns_types h.stk (hx x hm).1 (by decide))), (hx x hm).2⟩⟩

/-- The node whose right part is known now. -/
theorem BSt.setRgt {g cap i k : Nat} (h : BSt w B ub (.slice (some ⟨g, 0, none⟩) ns.length cap) uo us bx ns od X) (hi : i < ns.length) :
    BSt (w.setCell ⟨g, i * 9 + 8, none⟩ (.int .i64 (k : Int))) B ub (.slice (some ⟨g, 0, none⟩) ns.length cap) uo us bx (setR ns (some i) k) od X ∧ w.frozen? ⟨g, i * 9 + 8, none⟩ = false ∧ (w.cell? ⟨g, i * 9 + 8, none⟩).isSome = true := by
  have hs := World.ownsRow.stored h.nod (i * 9 + 8) (.int .i64 (k : Int))
  have e := flat_set ncells 9 ncells_len ns i 8 (setRight (ns.getD i nd0) k) (.int .i64 (k : Int)) hi (by omega) (fun y hy => by
    have : ns.getD i nd0 = y := by rw [List.getD_eq_getElem?_getD, hy]; rfl
    rw [this]; rfl)
  rw [e] at hs
  have hl : (setR ns (some i) k).length = ns.length := setR_len _ _ _
  refine ⟨BSt.putNode h ?_ hs.2, World.ownsRow.frozenAt h.nod _, ?_⟩
  · unfold NodRow
    rw [hl]
    exact hs.1
  · rw [owns_at (f := ncells) (l := ns) ncells_len h.nod hi (by omega : 8 < 9)]
    rfl

/-- The top part. -/
theorem BSt.pop {x : Pc} (h : BSt w B ub un uo us bx ns od (x :: X)) : ∃ g cap, us = .slice (some ⟨g, 0, none⟩) (X.length + 1) cap ∧ B ≤ g ∧ g < w.heap.size ∧ X.length + 1 ≤ cap ∧
    w.cell? ⟨g, X.length * 2, none⟩ = some x.1 ∧ w.cell? ⟨g, X.length * 2 + 1, none⟩ = some (.int .i64 (pint x.2.2)) ∧ BSt w B ub un uo (.slice (some ⟨g, 0, none⟩) X.length cap) bx ns od X := by
  obtain ⟨g, cap, rfl, hB, hg, hcap⟩ := owns_some h.stk (by simp)
  refine ⟨g, cap, rfl, hB, hg, by simpa using hcap, ?_, ?_, ⟨h.box, h.nod, h.ord, ?_, fun y hy => h.prt y (List.mem_cons_of_mem _ hy)⟩⟩
  · have e := owns_at (w := w) (f := pcell2) (l := (x :: X).reverse) (i := X.length) (j := 0) pcell2_len h.stk (by simp) (by omega)
    rw [Nat.add_zero] at e
    rw [e]
    simp [pcell2]
  · have e := owns_at (w := w) (f := pcell2) (l := (x :: X).reverse) (i := X.length) (j := 1) pcell2_len h.stk (by simp) (by omega)
    rw [e]
    simp [pcell2]
  · have e := owns_take h.stk (m := X.length) (by simp)
    unfold PrtRow
    rw [flat_take pcell2 2 pcell2_len] at e
    have e2 : (x :: X).reverse.take X.length = X.reverse := by
      rw [List.reverse_cons, List.take_append_of_le_length (by simp)]
      exact List.take_of_length_le (by simp)
    rw [e2] at e
    exact e

theorem prtrow_one {g : Nat} {v : Value} {th : List Nat} (h : Bk w g 74 #[v, .int .i64 (-1)]) (hB : B ≤ g) : PrtRow w B (.slice (some ⟨g, 0, none⟩) 1 1) [(v, th, none)] :=
  ⟨rfl, .inr ⟨g, 1, _, rfl, hB, h, Nat.le_refl _, by unfold maxLen; omega, rfl, rfl⟩⟩

/-- The number of elements of a slice in a cell. -/
def lenV : Value → Nat
  | .slice _ n _ => n
  | _ => 0

def cellL (W : World) (b i : Nat) : Nat := ((W.cell? ⟨b, i, none⟩).map lenV).getD 0

theorem cellL_of {W : World} {b i n cap : Nat} {a : Option Addr} (h : W.cell? ⟨b, i, none⟩ = some (.slice a n cap)) : cellL W b i = n := by
  unfold cellL; rw [h]; rfl

end
end Go.Proofs.Ytomlcglnkdfemaa
