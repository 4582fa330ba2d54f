/- Contracts of the document's own answers, layer 12 (all but Hit). Contracts of the document's own answers, layer 12: Inside, Hit. Contracts of the document's own answers, layer 12: times. Contracts of the document's own answers, layer 12: Value. The landed Build in memory: rows of nodes, of indices, of boxes, and of parts that are still to be built. A tree that came in, opened: a struct of two slices; things that came in. -/
import Derived.Test.YtomlcglnkdfemaaGreatTb18
import Derived.Test.YtomlcglnkdfemaaGreatTb10
import Derived.Test.YtomlcglnkdfemaaGreatTb1
import Derived.Deep.DeepCutAuto
import Derived.Test.YtomlcglnkdfemaaGreatTb13
import Derived.Test.YtomlcglnkdfemaaGreatTb20
import Derived.Test.YtomlcglnkdfemaaGreatTb5
import Derived.Lib.SmallJoins


namespace Go.Proofs.YtomlcglnkdfemaaGreat
section

section

open Go.RowKit Go.Proofs.Sky

set_option linter.unusedVariables false

set_option maxRecDepth 100000 in
set_option maxHeartbeats 8000000 in
theorem ref12_Right (c1 c2 c3 r : Int) (w : World) :
    Calls Tryz.prog 52 #[.agg #[.int .i64 c1, .int .i64 c2, .int .i64 c3], .int .i64 r] w fun en w' => en = .returned (.bool (ballR (c1, c2, c3) r)) ∧ Below w.heap.size w w' := by
  have KP := Lib.hid (fun w => ref11_Place c1 c2 c3 w)
  rw [ballR_eq]
  generalize plc (c1, c2, c3) = e1 at *
  obtain ⟨e2, h2⟩ : ∃ e, e = decide (4 ≤ r) := ⟨_, rfl⟩
  obtain ⟨e3, h3⟩ : ∃ e, e = decide (r ≤ 262144) := ⟨_, rfl⟩
  rw [← h2, ← h3]
  replace h2 := h2.symm
  replace h3 := h3.symm
  go_enter Tryz.func52, Tryz.ntmps52
  go_upto_region 1 with (fail)
  obtain ⟨W1, hW1⟩ : ∃ W, W = w.alloc (.cells #[.int .i64 c1, .int .i64 c2, .int .i64 c3] 37) := ⟨_, rfl⟩
  obtain ⟨k_c, B1⟩ := st1 hW1
  rw [← hW1]
  clear hW1
  obtain ⟨c_c_0, c_c_1, c_c_2⟩ := bwc3 (k_c)
  obtain ⟨p1, hp1⟩ : ∃ p : BW W1, p.w = W1 := ⟨BW.start W1, rfl⟩
  rw [← hp1]
  clear hp1
  rcases e1 with _ | _ <;> rcases e2 with _ | _ <;> rcases e3 with _ | _
  all_goals
    go_wp2_with (first
      | (go_at_call 72; (first | (with_reducible refine (bw_call KP.out _).mono ?_)); rintro e w' ⟨rfl, q, rfl⟩))
    go_ret
    exact ⟨rfl, bw_below B1 _⟩

end

end
end Go.Proofs.YtomlcglnkdfemaaGreat

namespace Go.Proofs.YtomlcglnkdfemaaGreat
section

section

open Go.RowKit Go.Proofs.Sky

set_option linter.unusedVariables false

end

end
end Go.Proofs.YtomlcglnkdfemaaGreat

namespace Go.Proofs.YtomlcglnkdfemaaGreat
section

section

open Go.RowKit Go.Proofs.Sky

set_option linter.unusedVariables false

end

end
end Go.Proofs.YtomlcglnkdfemaaGreat

namespace Go.Proofs.YtomlcglnkdfemaaGreat
section

section

open Go.RowKit Go.Proofs.Sky

set_option linter.unusedVariables false

end

end
end Go.Proofs.YtomlcglnkdfemaaGreat

namespace Go.Proofs.YtomlcglnkdfemaaGreat
section

open Go.RowKit Go.Proofs.Sky

set_option linter.unusedVariables false

def pint : Option Nat → Int
  | none => -1
  | some i => (i : Int)

/-- A part that is still to be built: the slice of its things, they, and the place of the node whose right part it is. -/
abbrev Pc := Value × List Nat × Option Nat

def pcell2 (x : Pc) : List Value := [x.1, .int .i64 (pint x.2.2)]

theorem pcell2_len (x : Pc) : (pcell2 x).length = 2 := rfl

def PrtRow (w : World) (B : Nat) (v : Value) (X : List Pc) : Prop := w.ownsRow B 52 2 v X.length (X.reverse.flatMap pcell2)

def NodRow (w : World) (B : Nat) (v : Value) (l : List Nd) : Prop := w.ownsRow B 43 9 v l.length (l.flatMap ncells)

theorem NodRow.below {w w' : World} {B : Nat} {v : Value} {l : List Nd} (h : NodRow w B v l) (hb : Below w.heap.size w w') : NodRow w' B v l := owns_below h hb

theorem nodrow_alloc {w W : World} {B : Nat} {v : Value} {l : List Nd} {o : Obj} (hW : W = w.alloc o) (h : NodRow w B v l) : NodRow W B v l := by
  subst hW; exact World.ownsRow.alloc h o

theorem nodrow_nodes {w : World} {B : Nat} {v : Value} {l : List Nd} (h : NodRow w B v l) (hn : l.length ≤ 1048576) : Nodes w v l :=
  owns_sll (f := ncells) ncells_len (by omega) rfl (by unfold maxLen; omega) h

theorem part_info : (Tryz.prog.info? 52).map (fun i => (i.zero, i.size, i.bytes)) = some (some (.agg #[.slice none 0 0, .int .i64 0]), 2, 32) := by kernel_rfl

theorem node_info : (Tryz.prog.info? 43).map (fun i => (i.zero, i.size, i.bytes)) = some (some (.agg #[.int .i64 0, .int .i64 0, .int .i64 0, .int .i64 0, .int .i64 0, .int .i64 0, .int .i64 0, .int .i64 0, .int .i64 0]), 9, 72) := by kernel_rfl

theorem owns_types {w : World} {B C : Nat} {e e' : TypeId} {s s' n n' : Nat} {v v' : Value} {xs xs' : List Value} (h : w.ownsRow B e s v n xs) (h' : w.ownsRow C e' s' v' n' xs') (hne : e ≠ e') : Apart2 v v' := by
  intro j hj hj'
  obtain ⟨_, ⟨e1, _⟩ | ⟨g, cap, cur, e1, _, hg, _⟩⟩ := h
  · rw [e1] at hj; cases hj
  · obtain ⟨_, ⟨e2, _⟩ | ⟨g', cap', cur', e2, _, hg', _⟩⟩ := h'
    · rw [e2] at hj'; cases hj'
    · rw [e1] at hj; rw [e2] at hj'
      cases hj; cases hj'
      rw [hg] at hg'
      cases hg'
      exact hne rfl

theorem owns_bk {w : World} {B : Nat} {e t : TypeId} {s n b : Nat} {v : Value} {xs : List Value} {cs : Array Value} (h : w.ownsRow B e s v n xs) (hb : Bk w b t cs) (hne : e ≠ t) : v.ownBlock ≠ some b := by
  intro hj
  obtain ⟨_, ⟨e1, _⟩ | ⟨g, cap, cur, e1, _, hg, _⟩⟩ := h
  · rw [e1] at hj; cases hj
  · rw [e1] at hj
    cases hj
    have h2 : w.heap[g]? = some (.cells cs t (0, 0)) := hb
    rw [hg] at h2
    cases h2
    exact hne rfl

theorem owns_setbk {w : World} {B : Nat} {e : TypeId} {size n : Nat} {v : Value} {xs : List Value} (h : w.ownsRow B e size v n xs) {a : Addr} (ha : v.ownBlock ≠ some a.block) (x : Value) : (w.setCell a x).ownsRow B e size v n xs := by
  obtain ⟨hl, h⟩ := h
  refine ⟨hl, ?_⟩
  rcases h with h | ⟨g, cap, cur, e1, hB, hg, rest⟩
  · exact .inl h
  · exact .inr ⟨g, cap, cur, e1, hB, (Below.heap_setCell w a x g (fun e2 => ha (by rw [e1, ← e2]; rfl))).trans hg, rest⟩

theorem grown_bk {w w' : World} {B : Nat} {e t : TypeId} {size n b : Nat} {v : Value} {xs : List Value} {cs : Array Value} (h : w.ownsRow B e size v n xs) (hb : Bk w b t cs) (hne : e ≠ t) (hg : w.grownBy w' v.ownBlock) : Bk w' b t cs :=
  Bk.grown hb hg (fun e2 => owns_bk h hb hne e2.symm)

structure BSt (w : World) (B : Nat) (ub un uo us : Value) (bx : List Bx) (ns : List Nd) (od : List Nat) (X : List Pc) : Prop where
  box : BoxRow w B ub bx
  nod : NodRow w B un ns
  ord : Ints w B uo od
  stk : PrtRow w B us X
  prt : ∀ x ∈ X, Ints w B x.1 x.2.1 ∧ Apart2 x.1 uo

variable {w w' W : World} {B b : Nat} {ub un uo us : Value} {bx : List Bx} {ns : List Nd} {od : List Nat} {X : List Pc}

theorem BSt.below (h : BSt w B ub un uo us bx ns od X) (hb : Below w.heap.size w w') : BSt w' B ub un uo us bx ns od X :=
  ⟨h.box.below hb, owns_below h.nod hb, h.ord.below hb, owns_below h.stk hb, fun x hx => ⟨(h.prt x hx).1.below hb, (h.prt x hx).2⟩⟩

theorem bst_alloc {o : Obj} (hW : W = w.alloc o) (h : BSt w B ub un uo us bx ns od X) : BSt W B ub un uo us bx ns od X := by
  subst hW
  exact ⟨World.ownsRow.alloc h.box o, World.ownsRow.alloc h.nod o, World.ownsRow.alloc h.ord o, World.ownsRow.alloc h.stk o, fun x hx => ⟨World.ownsRow.alloc (h.prt x hx).1 o, (h.prt x hx).2⟩⟩

theorem BSt.setT {cs : Array Value} {i : Nat} {x : Value} (h : BSt w B ub un uo us bx ns od X) (hb : Bk w b 28 cs) : BSt (w.setCell ⟨b, i, none⟩ x) B ub un uo us bx ns od X :=
  ⟨owns_setbk h.box (a := ⟨b, i, none⟩) (owns_bk h.box hb (by decide)) x, owns_setbk h.nod (a := ⟨b, i, none⟩) (owns_bk h.nod hb (by decide)) x, owns_setbk h.ord (a := ⟨b, i, none⟩) (owns_bk h.ord hb (by decide)) x, owns_setbk h.stk (a := ⟨b, i, none⟩) (owns_bk h.stk hb (by decide)) x,
    fun y hy => ⟨owns_setbk (h.prt y hy).1 (a := ⟨b, i, none⟩) (owns_bk (h.prt y hy).1 hb (by decide)) x, (h.prt y hy).2⟩⟩

theorem apart_row {u v : Value} (h : Apart2 u v) : ∀ j, v.ownBlock = some j → u.ownBlock ≠ some j := fun j hj e => h j e hj

theorem BSt.putNode {un' : Value} {ns' : List Nd} (h : BSt w B ub un uo us bx ns od X) (hn : NodRow w' B un' ns') (hg : w.grownBy w' un.ownBlock) : BSt w' B ub un' uo us bx ns' od X :=
  ⟨owns_grown h.box hg (apart_row (owns_types h.nod h.box (by decide))), hn, owns_grown h.ord hg (apart_row (owns_types h.nod h.ord (by decide))), owns_grown h.stk hg (apart_row (owns_types h.nod h.stk (by decide))),
    fun x hx => ⟨owns_grown (h.prt x hx).1 hg (apart_row (owns_types h.nod (h.prt x hx).1 (by decide))), (h.prt x hx).2⟩⟩

theorem BSt.putOrd {uo' : Value} {od' : List Nat} (h : BSt w B ub un uo us bx ns od X) (ho : Ints w' B uo' od') (hg : w.grownBy w' uo.ownBlock) (hat : uo'.ownBlock = uo.ownBlock ∨ uo'.ownBlock = some w.heap.size) : BSt w' B ub un uo' us bx ns od' X :=
  ⟨owns_grown h.box hg (apart_row (owns_types h.ord h.box (by decide))), owns_grown h.nod hg (apart_row (owns_types h.ord h.nod (by decide))), ho, owns_grown h.stk hg (apart_row (owns_types h.ord h.stk (by decide))),
    fun x hx => ⟨owns_grown (h.prt x hx).1 hg (apart_row (h.prt x hx).2.symm), fun j hj e => by
      rcases hat with q | q
      · exact (h.prt x hx).2 j hj (by rw [← q]; exact e)
      · rw [q] at e
        cases e
        have := (World.ownsRow.lt (h.prt x hx).1 _ hj).2
        omega⟩⟩

theorem BSt.putStk {us' : Value} {X' : List Pc} (h : BSt w B ub un uo us bx ns od X) (hs : PrtRow w' B us' X') (hg : w.grownBy w' us.ownBlock) (hx : ∀ x ∈ X', Ints w B x.1 x.2.1 ∧ Apart2 x.1 uo) : BSt w' B ub un uo us' bx ns od X' :=
  ⟨owns_grown h.box hg (apart_row (owns_types h.stk h.box (by decide))), owns_grown h.nod hg (apart_row (owns_types h.stk h.nod (by decide))), owns_grown h.ord hg (apart_row (owns_types h.stk h.ord (by decide))), hs,
    fun x hm => ⟨owns_grown (hx x hm).1 hg (apart_row (owns_types h.stk (hx x hm).1 (by decide))), (hx x hm).2⟩⟩

/-- The node whose right part is known now. -/
theorem BSt.setRgt {g cap i k : Nat} (h : BSt w B ub (.slice (some ⟨g, 0, none⟩) ns.length cap) uo us bx ns od X) (hi : i < ns.length) :
    BSt (w.setCell ⟨g, i * 9 + 8, none⟩ (.int .i64 (k : Int))) B ub (.slice (some ⟨g, 0, none⟩) ns.length cap) uo us bx (setR ns (some i) k) od X ∧ w.frozen? ⟨g, i * 9 + 8, none⟩ = false ∧ (w.cell? ⟨g, i * 9 + 8, none⟩).isSome = true := by
  have hs := World.ownsRow.stored h.nod (i * 9 + 8) (.int .i64 (k : Int))
  have e := flat_set ncells 9 ncells_len ns i 8 (setRight (ns.getD i nd0) k) (.int .i64 (k : Int)) hi (by omega) (fun y hy => by
    have : ns.getD i nd0 = y := by rw [List.getD_eq_getElem?_getD, hy]; rfl
    rw [this]; rfl)
  rw [e] at hs
  have hl : (setR ns (some i) k).length = ns.length := setR_len _ _ _
  refine ⟨BSt.putNode h ?_ hs.2, World.ownsRow.frozenAt h.nod _, ?_⟩
  · unfold NodRow
    rw [hl]
    exact hs.1
  · rw [owns_at (f := ncells) (l := ns) ncells_len h.nod hi (by omega : 8 < 9)]
    rfl

/-- The top part. -/
theorem BSt.pop {x : Pc} (h : BSt w B ub un uo us bx ns od (x :: X)) : ∃ g cap, us = .slice (some ⟨g, 0, none⟩) (X.length + 1) cap ∧ B ≤ g ∧ g < w.heap.size ∧ X.length + 1 ≤ cap ∧
    w.cell? ⟨g, X.length * 2, none⟩ = some x.1 ∧ w.cell? ⟨g, X.length * 2 + 1, none⟩ = some (.int .i64 (pint x.2.2)) ∧ BSt w B ub un uo (.slice (some ⟨g, 0, none⟩) X.length cap) bx ns od X := by
  obtain ⟨g, cap, rfl, hB, hg, hcap⟩ := owns_some h.stk (by simp)
  refine ⟨g, cap, rfl, hB, hg, by simpa using hcap, ?_, ?_, ⟨h.box, h.nod, h.ord, ?_, fun y hy => h.prt y (List.mem_cons_of_mem _ hy)⟩⟩
  · have e := owns_at (w := w) (f := pcell2) (l := (x :: X).reverse) (i := X.length) (j := 0) pcell2_len h.stk (by simp) (by omega)
    rw [Nat.add_zero] at e
    rw [e]
    simp [pcell2]
  · have e := owns_at (w := w) (f := pcell2) (l := (x :: X).reverse) (i := X.length) (j := 1) pcell2_len h.stk (by simp) (by omega)
    rw [e]
    simp [pcell2]
  · have e := owns_take h.stk (m := X.length) (by simp)
    unfold PrtRow
    rw [flat_take pcell2 2 pcell2_len] at e
    have e2 : (x :: X).reverse.take X.length = X.reverse := by
      rw [List.reverse_cons, List.take_append_of_le_length (by simp)]
      exact List.take_of_length_le (by simp)
    rw [e2] at e
    exact e

theorem prtrow_one {g : Nat} {v : Value} {th : List Nat} (h : Bk w g 52 #[v, .int .i64 (-1)]) (hB : B ≤ g) : PrtRow w B (.slice (some ⟨g, 0, none⟩) 1 1) [(v, th, none)] :=
  ⟨rfl, .inr ⟨g, 1, _, rfl, hB, h, Nat.le_refl _, by unfold maxLen; omega, rfl, rfl⟩⟩

/-- The number of elements of a slice in a cell. -/
def lenV : Value → Nat
  | .slice _ n _ => n
  | _ => 0

def cellL (W : World) (b i : Nat) : Nat := ((W.cell? ⟨b, i, none⟩).map lenV).getD 0

theorem cellL_of {W : World} {b i n cap : Nat} {a : Option Addr} (h : W.cell? ⟨b, i, none⟩ = some (.slice a n cap)) : cellL W b i = n := by
  unfold cellL; rw [h]; rfl

end
end Go.Proofs.YtomlcglnkdfemaaGreat

namespace Go.Proofs.Sky
section

open Go.ChangeShapes Go.WideShapes Go.RowKit

set_option linter.unusedVariables false

theorem open_rows16 {P : Program} {H : Type} {enc : TypeId × Value → H} {W : World} {n fuel : Nat} {t e : TypeId} {ks : List LK} {v : Value} {x : DataW H × List MemPlace} (ht : P.underlying t = some (.slice e)) (hk : flat P n e = some ks)
    (hc : P.cellsOf e = ks.length) (h0 : 0 < ks.length) (hf : DataW.trod enc P W 0 (fun _ => true) true fuel t [v] = some x) :
    ∃ (a : Option Addr) (len cap : Nat) (V : Nat → List Value), v = .slice a len cap ∧ len ≤ cap ∧ len ≤ maxLen ∧ (len = 0 ∨ ∃ b off, a = some ⟨b, off, none⟩ ∧ RowsAt W b off len ks.length ks V ∧ b < W.heap.size) := by
  rcases Go.Deep.open_slice ht hf with ⟨hc', hx⟩ | ⟨A, len, cap, m, k, D, Pl, hc', _, hl, hm, hmm, hx, hall⟩
  · cases hc'
    exact ⟨_, 0, 0, fun _ => [], rfl, by omega, by unfold maxLen; omega, .inl rfl⟩
  · cases hc'
    rw [if_pos rfl] at hmm
    obtain ⟨V, hV⟩ := Go.Deep.choose_lt (α := List Value) (p := fun i cs => LeafAll ks cs ∧ ∀ j, j < ks.length → W.cell? (A.add (i * ks.length + j)) = cs[j]?) (n := len) (fun i hi => by
      obtain ⟨cs, h1, h2⟩ := hall i (by omega)
      have hL := flat_trod n e ks hk _ _ _ h2
      obtain ⟨_, hlen, hcell⟩ := World.cells?_some h1
      refine ⟨cs, hL, fun j hj => ?_⟩
      have := hcell j (by omega)
      rw [Go.Deep.add_add, hc] at this
      exact this)
    refine ⟨_, len, cap, V, rfl, hl, by omega, ?_⟩
    by_cases hz : len = 0
    · exact .inl hz
    · right
      have hsp : A.spot = none := by
        have g := hV 0 (by omega)
        have hl0 := g.1.length
        have h1 := g.2 0 h0
        rw [List.getElem?_eq_getElem (by omega)] at h1
        have := World.cell?_spot h1
        simpa [Addr.add] using this
      obtain ⟨b, off, sp⟩ := A
      simp only at hsp
      subst hsp
      have adds : ∀ i, (⟨b, off, none⟩ : Addr).add i = ⟨b, off + i, none⟩ := fun i => by
        unfold Addr.add; split
        · rename_i h; rw [h]; rfl
        · rfl
      refine ⟨b, off, rfl, fun i hi => ⟨(hV i hi).1, fun j hj => ?_⟩, ?_⟩
      · have := (hV i hi).2 j hj
        rw [adds, ← Nat.add_assoc] at this
        exact this
      · have g := hV 0 (by omega)
        have hl0 := g.1.length
        have h1 := g.2 0 h0
        rw [List.getElem?_eq_getElem (by omega)] at h1
        rw [adds] at h1
        exact World.block_lt_of_cell? W _ h1

end
end Go.Proofs.Sky

namespace Go.Proofs.YtomlcglnkdfemaaGreat
section

open Go.RowKit Go.Proofs.Sky

set_option linter.unusedVariables false

def ndOf (V : List Value) : Nd := (((intOf (V.getD 0 (.bool false)), intOf (V.getD 1 (.bool false)), intOf (V.getD 2 (.bool false))), (intOf (V.getD 3 (.bool false)), intOf (V.getD 4 (.bool false)), intOf (V.getD 5 (.bool false)))), intOf (V.getD 6 (.bool false)), intOf (V.getD 7 (.bool false)), intOf (V.getD 8 (.bool false)))

end
end Go.Proofs.YtomlcglnkdfemaaGreat
