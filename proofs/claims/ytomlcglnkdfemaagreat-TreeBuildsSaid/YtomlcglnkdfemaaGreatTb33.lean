/- Contracts of package ball: beyond, meet; the exported functions. A region that draws its order, in a round of a loop over an iterator: walked as anywhere (Float's laws over 'wpAny'). Imports nothing of the translation. Iterators over whose values a loop ranges that may be left early, that makes a row of its own, and that may stand in an iterator itself: what the iterator owes (GivesTo), and the statement's law (range_to). Imports nothing of the translation. Plain mathematics of layer 16: a tree that is built is whole; what is spoilt in one of its nodes is not. Imports nothing of the translation. Rows that a call made: some of their cells written. The statements' own of, same and ints; the chapter's example holds: awake, layer 15. -/
import Derived.Test.YtomlcglnkdfemaaGreatTb26
import Derived.Test.YtomlcglnkdfemaaGreatTb5
import Derived.Test.YtomlcglnkdfemaaGreatTb23
import Derived.Test.YtomlcglnkdfemaaGreatTb10
import Derived.Test.YtomlcglnkdfemaaGreatTb13
import Derived.Test.YtomlcglnkdfemaaGreatTb7
import Derived.Test.YtomlcglnkdfemaaGreatTb1
import Derived.Deep.DeepCutAuto
import Derived.OrdersIn
import Derived.TacticsIn
import Derived.RangeFuncCalls
import Derived.Test.YtomlcglnkdfemaaGreatTb25
import Derived.Test.YtomlcglnkdfemaaGreatTb20
import Derived.Test.YtomlcglnkdfemaaGreatTb32
import Derived.Test.YtomlcglnkdfemaaGreatTb19
import Derived.Laws.AppendOwn


namespace Go.Proofs.YtomlcglnkdfemaaGreat
section

open Go.RowKit Go.Proofs.Sky

set_option linter.unusedVariables false

set_option linter.unusedSimpArgs false

set_option maxRecDepth 100000 in
set_option maxHeartbeats 4000000 in
theorem ball_Right (c1 c2 c3 r : Int) (w : World) (hc : I3 (c1, c2, c3)) (hr : I64 r) :
    Calls Tryz.prog 119 #[.agg #[.int .i64 c1, .int .i64 c2, .int .i64 c3], .int .i64 r] w fun en w' => en = .returned (.bool (ballR (c1, c2, c3) r)) ∧ Below w.heap.size w w' := by
  have KP := Lib.hid (fun w => tri_Place c1 c2 c3 w)
  rw [ballR_eq]
  generalize plc (c1, c2, c3) = e1 at *
  obtain ⟨e2, h2⟩ : ∃ e, e = decide (4 ≤ r) := ⟨_, rfl⟩
  obtain ⟨e3, h3⟩ : ∃ e, e = decide (r ≤ 262144) := ⟨_, rfl⟩
  rw [← h2, ← h3]
  replace h2 := h2.symm
  replace h3 := h3.symm
  go_enter Tryz.func119, Tryz.ntmps119
  go_upto_region 1 with (fail)
  obtain ⟨W1, hW1⟩ : ∃ W, W = w.alloc (.cells #[.int .i64 c1, .int .i64 c2, .int .i64 c3] 37) := ⟨_, rfl⟩
  obtain ⟨k_c, B1⟩ := st1 hW1
  rw [← hW1]
  clear hW1
  obtain ⟨c_c_0, c_c_1, c_c_2⟩ := bwc3 (k_c)
  obtain ⟨p1, hp1⟩ : ∃ p : BW W1, p.w = W1 := ⟨BW.start W1, rfl⟩
  rw [← hp1]
  clear hp1
  rcases e1 with _ | _ <;> rcases e2 with _ | _ <;> rcases e3 with _ | _
  all_goals
    go_wp2_with (first
      | (go_at_call 117; (first | (with_reducible refine (bw_call KP.out _).mono ?_)); rintro e w' ⟨rfl, q, rfl⟩))
    go_ret
    exact ⟨rfl, bw_below B1 _⟩

end
end Go.Proofs.YtomlcglnkdfemaaGreat

namespace Go.Proofs.Sky
section

section

open Go Go.RowKit

set_option linter.unusedVariables false

def noDefer (l : List Oper) : Bool := l.all fun o => match o.op with | .defer _ => false | _ => true

theorem noDefer_at {l : List Oper} (h : noDefer l = true) {i : Nat} {o : Oper} (ho : l.toArray[i]? = some o) (c : Call) : o.op ≠ .defer c := fun e => by
  have hm : o ∈ l := by
    have : l[i]? = some o := by simpa using ho
    exact List.mem_of_getElem? this
  have := List.all_eq_true.1 h o hm
  rw [e] at this
  cases this

theorem oper_in {P : Program} {o : Oper} {a : Act} {w : World} {K : Act → World → Prop} {Q : Exit → Act → World → Prop} {l : Nat} (hd : ∀ c, o.op ≠ .defer c) (h : o.wp P a w K Q) : o.wpIn (Fence.wide.inRound l) 0 P a w K Q := by
  unfold Oper.wpIn
  refine ⟨fun _ _ => trivial, ?_⟩
  rw [show (Fence.wide.inRound l).round = some l from rfl, Oper.semAt_some l _ o hd]
  unfold Oper.wp at h
  generalize (execOp a.eval o).run P w = r at *
  cases r with
  | ok x w' =>
    cases x <;> simp only [Oper.upon, Oper.uponIn] at h ⊢ <;> first
      | exact h
      | exact ⟨(fun h => by cases h), CallsIn.inRound l (callsIn_wide.2 h)⟩
      | exact ⟨(fun h => by cases h), fun c cs _ => let ⟨v, w', r, s⟩ := h c cs; ⟨v, w', r, stepsIn_wide.2 s⟩⟩
  | halt x w' => cases x <;> simp only [Oper.upon, Oper.uponIn] at h ⊢ <;> exact h

theorem any_in {P : Program} {md : Region.Mode} {ops : Array Oper} {Q : Exit → Act → World → Prop} {l : Nat} (hd : ∀ (i : Nat) (o : Oper), ops[i]? = some o → ∀ c, o.op ≠ .defer c) (hQ : ∀ a w, ¬ Q .outgrown a w) :
    ∀ (fuel : Nat) (listed : Array Bool) (a : Act) (w : World), wpAny P md ops Q fuel listed a w → wpAnyIn (Fence.wide.inRound l) 0 P md ops Q fuel listed a w
  | 0, _, _, _, h => h
  | fuel + 1, listed, a, w, h => by
    refine ⟨h.1, fun i hi => ?_⟩
    have := h.2 i hi
    unfold wpOp at this
    unfold wpOpIn
    split
    · rename_i hn
      rw [hn] at this
      exact any_in hd hQ fuel _ _ _ this
    · rename_i o ho
      rw [ho] at this
      dsimp only at this
      split
      · rename_i hw
        rw [if_pos hw] at this
        rcases this with h | ⟨_, a, w, h⟩
        · exact Oper.wpIn_mono (fun a w h => any_in hd hQ fuel _ _ _ h) (oper_in (hd i o ho) h)
        · exact absurd h (hQ a w)
      · rename_i hw
        rw [if_neg hw] at this
        exact ⟨fun _ _ => trivial, any_in hd hQ fuel _ _ _ this⟩

theorem region_in {P : Program} {id : Nat} {Q : Exit → Act → World → Prop} {a : Act} {w : World} {l : Nat} {ops : List Oper} (hm : P.follows .mixedOrders = true) (hd : noDefer ops = true) (hQ : ∀ a w, ¬ Q .outgrown a w)
    (h : wpAny P .any ops.toArray Q ops.toArray.size (Array.replicate ops.toArray.size false) a { w with drawn := w.drawn + 1 }) : (Code.region id ops.toArray true).wpIn (Fence.wide.inRound l) 0 P Q a w :=
  wpIn_region_any hm (any_in (fun i o ho => noDefer_at hd ho) hQ _ _ _ _ h)

end

end
end Go.Proofs.Sky

namespace Go.Proofs.Sky
section

section

open Go.RowKit

set_option linter.unusedVariables false

/-- What lay at or beyond B lies as it lay, but for the row b. -/
def KeepsBut (B : Nat) (b : Option Nat) (X Y : World) : Prop := X.heap.size ≤ Y.heap.size ∧ ∀ k o, B ≤ k → some k ≠ b → X.heap[k]? = some o → Y.heap[k]? = some o

theorem KeepsBut.refl (B : Nat) (b : Option Nat) (X : World) : KeepsBut B b X X := ⟨Nat.le_refl _, fun _ _ _ _ h => h⟩

theorem KeepsBut.trans {B : Nat} {b : Option Nat} {X Y Z : World} (h : KeepsBut B b X Y) (g : KeepsBut B b Y Z) : KeepsBut B b X Z := ⟨Nat.le_trans h.1 g.1, fun k o hk hb ho => g.2 k o hk hb (h.2 k o hk hb ho)⟩

theorem KeepsBut.mono {B B' : Nat} {b : Option Nat} {X Y : World} (h : KeepsBut B b X Y) (hB : B ≤ B') : KeepsBut B' b X Y := ⟨h.1, fun k o hk hb ho => h.2 k o (Nat.le_trans hB hk) hb ho⟩

/-- A block of cells, when an object that is none is turned. -/
theorem bk_turn {V : World} {l b : Nat} {o : Obj} {t : TypeId} {cs : Array Value} (h : Bk V b t cs) (hl : V.heap[l]? = some o) (ho : o.isCells = false) (o' : Obj) : Bk (V.putObj l o') b t cs :=
  h.grown (grownBy_putObj' V l o') (fun e => by cases e; unfold Bk at h; rw [h] at hl; cases hl; cases ho)

/-- The row is the one that it was, or one that is made. -/
def FreshRow (n : Nat) (b b' : Option Nat) : Prop := b' = b ∨ ∃ k, b' = some k ∧ n ≤ k

theorem FreshRow.same (n : Nat) (b : Option Nat) : FreshRow n b b := .inl rfl

theorem FreshRow.mono {n m : Nat} {b b' : Option Nat} (h : FreshRow n b b') (hm : m ≤ n) : FreshRow m b b' := by
  rcases h with h | ⟨k, h, hk⟩
  · exact .inl h
  · exact .inr ⟨k, h, by omega⟩

theorem FreshRow.ne {n g : Nat} {b b' : Option Nat} (h : FreshRow n b b') (hg : g < n) (hb : b ≠ some g) : b' ≠ some g := by
  rcases h with h | ⟨k, h, hk⟩
  · rw [h]; exact hb
  · rw [h]; intro e; cases e; omega

/-- The iterator gives xs in their order, until a round stops it, to whatever loop whose rounds keep what lay in w. -/
def GivesTo {α : Type} (P : Program) (gf : Nat) (lb : Array Value) (encs : α → Array Value) (xs : List α) (w : World) : Prop :=
  ∀ (l : Nat) (J Jx : List α → Option Nat → World → Prop) (W : World), (∀ b, OwnFrom W.heap.size (fun s => J s b)) → (∀ b, OwnFrom W.heap.size (fun s => Jx s b)) → (∀ s b X, J s b X → Below w.heap.size w X) →
    (∀ pre x rest b W1, xs = pre ++ x :: rest → J pre b W1 → YieldAt Fence.wide 0 P l (encs x) W1 fun e W' =>
      ∃ b', KeepsBut W.heap.size b W1 W' ∧ FreshRow W1.heap.size b b' ∧ ((e = .returned (.bool true) ∧ J (pre ++ [x]) b' W') ∨ (e = .returned (.bool false) ∧ Jx (pre ++ [x]) b' W'))) →
    J [] none W → CallsIn Fence.wide 0 P gf (#[.func (.yield l) #[] #[]] ++ lb) W fun e W' => (∃ v, e = .returned v) ∧ ((∃ b, J xs b W') ∨ ∃ pre b, Jx pre b W')

/-- How a round may be left: off its end, or by a jump that leaves the loop. -/
def stopsTo {α : Type} (B0 n : Nat) (I : List α → Option Nat → World → Prop) (Ix : Code → List α → Option Nat → World → Prop) (b : Option Nat) (xs : List α) (W : World) : Exit → Act → World → Prop
  | .normal, _, W' => ∃ b', KeepsBut B0 b W W' ∧ FreshRow n b b' ∧ I xs b' W'
  | .ret, _, W' => ∃ b', KeepsBut B0 b W W' ∧ FreshRow n b b' ∧ Ix .ret xs b' W'
  | .exit id, _, W' => ∃ b', KeepsBut B0 b W W' ∧ FreshRow n b b' ∧ Ix (.exit id) xs b' W'
  | .goto t, _, W' => ∃ b', KeepsBut B0 b W W' ∧ FreshRow n b b' ∧ Ix (.goto t) xs b' W'
  | _, _, _ => False

end

end
end Go.Proofs.Sky

namespace Go.Proofs.Sky
section

open Go.RowKit

set_option linter.unusedVariables false

-- what is built is ordered

-- the order is one of all things

theorem wAt_range (which : List Nat) : wAt which (List.range which.length) = which := by
  unfold wAt
  apply List.ext_getElem
  · simp
  · intro i h1 h2
    simp only [List.getElem_map, List.getElem_range]
    exact getD_at h2

theorem split_perm (P : Nat → Pr) (which : List Nat) : (wAt which (wLeft P which) ++ wAt which (wRight P which)).Perm which := by
  have h := List.filter_append_perm (fun k => isL (wSplit P which).1.1 (wSplit P which).1.2.2.1 (wSplit P which).1.2.2.2 (wSplit P which).1.2.1 (wBox P which k)) (List.range which.length)
  have h2 := h.map (fun i => which.getD i 0)
  rw [List.map_append] at h2
  have e := wAt_range which
  unfold wAt at e
  rw [e] at h2
  exact h2

theorem grow_perm {P : Nat → Pr} : ∀ (f : Nat) (which : List Nat) (k o : Nat), which.length ≤ f → 0 < which.length → ((mGrow P f which k o).2).Perm which
  | 0, which, k, o, h, h0 => by omega
  | f + 1, which, k, o, h, h0 => by
    cases he : wEnds P which with
    | true => rw [mGrow_leaf he]
    | false =>
      obtain ⟨l1, l2, l3⟩ := wSplit_less he
      rw [mGrow_node he rfl rfl]
      exact ((grow_perm f _ _ _ (by rw [wAt_len]; omega) (by rw [wAt_len]; omega)).append (grow_perm f _ _ _ (by rw [wAt_len]; omega) (by rw [wAt_len]; omega))).trans (split_perm P which)

-- its boxes are the least ones

end
end Go.Proofs.Sky

namespace Go.Proofs.YtomlcglnkdfemaaGreat
section

open Go.RowKit Go.Proofs.Sky

set_option linter.unusedVariables false

theorem owns_store {B : Nat} {e : TypeId} {size n cap g : Nat} : ∀ (vs : List Value) (o : Nat) (w : World) (xs : List Value), w.ownsRow B e size (.slice (some ⟨g, 0, none⟩) n cap) n xs → o + vs.length ≤ xs.length →
    (w.setCells g o vs).ownsRow B e size (.slice (some ⟨g, 0, none⟩) n cap) n (xs.take o ++ vs ++ xs.drop (o + vs.length)) ∧ w.grownBy (w.setCells g o vs) (some g)
  | [], o, w, xs, h, hl => by
    refine ⟨?_, ⟨rfl, rfl, rfl, Nat.le_refl _, fun _ _ _ => rfl⟩⟩
    show w.ownsRow B e size _ n _
    rw [List.append_nil, List.length_nil, Nat.add_zero, List.take_append_drop]
    exact h
  | v :: vs, o, w, xs, h, hl => by
    have h1 := World.ownsRow.stored h o v
    have h2 := owns_store vs (o + 1) _ _ h1.1 (by simp at hl ⊢; omega)
    refine ⟨?_, World.grownBy.trans h1.2 h2.2⟩
    show ((w.setCell ⟨g, o, none⟩ v).setCells g (o + 1) vs).ownsRow B e size _ n _
    have e1 : (xs.set o v).take (o + 1) ++ vs ++ (xs.set o v).drop (o + 1 + vs.length) = xs.take o ++ (v :: vs) ++ xs.drop (o + (v :: vs).length) := by
      have hlo : o < xs.length := by simp at hl; omega
      apply List.ext_getElem?
      intro i
      simp only [List.append_assoc, List.getElem?_append, List.length_take, List.length_set, List.getElem?_take, List.getElem?_drop, List.getElem?_set, List.length_cons]
      have q1 : min (o + 1) xs.length = o + 1 := by omega
      have q2 : min o xs.length = o := by omega
      rw [q1, q2]
      by_cases h1 : i < o
      · rw [if_pos (by omega), if_pos (by omega), if_neg (by omega), if_pos h1, if_pos h1]
      · by_cases h2 : i = o
        · subst h2
          rw [if_pos (by omega), if_pos (by omega), if_pos rfl, if_pos hlo, if_neg (by omega), Nat.sub_self]
          simp
        · rw [if_neg (by omega), if_neg h1]
          have e3 : i - o = (i - (o + 1)) + 1 := by omega
          simp only [e3, List.getElem?_cons_succ]
          by_cases h3 : i - (o + 1) < vs.length
          · rw [if_pos h3, if_pos (by omega)]
          · rw [if_neg h3, if_neg (by omega), if_neg (by omega)]
            congr 1
            omega
    rw [← e1]
    exact h2.1

theorem flat_store {α : Type} (f : α → List Value) (c : Nat) (hf : ∀ x, (f x).length = c) : ∀ (l : List α) (i : Nat) (x : α), i < l.length → (l.flatMap f).take (i * c) ++ f x ++ (l.flatMap f).drop (i * c + c) = (l.set i x).flatMap f
  | [], i, x, h => by simp at h
  | y :: l, 0, x, _ => by
    rw [Nat.zero_mul, Nat.zero_add, List.take_zero, List.nil_append, List.flatMap_cons, ← hf y, List.drop_left]
    rfl
  | y :: l, i + 1, x, h => by
    have ih := flat_store f c hf l i x (by simpa using h)
    rw [List.set_cons_succ, List.flatMap_cons, List.flatMap_cons, ← ih, List.take_append, List.drop_append, hf, List.take_of_length_le (by rw [hf, Nat.succ_mul]; omega), List.drop_eq_nil_of_le (by rw [hf, Nat.succ_mul]; omega), List.nil_append,
      show (i + 1) * c - c = i * c by rw [Nat.succ_mul]; omega, show (i + 1) * c + c - c = i * c + c by rw [Nat.succ_mul]; omega]
    simp only [List.append_assoc]

end
end Go.Proofs.YtomlcglnkdfemaaGreat

namespace Go.Proofs.YtomlcglnkdfemaaGreat
section

open Go.RowKit Go.Proofs.Sky

set_option linter.unusedVariables false

set_option linter.unusedSimpArgs false

theorem cells_at15 {w : World} {g : Nat} {t : TypeId} {cs : List Value} (h : Bk w g t cs.toArray) : ∀ j u, cs[j]? = some u → w.cell? ((⟨g, 0, none⟩ : Addr).add j) = some u := fun j u hj => by
  have hadd : (⟨g, 0, none⟩ : Addr).add j = ⟨g, j, none⟩ := by unfold Addr.add; split <;> simp_all
  rw [hadd]
  refine h.cell ?_
  rw [List.getElem?_toArray]
  exact hj

def awB (i : Nat) : Bx := if i = 0 then ((0, 0, 0), (2, 0, 0)) else ((10, 0, 0), (12, 0, 0))

def bxOf (V : List Value) : Bx := ((intOf (V.getD 0 (.bool false)), intOf (V.getD 1 (.bool false)), intOf (V.getD 2 (.bool false))), (intOf (V.getD 3 (.bool false)), intOf (V.getD 4 (.bool false)), intOf (V.getD 5 (.bool false))))

end
end Go.Proofs.YtomlcglnkdfemaaGreat
