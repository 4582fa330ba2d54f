/- A region that draws its order, in a round of a loop over an iterator: walked as anywhere (Float's laws over 'wpAny'). Imports nothing of the translation. Iterators over whose values a loop ranges that may be left early, that makes a row of its own, and that may stand in an iterator itself: what the iterator owes (GivesTo), and the statement's law (range_to). Imports nothing of the translation. -/
import Derived.Test.YtomlcglnkdfemaaTt6
import Derived.OrdersIn
import Derived.TacticsIn
import Derived.RangeFuncCalls
import Derived.Test.YtomlcglnkdfemaaTt23


namespace Go.Proofs.Sky
section

section

open Go Go.RowKit

set_option linter.unusedVariables false

def noDefer (l : List Oper) : Bool := l.all fun o => match o.op with | .defer _ => false | _ => true

theorem noDefer_at {l : List Oper} (h : noDefer l = true) {i : Nat} {o : Oper} (ho : l.toArray[i]? = some o) (c : Call) : o.op ≠ .defer c := fun e => by
  have hm : o ∈ l := by
    have : l[i]? = some o := by simpa using ho
    exact List.mem_of_getElem? this
  have := List.all_eq_true.1 h o hm
  rw [e] at this
  cases this

theorem oper_in {P : Program} {o : Oper} {a : Act} {w : World} {K : Act → World → Prop} {Q : Exit → Act → World → Prop} {l : Nat} (hd : ∀ c, o.op ≠ .defer c) (h : o.wp P a w K Q) : o.wpIn (Fence.wide.inRound l) 0 P a w K Q := by
  unfold Oper.wpIn
  refine ⟨fun _ _ => trivial, ?_⟩
  rw [show (Fence.wide.inRound l).round = some l from rfl, Oper.semAt_some l _ o hd]
  unfold Oper.wp at h
  generalize (execOp a.eval o).run P w = r at *
  cases r with
  | ok x w' =>
    cases x <;> simp only [Oper.upon, Oper.uponIn] at h ⊢ <;> first
      | exact h
      | exact ⟨(fun h => by cases h), CallsIn.inRound l (callsIn_wide.2 h)⟩
      | exact ⟨(fun h => by cases h), fun c cs _ => let ⟨v, w', r, s⟩ := h c cs; ⟨v, w', r, stepsIn_wide.2 s⟩⟩
  | halt x w' => cases x <;> simp only [Oper.upon, Oper.uponIn] at h ⊢ <;> exact h

theorem any_in {P : Program} {md : Region.Mode} {ops : Array Oper} {Q : Exit → Act → World → Prop} {l : Nat} (hd : ∀ (i : Nat) (o : Oper), ops[i]? = some o → ∀ c, o.op ≠ .defer c) (hQ : ∀ a w, ¬ Q .outgrown a w) :
    ∀ (fuel : Nat) (listed : Array Bool) (a : Act) (w : World), wpAny P md ops Q fuel listed a w → wpAnyIn (Fence.wide.inRound l) 0 P md ops Q fuel listed a w
  | 0, _, _, _, h => h
  | fuel + 1, listed, a, w, h => by
    refine ⟨h.1, fun i hi => ?_⟩
    have := h.2 i hi
    unfold wpOp at this
    unfold wpOpIn
    split
    · rename_i hn
      rw [hn] at this
      exact any_in hd hQ fuel _ _ _ this
    · rename_i o ho
      rw [ho] at this
      dsimp only at this
      split
      · rename_i hw
        rw [if_pos hw] at this
        rcases this with h | ⟨_, a, w, h⟩
        · exact Oper.wpIn_mono (fun a w h => any_in hd hQ fuel _ _ _ h) (oper_in (hd i o ho) h)
        · exact absurd h (hQ a w)
      · rename_i hw
        rw [if_neg hw] at this
        exact ⟨fun _ _ => trivial, any_in hd hQ fuel _ _ _ this⟩

theorem region_in {P : Program} {id : Nat} {Q : Exit → Act → World → Prop} {a : Act} {w : World} {l : Nat} {ops : List Oper} (hm : P.follows .mixedOrders = true) (hd : noDefer ops = true) (hQ : ∀ a w, ¬ Q .outgrown a w)
    (h : wpAny P .any ops.toArray Q ops.toArray.size (Array.replicate ops.toArray.size false) a { w with drawn := w.drawn + 1 }) : (Code.region id ops.toArray true).wpIn (Fence.wide.inRound l) 0 P Q a w :=
  wpIn_region_any hm (any_in (fun i o ho => noDefer_at hd ho) hQ _ _ _ _ h)

end

end
end Go.Proofs.Sky

namespace Go.Proofs.Sky
section

section

open Go.RowKit

set_option linter.unusedVariables false

/-- What lay at or beyond B lies as it lay, but for the row b. -/
def KeepsBut (B : Nat) (b : Option Nat) (X Y : World) : Prop := X.heap.size ≤ Y.heap.size ∧ ∀ k o, B ≤ k → some k ≠ b → X.heap[k]? = some o → Y.heap[k]? = some o

theorem KeepsBut.refl (B : Nat) (b : Option Nat) (X : World) : KeepsBut B b X X := ⟨Nat.le_refl _, fun _ _ _ _ h => h⟩

theorem KeepsBut.trans {B : Nat} {b : Option Nat} {X Y Z : World} (h : KeepsBut B b X Y) (g : KeepsBut B b Y Z) : KeepsBut B b X Z := ⟨Nat.le_trans h.1 g.1, fun k o hk hb ho => g.2 k o hk hb (h.2 k o hk hb ho)⟩

theorem KeepsBut.mono {B B' : Nat} {b : Option Nat} {X Y : World} (h : KeepsBut B b X Y) (hB : B ≤ B') : KeepsBut B' b X Y := ⟨h.1, fun k o hk hb ho => h.2 k o (Nat.le_trans hB hk) hb ho⟩

/-- A block of cells, when an object that is none is turned. -/
theorem bk_turn {V : World} {l b : Nat} {o : Obj} {t : TypeId} {cs : Array Value} (h : Bk V b t cs) (hl : V.heap[l]? = some o) (ho : o.isCells = false) (o' : Obj) : Bk (V.putObj l o') b t cs :=
  h.grown (grownBy_putObj' V l o') (fun e => by cases e; unfold Bk at h; rw [h] at hl; cases hl; cases ho)

/-- The row is the one that it was, or one that is made. -/
def FreshRow (n : Nat) (b b' : Option Nat) : Prop := b' = b ∨ ∃ k, b' = some k ∧ n ≤ k

theorem FreshRow.same (n : Nat) (b : Option Nat) : FreshRow n b b := .inl rfl

theorem FreshRow.mono {n m : Nat} {b b' : Option Nat} (h : FreshRow n b b') (hm : m ≤ n) : FreshRow m b b' := by
  rcases h with h | ⟨k, h, hk⟩
  · exact .inl h
  · exact .inr ⟨k, h, by omega⟩

theorem FreshRow.ne {n g : Nat} {b b' : Option Nat} (h : FreshRow n b b') (hg : g < n) (hb : b ≠ some g) : b' ≠ some g := by
  rcases h with h | ⟨k, h, hk⟩
  · rw [h]; exact hb
  · rw [h]; intro e; cases e; omega

/-- The iterator gives xs in their order, until a round stops it, to whatever loop whose rounds keep what lay in w. -/
def GivesTo {α : Type} (P : Program) (gf : Nat) (lb : Array Value) (encs : α → Array Value) (xs : List α) (w : World) : Prop :=
  ∀ (l : Nat) (J Jx : List α → Option Nat → World → Prop) (W : World), (∀ b, OwnFrom W.heap.size (fun s => J s b)) → (∀ b, OwnFrom W.heap.size (fun s => Jx s b)) → (∀ s b X, J s b X → Below w.heap.size w X) →
    (∀ pre x rest b W1, xs = pre ++ x :: rest → J pre b W1 → YieldAt Fence.wide 0 P l (encs x) W1 fun e W' =>
      ∃ b', KeepsBut W.heap.size b W1 W' ∧ FreshRow W1.heap.size b b' ∧ ((e = .returned (.bool true) ∧ J (pre ++ [x]) b' W') ∨ (e = .returned (.bool false) ∧ Jx (pre ++ [x]) b' W'))) →
    J [] none W → CallsIn Fence.wide 0 P gf (#[.func (.yield l) #[] #[]] ++ lb) W fun e W' => (∃ v, e = .returned v) ∧ ((∃ b, J xs b W') ∨ ∃ pre b, Jx pre b W')

/-- How a round may be left: off its end, or by a jump that leaves the loop. -/
def stopsTo {α : Type} (B0 n : Nat) (I : List α → Option Nat → World → Prop) (Ix : Code → List α → Option Nat → World → Prop) (b : Option Nat) (xs : List α) (W : World) : Exit → Act → World → Prop
  | .normal, _, W' => ∃ b', KeepsBut B0 b W W' ∧ FreshRow n b b' ∧ I xs b' W'
  | .ret, _, W' => ∃ b', KeepsBut B0 b W W' ∧ FreshRow n b b' ∧ Ix .ret xs b' W'
  | .exit id, _, W' => ∃ b', KeepsBut B0 b W W' ∧ FreshRow n b b' ∧ Ix (.exit id) xs b' W'
  | .goto t, _, W' => ∃ b', KeepsBut B0 b W W' ∧ FreshRow n b b' ∧ Ix (.goto t) xs b' W'
  | _, _, _ => False

end

end
end Go.Proofs.Sky
