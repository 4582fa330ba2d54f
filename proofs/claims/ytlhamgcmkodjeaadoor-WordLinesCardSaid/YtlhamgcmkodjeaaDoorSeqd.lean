/- A region that draws its order, in a round of a loop over an iterator: walked as anywhere (Float's laws over 'wpAny'). Imports nothing of the translation. Iterators over whose values a loop ranges that may be left early, that makes a row of its own, and that may stand in an iterator itself: what the iterator owes (GivesTo), and the statement's law (range_to). Imports nothing of the translation. -/
import Derived.Test.YtlhamgcmkodjeaaDoorFloat
import Derived.OrdersIn
import Derived.TacticsIn
import Derived.RangeFuncCalls
import Derived.Test.YtlhamgcmkodjeaaDoorSeqc

namespace Go.Proofs.Sky
section
open Go Go.RowKit
set_option linter.unusedVariables false

def noDefer (l : List Oper) : Bool := l.all fun o => match o.op with | .defer _ => false | _ => true
theorem noDefer_at {l : List Oper} (h : noDefer l = true) {i : Nat} {o : Oper} (ho : l.toArray[i]? = some o) (c : Call) : o.op ≠ .defer c := fun e => by
  have hm : o ∈ l := by
    have : l[i]? = some o := by simpa using ho
    exact List.mem_of_getElem? this
  have := List.all_eq_true.1 h o hm
  rw [e] at this
  cases this

theorem oper_in {P : Program} {o : Oper} {a : Act} {w : World} {K : Act → World → Prop} {Q : Exit → Act → World → Prop} {l : Nat} (hd : ∀ c, o.op ≠ .defer c) (h : o.wp P a w K Q) : o.wpIn (Fence.wide.inRound l) 0 P a w K Q := by
  unfold Oper.wpIn
  refine ⟨fun _ _ => trivial, ?_⟩
  rw [show (Fence.wide.inRound l).round = some l from rfl, Oper.semAt_some l _ o hd]
  unfold Oper.wp at h
  generalize (execOp a.eval o).run P w = r at *
  cases r with
  | ok x w' =>
    cases x <;> simp only [Oper.upon, Oper.uponIn] at h ⊢ <;> first
      | exact h
      | exact ⟨(fun h => by cases h), CallsIn.inRound l (callsIn_wide.2 h)⟩
      | exact ⟨(fun h => by cases h), fun c cs _ => let ⟨v, w', r, s⟩ := h c cs; ⟨v, w', r, stepsIn_wide.2 s⟩⟩
  | halt x w' => cases x <;> simp only [Oper.upon, Oper.uponIn] at h ⊢ <;> exact h

theorem any_in {P : Program} {md : Region.Mode} {ops : Array Oper} {Q : Exit → Act → World → Prop} {l : Nat} (hd : ∀ (i : Nat) (o : Oper), ops[i]? = some o → ∀ c, o.op ≠ .defer c) (hQ : ∀ a w, ¬ Q .outgrown a w) :
    ∀ (fuel : Nat) (listed : Array Bool) (a : Act) (w : World), wpAny P md ops Q fuel listed a w → wpAnyIn (Fence.wide.inRound l) 0 P md ops Q fuel listed a w
  | 0, _, _, _, h => h
  | fuel + 1, listed, a, w, h => by
    refine ⟨h.1, fun i hi => ?_⟩
    have := h.2 i hi
    unfold wpOp at this
    unfold wpOpIn
    split
    · rename_i hn
      rw [hn] at this
      exact any_in hd hQ fuel _ _ _ this
    · rename_i o ho
      rw [ho] at this
      dsimp only at this
      split
      · rename_i hw
        rw [if_pos hw] at this
        rcases this with h | ⟨_, a, w, h⟩
        · exact Oper.wpIn_mono (fun a w h => any_in hd hQ fuel _ _ _ h) (oper_in (hd i o ho) h)
        · exact absurd h (hQ a w)
      · rename_i hw
        rw [if_neg hw] at this
        exact ⟨fun _ _ => trivial, any_in hd hQ fuel _ _ _ this⟩

theorem region_in {P : Program} {id : Nat} {Q : Exit → Act → World → Prop} {a : Act} {w : World} {l : Nat} {ops : List Oper} (hm : P.follows .mixedOrders = true) (hd : noDefer ops = true) (hQ : ∀ a w, ¬ Q .outgrown a w)
    (h : wpAny P .any ops.toArray Q ops.toArray.size (Array.replicate ops.toArray.size false) a { w with drawn := w.drawn + 1 }) : (Code.region id ops.toArray true).wpIn (Fence.wide.inRound l) 0 P Q a w :=
  wpIn_region_any hm (any_in (fun i o ho => noDefer_at hd ho) hQ _ _ _ _ h)

/-- wp_region_late, over 'wpAny'. -/
theorem any_late {P : Program} {Q : Exit → Act → World → Prop} {l : List Oper} {a : Act} {w : World} {ox : Oper} {u : Operand} {i : Nat} (x y dX : Nat) (hB : edgeB l x y = true) (hox : l[x]? = some ox) (hop : ox.op = .extract u i) (hdX : ox.dst = some dX)
    (hQ : ∀ c (a : Act) v w, Q (.panic c) { a with tmps := a.tmps.setIfInBounds dX v } w → Q (.panic c) a w)
    (h : wpAny P .any (edgeAt y x l).toArray Q (edgeAt y x l).toArray.size (Array.replicate (edgeAt y x l).toArray.size false) a w) : wpAny P .any l.toArray Q l.toArray.size (Array.replicate l.toArray.size false) a w := by
  have hz : (edgeAt y x l).toArray.size = l.toArray.size := by simp [edgeAt_len]
  rw [hz] at h
  have hox' : l.toArray[x]? = some ox := by simpa using hox
  simp only [edgeB, Bool.and_eq_true, decide_eq_true_eq, hox] at hB
  obtain ⟨b1, b2, b3⟩ := hB
  cases hoy : l[y]? with
  | none => rw [hoy] at b3; cases b3
  | some oy =>
    rw [hoy] at b3
    simp only [Bool.and_eq_true] at b3
    obtain ⟨b4, b5, b6⟩ := b3
    refine edge_any (x := x) (y := y) b1 hox' (by simpa using b4) (fun a K w hw => extract_pure hop a K w hw) (fun c a v w h => hQ c a v w (by rw [hdX] at h; exact h)) b2 (fun oy' ho e he hb => ?_) (fun j oj hj hjx => ?_) _ _ _ _ (by simp) h
    · have ho' : l[y]? = some oy' := by simpa using ho
      rw [hoy] at ho'
      cases ho'
      have := Array.all_eq_true'.1 b5 e he
      rw [hb] at this
      simp only [Bool.not_true, Bool.false_or] at this
      obtain ⟨e', m1, m2⟩ := Array.any_eq_true'.1 this
      simp only [Bool.and_eq_true, beq_iff_eq] at m2
      exact ⟨e', m1, m2.1, m2.2⟩
    · have hjl : j < l.length := by
        have := (Array.getElem?_eq_some_iff.1 hj).1
        simpa using this
      have hj' : l[j]? = some oj := by simpa using hj
      have := List.all_eq_true.1 b6 j (List.mem_range.2 hjl)
      rw [hj', decide_eq_false hjx] at this
      simp only [Bool.false_or, Bool.or_eq_true] at this
      rcases this with g | g | g
      · obtain ⟨e', m1, m2⟩ := Array.any_eq_true'.1 g
        simp only [Bool.and_eq_true, beq_iff_eq] at m2
        exact .inl ⟨e', m1, m2.1, m2.2⟩
      · obtain ⟨e', m1, m2⟩ := Array.any_eq_true'.1 g
        simp only [Bool.and_eq_true, beq_iff_eq] at m2
        exact .inr (.inl ⟨e', m1, m2.1, m2.2⟩)
      · exact .inr (.inr g)

end
end Go.Proofs.Sky

namespace Go.Proofs.Sky
section
open Go.RowKit
set_option linter.unusedVariables false

/-- What lay at or beyond B lies as it lay, but for the row b. -/
def KeepsBut (B : Nat) (b : Option Nat) (X Y : World) : Prop := X.heap.size ≤ Y.heap.size ∧ ∀ k o, B ≤ k → some k ≠ b → X.heap[k]? = some o → Y.heap[k]? = some o
theorem KeepsBut.refl (B : Nat) (b : Option Nat) (X : World) : KeepsBut B b X X := ⟨Nat.le_refl _, fun _ _ _ _ h => h⟩
theorem KeepsBut.trans {B : Nat} {b : Option Nat} {X Y Z : World} (h : KeepsBut B b X Y) (g : KeepsBut B b Y Z) : KeepsBut B b X Z := ⟨Nat.le_trans h.1 g.1, fun k o hk hb ho => g.2 k o hk hb (h.2 k o hk hb ho)⟩
theorem KeepsBut.mono {B B' : Nat} {b : Option Nat} {X Y : World} (h : KeepsBut B b X Y) (hB : B ≤ B') : KeepsBut B' b X Y := ⟨h.1, fun k o hk hb ho => h.2 k o (Nat.le_trans hB hk) hb ho⟩
theorem keepsBut_below {B : Nat} {b : Option Nat} {X Y : World} (h : Below X.heap.size X Y) : KeepsBut B b X Y := ⟨h.size, fun k o _ _ hk => (h.block k (Array.getElem?_eq_some_iff.1 hk).1).trans hk⟩
theorem keepsBut_set {B : Nat} {b : Option Nat} {X : World} {g i : Nat} {v : Value} (h : g < B) : KeepsBut B b X (X.setCell ⟨g, i, none⟩ v) :=
  ⟨by simp [World.setCell], fun k o hk _ ho => by rw [Below.heap_setCell _ _ _ _ (by show k ≠ g; omega)]; exact ho⟩
theorem keepsBut_grown {B : Nat} {b : Option Nat} {X Y : World} (h : X.grownBy Y b) : KeepsBut B b X Y := ⟨h.size, fun k o _ hb hk => (h.block k (Array.getElem?_eq_some_iff.1 hk).1 hb).trans hk⟩
theorem KeepsBut.bk {B : Nat} {b : Option Nat} {X Y : World} (h : KeepsBut B b X Y) {g : Nat} {t : TypeId} {cs : Array Value} (hB : B ≤ g) (hb : some g ≠ b) (k : Bk X g t cs) : Bk Y g t cs := h.2 g _ hB hb k

/-- A block of cells, when an object that is none is turned. -/
theorem bk_turn {V : World} {l b : Nat} {o : Obj} {t : TypeId} {cs : Array Value} (h : Bk V b t cs) (hl : V.heap[l]? = some o) (ho : o.isCells = false) (o' : Obj) : Bk (V.putObj l o') b t cs :=
  h.grown (grownBy_putObj' V l o') (fun e => by cases e; unfold Bk at h; rw [h] at hl; cases hl; cases ho)

/-- The row is the one that it was, or one that is made. -/
def FreshRow (n : Nat) (b b' : Option Nat) : Prop := b' = b ∨ ∃ k, b' = some k ∧ n ≤ k
theorem FreshRow.same (n : Nat) (b : Option Nat) : FreshRow n b b := .inl rfl
theorem FreshRow.mono {n m : Nat} {b b' : Option Nat} (h : FreshRow n b b') (hm : m ≤ n) : FreshRow m b b' := by
  rcases h with h | ⟨k, h, hk⟩
  · exact .inl h
  · exact .inr ⟨k, h, by omega⟩
theorem FreshRow.ne {n g : Nat} {b b' : Option Nat} (h : FreshRow n b b') (hg : g < n) (hb : b ≠ some g) : b' ≠ some g := by
  rcases h with h | ⟨k, h, hk⟩
  · rw [h]; exact hb
  · rw [h]; intro e; cases e; omega

theorem own_mono {β : Type} {B B' : Nat} {I : β → World → Prop} (h : OwnFrom B I) (hB : B ≤ B') : OwnFrom B' I := fun s W W' row hs hg hr => h s W W' row hs hg (fun r e => ⟨Nat.le_trans hB (hr r e).1, (hr r e).2⟩)
theorem own_below {β : Type} {B : Nat} {I : β → World → Prop} (h : OwnFrom B I) {s : β} {X Y : World} (hs : I s X) (hb : Below X.heap.size X Y) : I s Y := h s X Y none hs (grown_of_below hb) (fun _ e => by cases e)
theorem own_map {β γ : Type} {B : Nat} {I : β → World → Prop} (f : γ → β) (h : OwnFrom B I) : OwnFrom B (fun s => I (f s)) := fun s W W' row hs hg hr => h (f s) W W' row hs hg hr
theorem own_ex {β γ : Type} {B : Nat} {I : γ → β → World → Prop} (h : ∀ c, OwnFrom B (I c)) : OwnFrom B (fun s W => ∃ c, I c s W) := fun s W W' row ⟨c, hs⟩ hg hr => ⟨c, h c s W W' row hs hg hr⟩

/-- The iterator gives xs in their order, until a round stops it, to whatever loop whose rounds keep C. -/
def GivesOn {α : Type} (P : Program) (gf : Nat) (lb : Array Value) (encs : α → Array Value) (xs : List α) (C : World → Prop) : Prop :=
  ∀ (l : Nat) (J Jx : List α → Option Nat → World → Prop) (W : World), (∀ b, OwnFrom W.heap.size (fun s => J s b)) → (∀ b, OwnFrom W.heap.size (fun s => Jx s b)) → (∀ s b X, J s b X → C X) →
    (∀ pre x rest b W1, xs = pre ++ x :: rest → J pre b W1 → YieldAt Fence.wide 0 P l (encs x) W1 fun e W' =>
      ∃ b', KeepsBut W.heap.size b W1 W' ∧ FreshRow W1.heap.size b b' ∧ ((e = .returned (.bool true) ∧ J (pre ++ [x]) b' W') ∨ (e = .returned (.bool false) ∧ Jx (pre ++ [x]) b' W'))) →
    J [] none W → CallsIn Fence.wide 0 P gf (#[.func (.yield l) #[] #[]] ++ lb) W fun e W' => (∃ v, e = .returned v) ∧ ((∃ b, J xs b W') ∨ ∃ pre b, Jx pre b W')

/-- The iterator gives xs in their order, until a round stops it, to whatever loop whose rounds keep what lay in w. -/
def GivesTo {α : Type} (P : Program) (gf : Nat) (lb : Array Value) (encs : α → Array Value) (xs : List α) (w : World) : Prop := GivesOn P gf lb encs xs (fun X => Below w.heap.size w X)

theorem GivesTo.later {α : Type} {P : Program} {gf : Nat} {lb : Array Value} {encs : α → Array Value} {xs : List α} {w w' : World} (h : GivesTo P gf lb encs xs w) (hb : Below w.heap.size w w') : GivesTo P gf lb encs xs w' :=
  fun l J Jx W hJ hJx hB hY h0 => h l J Jx W hJ hJx (fun s b X hs => hb.trans ((hB s b X hs).mono hb.size)) hY h0

/-- How a round may be left: off its end, or by a jump that leaves the loop. -/
def stopsTo {α : Type} (B0 n : Nat) (I : List α → Option Nat → World → Prop) (Ix : Code → List α → Option Nat → World → Prop) (b : Option Nat) (xs : List α) (W : World) : Exit → Act → World → Prop
  | .normal, _, W' => ∃ b', KeepsBut B0 b W W' ∧ FreshRow n b b' ∧ I xs b' W'
  | .ret, _, W' => ∃ b', KeepsBut B0 b W W' ∧ FreshRow n b b' ∧ Ix .ret xs b' W'
  | .exit id, _, W' => ∃ b', KeepsBut B0 b W W' ∧ FreshRow n b b' ∧ Ix (.exit id) xs b' W'
  | .goto t, _, W' => ∃ b', KeepsBut B0 b W W' ∧ FreshRow n b b' ∧ Ix (.goto t) xs b' W'
  | _, _, _ => False

theorem stops_from {α : Type} {F : Fence} {m : Nat} {P : Program} {c : Code} {a : Act} {B0 n : Nat} {I : List α → Option Nat → World → Prop} {Ix : Code → List α → Option Nat → World → Prop} {b : Option Nat} {xs : List α} {V V0 : World} (h : V0 = V)
    (hc : c.wpIn F m P (stopsTo B0 n I Ix b xs V0) a V) : c.wpIn F m P (stopsTo B0 n I Ix b xs V) a V := by subst h; exact hc

theorem range_on {α : Type} {P : Program} {g : Operand} {ps : Array Tmp} {assign body : Code} {Q : Exit → Act → World → Prop} {a : Act} {w : World} {C : World → Prop} {gf : Nat} {lb : Array Value} {encs : α → Array Value} {xs : List α}
    (hg : a.eval g = .func (.func gf) #[] lb) (eg : ∀ args w, (callFunc gf args).run P w = .ok (.enter gf args) w) (hc : GivesOn P gf lb encs xs C) (hps : ∀ x, (encs x).size = ps.size)
    (I : List α → Option Nat → World → Prop) (Ix : Code → List α → Option Nat → World → Prop) (hI : ∀ b, OwnFrom w.heap.size (fun s => I s b)) (hIx : ∀ c b, OwnFrom w.heap.size (fun s => Ix c s b)) (hIB : ∀ s b W, I s b W → C W) (h0 : I [] none w)
    (hround : ∀ (l : Nat) (pre : List α) (x : α) (rest : List α) (b : Option Nat) (W : World), w.heap.size < l → xs = pre ++ x :: rest → I pre b W → b ≠ some l →
      assign.wpIn (Fence.wide.inRound l) 0 P (Exit.then (fun a' V => KeepsBut w.heap.size b W V ∧ ∀ r r', V.heap[l]? = some (.loop r) →
        body.wpIn (Fence.wide.inRound l) 0 P (stopsTo w.heap.size W.heap.size I Ix b (pre ++ [x]) (V.putObj l (.loop r'))) a' (V.putObj l (.loop r'))) (fun _ _ _ => False))
        { tmps := (ps.zip (encs x)).foldl (fun t (p, v) => t.setIfInBounds p v) a.tmps, defers := [] } W)
    (hdone : ∀ (D : Nat) (b : Option Nat) (W : World), w.heap.size ≤ D → I xs b W → W.heap[D]? = some (.deferred (some [])) → Q .normal { a with defers := { target := .collected D, args := #[] } :: a.defers } W)
    (hstop : ∀ (D : Nat) (c : Code) (pre : List α) (b : Option Nat) (W : World), w.heap.size ≤ D → Ix c pre b W → W.heap[D]? = some (.deferred (some [])) → c.wpIn Fence.wide 0 P Q { a with defers := { target := .collected D, args := #[] } :: a.defers } W) :
    (Code.rangeFunc g ps assign body).wpIn Fence.wide 0 P Q a w := by
  refine wpIn_rangeFunc fun fn hfn => ?_
  -- the loop's record
  let R : LoopState → Option Code → Loop := fun st pe => { state := st, pending := pe, fn, tmps := a.tmps, params := ps, assign, body, defers := w.heap.size }
  let W0 := (w.alloc (.deferred (some []))).alloc (.loop (R .ready none))
  have s0 : W0.heap.size = w.heap.size + 2 := by simp [W0]
  have l0 : W0.heap[w.heap.size + 1]? = some (.loop (R .ready none)) := by
    have := World.alloc_heap_new (w.alloc (.deferred (some []))) (.loop (R .ready none))
    rwa [World.size_alloc] at this
  have d0 : W0.heap[w.heap.size]? = some (.deferred (some [])) := (Below.heap_alloc _ _ _ (by simp)).trans (World.alloc_heap_new w _)
  refine ⟨w.heap.size + 1, [{ target := .collected w.heap.size, args := #[] }], W0, { target := .fn (.func gf) lb, args := #[.func (.yield (w.heap.size + 1)) #[] #[]] }, W0, gf,
    #[.func (.yield (w.heap.size + 1)) #[] #[]] ++ lb, W0, run_enterLoop_outer _ _ _ _ _, ?_, fun _ _ => trivial, ?_, (fun h => by cases h), ?_⟩
  · simp only [resolve, hg]
    simp [go_sem]
  · simp [invoke, go_sem, eg]
  -- what holds between two rounds, and behind the last one that was left early
  let J : List α → Option Nat → World → Prop := fun pre b W => I pre b W ∧ (b ≠ some (w.heap.size + 1) ∧ b ≠ some w.heap.size) ∧ W.heap[w.heap.size + 1]? = some (.loop (R .ready none)) ∧ W.heap[w.heap.size]? = some (.deferred (some []))
  let Jx : List α → Option Nat → World → Prop := fun pre b W => ∃ c, Ix c pre b W ∧ W.heap[w.heap.size + 1]? = some (.loop (R .done (some c))) ∧ W.heap[w.heap.size]? = some (.deferred (some []))
  have kept : ∀ {X Y : World} {row : Option Nat} {k : Nat} {o : Obj}, X.grownBy Y row → (∀ r, row = some r → W0.heap.size ≤ r ∧ ∃ o : Obj, X.heap[r]? = some o ∧ o.isCells = false) → k < w.heap.size + 2 → X.heap[k]? = some o → Y.heap[k]? = some o := fun {X Y row k o} hg hr hk ho => by
    refine (hg.block k (Array.getElem?_eq_some_iff.1 ho).1 (fun e => ?_)).trans ho
    have := (hr k e.symm).1
    omega
  have hJ : ∀ b, OwnFrom W0.heap.size (fun s => J s b) := fun b s X Y row ⟨i, nb, hl, hd⟩ hg hr =>
    ⟨own_mono (hI b) (by omega) s X Y row i hg hr, nb, kept hg hr (by omega) hl, kept hg hr (by omega) hd⟩
  have hJx : ∀ b, OwnFrom W0.heap.size (fun s => Jx s b) := fun b s X Y row ⟨c, i, hl, hd⟩ hg hr =>
    ⟨c, own_mono (hIx c b) (by omega) s X Y row i hg hr, kept hg hr (by omega) hl, kept hg hr (by omega) hd⟩
  refine (hc (w.heap.size + 1) J Jx W0 hJ hJx (fun s b W h => hIB s b W h.1) ?_ ⟨(hI none).alloc _ ((hI none).alloc _ h0), ⟨by simp, by simp⟩, l0, d0⟩).mono ?_
  · rintro pre x rest b W hx ⟨hi, ⟨nl, nd⟩, hl, hd⟩
    have hlt := (Array.getElem?_eq_some_iff.1 hl).1
    refine ⟨fn, _, assign, body, run_yield (P := P) (args := encs x) hl (hps x), roundIn_of_wpIn hfn (wpIn_mono (hround _ pre x rest b W (Nat.lt_succ_self _) hx hi nl) ?_)⟩
    intro e1 a' V hV
    cases e1 with
    | exit id => exact hV.elim
    | goto t => exact hV.elim
    | ret => exact hV.elim
    | panic ch => exact hV.elim
    | outgrown => exact hV.elim
    | normal =>
    obtain ⟨hkV, hbody⟩ := hV
    have hlV := hkV.2 _ _ (by omega) (fun e => nl e.symm) hl
    have hdV := hkV.2 _ _ (Nat.le_refl _) (fun e => nd e.symm) hd
    refine ⟨_, run_beginRound hlV rfl, ?_⟩
    have hl1 : (V.putObj (w.heap.size + 1) (.loop (R .busy none))).heap[w.heap.size + 1]? = some (.loop (R .busy none)) := World.putObj_heap_same (Array.getElem?_eq_some_iff.1 hlV).1
    have hd1 : (V.putObj (w.heap.size + 1) (.loop (R .busy none))).heap[w.heap.size]? = some (.deferred (some [])) := (World.putObj_heap_other (by omega)).trans hdV
    refine wpIn_mono (hbody _ (R .busy none) hlV) ?_
    have all : ∀ (o : Obj) (W3 : World), KeepsBut w.heap.size b (V.putObj (w.heap.size + 1) (.loop (R .busy none))) W3 → KeepsBut W0.heap.size b W (W3.putObj (w.heap.size + 1) o) := fun o W3 hk =>
      ⟨by have h1 := hkV.1; have h2 := hk.1; simp at h2 ⊢; omega, fun k ob hk0 hkb hob => by
        rw [World.putObj_heap_other (by omega)]
        refine hk.2 k ob (by omega) hkb ?_
        rw [World.putObj_heap_other (by omega)]
        exact hkV.2 k ob (by omega) hkb hob⟩
    have fin : ∀ (jump : Code) (W3 : World) (b' : Option Nat), KeepsBut w.heap.size b (V.putObj (w.heap.size + 1) (.loop (R .busy none))) W3 → FreshRow W.heap.size b b' → Ix jump (pre ++ [x]) b' W3 →
        ∃ v W4, (Instr.endRound (w.heap.size + 1) (some jump)).run P W3 = .ok v W4 ∧ ∃ b', KeepsBut W0.heap.size b W W4 ∧ FreshRow W.heap.size b b' ∧ ((Ending.returned v = .returned (.bool true) ∧ J (pre ++ [x]) b' W4) ∨ (Ending.returned v = .returned (.bool false) ∧ Jx (pre ++ [x]) b' W4)) := fun jump W3 b' hk hf hi3 => by
      have hl3 := hk.2 _ _ (by omega) (fun e => nl e.symm) hl1
      have hd3 := hk.2 _ _ (Nat.le_refl _) (fun e => nd e.symm) hd1
      exact ⟨_, _, run_endRound (P := P) (some jump) hl3, b', all _ _ hk, hf, .inr ⟨rfl, jump, (hIx jump b').putObj _ hi3 (by omega) hl3 rfl, World.putObj_heap_same (Array.getElem?_eq_some_iff.1 hl3).1, (World.putObj_heap_other (by omega)).trans hd3⟩⟩
    rintro e a3 W3 hp
    cases e with
    | normal =>
      obtain ⟨b', hk, hf, hi3⟩ := hp
      have hl3 := hk.2 _ _ (by omega) (fun e => nl e.symm) hl1
      have hd3 := hk.2 _ _ (Nat.le_refl _) (fun e => nd e.symm) hd1
      exact ⟨_, _, run_endRound (P := P) none hl3, b', all _ _ hk, hf, .inl ⟨rfl, (hI b').putObj _ hi3 (by omega) hl3 rfl, ⟨hf.ne (by omega) nl, hf.ne (by omega) nd⟩, World.putObj_heap_same (Array.getElem?_eq_some_iff.1 hl3).1, (World.putObj_heap_other (by omega)).trans hd3⟩⟩
    | ret => obtain ⟨b', hk, hf, hi3⟩ := hp; exact fin .ret W3 b' hk hf hi3
    | exit id => obtain ⟨b', hk, hf, hi3⟩ := hp; exact fin (.exit id) W3 b' hk hf hi3
    | goto t => obtain ⟨b', hk, hf, hi3⟩ := hp; exact fin (.goto t) W3 b' hk hf hi3
    | panic ch => exact hp.elim
    | outgrown => exact hp.elim
  · rintro e W2 ⟨⟨v, rfl⟩, (⟨b, hi, _, hl, hd⟩ | ⟨pre, b, c, hi, hl, hd⟩)⟩
    · exact ⟨none, _, run_endLoop (P := P) hl (by simp [R]), hdone _ b _ (Nat.le_refl _) ((hI b).putObj _ hi (by omega) hl rfl) ((World.putObj_heap_other (by omega)).trans hd)⟩
    · exact ⟨some c, _, run_endLoop (P := P) hl (by simp [R]), hstop _ c pre b _ (Nat.le_refl _) ((hIx c b).putObj _ hi (by omega) hl rfl) ((World.putObj_heap_other (by omega)).trans hd)⟩

theorem range_to {α : Type} {P : Program} {g : Operand} {ps : Array Tmp} {assign body : Code} {Q : Exit → Act → World → Prop} {a : Act} {w w0 : World} {gf : Nat} {lb : Array Value} {encs : α → Array Value} {xs : List α}
    (hg : a.eval g = .func (.func gf) #[] lb) (eg : ∀ args w, (callFunc gf args).run P w = .ok (.enter gf args) w) (hc : GivesTo P gf lb encs xs w0) (hps : ∀ x, (encs x).size = ps.size)
    (I : List α → Option Nat → World → Prop) (Ix : Code → List α → Option Nat → World → Prop) (hI : ∀ b, OwnFrom w.heap.size (fun s => I s b)) (hIx : ∀ c b, OwnFrom w.heap.size (fun s => Ix c s b)) (hIB : ∀ s b W, I s b W → Below w0.heap.size w0 W) (h0 : I [] none w)
    (hround : ∀ (l : Nat) (pre : List α) (x : α) (rest : List α) (b : Option Nat) (W : World), w.heap.size < l → xs = pre ++ x :: rest → I pre b W → b ≠ some l →
      assign.wpIn (Fence.wide.inRound l) 0 P (Exit.then (fun a' V => KeepsBut w.heap.size b W V ∧ ∀ r r', V.heap[l]? = some (.loop r) →
        body.wpIn (Fence.wide.inRound l) 0 P (stopsTo w.heap.size W.heap.size I Ix b (pre ++ [x]) (V.putObj l (.loop r'))) a' (V.putObj l (.loop r'))) (fun _ _ _ => False))
        { tmps := (ps.zip (encs x)).foldl (fun t (p, v) => t.setIfInBounds p v) a.tmps, defers := [] } W)
    (hdone : ∀ (D : Nat) (b : Option Nat) (W : World), w.heap.size ≤ D → I xs b W → W.heap[D]? = some (.deferred (some [])) → Q .normal { a with defers := { target := .collected D, args := #[] } :: a.defers } W)
    (hstop : ∀ (D : Nat) (c : Code) (pre : List α) (b : Option Nat) (W : World), w.heap.size ≤ D → Ix c pre b W → W.heap[D]? = some (.deferred (some [])) → c.wpIn Fence.wide 0 P Q { a with defers := { target := .collected D, args := #[] } :: a.defers } W) :
    (Code.rangeFunc g ps assign body).wpIn Fence.wide 0 P Q a w :=
  range_on (C := fun X => Below w0.heap.size w0 X) hg eg hc hps I Ix hI hIx hIB h0 hround hdone hstop

end
end Go.Proofs.Sky
