/- As XSeqb, where a round may leave the loop early, and the loop's variable may lie in a box of its own. Imports nothing of the translation. -/
import Derived.Test.YtlhamgcmkodjeaaDoorSeqb
import Derived.Test.YtlhamgcmkodjeaaDoorOwn
namespace Go.Proofs.Sky
open Go.RowKit
set_option linter.unusedVariables false

/-- The iterator gives xs in their order, until a round stops it, to whatever loop whose rounds keep C. -/
def GivesStop {α : Type} (P : Program) (gf : Nat) (bd lb : Array Value) (encs : α → Array Value) (xs : List α) (C : World → Prop) (w : World) : Prop :=
  ∀ (l : Nat) (J Jx : List α → World → Prop) (W : World), Below w.heap.size w W → Stays J → Stays Jx → (∀ s W, J s W → C W) →
    (∀ pre x rest W1, xs = pre ++ x :: rest → J pre W1 → YieldAt Fence.wide 0 P l (encs x) W1 fun e W' => (e = .returned (.bool true) ∧ J (pre ++ [x]) W') ∨ (e = .returned (.bool false) ∧ Jx (pre ++ [x]) W')) →
    J [] W → CallsIn Fence.wide 0 P gf ((bd ++ #[.func (.yield l) #[] #[]]) ++ lb) W fun e W' => (∃ v, e = .returned v) ∧ (J xs W' ∨ ∃ pre, Jx pre W')

/-- How a round may be left: off its end, or by a jump that leaves the loop. -/
def stopsOn {α : Type} (B0 : Nat) (I : List α → World → Prop) (Ix : Code → List α → World → Prop) (xs : List α) (W : World) : Exit → Act → World → Prop
  | .normal, _, W' => KeepsFrom B0 W W' ∧ I xs W'
  | .ret, _, W' => KeepsFrom B0 W W' ∧ Ix .ret xs W'
  | .exit id, _, W' => KeepsFrom B0 W W' ∧ Ix (.exit id) xs W'
  | .goto t, _, W' => KeepsFrom B0 W W' ∧ Ix (.goto t) xs W'
  | _, _, _ => False

theorem range_stop {α : Type} {P : Program} {g : Operand} {ps : Array Tmp} {assign body : Code} {Q : Exit → Act → World → Prop} {a : Act} {w : World} {gf : Nat} {bd lb : Array Value} {encs : α → Array Value} {xs : List α} {C : World → Prop}
    (hg : a.eval g = .func (.func gf) bd lb) (eg : ∀ args w, (callFunc gf args).run P w = .ok (.enter gf args) w) (hc : GivesStop P gf bd lb encs xs C w) (hps : ∀ x, (encs x).size = ps.size)
    (I : List α → World → Prop) (Ix : Code → List α → World → Prop) (hI : OwnFrom w.heap.size I) (hIx : ∀ c, OwnFrom w.heap.size (Ix c)) (hIC : ∀ s W, I s W → C W) (h0 : I [] w)
    (hround : ∀ (l : Nat) (pre : List α) (x : α) (rest : List α) (W : World), w.heap.size < l → xs = pre ++ x :: rest → I pre W →
      assign.wpIn (Fence.wide.inRound l) 0 P (Exit.then (fun a' V => KeepsFrom w.heap.size W V ∧ ∀ r r', V.heap[l]? = some (.loop r) →
        body.wpIn (Fence.wide.inRound l) 0 P (stopsOn w.heap.size I Ix (pre ++ [x]) (V.putObj l (.loop r'))) a' (V.putObj l (.loop r'))) (fun _ _ _ => False))
        { tmps := (ps.zip (encs x)).foldl (fun t (p, v) => t.setIfInBounds p v) a.tmps, defers := [] } W)
    (hdone : ∀ (D : Nat) (W : World), w.heap.size ≤ D → I xs W → W.heap[D]? = some (.deferred (some [])) → Q .normal { a with defers := { target := .collected D, args := #[] } :: a.defers } W)
    (hstop : ∀ (D : Nat) (c : Code) (pre : List α) (W : World), w.heap.size ≤ D → Ix c pre W → W.heap[D]? = some (.deferred (some [])) → c.wpIn Fence.wide 0 P Q { a with defers := { target := .collected D, args := #[] } :: a.defers } W) :
    (Code.rangeFunc g ps assign body).wpIn Fence.wide 0 P Q a w := by
  refine wpIn_rangeFunc fun fn hfn => ?_
  -- the loop's record
  let R : LoopState → Option Code → Loop := fun st pe => { state := st, pending := pe, fn, tmps := a.tmps, params := ps, assign, body, defers := w.heap.size }
  let W0 := (w.alloc (.deferred (some []))).alloc (.loop (R .ready none))
  have s0 : W0.heap.size = w.heap.size + 2 := by simp [W0]
  have b0 : Below w.heap.size w W0 := ((Below.refl _ w).alloc (Nat.le_refl _) _).alloc (by simp) _
  have l0 : W0.heap[w.heap.size + 1]? = some (.loop (R .ready none)) := by
    have := World.alloc_heap_new (w.alloc (.deferred (some []))) (.loop (R .ready none))
    rwa [World.size_alloc] at this
  have d0 : W0.heap[w.heap.size]? = some (.deferred (some [])) := (Below.heap_alloc _ _ _ (by simp)).trans (World.alloc_heap_new w _)
  refine ⟨w.heap.size + 1, [{ target := .collected w.heap.size, args := #[] }], W0, { target := .fn (.func gf) lb, args := bd ++ #[.func (.yield (w.heap.size + 1)) #[] #[]] }, W0, gf,
    (bd ++ #[.func (.yield (w.heap.size + 1)) #[] #[]]) ++ lb, W0, run_enterLoop_outer _ _ _ _ _, ?_, fun _ _ => trivial, ?_, (fun h => by cases h), ?_⟩
  · simp only [resolve, hg]
    simp [go_sem]
  · simp [invoke, go_sem, eg]
  -- what holds between two rounds, and behind the last one that was left early
  let J : List α → World → Prop := fun pre W => I pre W ∧ W.heap[w.heap.size + 1]? = some (.loop (R .ready none)) ∧ W.heap[w.heap.size]? = some (.deferred (some []))
  let Jx : List α → World → Prop := fun pre W => ∃ c, Ix c pre W ∧ W.heap[w.heap.size + 1]? = some (.loop (R .done (some c))) ∧ W.heap[w.heap.size]? = some (.deferred (some []))
  have hJ : Stays J := fun s X Y ⟨i, hl, hd⟩ hb =>
    ⟨hI s X Y none i (grown_of_below hb) (fun _ e => by cases e), (hb.block _ (Array.getElem?_eq_some_iff.1 hl).1).trans hl, (hb.block _ (Array.getElem?_eq_some_iff.1 hd).1).trans hd⟩
  have hJx : Stays Jx := fun s X Y ⟨c, i, hl, hd⟩ hb =>
    ⟨c, hIx c s X Y none i (grown_of_below hb) (fun _ e => by cases e), (hb.block _ (Array.getElem?_eq_some_iff.1 hl).1).trans hl, (hb.block _ (Array.getElem?_eq_some_iff.1 hd).1).trans hd⟩
  refine (hc (w.heap.size + 1) J Jx W0 b0 hJ hJx (fun s W h => hIC s W h.1) ?_ ⟨hI.alloc _ (hI.alloc _ h0), l0, d0⟩).mono ?_
  · rintro pre x rest W hx ⟨hi, hl, hd⟩
    have hlt := (Array.getElem?_eq_some_iff.1 hl).1
    refine ⟨fn, _, assign, body, run_yield (P := P) (args := encs x) hl (hps x), roundIn_of_wpIn hfn (wpIn_mono (hround _ pre x rest W (Nat.lt_succ_self _) hx hi) ?_)⟩
    intro e1 a' V hV
    cases e1 with
    | exit id => exact hV.elim
    | goto t => exact hV.elim
    | ret => exact hV.elim
    | panic ch => exact hV.elim
    | outgrown => exact hV.elim
    | normal =>
    obtain ⟨hkV, hbody⟩ := hV
    have hlV := hkV.same _ _ (by omega) hl rfl
    have hdV := hkV.same _ _ (Nat.le_refl _) hd rfl
    refine ⟨_, run_beginRound hlV rfl, ?_⟩
    have hl1 : (V.putObj (w.heap.size + 1) (.loop (R .busy none))).heap[w.heap.size + 1]? = some (.loop (R .busy none)) := World.putObj_heap_same (Array.getElem?_eq_some_iff.1 hlV).1
    have hd1 : (V.putObj (w.heap.size + 1) (.loop (R .busy none))).heap[w.heap.size]? = some (.deferred (some [])) := (World.putObj_heap_other (by omega)).trans hdV
    refine wpIn_mono (hbody _ (R .busy none) hlV) ?_
    have fin : ∀ (jump : Code) (W3 : World), KeepsFrom w.heap.size (V.putObj (w.heap.size + 1) (.loop (R .busy none))) W3 → Ix jump (pre ++ [x]) W3 →
        ∃ v W4, (Instr.endRound (w.heap.size + 1) (some jump)).run P W3 = .ok v W4 ∧ ((Ending.returned v = .returned (.bool true) ∧ J (pre ++ [x]) W4) ∨ (Ending.returned v = .returned (.bool false) ∧ Jx (pre ++ [x]) W4)) := fun jump W3 hk hi3 => by
      have hl3 := hk.same _ _ (by omega) hl1 rfl
      have hd3 := hk.same _ _ (Nat.le_refl _) hd1 rfl
      exact ⟨_, _, run_endRound (P := P) (some jump) hl3, .inr ⟨rfl, jump, (hIx jump).putObj _ hi3 (by omega) hl3 rfl, World.putObj_heap_same (Array.getElem?_eq_some_iff.1 hl3).1, (World.putObj_heap_other (by omega)).trans hd3⟩⟩
    rintro e a3 W3 hp
    cases e with
    | normal =>
      obtain ⟨hk, hi3⟩ := hp
      have hl3 := hk.same _ _ (by omega) hl1 rfl
      have hd3 := hk.same _ _ (Nat.le_refl _) hd1 rfl
      exact ⟨_, _, run_endRound (P := P) none hl3, .inl ⟨rfl, hI.putObj _ hi3 (by omega) hl3 rfl, World.putObj_heap_same (Array.getElem?_eq_some_iff.1 hl3).1, (World.putObj_heap_other (by omega)).trans hd3⟩⟩
    | ret => exact fin .ret W3 hp.1 hp.2
    | exit id => exact fin (.exit id) W3 hp.1 hp.2
    | goto t => exact fin (.goto t) W3 hp.1 hp.2
    | panic ch => exact hp.elim
    | outgrown => exact hp.elim
  · rintro e W2 ⟨⟨v, rfl⟩, (⟨hi, hl, hd⟩ | ⟨pre, c, hi, hl, hd⟩)⟩
    · exact ⟨none, _, run_endLoop (P := P) hl (by simp [R]), hdone _ _ (Nat.le_refl _) (hI.putObj _ hi (by omega) hl rfl) ((World.putObj_heap_other (by omega)).trans hd)⟩
    · exact ⟨some c, _, run_endLoop (P := P) hl (by simp [R]), hstop _ c pre _ (Nat.le_refl _) ((hIx c).putObj _ hi (by omega) hl rfl) ((World.putObj_heap_other (by omega)).trans hd)⟩

/-- A block of cells, when the loop's record is turned. -/
theorem bk_put {V : World} {l b : Nat} {r : Loop} {t : TypeId} {cs : Array Value} (h : Bk V b t cs) (hl : V.heap[l]? = some (.loop r)) (o : Obj) : Bk (V.putObj l o) b t cs :=
  h.grown (grownBy_putObj' V l o) (fun e => by cases e; unfold Bk at h; rw [h] at hl; cases hl)
theorem keeps_of_below {B : Nat} {X Y : World} (h : Below X.heap.size X Y) : KeepsFrom B X Y := ⟨h.size, fun k o _ hk _ => (h.block k (Array.getElem?_eq_some_iff.1 hk).1).trans hk⟩
theorem bk_own {β : Type} {B b : Nat} {t : TypeId} (f : β → Array Value) : OwnFrom B (fun s W => Bk W b t (f s)) := fun s W W' row hs hg hr =>
  hs.grown hg (fun e => by obtain ⟨_, o, ho, hc⟩ := hr b e.symm; unfold Bk at hs; rw [hs] at ho; cases ho; cases hc)
theorem pure_own {β : Type} {B : Nat} (p : β → Prop) : OwnFrom B (fun s (_ : World) => p s) := fun _ _ _ _ hs _ _ => hs

end Go.Proofs.Sky
