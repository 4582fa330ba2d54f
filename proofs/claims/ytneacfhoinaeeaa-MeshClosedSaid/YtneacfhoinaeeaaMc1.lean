/- Worlds in which all that lay in a first one lies unturned: one class for a whole walk; a region that draws its order, whose operations read and whose callees make memory, walked once. Imports nothing of the translation. A region that draws its order, whose operations read, or call what makes memory, but for the last ones, which come in one order alone (a value is built, and stored): the head is walked once, in the text's order, over a class of worlds; then the tail, from any world of the class. Imports nothing of the translation. -/
import Derived.Below
import Derived.BigQuiet
import Derived.Handy
import Derived.Deep.Draws
import Derived.WalkKit
import Derived.StillTail
import Derived.Deep.Quiet


namespace Go.Proofs.Sky
section

section

open Go.RowKit

set_option linter.unusedVariables false

/-- A world in which all that lay in wb lies as it lay. -/
structure BW (wb : World) where
  w : World
  h : Below wb.heap.size wb w

def BW.start (wb : World) : BW wb := ⟨wb, Below.refl _ _⟩

instance bwNonempty (wb : World) : Nonempty (BW wb) := ⟨BW.start wb⟩

def BW.next {wb : World} (p : BW wb) (w : World) (h : Below p.w.heap.size p.w w) : BW wb := ⟨w, p.h.trans (h.mono p.h.size)⟩

theorem bw_cell {wb : World} {a : Addr} {v : Value} (h : wb.cell? a = some v) (p : BW wb) : p.w.cell? a = some v :=
  (p.h.cell (World.block_lt_of_cell? wb a h)).trans h

theorem bw_call {P : Program} {f : FuncId} {args : Array Value} {v : Value} {wb : World} (h : ∀ w, Calls P f args w fun e w' => e = .returned v ∧ Below w.heap.size w w') (p : BW wb) :
    Calls P f args p.w fun e w' => e = .returned v ∧ ∃ q : BW wb, w' = q.w :=
  (h p.w).mono fun e w' ⟨he, hb⟩ => ⟨he, p.next w' hb, rfl⟩

theorem bw_below {w wb : World} (h : Below w.heap.size w wb) (p : BW wb) : Below w.heap.size w p.w := h.trans (p.h.mono h.size)

theorem wp_region_bw {P : Program} {id : Nat} {Q : Exit → Act → World → Prop} {a : Act} {wb : World} {p : BW wb} {l : List Oper} (hm : P.follows .mixedOrders = true) (hB : Region.lexB .any l.toArray = true)
    (h : wpQuiet P l.toArray (fun w' => ∃ q : BW wb, w' = q.w) (fun a' => ∀ w', (∃ q : BW wb, w' = q.w) → Q .normal a' w') l a) : (Code.region id l.toArray true).wp P Q a p.w :=
  wp_region_quiet (C := fun w' => ∃ q : BW wb, w' = q.w) hm hB ⟨p.next { p.w with drawn := p.w.drawn + 1 } ⟨rfl, rfl, rfl, Nat.le_refl _, fun _ _ => rfl⟩, rfl⟩ (by simpa using h)

/-- A contract of a function that only computes, as one of a function that makes memory. -/
theorem below_of_same {P : Program} {f : FuncId} {args : Array Value} {v : Value} (h : ∀ w, Calls P f args w fun e w' => e = .returned v ∧ w = w') (w : World) :
    Calls P f args w fun e w' => e = .returned v ∧ Below w.heap.size w w' :=
  (h w).mono fun e w' ⟨he, hw⟩ => ⟨he, by subst hw; exact Below.refl _ _⟩

end

end
end Go.Proofs.Sky

namespace Go.Proofs.Sky
section

section

open Go Go.RowKit

set_option linter.unusedVariables false

set_option linter.unusedSimpArgs false

/-- Each of the first n waits for earlier ones alone, and is passed over by what one of them yields. -/
def headB (l : List Oper) (n : Nat) : Bool := (List.range n).all fun i =>
  match l[i]? with
  | some o => (o.after.all fun e => !Region.binds .any e || decide (e.on < i)) && (match o.guard with | none => true | some g => decide (g.1 < n))
  | none => true

def upto (n m : Nat) : Array Bool := Array.replicate n true ++ Array.replicate m false

def tailB (l : List Oper) (n : Nat) : Bool :=
  decide (n < l.length) && (Region.sinkB .any l.toArray n && (Region.chainB .any l.toArray n && (Region.seqB .any l.toArray (l.length - n) n (upto n (l.length - n)) && headB l n)))

theorem upto_get (n m j : Nat) (h : j < n + m) : (upto n m)[j]? = some (decide (j < n)) := by
  unfold upto
  by_cases hj : j < n
  · rw [Array.getElem?_append_left (by simpa using hj)]
    simp [hj]
  · rw [Array.getElem?_append_right (by simp; omega), Array.getElem?_replicate, if_pos (by simp; omega), decide_eq_false hj]

/-- How many of the first n have not come up. -/
def left (b : Array Bool) : Nat → Nat
  | 0 => 0
  | n + 1 => left b n + if b.getD n false = true then 0 else 1

theorem left_zero (b : Array Bool) : ∀ n, left b n = 0 → ∀ j, j < n → b.getD j false = true
  | 0, _, j, hj => absurd hj (by omega)
  | n + 1, h, j, hj => by
    unfold left at h
    by_cases e : j = n
    · subst e
      by_cases hb : b.getD j false = true
      · exact hb
      · rw [if_neg hb] at h; omega
    · exact left_zero b n (by omega) j (by omega)

theorem left_some (b : Array Bool) : ∀ n, left b n ≠ 0 → ∃ k, k < n ∧ b.getD k false = false ∧ ∀ j, j < k → b.getD j false = true
  | 0, h => absurd rfl h
  | n + 1, h => by
    by_cases h0 : left b n = 0
    · refine ⟨n, by omega, ?_, left_zero b n h0⟩
      cases hb : b.getD n false with
      | false => rfl
      | true => unfold left at h; rw [h0, if_pos hb] at h; exact absurd rfl h
    · obtain ⟨k, h1, h2, h3⟩ := left_some b n h0
      exact ⟨k, by omega, h2, h3⟩

theorem left_same (b : Array Bool) (i : Nat) : ∀ n, n ≤ i → left (b.setIfInBounds i true) n = left b n
  | 0, _ => rfl
  | n + 1, h => by
    unfold left
    rw [left_same b i n (by omega), getD_set_ne false (by omega)]

theorem left_set (b : Array Bool) (i : Nat) (hs : i < b.size) (h0 : b.getD i false = false) : ∀ n, i < n → left (b.setIfInBounds i true) n + 1 = left b n
  | 0, h => absurd h (by omega)
  | n + 1, h => by
    unfold left
    by_cases e : i = n
    · subst e
      rw [left_same b i i (Nat.le_refl _), h0, if_pos (by simp [hs]), if_neg (by decide)]
    · have := left_set b i hs h0 n (by omega)
      rw [getD_set_ne false (by omega)]
      omega

theorem left_start (m : Nat) : ∀ n, left (Array.replicate m false) n = n
  | 0 => rfl
  | n + 1 => by
    unfold left
    rw [left_start m n, getD_replicate_false, if_neg (by decide)]

theorem extract_getD (b : Array Bool) (n j : Nat) (d : Bool) (hj : j < n) (hs : n ≤ b.size) : (b.extract 0 n).getD j d = b.getD j d := by
  have h1 : j < (b.extract 0 n).size := by simp; omega
  have h2 : j < b.size := by omega
  have h3 : j < min n b.size := by omega
  simp [Array.getD_eq_getD_getElem?, Array.getElem?_eq_getElem h2, Array.getElem?_extract, h3]

theorem extract_set (b : Array Bool) (n i : Nat) (hi : i < n) (hs : n ≤ b.size) : (b.setIfInBounds i true).extract 0 n = (b.extract 0 n).setIfInBounds i true := by
  apply Array.ext_getElem?
  intro j
  by_cases e : i = j
  · subst e
    have h1 : i < min n b.size := by omega
    have h2 : i < b.size := by omega
    simp [Array.getElem?_extract, h1, h2]
  · simp [Array.getElem?_extract, Array.getElem?_setIfInBounds_ne e]

section

variable {P : Program} {C : World → Prop} {Q : Exit → Act → World → Prop} {l : List Oper} {n : Nat}

theorem take_get {i : Nat} (hi : i < n) : (l.take n).toArray[i]? = l.toArray[i]? := by simp [hi]

theorem head_of {i : Nat} {o : Oper} (hB : headB l n = true) (hi : i < n) (ho : l.toArray[i]? = some o) : (∀ e ∈ o.after, Region.binds .any e = true → e.on < i) ∧ (∀ g, o.guard = some g → g.1 < n) := by
  have h := List.all_eq_true.1 hB i (List.mem_range.2 hi)
  have ho' : l[i]? = some o := by simpa using ho
  rw [ho'] at h
  simp only [Bool.and_eq_true] at h
  refine ⟨fun e he hb => ?_, fun g hg => ?_⟩
  · have := Array.all_eq_true'.1 h.1 e he
    rw [hb] at this
    simpa using this
  · have := h.2
    rw [hg] at this
    simpa using this

theorem wanted_take {o : Oper} (tmps : Array Value) (hg : ∀ g, o.guard = some g → g.1 < n) : Region.wanted o (yielded (l.take n).toArray tmps) = Region.wanted o (yielded l.toArray tmps) := by
  unfold Region.wanted
  cases h : o.guard with
  | none => rfl
  | some g =>
    obtain ⟨j, b⟩ := g
    dsimp only
    unfold yielded
    rw [take_get (hg _ h)]

theorem qOp_take {i : Nat} {K : Act → Prop} {a : Act} (hB : headB l n = true) (hi : i < n) (h : qOp P (l.take n).toArray C i K a) : qOp P l.toArray C i K a := by
  unfold qOp at *
  rw [take_get hi] at h
  cases ho : l.toArray[i]? with
  | none => rw [ho] at h; exact h
  | some o =>
    rw [ho] at h
    dsimp only at *
    rw [← wanted_take (l := l) (n := n) a.tmps (head_of hB hi ho).2]
    exact h

theorem any_of_head (hn : n < l.length) (h1 : Region.sinkB .any l.toArray n = true) (h2 : Region.chainB .any l.toArray n = true) (h3 : Region.seqB .any l.toArray (l.length - n) n (upto n (l.length - n)) = true) (h4 : headB l n = true) :
    ∀ (f : Nat) (listed : Array Bool) (a : Act) (w : World), C w → HeadInv .any l.toArray n listed → left listed n = f →
      wpAnyQ P .any (l.take n).toArray C (fun a' => ∀ w', C w' → wpList P l.toArray Q (l.drop n) a' w') f (listed.extract 0 n) a →
      wpAny P .any l.toArray Q (f + (l.length - n)) listed a w
  | 0, listed, a, w, hC, inv, hf, h => by
    have hall := left_zero listed n hf
    have hsz : listed.size = l.length := by rw [inv.size]; simp
    have e : listed = upto n (l.length - n) := by
      apply Array.ext_getElem?
      intro j
      by_cases hl : j < listed.size
      · have hj : listed[j]? = some (listed.getD j false) := by simp [Array.getD_eq_getD_getElem?, Array.getElem?_eq_getElem hl]
        rw [hj, upto_get _ _ _ (by omega)]
        by_cases hj : j < n
        · rw [hall j hj, decide_eq_true hj]
        · rw [getD_both (inv.tail j (by omega) (by simp; omega)), decide_eq_false hj]
      · have h1 : listed.size ≤ j := by omega
        have h2 : (upto n (l.length - n)).size ≤ j := by unfold upto; simp; omega
        rw [Array.getElem?_eq_none h1, Array.getElem?_eq_none h2]
    have hd : (l.drop n).length = l.length - n := by simp
    have := wpAny_of_seq (md := .any) (Q' := Q) (l.drop n) n listed a w (fun j => by simp [List.getElem?_drop]) (by rw [hd, e]; exact h3) (h.2 w hC)
    rw [hd] at this
    rw [Nat.zero_add]
    exact this
  | f + 1, listed, a, w, hC, inv, hf, h => by
    have hsz : listed.size = l.length := by rw [inv.size]; simp
    obtain ⟨k, k1, k2, k3⟩ := left_some listed n (by omega)
    rw [show f + 1 + (l.length - n) = (f + (l.length - n)) + 1 by omega]
    have hun : listed.getD k true = false := getD_in (by omega) k2
    have hkr : k ∈ Region.ready .any l.toArray listed := by
      have ho : l.toArray[k]? = some l[k] := by simp
      exact mem_ready.2 ⟨hun, _, ho, fun e he hb => k3 _ ((head_of h4 k1 ho).1 e he hb)⟩
    refine ⟨fun h0 => (by rw [h0] at hkr; cases hkr), fun i hi => ?_⟩
    have hin : i < n := by
      rcases Nat.lt_or_ge i n with g | g
      · exact g
      · exact absurd hi (tail_waits h1 h2 (by simpa using hn) inv _ k rfl k1 hun i g)
    have hi' : i ∈ Region.ready .any (l.take n).toArray (listed.extract 0 n) := by
      obtain ⟨a1, o, a2, a3⟩ := mem_ready.1 hi
      refine mem_ready.2 ⟨?_, o, ?_, fun e he hb => ?_⟩
      · rw [extract_getD _ _ _ _ hin (by omega)]; exact a1
      · rw [take_get hin]; exact a2
      · have := (head_of h4 hin a2).1 e he hb
        rw [extract_getD _ _ _ _ (by omega) (by omega)]
        exact a3 e he hb
    have hq := qOp_take h4 hin (h.2 i hi')
    refine wpOp_of_qOp (P := P) (ops := l.toArray) (C := C) (i := i) (a := a) (w := w) (Q' := Q) hC (fun a' w' hC' hK => ?_) hq
    have hui : listed.getD i false = false := getD_both (mem_ready.1 hi).1
    refine any_of_head hn h1 h2 h3 h4 f (listed.setIfInBounds i true) a' w' hC' (inv.set hi hin) ?_ ?_
    · have := left_set listed i (by omega) hui n hin
      omega
    · rw [extract_set _ _ _ hin (by omega)]
      exact hK

theorem wp_region_quiet_tail {id : Nat} {a : Act} {w : World} (n : Nat) (hm : P.follows .mixedOrders = true) (hB : Region.lexB .any (l.take n).toArray = true) (hT : tailB l n = true) (hC : C { w with drawn := w.drawn + 1 })
    (h : wpQuiet P (l.take n).toArray C (fun a' => ∀ w', C w' → wpList P l.toArray Q (l.drop n) a' w') (l.take n) a) : (Code.region id l.toArray true).wp P Q a w := by
  simp only [tailB, Bool.and_eq_true, decide_eq_true_eq] at hT
  obtain ⟨hn, h1, h2, h3, h4⟩ := hT
  simp only [Region.lexB, Bool.and_eq_true] at hB
  have hl : (l.take n).length = n := by simp; omega
  refine wp_region_any hm ?_
  have inv0 : HeadInv .any l.toArray n (Array.replicate l.toArray.size false) :=
    ⟨by simp, fun j oj _ hl => (by rw [getD_replicate_false] at hl; cases hl), fun t _ ht => getD_in (by simpa using ht) (getD_replicate_false _ _)⟩
  have H := wpAnyQ_lex (C := C) (md := .any) hB.1 (l.take n) 0 (Array.replicate (l.take n).toArray.size false) a (by simp) (by simpa using hB.2) h
  have e : (Array.replicate l.toArray.size false).extract 0 n = Array.replicate (l.take n).toArray.size false := by
    apply Array.ext
    · simp
    · intro j j1 j2; simp
  rw [hl] at H
  have := any_of_head (P := P) (C := C) (Q := Q) hn h1 h2 h3 h4 n (Array.replicate l.toArray.size false) a { w with drawn := w.drawn + 1 } hC inv0 (left_start _ _) (by rw [e]; exact H)
  rw [show n + (l.length - n) = l.toArray.size by simp; omega] at this
  exact this

/-- The same over the class of worlds in which all that lay in wb lies as it lay. -/
theorem wp_region_bw_tail {id : Nat} {a : Act} {wb : World} {p : BW wb} (n : Nat) (hm : P.follows .mixedOrders = true) (hB : Region.lexB .any (l.take n).toArray = true) (hT : tailB l n = true)
    (h : wpQuiet P (l.take n).toArray (fun w' => ∃ q : BW wb, w' = q.w) (fun a' => ∀ w', (∃ q : BW wb, w' = q.w) → wpList P l.toArray Q (l.drop n) a' w') (l.take n) a) : (Code.region id l.toArray true).wp P Q a p.w :=
  wp_region_quiet_tail (C := fun w' => ∃ q : BW wb, w' = q.w) n hm hB hT ⟨p.next { p.w with drawn := p.w.drawn + 1 } ⟨rfl, rfl, rfl, Nat.le_refl _, fun _ _ => rfl⟩, rfl⟩ h

end

end

end
end Go.Proofs.Sky
