/- A drawn region that counts in a map (m[k] += d): a quiet head, ahead of all the rest; then the look-up and the sum, beside the entry and its stamp, in any order; then the store. Imports nothing of the translation. -/
import Derived.Test.YtneacfhoinaeeaaMc1
import Derived.RegionTactic
import Derived.Maps.OwnOps
import Derived.Maps.Views
import Derived.WideKeyEntry


namespace Go.Proofs.Sky
section

open Go Go.RowKit

set_option linter.unusedVariables false

set_option linter.unusedSimpArgs false

/-- Number t of the rest waits for all of the head, or for another one of the rest. -/
def sinkT (ops : Array Oper) (n t : Nat) : Bool := (List.range n).all fun i => Region.waitsFor .any ops t i || (List.range n).any fun j => decide (i < j) && Region.waitsFor .any ops j i

def frontB (ops : Array Oper) (n : Nat) : Bool := (List.range ops.size).all fun t => decide (t < n) || (sinkT ops n t || (List.range t).any fun j => decide (n ≤ j) && Region.waitsFor .any ops t j)

def frontAll (l : List Oper) (n : Nat) : Bool := decide (n < l.length) && (frontB l.toArray n && headB l n)

section

variable {P : Program} {C : World → Prop} {Q : Exit → Act → World → Prop} {l : List Oper} {n : Nat}

theorem front_waits {ops : Array Oper} {listed : Array Bool} (hf : frontB ops n = true) (inv : HeadInv .any ops n listed) :
    ∀ (d i : Nat), n - i = d → i < n → listed.getD i true = false → ∀ t, n ≤ t → t ∉ Region.ready .any ops listed := by
  intro d
  induction d using Nat.strongRecOn with
  | _ d ih =>
    intro i hd hi hun t ht hr
    obtain ⟨_, ot, hot, hall⟩ := mem_ready.1 hr
    have htlt : t < ops.size := (Array.getElem?_eq_some_iff.1 hot).1
    have h0 := List.all_eq_true.1 hf t (List.mem_range.2 htlt)
    simp only [Bool.or_eq_true, decide_eq_true_eq] at h0
    rcases h0 with h0 | h0 | h0
    · omega
    · have h1 := List.all_eq_true.1 h0 i (List.mem_range.2 hi)
      simp only [Bool.or_eq_true] at h1
      rcases h1 with h1 | h1
      · obtain ⟨o', ho', e, he, hb, hon⟩ := Region.waitsFor_spec h1
        have : o' = ot := Option.some.inj (ho'.symm.trans hot)
        subst this
        have h2 := hall e he hb
        rw [hon, getD_both hun] at h2
        cases h2
      · obtain ⟨j, hj, hj2⟩ := List.any_eq_true.1 h1
        simp only [Bool.and_eq_true, decide_eq_true_eq] at hj2
        have hjn := List.mem_range.1 hj
        obtain ⟨oj, hoj, e, he, hb, hon⟩ := Region.waitsFor_spec hj2.2
        cases hl : listed.getD j false with
        | true =>
          have h2 := inv.closed j oj hoj hl e he hb
          rw [hon, getD_both hun] at h2
          cases h2
        | false =>
          have hjs : j < listed.size := by rw [inv.size]; omega
          exact ih (n - j) (by omega) j rfl hjn (getD_in hjs hl) t ht hr
    · obtain ⟨j, hj, hj2⟩ := List.any_eq_true.1 h0
      simp only [Bool.and_eq_true, decide_eq_true_eq] at hj2
      have hjt := List.mem_range.1 hj
      obtain ⟨o', ho', e, he, hb, hon⟩ := Region.waitsFor_spec hj2.2
      have : o' = ot := Option.some.inj (ho'.symm.trans hot)
      subst this
      have h2 := hall e he hb
      rw [hon, getD_both (inv.tail j hj2.1 (by omega))] at h2
      cases h2

theorem any_of_front (hn : n < l.length) (h1 : frontB l.toArray n = true) (h4 : headB l n = true) :
    ∀ (f : Nat) (listed : Array Bool) (a : Act) (w : World), C w → HeadInv .any l.toArray n listed → left listed n = f →
      wpAnyQ P .any (l.take n).toArray C (fun a' => ∀ w', C w' → wpAny P .any l.toArray Q (l.length - n) (upto n (l.length - n)) a' w') f (listed.extract 0 n) a →
      wpAny P .any l.toArray Q (f + (l.length - n)) listed a w
  | 0, listed, a, w, hC, inv, hf, h => by
    have hall := left_zero listed n hf
    have hsz : listed.size = l.length := by rw [inv.size]; simp
    have e : listed = upto n (l.length - n) := by
      apply Array.ext_getElem?
      intro j
      by_cases hl : j < listed.size
      · have hj : listed[j]? = some (listed.getD j false) := by simp [Array.getD_eq_getD_getElem?, Array.getElem?_eq_getElem hl]
        rw [hj, upto_get _ _ _ (by omega)]
        by_cases hj : j < n
        · rw [hall j hj, decide_eq_true hj]
        · rw [getD_both (inv.tail j (by omega) (by simp; omega)), decide_eq_false hj]
      · have h1 : listed.size ≤ j := by omega
        have h2 : (upto n (l.length - n)).size ≤ j := by unfold upto; simp; omega
        rw [Array.getElem?_eq_none h1, Array.getElem?_eq_none h2]
    rw [Nat.zero_add, e]
    exact h.2 w hC
  | f + 1, listed, a, w, hC, inv, hf, h => by
    have hsz : listed.size = l.length := by rw [inv.size]; simp
    obtain ⟨k, k1, k2, k3⟩ := left_some listed n (by omega)
    rw [show f + 1 + (l.length - n) = (f + (l.length - n)) + 1 by omega]
    have hun : listed.getD k true = false := getD_in (by omega) k2
    have hkr : k ∈ Region.ready .any l.toArray listed := by
      have ho : l.toArray[k]? = some l[k] := by simp
      exact mem_ready.2 ⟨hun, _, ho, fun e he hb => k3 _ ((head_of h4 k1 ho).1 e he hb)⟩
    refine ⟨fun h0 => (by rw [h0] at hkr; cases hkr), fun i hi => ?_⟩
    have hin : i < n := by
      rcases Nat.lt_or_ge i n with g | g
      · exact g
      · exact absurd hi (front_waits h1 inv _ k rfl k1 hun i g)
    have hi' : i ∈ Region.ready .any (l.take n).toArray (listed.extract 0 n) := by
      obtain ⟨a1, o, a2, a3⟩ := mem_ready.1 hi
      refine mem_ready.2 ⟨?_, o, ?_, fun e he hb => ?_⟩
      · rw [extract_getD _ _ _ _ hin (by omega)]; exact a1
      · rw [take_get hin]; exact a2
      · have := (head_of h4 hin a2).1 e he hb
        rw [extract_getD _ _ _ _ (by omega) (by omega)]
        exact a3 e he hb
    have hq := qOp_take h4 hin (h.2 i hi')
    refine wpOp_of_qOp (P := P) (ops := l.toArray) (C := C) (i := i) (a := a) (w := w) (Q' := Q) hC (fun a' w' hC' hK => ?_) hq
    have hui : listed.getD i false = false := getD_both (mem_ready.1 hi).1
    refine any_of_front hn h1 h4 f (listed.setIfInBounds i true) a' w' hC' (inv.set hi hin) ?_ ?_
    · have := left_set listed i (by omega) hui n hin
      omega
    · rw [extract_set _ _ _ hin (by omega)]
      exact hK

/-- A quiet head, ahead of all the rest. -/
theorem wp_region_front {id : Nat} {a : Act} {wb : World} {p : BW wb} (n : Nat) (hm : P.follows .mixedOrders = true) (hB : Region.lexB .any (l.take n).toArray = true) (hF : frontAll l n = true)
    (h : wpQuiet P (l.take n).toArray (fun w' => ∃ q : BW wb, w' = q.w) (fun a' => ∀ w', (∃ q : BW wb, w' = q.w) → wpAny P .any l.toArray Q (l.length - n) (upto n (l.length - n)) a' w') (l.take n) a) : (Code.region id l.toArray true).wp P Q a p.w := by
  simp only [frontAll, Bool.and_eq_true, decide_eq_true_eq] at hF
  obtain ⟨hn, h1, h4⟩ := hF
  simp only [Region.lexB, Bool.and_eq_true] at hB
  have hl : (l.take n).length = n := by simp; omega
  refine wp_region_any hm ?_
  have inv0 : HeadInv .any l.toArray n (Array.replicate l.toArray.size false) :=
    ⟨by simp, fun j oj _ hl => (by rw [getD_replicate_false] at hl; cases hl), fun t _ ht => getD_in (by simpa using ht) (getD_replicate_false _ _)⟩
  have H := wpAnyQ_lex (C := fun w' => ∃ q : BW wb, w' = q.w) (md := .any) hB.1 (l.take n) 0 (Array.replicate (l.take n).toArray.size false) a (by simp) (by simpa using hB.2) h
  have e : (Array.replicate l.toArray.size false).extract 0 n = Array.replicate (l.take n).toArray.size false := by
    apply Array.ext
    · simp
    · intro j j1 j2; simp
  rw [hl] at H
  have hC : ∃ q : BW wb, ({ p.w with drawn := p.w.drawn + 1 } : World) = q.w := ⟨p.next { p.w with drawn := p.w.drawn + 1 } ⟨rfl, rfl, rfl, Nat.le_refl _, fun _ _ => rfl⟩, rfl⟩
  have := any_of_front (P := P) (Q := Q) hn h1 h4 n (Array.replicate l.toArray.size false) a { p.w with drawn := p.w.drawn + 1 } hC inv0 (left_start _ _) (by rw [e]; exact H)
  rw [show n + (l.length - n) = l.toArray.size by simp; omega] at this
  exact this

/-- What is listed of the five: the head, then these. -/
def mk5 (n : Nat) (b : List Bool) : Array Bool := (List.replicate n true ++ b).toArray

theorem mk5_set (n k : Nat) (b : List Bool) : (mk5 n b).setIfInBounds (n + k) true = mk5 n (b.set k true) := by
  unfold mk5
  rw [List.setIfInBounds_toArray, List.set_append, if_neg (by simp), List.length_replicate, Nat.add_sub_cancel_left]

theorem mk5_set0 (n : Nat) (b : List Bool) : (mk5 n b).setIfInBounds n true = mk5 n (b.set 0 true) := mk5_set n 0 b

def count5B (l : List Oper) (n : Nat) : Bool :=
  let R := fun b => Region.ready .any l.toArray (mk5 n b)
  decide (R [false, false, false, false, false] = [n, n + 2]) && (decide (R [true, false, false, false, false] = [n + 1, n + 2]) && (decide (R [true, true, false, false, false] = [n + 2]) &&
  (decide (R [false, false, true, false, false] = [n, n + 3]) && (decide (R [true, false, true, false, false] = [n + 1, n + 3]) && (decide (R [true, true, true, false, false] = [n + 3]) &&
  (decide (R [false, false, true, true, false] = [n]) && (decide (R [true, false, true, true, false] = [n + 1]) && (decide (R [true, true, true, true, false] = [n + 4]) && decide (R [true, true, true, true, true] = [])))))))))

theorem put_put_ne {A : Act} {a b : Nat} {u v : Value} (h : a ≠ b) : (A.put (some a) u).put (some b) v = (A.put (some b) v).put (some a) u := Act.put_comm A u v (fun d hd h2 => by cases hd; cases h2; exact h rfl)

/-- The rest, whatever its order. -/
theorem wpAny_count {oL oD oE oX oS : Oper} {dL dD dE dX : Nat} {v0 v1 tp st : Value} {w w1 w2 : World} {A : Act} (hR : count5B l n = true)
    (hL : l.toArray[n]? = some oL) (hD : l.toArray[n + 1]? = some oD) (hE : l.toArray[n + 2]? = some oE) (hX : l.toArray[n + 3]? = some oX) (hS : l.toArray[n + 4]? = some oS)
    (gL : oL.guard = none) (gD : oD.guard = none) (gE : oE.guard = none) (gX : oX.guard = none) (gS : oS.guard = none)
    (cL : oL.dst = some dL) (cD : oD.dst = some dD) (cE : oE.dst = some dE) (cX : oX.dst = some dX) (cS : oS.dst = none)
    (h1 : dL ≠ dD) (h2 : dL ≠ dE) (h3 : dL ≠ dX) (h4 : dD ≠ dE) (h5 : dD ≠ dX) (h6 : dE ≠ dX) (z1 : dL < A.tmps.size) (z2 : dD < A.tmps.size) (z3 : dE < A.tmps.size) (z4 : dX < A.tmps.size)
    (eL : ∀ a : Act, (∀ d, d ≠ dL → d ≠ dD → d ≠ dE → d ≠ dX → a.tmps[d]? = A.tmps[d]?) → (execOp a.eval oL).run P w = .ok (.value v0) w ∧ (execOp a.eval oL).run P w1 = .ok (.value v0) w1)
    (eD : ∀ (a : Act) (u : World), a.tmps[dL]? = some v0 → (execOp a.eval oD).run P u = .ok (.value v1) u)
    (eE : ∀ a : Act, (∀ d, d ≠ dL → d ≠ dD → d ≠ dE → d ≠ dX → a.tmps[d]? = A.tmps[d]?) → (execOp a.eval oE).run P w = .ok (.value tp) w1)
    (eX : ∀ (a : Act) (u : World), a.tmps[dE]? = some tp → (execOp a.eval oX).run P u = .ok (.value st) u)
    (eS : ∀ a : Act, (∀ d, d ≠ dL → d ≠ dD → d ≠ dE → d ≠ dX → a.tmps[d]? = A.tmps[d]?) → a.tmps[dX]? = some st → a.tmps[dD]? = some v1 → (execOp a.eval oS).run P w1 = .ok .skip w2)
    (hQ : Q .normal ((((A.put (some dL) v0).put (some dD) v1).put (some dE) tp).put (some dX) st) w2) :
    wpAny P .any l.toArray Q 5 (upto n 5) A w := by
  simp only [count5B, Bool.and_eq_true, decide_eq_true_eq] at hR
  obtain ⟨r00, r10, r20, r01, r11, r21, r02, r12, r22, rz⟩ := hR
  have e0 : upto n 5 = mk5 n [false, false, false, false, false] := by
    apply Array.ext'
    simp [upto, mk5, List.replicate]
  have wn : ∀ (o : Oper) (t : Array Value), o.guard = none → Region.wanted o (yielded l.toArray t) = true := fun o t h => by unfold Region.wanted; rw [h]
  have gt : ∀ (a : Act) (d e : Nat) (v : Value), d ≠ e → (a.put (some e) v).tmps[d]? = a.tmps[d]? := fun a d e v h => by simp [Act.put, Array.getElem?_setIfInBounds_ne (Ne.symm h)]
  have gs : ∀ (a : Act) (d : Nat) (v : Value), d < a.tmps.size → (a.put (some d) v).tmps[d]? = some v := fun a d v h => by simp [Act.put, h]
  have sz : ∀ (a : Act) (e : Nat) (v : Value), (a.put (some e) v).tmps.size = a.tmps.size := fun a e v => by simp [Act.put]
  have stepV : ∀ {o : Oper} {a : Act} {u u' : World} {v : Value} {d : Nat} {K : Act → World → Prop}, o.dst = some d → (execOp a.eval o).run P u = .ok (.value v) u' → K (a.put (some d) v) u' → Oper.wp P o a u K Q := fun {o a u u' v d K} hd he hk => by
    unfold Oper.wp
    rw [he]
    show K (a.put o.dst v) u'
    rw [hd]; exact hk
  -- the acts
  obtain ⟨A1, hA1⟩ : ∃ x, x = A.put (some dL) v0 := ⟨_, rfl⟩
  obtain ⟨A2, hA2⟩ : ∃ x, x = A1.put (some dD) v1 := ⟨_, rfl⟩
  have q1 : A1.tmps[dL]? = some v0 := by rw [hA1]; exact gs _ _ _ z1
  have agree : ∀ d, d ≠ dL → d ≠ dD → d ≠ dE → d ≠ dX → A.tmps[d]? = A.tmps[d]? := fun _ _ _ _ _ => rfl
  have agp : ∀ (a : Act) (e : Nat) (v : Value), (e = dL ∨ e = dD ∨ e = dE ∨ e = dX) → (∀ d, d ≠ dL → d ≠ dD → d ≠ dE → d ≠ dX → a.tmps[d]? = A.tmps[d]?) → (∀ d, d ≠ dL → d ≠ dD → d ≠ dE → d ≠ dX → (a.put (some e) v).tmps[d]? = A.tmps[d]?) := fun a e v he h d g1 g2 g3 g4 => by
    rw [gt a d e v (by rcases he with rfl | rfl | rfl | rfl <;> assumption)]
    exact h d g1 g2 g3 g4
  have ag1 : ∀ d, d ≠ dL → d ≠ dD → d ≠ dE → d ≠ dX → A1.tmps[d]? = A.tmps[d]? := by rw [hA1]; exact agp _ _ _ (.inl rfl) agree
  have ag2 : ∀ d, d ≠ dL → d ≠ dD → d ≠ dE → d ≠ dX → A2.tmps[d]? = A.tmps[d]? := by rw [hA2]; exact agp _ _ _ (.inr (.inl rfl)) ag1
  have sz1 : A1.tmps.size = A.tmps.size := by rw [hA1, sz]
  have sz2 : A2.tmps.size = A.tmps.size := by rw [hA2, sz, sz1]
  have q2 : A2.tmps[dD]? = some v1 := by rw [hA2]; exact gs _ _ _ (by omega)
  -- all but the store
  have s22 : wpAny P .any l.toArray Q 1 (mk5 n [true, true, true, true, false]) ((A2.put (some dE) tp).put (some dX) st) w1 := by
    refine wpAny_ready r22 (by simp) (AllReady.cons hS (fun K hK => ?_) AllReady.nil)
    rw [if_pos (wn _ _ gS)]
    have hx := eS ((A2.put (some dE) tp).put (some dX) st) (agp _ _ _ (.inr (.inr (.inr rfl))) (agp _ _ _ (.inr (.inr (.inl rfl))) ag2)) (gs _ _ _ (by rw [sz, sz2]; exact z4)) (by rw [gt _ _ _ _ h5, gt _ _ _ _ h4]; exact q2)
    unfold Oper.wp
    rw [hx]
    show K ((((A2.put (some dE) tp).put (some dX) st)).put oS.dst undef) w2
    rw [cS]
    refine hK _ _ ?_
    rw [mk5_set]
    refine wpAny_done rz ?_ _
    rw [hA2, hA1] at *
    exact hQ
  have s12 : wpAny P .any l.toArray Q 2 (mk5 n [true, false, true, true, false]) ((A1.put (some dE) tp).put (some dX) st) w1 := by
    refine wpAny_ready r12 (by simp) (AllReady.cons hD (fun K hK => ?_) AllReady.nil)
    rw [if_pos (wn _ _ gD)]
    refine stepV cD (eD _ _ (by rw [gt _ _ _ _ h3, gt _ _ _ _ h2]; exact q1)) (hK _ _ ?_)
    rw [mk5_set, put_put_ne (Ne.symm h5), put_put_ne (Ne.symm h4), ← hA2]
    exact s22
  have s02 : wpAny P .any l.toArray Q 3 (mk5 n [false, false, true, true, false]) ((A.put (some dE) tp).put (some dX) st) w1 := by
    refine wpAny_ready r02 (by simp) (AllReady.cons hL (fun K hK => ?_) AllReady.nil)
    rw [if_pos (wn _ _ gL)]
    refine stepV cL (eL _ (agp _ _ _ (.inr (.inr (.inr rfl))) (agp _ _ _ (.inr (.inr (.inl rfl))) agree))).2 (hK _ _ ?_)
    rw [mk5_set0, put_put_ne (Ne.symm h3), put_put_ne (Ne.symm h2), ← hA1]
    exact s12
  have s21 : wpAny P .any l.toArray Q 2 (mk5 n [true, true, true, false, false]) (A2.put (some dE) tp) w1 := by
    refine wpAny_ready r21 (by simp) (AllReady.cons hX (fun K hK => ?_) AllReady.nil)
    rw [if_pos (wn _ _ gX)]
    refine stepV cX (eX _ _ (gs _ _ _ (by omega))) (hK _ _ ?_)
    rw [mk5_set]
    exact s22
  have s11 : wpAny P .any l.toArray Q 3 (mk5 n [true, false, true, false, false]) (A1.put (some dE) tp) w1 := by
    refine wpAny_ready r11 (by simp) (AllReady.cons hD (fun K hK => ?_) (AllReady.cons hX (fun K hK => ?_) AllReady.nil))
    · rw [if_pos (wn _ _ gD)]
      refine stepV cD (eD _ _ (by rw [gt _ _ _ _ h2]; exact q1)) (hK _ _ ?_)
      rw [mk5_set, put_put_ne (Ne.symm h4), ← hA2]
      exact s21
    · rw [if_pos (wn _ _ gX)]
      refine stepV cX (eX _ _ (gs _ _ _ (by omega))) (hK _ _ ?_)
      rw [mk5_set]
      exact s12
  have s01 : wpAny P .any l.toArray Q 4 (mk5 n [false, false, true, false, false]) (A.put (some dE) tp) w1 := by
    refine wpAny_ready r01 (by simp) (AllReady.cons hL (fun K hK => ?_) (AllReady.cons hX (fun K hK => ?_) AllReady.nil))
    · rw [if_pos (wn _ _ gL)]
      refine stepV cL (eL _ (agp _ _ _ (.inr (.inr (.inl rfl))) agree)).2 (hK _ _ ?_)
      rw [mk5_set0, put_put_ne (Ne.symm h2), ← hA1]
      exact s11
    · rw [if_pos (wn _ _ gX)]
      refine stepV cX (eX _ _ (gs _ _ _ z3)) (hK _ _ ?_)
      rw [mk5_set]
      exact s02
  have s20 : wpAny P .any l.toArray Q 3 (mk5 n [true, true, false, false, false]) A2 w := by
    refine wpAny_ready r20 (by simp) (AllReady.cons hE (fun K hK => ?_) AllReady.nil)
    rw [if_pos (wn _ _ gE)]
    refine stepV cE (eE _ ag2) (hK _ _ ?_)
    rw [mk5_set]
    exact s21
  have s10 : wpAny P .any l.toArray Q 4 (mk5 n [true, false, false, false, false]) A1 w := by
    refine wpAny_ready r10 (by simp) (AllReady.cons hD (fun K hK => ?_) (AllReady.cons hE (fun K hK => ?_) AllReady.nil))
    · rw [if_pos (wn _ _ gD)]
      refine stepV cD (eD _ _ q1) (hK _ _ ?_)
      rw [mk5_set, ← hA2]
      exact s20
    · rw [if_pos (wn _ _ gE)]
      refine stepV cE (eE _ ag1) (hK _ _ ?_)
      rw [mk5_set]
      exact s11
  rw [e0]
  refine wpAny_ready r00 (by simp) (AllReady.cons hL (fun K hK => ?_) (AllReady.cons hE (fun K hK => ?_) AllReady.nil))
  · rw [if_pos (wn _ _ gL)]
    refine stepV cL (eL _ agree).1 (hK _ _ ?_)
    rw [mk5_set0, ← hA1]
    exact s10
  · rw [if_pos (wn _ _ gE)]
    refine stepV cE (eE _ agree) (hK _ _ ?_)
    rw [mk5_set]
    exact s01

end

section

open Go.ChangeShapes Go.WideShapes Go.MapKept Go.ChangeMaps Go.WideElems

open Go.WideMaps (KeyLaw)

variable {H : Type} {P : Program} {w : World} {t k e : TypeId} {R : Value → Option (DataW H × List MemPlace)} {b n : Nat} {es : Array MapEntry} {clock : Nat} {D : DataW H}

/-- The entry of a key, made if it is not there, and what is stored there: as a store of what was there, and then of what is new. -/
theorem entry_count (K : KeyLaw P k) (ht : P.underlying t = some (.map k e)) {z : Value} (hz : ∀ u : World, (zeroValue e).run P u = .ok z u) (hb : w.heap[b]? = some (.map es clock)) (F : Fit P k R es clock)
    {key : Value} {kl : Lit} (hkey : keyOf P k key = some kl) :
    ∃ (v0 : Value) (st : Nat) (w1 : World), (Instr.mapEntry t (.map (some b)) key).run P w = .ok (.tuple #[v0, goInt st]) w1 ∧ (Instr.lookup t (.map (some b)) key false).run P w = .ok v0 w ∧ (Instr.mapUpdate t (.map (some b)) key v0).run P w = .ok () w1 ∧
      ∀ val : Value, ∃ w2, (Instr.entryStore t (.map (some b)) (goInt st) val).run P w1 = .ok () w2 ∧ (Instr.mapUpdate t (.map (some b)) key val).run P w = .ok () w2 := by
  obtain ⟨s1, s2, _⟩ := F.stamped
  have hset : ∀ (o o' : Obj), setBlock (setBlock w b o) b o' = setBlock w b o' := fun o o' => by simp [setBlock]
  have hin : ∀ o : Obj, (setBlock w b o).heap[b]? = some o := fun o => heap_setBlock_same hb o
  rcases K.find w hkey es.toList F.keys with ⟨h1, h2⟩ | ⟨j, e0, h1, h2, h3⟩
  · refine ⟨z, clock, setBlock w b (.map (es.push ⟨key, z, clock⟩) (clock + 1)), ?_, ?_, ?_, fun val => ⟨setBlock w b (.map (es.push ⟨key, val, clock⟩) (clock + 1)), ?_, ?_⟩⟩
    · simp [Instr.mapEntry, run_underlying ht, MapKept.run_getObj_map hb, K.check w false hkey, h1, hz, MapKept.run_setObj_map _ hb, Result.andThen, setBlock]
    · simp [Instr.lookup, run_underlying ht, MapKept.run_getObj_map hb, K.check w _ hkey, h1, hz, Result.andThen]
    · simp [Instr.mapUpdate, run_underlying ht, MapKept.run_getObj_map hb, K.check w false hkey, h1, MapKept.run_setObj_map _ hb, Result.andThen, setBlock]
    · have hw2 := hin (.map (es.push ⟨key, z, clock⟩) (clock + 1))
      have hidx : (es.push ⟨key, z, clock⟩).findIdx? (fun e => ((e.born : Nat) : Int) == ((clock : Nat) : Int)) = some es.size := by
        rw [findIdx_arr]
        have := findIdx_born (l := (es.push ⟨key, z, clock⟩).toList) (j := es.size) (e0 := ⟨key, z, clock⟩) (by
          simp only [Array.toList_push, List.map_append, List.map_cons, List.map_nil]
          refine List.nodup_append.2 ⟨s2, by simp, fun a ha c hc e1 => ?_⟩
          simp only [List.mem_singleton] at hc
          obtain ⟨x, hx, rfl⟩ := List.mem_map.1 ha
          have := s1 x hx
          omega) (by simp)
        exact this
      have hmod : (es.push ⟨key, z, clock⟩).modify es.size (fun e => { e with val := val }) = es.push ⟨key, val, clock⟩ := by
        apply Array.ext'
        rw [Array.toList_modify, Array.toList_push, Array.toList_push, ← Array.length_toList, modify_last]
      rw [← hset (.map (es.push ⟨key, z, clock⟩) (clock + 1)) (.map (es.push ⟨key, val, clock⟩) (clock + 1))]
      generalize setBlock w b (.map (es.push ⟨key, z, clock⟩) (clock + 1)) = W at *
      simp [Instr.entryStore, MapKept.run_getObj_map hw2, asInt, asIntOf, goInt, hidx, hmod, MapKept.run_setObj_map _ hw2, Result.andThen, setBlock]
    · simp [Instr.mapUpdate, run_underlying ht, MapKept.run_getObj_map hb, K.check w false hkey, h1, MapKept.run_setObj_map _ hb, Result.andThen, setBlock]
  · have hj : es[j]? = some e0 := by simpa using h2
    have hsame : ∀ f : MapEntry → MapEntry, f e0 = e0 → es.modify j f = es := fun f hf => by
      apply Array.ext'
      rw [Array.toList_modify, modify_eq_set _ _ _ _ h2, hf]
      exact set_self _ _ _ h2
    have hs1 : es.modify j (fun e => { e with key := key }) = es := hsame _ (by rw [← h3])
    have hs2 : es.modify j (fun e' => { e' with key := key, val := e0.val }) = es := hsame _ (by rw [← h3])
    refine ⟨e0.val, e0.born, setBlock w b (.map es clock), ?_, ?_, ?_, fun val => ⟨setBlock w b (.map (es.modify j (fun e' => { e' with key := key, val := val })) clock), ?_, ?_⟩⟩
    · simp [Instr.mapEntry, run_underlying ht, MapKept.run_getObj_map hb, K.check w false hkey, h1, hj, h3, K.stays w hkey, hs1, MapKept.run_setObj_map _ hb, Result.andThen, setBlock]
    · simp [Instr.lookup, run_underlying ht, MapKept.run_getObj_map hb, K.check w _ hkey, h1, Result.andThen]
    · simp [Instr.mapUpdate, run_underlying ht, MapKept.run_getObj_map hb, K.check w false hkey, h1, hj, h3, K.stays w hkey, hs2, MapKept.run_setObj_map _ hb, Result.andThen, setBlock]
    · have hw2 := hin (.map es clock)
      have hidx : es.findIdx? (fun e => ((e.born : Nat) : Int) == ((e0.born : Nat) : Int)) = some j := by
        rw [findIdx_arr]
        exact findIdx_born s2 h2
      have hmod : es.modify j (fun e => { e with val := val }) = es.modify j (fun e' => { e' with key := key, val := val }) := by
        apply Array.ext'
        rw [Array.toList_modify, Array.toList_modify, modify_eq_set _ _ _ _ h2, modify_eq_set _ _ _ _ h2, ← h3]
      rw [← hset (.map es clock) (.map (es.modify j (fun e' => { e' with key := key, val := val })) clock)]
      generalize setBlock w b (.map es clock) = W at *
      simp [Instr.entryStore, MapKept.run_getObj_map hw2, asInt, asIntOf, goInt, hidx, hmod, MapKept.run_setObj_map _ hw2, Result.andThen, setBlock]
    · simp [Instr.mapUpdate, run_underlying ht, MapKept.run_getObj_map hb, K.check w false hkey, h1, hj, h3, K.stays w hkey, MapKept.run_setObj_map _ hb, Result.andThen, setBlock]

/-- The same over a map of ints that the call made. -/
theorem owns_count {q : IntKind} (K : KeyLaw P k) (ht : P.underlying t = some (.map k e)) (he : P.underlying e = some (.int q)) (hz : ∀ u : World, (zeroValue e).run P u = .ok (.int q 0) u)
    (h : w.ownsMap P k (plainElem (H := H) P e) b n D) (hn : n + 1 < maxLen) {key : Value} {kl : Lit} (hkey : keyOf P k key = some kl) :
    ∃ (c : Int) (st : Nat) (w1 : World), D.atKey kl (.lit (.int q 0)) = .lit (.int q c) ∧ (Instr.lookup t (.map (some b)) key false).run P w = .ok (.int q c) w ∧ (Instr.mapEntry t (.map (some b)) key).run P w = .ok (.tuple #[.int q c, goInt st]) w1 ∧
      (Instr.lookup t (.map (some b)) key false).run P w1 = .ok (.int q c) w1 ∧
      ∀ c' : Int, (Lit.int q c').wf = true → ∃ w2, (Instr.entryStore t (.map (some b)) (goInt st) (.int q c')).run P w1 = .ok () w2 ∧ w2.ownsMap P k (plainElem (H := H) P e) b (n + 1) (D.put kl (.lit (.int q c'))) ∧ w.grownBy w2 (some b) := by
  have K' := Go.Maps.Keyed.of_law K
  obtain ⟨c, hr, hat, hw⟩ := h.lookup_int K' ht he (hz w) hkey
  obtain ⟨es, clock, hb, F, _, _⟩ := id h
  obtain ⟨v0, st, w1, m1, m2, m3, m4⟩ := entry_count K ht hz hb F hkey
  have hv : v0 = .int q c := by rw [hr] at m2; cases m2; rfl
  subst hv
  obtain ⟨w1', u1, u2, u3⟩ := h.update K' ht (by omega) hkey (plainElem_int he hw)
  have hw1 : w1' = w1 := by rw [m3] at u1; cases u1; rfl
  subst hw1
  obtain ⟨c2, hr2, hat2, _⟩ := u2.lookup_int K' ht he (hz _) hkey
  have hIs : Go.Maps.IsMap D := by
    obtain ⟨es', clock', _, _, _, e'⟩ := id h
    exact ⟨_, e'⟩
  rw [Go.Maps.atKey_put_same hIs (K'.key hkey)] at hat2
  have hc : c2 = c := by cases hat2; rfl
  subst hc
  refine ⟨c2, st, w1', hat, hr, m1, hr2, fun c' hw' => ?_⟩
  obtain ⟨w2, x1, x2⟩ := m4 (.int q c')
  obtain ⟨w2', y1, y2, y3⟩ := h.update K' ht (by omega) hkey (plainElem_int he hw')
  have hw2 : w2' = w2 := by rw [x2] at y1; cases y1; rfl
  subst hw2
  exact ⟨w2', x1, y2, y3⟩

end

end
end Go.Proofs.Sky
