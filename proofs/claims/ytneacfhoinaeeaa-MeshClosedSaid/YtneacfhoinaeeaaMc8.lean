/- A region that draws its order, with one variable made at any time beside calls that make memory, and a forced tail: walked once: the head in the text's order, the new variable's place held open; then the tail, from any world in which that variable lies anywhere. Imports nothing of the translation. -/
import Derived.Test.YtneacfhoinaeeaaMc1
import Derived.Test.YtneacfhoinaeeaaMc6


namespace Go.Proofs.Sky
section

open Go Go.RowKit

set_option linter.unusedVariables false

set_option linter.unusedSimpArgs false

/-- Operation m yields nothing yet. -/
def maskAt : Nat → List Oper → List Oper
  | _, [] => []
  | 0, o :: r => { o with op := .assign (.const undef) } :: r
  | m + 1, o :: r => o :: maskAt m r

theorem maskAt_len : ∀ (m : Nat) (l : List Oper), (maskAt m l).length = l.length
  | 0, [] => rfl
  | _ + 1, [] => rfl
  | 0, _ :: _ => rfl
  | m + 1, _ :: r => by unfold maskAt; simp [maskAt_len m r]

theorem maskAt_get : ∀ (m : Nat) (l : List Oper) (i : Nat), (maskAt m l)[i]? = (l[i]?).map (fun o => if i = m then { o with op := .assign (.const undef) } else o)
  | 0, [], i => by simp [maskAt]
  | _ + 1, [], i => by simp [maskAt]
  | 0, o :: r, 0 => by simp [maskAt]
  | 0, o :: r, i + 1 => by simp [maskAt]
  | m + 1, o :: r, 0 => by simp [maskAt]
  | m + 1, o :: r, i + 1 => by simp [maskAt, maskAt_get m r i]

/-- Each of the first n writes a slot of its own. -/
def dstB (l : List Oper) (n s : Nat) : Bool := (List.range n).all fun i =>
  match (l[i]?).bind (·.dst) with
  | some d => decide (d < s) && (List.range n).all fun j => decide (j = i) || decide ((l[j]?).bind (·.dst) ≠ some d)
  | none => false

/-- None of the first n looks at the slot that operation m writes. -/
def freeB (l : List Oper) (n m : Nat) : Bool :=
  match (l[m]?).bind (·.dst) with
  | some d => (List.range n).all fun i => match l[i]? with | some o => !((o.looksAt l.toArray).contains d) | none => true
  | none => false

abbrev Cls (wb : World) : World → Prop := fun w' => ∃ q : BW wb, w' = q.w

section

variable {P : Program} {Q : Exit → Act → World → Prop} {l : List Oper} {n m dA : Nat} {A : Act}

theorem mask_get {i : Nat} (hi : i < n) (hm : i ≠ m) : (maskAt m (l.take n)).toArray[i]? = l.toArray[i]? := by
  simp [maskAt_get, hi, hm]

theorem mask_dst (i : Nat) : ((maskAt m (l.take n)).toArray[i]?).bind (·.dst) = ((l.take n).toArray[i]?).bind (·.dst) := by
  simp only [List.getElem?_toArray, maskAt_get]
  cases (List.take n l)[i]? with
  | none => rfl
  | some o =>
    simp only [Option.map_some, Option.bind_some]
    split <;> rfl

theorem mask_after {i : Nat} {o : Oper} (hi : i < n) (ho : l.toArray[i]? = some o) : ∃ o', (maskAt m (l.take n)).toArray[i]? = some o' ∧ o'.after = o.after ∧ o'.dst = o.dst := by
  have ho' : l[i]? = some o := by simpa using ho
  refine ⟨if i = m then { o with op := .assign (.const undef) } else o, ?_, ?_, ?_⟩
  · simp [maskAt_get, hi, ho']
  · split <;> rfl
  · split <;> rfl

theorem wanted_mask {o : Oper} (tmps : Array Value) (hg : ∀ g, o.guard = some g → g.1 < n) : Region.wanted o (yielded (maskAt m (l.take n)).toArray tmps) = Region.wanted o (yielded l.toArray tmps) := by
  rw [← wanted_take (l := l) tmps hg]
  unfold Region.wanted
  cases h : o.guard with
  | none => rfl
  | some g =>
    obtain ⟨j, b⟩ := g
    dsimp only
    unfold yielded
    rw [mask_dst]

theorem qOp_mask {C : World → Prop} {i : Nat} {K : Act → Prop} {a : Act} (hB : headB l n = true) (hi : i < n) (hm : i ≠ m) (h : qOp P (maskAt m (l.take n)).toArray C i K a) : qOp P l.toArray C i K a := by
  unfold qOp at *
  rw [mask_get hi hm] at h
  cases ho : l.toArray[i]? with
  | none => rw [ho] at h; exact h
  | some o =>
    rw [ho] at h
    dsimp only at *
    rw [← wanted_mask (l := l) (n := n) (m := m) a.tmps (head_of hB hi ho).2]
    exact h

/-- What a step of the head asks, and leaves. -/
theorem head_step (hn : n < l.length) (h1 : Region.sinkB .any l.toArray n = true) (h2 : Region.chainB .any l.toArray n = true) (h4 : headB l n = true) {f : Nat} {listed : Array Bool} (inv : HeadInv .any l.toArray n listed) (hf : left listed n = f + 1) :
    Region.ready .any l.toArray listed ≠ [] ∧ ∀ i ∈ Region.ready .any l.toArray listed, i < n ∧ i ∈ Region.ready .any (maskAt m (l.take n)).toArray (listed.extract 0 n) ∧ listed.getD i false = false ∧
      HeadInv .any l.toArray n (listed.setIfInBounds i true) ∧ left (listed.setIfInBounds i true) n = f ∧ (listed.setIfInBounds i true).extract 0 n = (listed.extract 0 n).setIfInBounds i true := by
  have hsz : listed.size = l.length := by rw [inv.size]; simp
  obtain ⟨k, k1, k2, k3⟩ := left_some listed n (by omega)
  have hun : listed.getD k true = false := getD_in (by omega) k2
  have hkr : k ∈ Region.ready .any l.toArray listed := by
    have ho : l.toArray[k]? = some l[k] := by simp
    exact mem_ready.2 ⟨hun, _, ho, fun e he hb => k3 _ ((head_of h4 k1 ho).1 e he hb)⟩
  refine ⟨fun h0 => (by rw [h0] at hkr; cases hkr), fun i hi => ?_⟩
  have hin : i < n := by
    rcases Nat.lt_or_ge i n with g | g
    · exact g
    · exact absurd hi (tail_waits h1 h2 (by simpa using hn) inv _ k rfl k1 hun i g)
  obtain ⟨a1, o, a2, a3⟩ := mem_ready.1 hi
  have hui : listed.getD i false = false := getD_both a1
  refine ⟨hin, ?_, hui, inv.set hi hin, ?_, extract_set _ _ _ hin (by omega)⟩
  · obtain ⟨o', b1, b2, b3⟩ := mask_after (m := m) hin a2
    refine mem_ready.2 ⟨?_, o', b1, fun e he hb => ?_⟩
    · rw [extract_getD _ _ _ _ hin (by omega)]; exact a1
    · rw [b2] at he
      have := (head_of h4 hin a2).1 e he hb
      rw [extract_getD _ _ _ _ (by omega) (by omega)]
      exact a3 e he hb
  · have := left_set listed i (by omega) hui n hin
    omega

theorem all_listed {listed : Array Bool} (hn : n < l.length) (inv : HeadInv .any l.toArray n listed) (hf : left listed n = 0) : listed = upto n (l.length - n) := by
  have hall := left_zero listed n hf
  have hsz : listed.size = l.length := by rw [inv.size]; simp
  apply Array.ext_getElem?
  intro j
  by_cases hl : j < listed.size
  · have hj : listed[j]? = some (listed.getD j false) := by simp [Array.getD_eq_getD_getElem?, Array.getElem?_eq_getElem hl]
    rw [hj, upto_get _ _ _ (by omega)]
    by_cases hj : j < n
    · rw [hall j hj, decide_eq_true hj]
    · rw [getD_both (inv.tail j (by omega) (by simp; omega)), decide_eq_false hj]
  · have h1 : listed.size ≤ j := by omega
    have h2 : (upto n (l.length - n)).size ≤ j := by unfold upto; simp; omega
    rw [Array.getElem?_eq_none h1, Array.getElem?_eq_none h2]

/-- The variable lies: the rest of the head, beside its place. -/
theorem float_rest {wb : World} {p : Value} (hn : n < l.length) (h1 : Region.sinkB .any l.toArray n = true) (h2 : Region.chainB .any l.toArray n = true) (h3 : Region.seqB .any l.toArray (l.length - n) n (upto n (l.length - n)) = true) (h4 : headB l n = true)
    (hsel : ∀ (i : Nat) (o : Oper) cs b, i < n → i ≠ m → l.toArray[i]? = some o → o.op ≠ .select cs b)
    (hd : ∀ (i : Nat) (o : Oper), i < n → i ≠ m → l.toArray[i]? = some o → dA ∉ o.looksAt l.toArray ∧ o.dst ≠ some dA)
    (T : ∀ q : BW wb, wpList P l.toArray Q (l.drop n) (A.put (some dA) p) q.w) :
    ∀ (f : Nat) (listed : Array Bool) (a : Act) (w : World), Cls wb w → HeadInv .any l.toArray n listed → left listed n = f → listed.getD m false = true →
      wpAnyQ P .any (maskAt m (l.take n)).toArray (Cls wb) (fun a' => a' = A) f (listed.extract 0 n) a →
      wpAny P .any l.toArray Q (f + (l.length - n)) listed (a.put (some dA) p) w
  | 0, listed, a, w, hC, inv, hf, hm, h => by
    have e := all_listed hn inv hf
    have hd : (l.drop n).length = l.length - n := by simp
    obtain ⟨q, rfl⟩ := hC
    have ea : a = A := h.2
    subst ea
    have := wpAny_of_seq (md := .any) (Q' := Q) (l.drop n) n listed (a.put (some dA) p) q.w (fun j => by simp [List.getElem?_drop]) (by rw [hd, e]; exact h3) (T q)
    rw [hd] at this
    rw [Nat.zero_add]
    exact this
  | f + 1, listed, a, w, hC, inv, hf, hm, h => by
    rw [show f + 1 + (l.length - n) = (f + (l.length - n)) + 1 by omega]
    obtain ⟨hne, hstep⟩ := head_step (m := m) hn h1 h2 h4 inv hf
    refine ⟨fun h0 => absurd h0 hne, fun i hi => ?_⟩
    obtain ⟨hin, hi', hui, inv', hl', he'⟩ := hstep i hi
    have hme : i ≠ m := fun e => by rw [e, hm] at hui; cases hui
    have hq := qOp_mask h4 hin hme (h.2 i hi')
    obtain ⟨_, o, ho, _⟩ := mem_ready.1 hi
    obtain ⟨hd1, hd2⟩ := hd i o hin hme ho
    have hs := fun cs b => hsel i o cs b hin hme ho
    have hnot : ∀ d, some dA = some d → d ∉ o.looksAt l.toArray := fun d hd => by cases hd; exact hd1
    -- beside the place
    have hq' : qOp P l.toArray (Cls wb) i (fun a' => ∃ a0 : Act, a' = a0.put (some dA) p ∧ wpAnyQ P .any (maskAt m (l.take n)).toArray (Cls wb) (fun a' => a' = A) f ((listed.extract 0 n).setIfInBounds i true) a0) (a.put (some dA) p) := by
      unfold qOp at hq ⊢
      rw [ho] at hq ⊢
      dsimp only at hq ⊢
      rw [wanted_put o a (some dA) p hnot]
      split
      · rename_i hw
        rw [if_pos hw] at hq
        obtain ⟨v, hv, hK⟩ := hq
        refine ⟨v, fun w' hw' => ?_, a.put o.dst v, ?_, hK⟩
        · have := hv w' hw'
          unfold Oper.quietAt at *
          rw [execOp_put o hs a (some dA) p hnot]
          exact this
        · exact Act.put_comm a p v (fun d hd h2 => by cases hd; exact hd2 h2)
      · rename_i hw
        rw [if_neg hw] at hq
        exact ⟨a.put o.dst undef, Act.put_comm a p undef (fun d hd h2 => by cases hd; exact hd2 h2), hq⟩
    refine wpOp_of_qOp (P := P) (ops := l.toArray) (C := Cls wb) (i := i) (w := w) (Q' := Q) hC (fun a' w' hC' hK => ?_) hq'
    obtain ⟨a0, rfl, hK⟩ := hK
    refine float_rest hn h1 h2 h3 h4 hsel hd T f (listed.setIfInBounds i true) a0 w' hC' inv' hl' ?_ (by rw [he']; exact hK)
    rw [getD_set_ne false (by omega)]
    exact hm

/-- The slots that have not come up keep what they hold; those that have hold what they hold in the end. -/
theorem pin {C : World → Prop} {ops : Array Oper} {d : Nat} : ∀ (f : Nat) (listed : Array Bool) (a : Act), wpAnyQ P .any ops C (fun a' => a' = A) f listed a →
    (∀ (i : Nat) (o : Oper), ops[i]? = some o → listed.getD i false = false → o.dst ≠ some d) → a.tmps[d]? = A.tmps[d]?
  | 0, _, a, h, _ => by rw [h.2]
  | f + 1, listed, a, h, hd => by
    cases hr : Region.ready .any ops listed with
    | nil => rw [h.1 hr]
    | cons i r =>
      have hi : i ∈ Region.ready .any ops listed := by rw [hr]; exact List.mem_cons_self
      have hq := h.2 i hi
      obtain ⟨a1, o, ho, _⟩ := mem_ready.1 hi
      obtain ⟨v, _, hK⟩ := yieldsIn_of_qOp ho hq
      have hne := hd i o ho (getD_both a1)
      have := pin f _ _ hK (fun j oj hj hu => hd j oj hj (by
        by_cases e : i = j
        · subst e; exact getD_both a1
        · rw [getD_set_ne false e] at hu; exact hu))
      rw [← this]
      cases hdst : o.dst with
      | none => rfl
      | some d' =>
        have : d' ≠ d := fun e => hne (by rw [hdst, e])
        simp [Act.put, Array.getElem?_setIfInBounds_ne this]

theorem mask_inv {j : Nat} {oj : Oper} (h : (maskAt m (l.take n)).toArray[j]? = some oj) : j < n ∧ ∃ o, l.toArray[j]? = some o ∧ o.dst = oj.dst := by
  have h' : (maskAt m (l.take n))[j]? = some oj := by simpa using h
  rw [maskAt_get, List.getElem?_take] at h'
  by_cases hj : j < n
  · refine ⟨hj, ?_⟩
    rw [if_pos hj] at h'
    cases ho : l[j]? with
    | none => rw [ho] at h'; cases h'
    | some o =>
      rw [ho] at h'
      have h' := Option.some.inj h'
      refine ⟨o, by simpa using ho, ?_⟩
      rw [← h']
      split <;> rfl
  · rw [if_neg hj] at h'; cases h'

def floatB (l : List Oper) (n m dA s : Nat) : Bool :=
  decide (m < n) && (dstB l n s && (freeB l n m && (match l[m]? with | some o => decide (o.dst = some dA) && o.guard.isNone | none => false)))

end

/- As above, with two variables, each made at any time. Imports nothing of the translation. -/

/-- The head, with operations m1 and m2 yielding nothing yet. -/
def mask2 (m1 m2 : Nat) (l : List Oper) : List Oper := maskAt m1 (maskAt m2 l)

theorem mask2_len (m1 m2 : Nat) (l : List Oper) : (mask2 m1 m2 l).length = l.length := by
  unfold mask2; rw [maskAt_len, maskAt_len]

theorem mask2_get (m1 m2 : Nat) (l : List Oper) (i : Nat) : (mask2 m1 m2 l)[i]? = (l[i]?).map (fun o => if i = m1 ∨ i = m2 then { o with op := .assign (.const undef) } else o) := by
  unfold mask2
  rw [maskAt_get, maskAt_get, Option.map_map]
  congr 1
  funext o
  by_cases h2 : i = m2
  · by_cases h1 : i = m1
    · simp only [Function.comp, if_pos h1, if_pos (Or.inl h1 : i = m1 ∨ i = m2), if_pos h2]
    · simp only [Function.comp, if_neg h1, if_pos (Or.inr h2 : i = m1 ∨ i = m2), if_pos h2]
  · by_cases h1 : i = m1
    · simp only [Function.comp, if_pos h1, if_pos (Or.inl h1 : i = m1 ∨ i = m2), if_neg h2]
    · simp only [Function.comp, if_neg h1, if_neg (fun e : i = m1 ∨ i = m2 => e.elim h1 h2), if_neg h2]

/-- A slot holds a variable's place, once it is made. -/
def putO (d : Nat) (o : Option Nat) (a : Act) : Act := match o with
  | none => a
  | some g => a.put (some d) (.pointer (some ⟨g, 0, none⟩))

theorem putO_comm {d : Nat} {o : Option Nat} {dst : Option Nat} (a : Act) (v : Value) (h : dst ≠ some d) : (putO d o a).put dst v = putO d o (a.put dst v) := by
  cases o with
  | none => rfl
  | some g => exact Act.put_comm a _ v (fun x hx h2 => by cases hx; exact h h2)

section

variable {P : Program} {Q : Exit → Act → World → Prop} {l : List Oper} {n m1 m2 d1 d2 : Nat} {A : Act}

theorem mask2_same {i : Nat} (hi : i < n) (h1 : i ≠ m1) (h2 : i ≠ m2) : (mask2 m1 m2 (l.take n)).toArray[i]? = l.toArray[i]? := by
  simp [mask2_get, hi, h1, h2]

theorem mask2_dst (i : Nat) : ((mask2 m1 m2 (l.take n)).toArray[i]?).bind (·.dst) = ((l.take n).toArray[i]?).bind (·.dst) := by
  simp only [List.getElem?_toArray, mask2_get]
  cases (List.take n l)[i]? with
  | none => rfl
  | some o =>
    simp only [Option.map_some, Option.bind_some]
    split <;> rfl

theorem mask2_after {i : Nat} {o : Oper} (hi : i < n) (ho : l.toArray[i]? = some o) : ∃ o', (mask2 m1 m2 (l.take n)).toArray[i]? = some o' ∧ o'.after = o.after ∧ o'.dst = o.dst := by
  have ho' : l[i]? = some o := by simpa using ho
  refine ⟨if i = m1 ∨ i = m2 then { o with op := .assign (.const undef) } else o, ?_, ?_, ?_⟩
  · simp [mask2_get, hi, ho']
  · split <;> rfl
  · split <;> rfl

theorem wanted_mask2 {o : Oper} (tmps : Array Value) (hg : ∀ g, o.guard = some g → g.1 < n) : Region.wanted o (yielded (mask2 m1 m2 (l.take n)).toArray tmps) = Region.wanted o (yielded l.toArray tmps) := by
  rw [← wanted_take (l := l) tmps hg]
  unfold Region.wanted
  cases h : o.guard with
  | none => rfl
  | some g =>
    obtain ⟨j, b⟩ := g
    dsimp only
    unfold yielded
    rw [mask2_dst]

theorem qOp_mask2 {C : World → Prop} {i : Nat} {K : Act → Prop} {a : Act} (hB : headB l n = true) (hi : i < n) (h1 : i ≠ m1) (h2 : i ≠ m2) (h : qOp P (mask2 m1 m2 (l.take n)).toArray C i K a) : qOp P l.toArray C i K a := by
  unfold qOp at *
  rw [mask2_same hi h1 h2] at h
  cases ho : l.toArray[i]? with
  | none => rw [ho] at h; exact h
  | some o =>
    rw [ho] at h
    dsimp only at *
    rw [← wanted_mask2 (l := l) (n := n) (m1 := m1) (m2 := m2) a.tmps (head_of hB hi ho).2]
    exact h

theorem head_step2 (hn : n < l.length) (h1 : Region.sinkB .any l.toArray n = true) (h2 : Region.chainB .any l.toArray n = true) (h4 : headB l n = true) {f : Nat} {listed : Array Bool} (inv : HeadInv .any l.toArray n listed) (hf : left listed n = f + 1) :
    Region.ready .any l.toArray listed ≠ [] ∧ ∀ i ∈ Region.ready .any l.toArray listed, i < n ∧ i ∈ Region.ready .any (mask2 m1 m2 (l.take n)).toArray (listed.extract 0 n) ∧ listed.getD i false = false ∧
      HeadInv .any l.toArray n (listed.setIfInBounds i true) ∧ left (listed.setIfInBounds i true) n = f ∧ (listed.setIfInBounds i true).extract 0 n = (listed.extract 0 n).setIfInBounds i true := by
  have hsz : listed.size = l.length := by rw [inv.size]; simp
  obtain ⟨g0, g1⟩ := head_step (m := n) hn h1 h2 h4 inv hf
  refine ⟨g0, fun i hi => ?_⟩
  obtain ⟨hin, _, k2, k3, k4, k5⟩ := g1 i hi
  refine ⟨hin, ?_, k2, k3, k4, k5⟩
  obtain ⟨a1, o, a2, a3⟩ := mem_ready.1 hi
  obtain ⟨o', b1, b2, b3⟩ := mask2_after (m1 := m1) (m2 := m2) hin a2
  refine mem_ready.2 ⟨?_, o', b1, fun e he hb => ?_⟩
  · rw [extract_getD _ _ _ _ hin (by omega)]; exact a1
  · rw [b2] at he
    have := (head_of h4 hin a2).1 e he hb
    rw [extract_getD _ _ _ _ (by omega) (by omega)]
    exact a3 e he hb

theorem mask2_inv {j : Nat} {oj : Oper} (h : (mask2 m1 m2 (l.take n)).toArray[j]? = some oj) : j < n ∧ ∃ o, l.toArray[j]? = some o ∧ o.dst = oj.dst := by
  have h' : (mask2 m1 m2 (l.take n))[j]? = some oj := by simpa using h
  rw [mask2_get, List.getElem?_take] at h'
  by_cases hj : j < n
  · refine ⟨hj, ?_⟩
    rw [if_pos hj] at h'
    cases ho : l[j]? with
    | none => rw [ho] at h'; cases h'
    | some o =>
      rw [ho] at h'
      have h' := Option.some.inj h'
      refine ⟨o, by simpa using ho, ?_⟩
      rw [← h']
      split <;> rfl
  · rw [if_neg hj] at h'; cases h'

theorem wanted_putO {o : Oper} {ops : List Oper} (a : Act) (d : Nat) (x : Option Nat) (h : d ∉ o.looksAt ops.toArray) : Region.wanted o (yielded ops.toArray (putO d x a).tmps) = Region.wanted o (yielded ops.toArray a.tmps) := by
  cases x with
  | none => rfl
  | some g => exact wanted_put o a (some d) _ (fun y hy => by cases hy; exact h)

theorem exec_putO {o : Oper} {ops : List Oper} (hs : ∀ cs b, o.op ≠ .select cs b) (a : Act) (d : Nat) (x : Option Nat) (h : d ∉ o.looksAt ops.toArray) : execOp (putO d x a).eval o = execOp a.eval o := by
  cases x with
  | none => rfl
  | some g => exact execOp_put o hs a (some d) _ (ops := ops.toArray) (fun y hy => by cases hy; exact h)

/-- What is known of a variable that may lie. -/
def Lies (wb W : World) (t : TypeId) (zs : Array Value) : Option Nat → Prop
  | none => True
  | some g => wb.heap.size ≤ g ∧ Bk W g t zs

theorem Lies.below {wb W W' : World} {t : TypeId} {zs : Array Value} {o : Option Nat} (h : Lies wb W t zs o) (hb : Below W.heap.size W W') : Lies wb W' t zs o := by
  cases o with
  | none => trivial
  | some g => exact ⟨h.1, h.2.below hb⟩

theorem Lies.ne {wb W : World} {t : TypeId} {zs : Array Value} {o : Option Nat} (h : Lies wb W t zs o) {g : Nat} (hg : W.heap.size ≤ g) : o ≠ some g := by
  intro e; subst e
  have := h.2.lt
  omega

/-- The same value in every class. -/
theorem same_pin {C C' : World → Prop} {s i f : Nat} {o oM : Oper} {listed : Array Bool} {a : Act} {v v' : Value} (hin : i < n) (hls : n ≤ listed.size) (ho : l.toArray[i]? = some o) (hdM : oM.dst = o.dst) (hsz : a.tmps.size = s)
    (hdst : ∀ (i : Nat) (o : Oper), i < n → l.toArray[i]? = some o → ∃ d, o.dst = some d ∧ d < s ∧ ∀ (j : Nat) (o' : Oper), j < n → j ≠ i → l.toArray[j]? = some o' → o'.dst ≠ some d)
    (h1 : wpAnyQ P .any (mask2 m1 m2 (l.take n)).toArray C (fun a' => a' = A) f ((listed.extract 0 n).setIfInBounds i true) (a.put oM.dst v))
    (h2 : wpAnyQ P .any (mask2 m1 m2 (l.take n)).toArray C' (fun a' => a' = A) f ((listed.extract 0 n).setIfInBounds i true) (a.put oM.dst v')) : v = v' := by
  obtain ⟨d, hd0, hds, hdo⟩ := hdst i o hin ho
  have all : ∀ {C : World → Prop} {v : Value}, wpAnyQ P .any (mask2 m1 m2 (l.take n)).toArray C (fun a' => a' = A) f ((listed.extract 0 n).setIfInBounds i true) (a.put oM.dst v) → A.tmps[d]? = some v := fun {C v} h => by
    have := pin (d := d) f _ _ h (fun j oj hj hu => by
      obtain ⟨hjn, o', ho', hd'⟩ := mask2_inv hj
      rw [← hd']
      by_cases e : j = i
      · subst e
        exfalso
        have : j < (listed.extract 0 n).size := by simp; omega
        simp [this] at hu
        omega
      · exact hdo j o' hjn e ho')
    rw [← this, hdM, hd0]
    simp [Act.put, hsz, hds]
  have e1 := all h1
  have e2 := all h2
  rw [e1] at e2
  cases e2
  rfl

theorem float2 {wb : World} {oA oB : Oper} {z1 z2 : Array Value} {t1 t2 : TypeId} {s : Nat} (hn : n < l.length) (h1 : Region.sinkB .any l.toArray n = true) (h2 : Region.chainB .any l.toArray n = true) (h3 : Region.seqB .any l.toArray (l.length - n) n (upto n (l.length - n)) = true) (h4 : headB l n = true)
    (hsel : ∀ (i : Nat) (o : Oper) cs b, i < n → i ≠ m1 → i ≠ m2 → l.toArray[i]? = some o → o.op ≠ .select cs b)
    (hd : ∀ (i : Nat) (o : Oper), i < n → i ≠ m1 → i ≠ m2 → l.toArray[i]? = some o → (d1 ∉ o.looksAt l.toArray ∧ o.dst ≠ some d1) ∧ (d2 ∉ o.looksAt l.toArray ∧ o.dst ≠ some d2))
    (hm12 : m1 ≠ m2) (hd12 : d1 ≠ d2)
    (hm1 : m1 < n) (hoA : l.toArray[m1]? = some oA) (hdA : oA.dst = some d1) (hgA : oA.guard = none) (hA : ∀ ev (w : World), (execOp ev oA).run P w = .ok (.value (.pointer (some ⟨w.heap.size, 0, none⟩))) (w.alloc (.cells z1 t1)))
    (hm2 : m2 < n) (hoB : l.toArray[m2]? = some oB) (hdB : oB.dst = some d2) (hgB : oB.guard = none) (hA2 : ∀ ev (w : World), (execOp ev oB).run P w = .ok (.value (.pointer (some ⟨w.heap.size, 0, none⟩))) (w.alloc (.cells z2 t2)))
    (hdst : ∀ (i : Nat) (o : Oper), i < n → l.toArray[i]? = some o → ∃ d, o.dst = some d ∧ d < s ∧ ∀ (j : Nat) (o' : Oper), j < n → j ≠ i → l.toArray[j]? = some o' → o'.dst ≠ some d)
    (T : ∀ (W : World) (g1 g2 : Nat), Below wb.heap.size wb W → wb.heap.size ≤ g1 → wb.heap.size ≤ g2 → g1 ≠ g2 → Bk W g1 t1 z1 → Bk W g2 t2 z2 → wpList P l.toArray Q (l.drop n) (putO d2 (some g2) (putO d1 (some g1) A)) W) :
    ∀ (f : Nat) (listed : Array Bool) (a : Act) (wk w : World) (o1 o2 : Option Nat), Below wb.heap.size wb wk → Cls wk w → HeadInv .any l.toArray n listed → left listed n = f →
      (listed.getD m1 false = o1.isSome) → (listed.getD m2 false = o2.isSome) → Lies wb wk t1 z1 o1 → Lies wb wk t2 z2 o2 → (∀ g1 g2, o1 = some g1 → o2 = some g2 → g1 ≠ g2) → a.tmps.size = s →
      (∀ wb', Below wb.heap.size wb wb' → wpAnyQ P .any (mask2 m1 m2 (l.take n)).toArray (Cls wb') (fun a' => a' = A) f (listed.extract 0 n) a) →
      wpAny P .any l.toArray Q (f + (l.length - n)) listed (putO d2 o2 (putO d1 o1 a)) w
  | 0, listed, a, wk, w, o1, o2, hbk, hC, inv, hf, hl1, hl2, hL1, hL2, hne, hsz, h => by
    have e := all_listed hn inv hf
    have hdl : (l.drop n).length = l.length - n := by simp
    obtain ⟨q, rfl⟩ := hC
    have ea : a = A := (h _ (Below.refl _ _)).2
    subst ea
    have e1 := left_zero listed n hf m1 hm1
    have e2 := left_zero listed n hf m2 hm2
    rw [hl1] at e1
    rw [hl2] at e2
    obtain ⟨g1, rfl⟩ := Option.isSome_iff_exists.1 e1
    obtain ⟨g2, rfl⟩ := Option.isSome_iff_exists.1 e2
    have := wpAny_of_seq (md := .any) (Q' := Q) (l.drop n) n listed (putO d2 (some g2) (putO d1 (some g1) a)) q.w (fun j => by simp [List.getElem?_drop]) (by rw [hdl, e]; exact h3)
      (T q.w g1 g2 (hbk.trans (q.h.mono hbk.size)) hL1.1 hL2.1 (hne _ _ rfl rfl) (hL1.2.below q.h) (hL2.2.below q.h))
    rw [hdl] at this
    rw [Nat.zero_add]
    exact this
  | f + 1, listed, a, wk, w, o1, o2, hbk, hC, inv, hf, hl1, hl2, hL1, hL2, hne, hsz, h => by
    rw [show f + 1 + (l.length - n) = (f + (l.length - n)) + 1 by omega]
    obtain ⟨hne0, hstep⟩ := head_step2 (m1 := m1) (m2 := m2) hn h1 h2 h4 inv hf
    refine ⟨fun h0 => absurd h0 hne0, fun i hi => ?_⟩
    obtain ⟨hin, hi', hui, inv', hl', he'⟩ := hstep i hi
    have hls : n ≤ listed.size := by rw [inv.size]; simp; omega
    by_cases he1 : i = m1
    · have hoi : l.toArray[i]? = some oA := by rw [he1]; exact hoA
      have hlk : listed.getD i false = o1.isSome := by rw [he1]; exact hl1
      obtain ⟨q0, rfl⟩ := hC
      obtain rfl : o1 = none := by
        rw [hui] at hlk
        cases o1 with
        | none => rfl
        | some g => cases hlk
      unfold wpOp
      rw [hoi]
      dsimp only
      rw [if_pos (by unfold Region.wanted; rw [hgA])]
      refine .inl ?_
      unfold Oper.wp
      rw [hA]
      simp only [Oper.upon]
      rw [hdA]
      have hb0 : Below wb.heap.size wb q0.w := hbk.trans (q0.h.mono hbk.size)
      have hb : Below wb.heap.size wb (q0.w.alloc (.cells z1 t1)) := hb0.alloc hb0.size _
      have hq := (h _ hb).2 i hi'
      obtain ⟨oM, hoM, _, hdM⟩ := mask2_after (m1 := m1) (m2 := m2) hin hoi
      obtain ⟨v, _, hK⟩ := yieldsIn_of_qOp hoM hq
      have := float2 hn h1 h2 h3 h4 hsel hd hm12 hd12 hm1 hoA hdA hgA hA hm2 hoB hdB hgB hA2 hdst T f (listed.setIfInBounds i true) (a.put oM.dst v) (q0.w.alloc (.cells z1 t1)) (q0.w.alloc (.cells z1 t1)) (some q0.w.heap.size) o2 hb ⟨BW.start _, rfl⟩ inv' hl'
        (by rw [← he1]; simp [show i < listed.size by omega])
        (by rw [getD_set_ne false (by omega)]; exact hl2)
        ⟨hb0.size, Bk.new _ _ _⟩ ((hL2.below q0.h).below ((Below.refl _ _).alloc (Nat.le_refl _) _))
        (fun g1 g2 e1 e2 => by
          cases e1
          have := (hL2.below q0.h).ne (g := q0.w.heap.size) (Nat.le_refl _)
          intro e3; subst e3; exact this e2)
        (by rw [hdM, hdA]; simp [Act.put, hsz])
        (fun wb' hb' => by
          have hq' := (h wb' hb').2 i hi'
          obtain ⟨v', hv', hK'⟩ := yieldsIn_of_qOp hoM hq'
          have e := same_pin hin hls hoi hdM hsz hdst hK hK'
          subst e
          rw [he']
          exact hK')
      rw [hdM, hdA] at this
      have e : putO d2 o2 (putO d1 (some q0.w.heap.size) (a.put (some d1) v)) = (putO d2 o2 (putO d1 none a)).put (some d1) (.pointer (some ⟨q0.w.heap.size, 0, none⟩)) := by
        rw [putO_comm _ _ (by intro e; cases e; exact hd12 rfl)]
        congr 1
        simp [putO, Act.put]
      rw [e] at this
      exact this
    · by_cases he2 : i = m2
      · have hoi : l.toArray[i]? = some oB := by rw [he2]; exact hoB
        have hlk : listed.getD i false = o2.isSome := by rw [he2]; exact hl2
        obtain ⟨q0, rfl⟩ := hC
        obtain rfl : o2 = none := by
          rw [hui] at hlk
          cases o2 with
          | none => rfl
          | some g => cases hlk
        unfold wpOp
        rw [hoi]
        dsimp only
        rw [if_pos (by unfold Region.wanted; rw [hgB])]
        refine .inl ?_
        unfold Oper.wp
        rw [hA2]
        simp only [Oper.upon]
        rw [hdB]
        have hb0 : Below wb.heap.size wb q0.w := hbk.trans (q0.h.mono hbk.size)
        have hb : Below wb.heap.size wb (q0.w.alloc (.cells z2 t2)) := hb0.alloc hb0.size _
        have hq := (h _ hb).2 i hi'
        obtain ⟨oM, hoM, _, hdM⟩ := mask2_after (m1 := m1) (m2 := m2) hin hoi
        obtain ⟨v, _, hK⟩ := yieldsIn_of_qOp hoM hq
        have := float2 hn h1 h2 h3 h4 hsel hd hm12 hd12 hm1 hoA hdA hgA hA hm2 hoB hdB hgB hA2 hdst T f (listed.setIfInBounds i true) (a.put oM.dst v) (q0.w.alloc (.cells z2 t2)) (q0.w.alloc (.cells z2 t2)) o1 (some q0.w.heap.size) hb ⟨BW.start _, rfl⟩ inv' hl'
          (by rw [getD_set_ne false (by omega)]; exact hl1)
          (by rw [← he2]; simp [show i < listed.size by omega])
          ((hL1.below q0.h).below ((Below.refl _ _).alloc (Nat.le_refl _) _)) ⟨hb0.size, Bk.new _ _ _⟩
          (fun g1 g2 e1 e2 => by
            cases e2
            have := (hL1.below q0.h).ne (g := q0.w.heap.size) (Nat.le_refl _)
            intro e3; subst e3; exact this e1)
          (by rw [hdM, hdB]; simp [Act.put, hsz])
          (fun wb' hb' => by
            have hq' := (h wb' hb').2 i hi'
            obtain ⟨v', hv', hK'⟩ := yieldsIn_of_qOp hoM hq'
            have e := same_pin hin hls hoi hdM hsz hdst hK hK'
            subst e
            rw [he']
            exact hK')
        rw [hdM, hdB] at this
        have e : putO d2 (some q0.w.heap.size) (putO d1 o1 (a.put (some d2) v)) = (putO d2 none (putO d1 o1 a)).put (some d2) (.pointer (some ⟨q0.w.heap.size, 0, none⟩)) := by
          rw [← putO_comm _ _ (by intro e; cases e; exact hd12 rfl)]
          simp [putO, Act.put]
        rw [e] at this
        exact this
      · obtain ⟨_, o, ho, _⟩ := mem_ready.1 hi
        obtain ⟨⟨x1, x2⟩, y1, y2⟩ := hd i o hin he1 he2 ho
        have hs := fun cs b => hsel i o cs b hin he1 he2 ho
        obtain ⟨d, hod, hds, hdo⟩ := hdst i o hin ho
        have hq : ∀ wb', Below wb.heap.size wb wb' → qOp P l.toArray (Cls wb') i (wpAnyQ P .any (mask2 m1 m2 (l.take n)).toArray (Cls wb') (fun a' => a' = A) f ((listed.extract 0 n).setIfInBounds i true)) a :=
          fun wb' hb => qOp_mask2 h4 hin he1 he2 ((h wb' hb).2 i hi')
        have hq' : qOp P l.toArray (Cls wk) i (fun a' => ∃ a0 : Act, a' = putO d2 o2 (putO d1 o1 a0) ∧ a0.tmps.size = s ∧ ∀ wb', Below wb.heap.size wb wb' → wpAnyQ P .any (mask2 m1 m2 (l.take n)).toArray (Cls wb') (fun a' => a' = A) f ((listed.extract 0 n).setIfInBounds i true) a0) (putO d2 o2 (putO d1 o1 a)) := by
          have hsz' : ∀ v, (a.put o.dst v).tmps.size = s := fun v => by rw [hod]; simp [Act.put, hsz]
          have hcomm : ∀ v, (putO d2 o2 (putO d1 o1 a)).put o.dst v = putO d2 o2 (putO d1 o1 (a.put o.dst v)) := fun v => by
            rw [putO_comm _ _ y2, putO_comm _ _ x2]
          have h0 := hq wk hbk
          unfold qOp at h0 hq ⊢
          rw [ho] at h0 ⊢
          dsimp only at h0 ⊢
          rw [wanted_putO _ _ _ y1, wanted_putO _ _ _ x1]
          split
          · rename_i hw
            rw [if_pos hw] at h0
            obtain ⟨v, hv, hK⟩ := h0
            refine ⟨v, fun w' hw' => ?_, a.put o.dst v, hcomm v, hsz' v, fun wb' hb => ?_⟩
            · have := hv w' hw'
              unfold Oper.quietAt at *
              rw [exec_putO hs _ _ _ y1, exec_putO hs _ _ _ x1]
              exact this
            · have h5 := hq wb' hb
              rw [ho] at h5
              dsimp only at h5
              rw [if_pos hw] at h5
              obtain ⟨v', hv', hK'⟩ := h5
              have e := same_pin hin hls ho rfl hsz hdst hK hK'
              subst e
              exact hK'
          · rename_i hw
            refine ⟨a.put o.dst undef, hcomm undef, hsz' _, fun wb' hb => ?_⟩
            have h5 := hq wb' hb
            rw [ho] at h5
            dsimp only at h5
            rw [if_neg hw] at h5
            exact h5
        refine wpOp_of_qOp (P := P) (ops := l.toArray) (C := Cls wk) (i := i) (w := w) (Q' := Q) hC (fun a' w' hC' hK => ?_) hq'
        obtain ⟨a0, rfl, hsz0, hK⟩ := hK
        refine float2 hn h1 h2 h3 h4 hsel hd hm12 hd12 hm1 hoA hdA hgA hA hm2 hoB hdB hgB hA2 hdst T f (listed.setIfInBounds i true) a0 wk w' o1 o2 hbk hC' inv' hl' ?_ ?_ hL1 hL2 hne hsz0 (fun wb' hb => by rw [he']; exact hK wb' hb)
        · rw [getD_set_ne false he1]; exact hl1
        · rw [getD_set_ne false he2]; exact hl2

/-- **A drawn region with two variables, each made at any time.** n: the operations ahead of the tail; m1, m2: those that make the variables; d1, d2: their slots; s: how many slots there are. -/
theorem any_region_float2 {a : Act} {wb : World} {p : BW wb} {z1 z2 : Array Value} {t1 t2 : TypeId} {oA oB : Oper} (n m1 m2 d1 d2 s : Nat) (hB : Region.lexB .any (mask2 m1 m2 (l.take n)).toArray = true) (hT : tailB l n = true) (hF : floatB l n m1 d1 s = true) (hF2 : floatB l n m2 d2 s = true) (hm12 : m1 ≠ m2)
    (hs : a.tmps.size = s) (hoA : l[m1]? = some oA) (hoB : l[m2]? = some oB) (hA : ∀ ev (w : World), (execOp ev oA).run P w = .ok (.value (.pointer (some ⟨w.heap.size, 0, none⟩))) (w.alloc (.cells z1 t1)))
    (hA2 : ∀ ev (w : World), (execOp ev oB).run P w = .ok (.value (.pointer (some ⟨w.heap.size, 0, none⟩))) (w.alloc (.cells z2 t2)))
    (h : ∃ A : Act, (∀ wb', Below wb.heap.size wb wb' → wpQuiet P (mask2 m1 m2 (l.take n)).toArray (fun w' => ∃ q : BW wb', w' = q.w) (fun a' => a' = A) (mask2 m1 m2 (l.take n)) a) ∧
      ∀ (W : World) (g1 g2 : Nat), Below wb.heap.size wb W → wb.heap.size ≤ g1 → wb.heap.size ≤ g2 → g1 ≠ g2 → Bk W g1 t1 z1 → Bk W g2 t2 z2 →
        wpList P l.toArray Q (l.drop n) ((A.put (some d1) (.pointer (some ⟨g1, 0, none⟩))).put (some d2) (.pointer (some ⟨g2, 0, none⟩))) W) :
    wpAny P .any l.toArray Q l.toArray.size (Array.replicate l.toArray.size false) a { p.w with drawn := p.w.drawn + 1 } := by
  obtain ⟨A, hW, T⟩ := h
  simp only [tailB, Bool.and_eq_true, decide_eq_true_eq] at hT
  obtain ⟨hn, h1, h2, h3, h4⟩ := hT
  simp only [floatB, Bool.and_eq_true, decide_eq_true_eq, hoA] at hF
  obtain ⟨hmn, f1, f2, f3, f4⟩ := hF
  simp only [floatB, Bool.and_eq_true, decide_eq_true_eq, hoB] at hF2
  obtain ⟨hmn2, _, k2, k3, k4⟩ := hF2
  simp only [Region.lexB, Bool.and_eq_true] at hB
  have hoA' : l.toArray[m1]? = some oA := by simpa using hoA
  have hoB' : l.toArray[m2]? = some oB := by simpa using hoB
  have hgA : oA.guard = none := by simpa using f4
  have hgB : oB.guard = none := by simpa using k4
  have hlen : (mask2 m1 m2 (l.take n)).length = n := by rw [mask2_len]; simp; omega
  have hdst : ∀ (i : Nat) (o : Oper), i < n → l.toArray[i]? = some o → ∃ d, o.dst = some d ∧ d < s ∧ ∀ (j : Nat) (o' : Oper), j < n → j ≠ i → l.toArray[j]? = some o' → o'.dst ≠ some d := fun i o hi ho => by
    have h := List.all_eq_true.1 f1 i (List.mem_range.2 hi)
    have ho' : l[i]? = some o := by simpa using ho
    rw [ho'] at h
    simp only [Option.bind_some] at h
    cases hd : o.dst with
    | none => rw [hd] at h; cases h
    | some d =>
      rw [hd] at h
      simp only [Bool.and_eq_true, decide_eq_true_eq] at h
      refine ⟨d, rfl, h.1, fun j o' hj hji hj' => ?_⟩
      have h5 := List.all_eq_true.1 h.2 j (List.mem_range.2 hj)
      have hj2 : l[j]? = some o' := by simpa using hj'
      rw [hj2] at h5
      simp only [Option.bind_some, Bool.or_eq_true, decide_eq_true_eq] at h5
      exact h5.resolve_left hji
  have hd12 : d1 ≠ d2 := fun e => by
    obtain ⟨d, e1, _, e2⟩ := hdst m1 oA hmn hoA'
    rw [f3] at e1
    cases e1
    exact e2 m2 oB hmn2 (fun x => hm12 x.symm) hoB' (by rw [k3, e])
  have hd : ∀ (i : Nat) (o : Oper), i < n → i ≠ m1 → i ≠ m2 → l.toArray[i]? = some o → (d1 ∉ o.looksAt l.toArray ∧ o.dst ≠ some d1) ∧ (d2 ∉ o.looksAt l.toArray ∧ o.dst ≠ some d2) := fun i o hi him1 him2 ho => by
    have ho' : l[i]? = some o := by simpa using ho
    refine ⟨⟨?_, ?_⟩, ?_, ?_⟩
    · unfold freeB at f2
      rw [hoA] at f2
      simp only [Option.bind_some, f3] at f2
      have h := List.all_eq_true.1 f2 i (List.mem_range.2 hi)
      rw [ho'] at h
      simpa using h
    · obtain ⟨d, e1, _, e2⟩ := hdst m1 oA hmn hoA'
      rw [f3] at e1
      cases e1
      exact e2 i o hi him1 ho
    · unfold freeB at k2
      rw [hoB] at k2
      simp only [Option.bind_some, k3] at k2
      have h := List.all_eq_true.1 k2 i (List.mem_range.2 hi)
      rw [ho'] at h
      simpa using h
    · obtain ⟨d, e1, _, e2⟩ := hdst m2 oB hmn2 hoB'
      rw [k3] at e1
      cases e1
      exact e2 i o hi him2 ho
  have hsel : ∀ (i : Nat) (o : Oper) cs b, i < n → i ≠ m1 → i ≠ m2 → l.toArray[i]? = some o → o.op ≠ .select cs b := fun i o cs b hi him1 him2 ho =>
    Region.noSelect_spec hB.1 i o cs b (by rw [mask2_same hi him1 him2]; exact ho)
  have inv0 : HeadInv .any l.toArray n (Array.replicate l.toArray.size false) :=
    ⟨by simp, fun j oj _ hl => (by rw [getD_replicate_false] at hl; cases hl), fun t _ ht => getD_in (by simpa using ht) (getD_replicate_false _ _)⟩
  have e : (Array.replicate l.toArray.size false).extract 0 n = Array.replicate (mask2 m1 m2 (l.take n)).toArray.size false := by
    have hz : (mask2 m1 m2 (l.take n)).toArray.size = n := by simpa using hlen
    rw [hz]
    apply Array.ext
    · simp; omega
    · intro j j1 j2; simp
  have H : ∀ wb', Below wb.heap.size wb wb' → wpAnyQ P .any (mask2 m1 m2 (l.take n)).toArray (Cls wb') (fun a' => a' = A) n ((Array.replicate l.toArray.size false).extract 0 n) a := fun wb' hb => by
    have := wpAnyQ_lex (C := Cls wb') (md := .any) hB.1 (mask2 m1 m2 (l.take n)) 0 (Array.replicate (mask2 m1 m2 (l.take n)).toArray.size false) a (by simp) (by simpa using hB.2) (hW wb' hb)
    rw [hlen] at this
    rw [e]
    exact this
  have := float2 (P := P) (Q := Q) (A := A) hn h1 h2 h3 h4 hsel hd hm12 hd12 hmn hoA' f3 hgA hA hmn2 hoB' k3 hgB hA2 hdst T n (Array.replicate l.toArray.size false) a wb { p.w with drawn := p.w.drawn + 1 } none none (Below.refl _ _)
    ⟨p.next { p.w with drawn := p.w.drawn + 1 } ⟨rfl, rfl, rfl, Nat.le_refl _, fun _ _ => rfl⟩, rfl⟩ inv0 (left_start _ _) (getD_replicate_false _ _) (getD_replicate_false _ _) trivial trivial (fun _ _ h => by cases h) hs H
  rw [show n + (l.length - n) = l.toArray.size by simp; omega] at this
  exact this

theorem wp_region_float2 {id : Nat} {a : Act} {wb : World} {p : BW wb} {z1 z2 : Array Value} {t1 t2 : TypeId} {oA oB : Oper} (n m1 m2 d1 d2 s : Nat) (hm : P.follows .mixedOrders = true) (hB : Region.lexB .any (mask2 m1 m2 (l.take n)).toArray = true) (hT : tailB l n = true) (hF : floatB l n m1 d1 s = true) (hF2 : floatB l n m2 d2 s = true) (hm12 : m1 ≠ m2)
    (hs : a.tmps.size = s) (hoA : l[m1]? = some oA) (hoB : l[m2]? = some oB) (hA : ∀ ev (w : World), (execOp ev oA).run P w = .ok (.value (.pointer (some ⟨w.heap.size, 0, none⟩))) (w.alloc (.cells z1 t1)))
    (hA2 : ∀ ev (w : World), (execOp ev oB).run P w = .ok (.value (.pointer (some ⟨w.heap.size, 0, none⟩))) (w.alloc (.cells z2 t2)))
    (h : ∃ A : Act, (∀ wb', Below wb.heap.size wb wb' → wpQuiet P (mask2 m1 m2 (l.take n)).toArray (fun w' => ∃ q : BW wb', w' = q.w) (fun a' => a' = A) (mask2 m1 m2 (l.take n)) a) ∧
      ∀ (W : World) (g1 g2 : Nat), Below wb.heap.size wb W → wb.heap.size ≤ g1 → wb.heap.size ≤ g2 → g1 ≠ g2 → Bk W g1 t1 z1 → Bk W g2 t2 z2 →
        wpList P l.toArray Q (l.drop n) ((A.put (some d1) (.pointer (some ⟨g1, 0, none⟩))).put (some d2) (.pointer (some ⟨g2, 0, none⟩))) W) :
    (Code.region id l.toArray true).wp P Q a p.w :=
  wp_region_any hm (any_region_float2 n m1 m2 d1 d2 s hB hT hF hF2 hm12 hs hoA hoB hA hA2 h)

end

/- As above, for any number of variables, each made at any time. Imports nothing of the translation. -/

/-- A variable: the operation that makes it, its slot, its type, its cells. -/
structure FVar where
  m : Nat
  d : Nat
  t : TypeId
  z : Array Value

def maskL (ms : List Nat) (l : List Oper) : List Oper := ms.foldr maskAt l

theorem maskL_len : ∀ (ms : List Nat) (l : List Oper), (maskL ms l).length = l.length
  | [], l => rfl
  | m :: r, l => by show (maskAt m (maskL r l)).length = _; rw [maskAt_len, maskL_len r l]

theorem maskL_get : ∀ (ms : List Nat) (l : List Oper) (i : Nat), (maskL ms l)[i]? = (l[i]?).map (fun o => if i ∈ ms then { o with op := .assign (.const undef) } else o)
  | [], l, i => by simp [maskL]
  | m :: r, l, i => by
    show (maskAt m (maskL r l))[i]? = _
    rw [maskAt_get, maskL_get r l, Option.map_map]
    congr 1
    funext o
    by_cases h2 : i ∈ r
    · by_cases h1 : i = m
      · simp only [Function.comp, if_pos h1, if_pos h2, if_pos (List.mem_cons.2 (Or.inl h1))]
      · simp only [Function.comp, if_neg h1, if_pos h2, if_pos (List.mem_cons.2 (Or.inr h2))]
    · by_cases h1 : i = m
      · simp only [Function.comp, if_pos h1, if_neg h2, if_pos (List.mem_cons.2 (Or.inl h1))]
      · simp only [Function.comp, if_neg h1, if_neg h2, if_neg (fun e => (List.mem_cons.1 e).elim h1 h2)]

/-- The places laid into their slots, of those that are made. -/
def putAll : List FVar → (Nat → Option Nat) → Act → Act
  | [], _, a => a
  | v :: r, st, a => putAll r (fun k => st (k + 1)) (putO v.d (st 0) a)

theorem putAll_comm {dst : Option Nat} (x : Value) : ∀ (vs : List FVar) (st : Nat → Option Nat) (a : Act), (∀ v ∈ vs, dst ≠ some v.d) → (putAll vs st a).put dst x = putAll vs st (a.put dst x)
  | [], _, _, _ => rfl
  | v :: r, st, a, h => by
    show (putAll r _ (putO v.d (st 0) a)).put dst x = putAll r _ (putO v.d (st 0) (a.put dst x))
    rw [putAll_comm x r _ _ (fun u hu => h u (List.mem_cons_of_mem _ hu)), putO_comm _ _ (h v List.mem_cons_self)]

def setSt (st : Nat → Option Nat) (k g : Nat) : Nat → Option Nat := fun j => if j = k then some g else st j

theorem putAll_made {g : Nat} (x : Value) : ∀ (vs : List FVar) (st : Nat → Option Nat) (a : Act) (k : Nat) (v : FVar), vs[k]? = some v → (vs.map (·.d)).Nodup → st k = none →
    putAll vs (setSt st k g) (a.put (some v.d) x) = (putAll vs st a).put (some v.d) (.pointer (some ⟨g, 0, none⟩))
  | [], _, _, k, _, h, _, _ => by simp at h
  | u :: r, st, a, 0, v, h, hn, hs => by
    cases h
    show putAll r _ (putO u.d (setSt st 0 g 0) (a.put (some u.d) x)) = (putAll r _ (putO u.d (st 0) a)).put _ _
    rw [hs]
    have e1 : putO u.d (setSt st 0 g 0) (a.put (some u.d) x) = a.put (some u.d) (.pointer (some ⟨g, 0, none⟩)) := by simp [setSt, putO, Act.put]
    have e2 : (fun k => setSt st 0 g (k + 1)) = fun k => st (k + 1) := by funext k; simp [setSt]
    rw [e1, e2, putAll_comm _ r _ _ (fun w hw e => ?_)]
    · rfl
    · have := (List.nodup_cons.1 (show (u.d :: r.map (·.d)).Nodup from hn)).1
      exact this (by rw [Option.some.inj e]; exact List.mem_map_of_mem hw)
  | u :: r, st, a, k + 1, v, h, hn, hs => by
    have hn' := List.nodup_cons.1 (show (u.d :: r.map (·.d)).Nodup from hn)
    have hv : v ∈ r := List.mem_of_getElem? (by simpa using h)
    have hne : some v.d ≠ some u.d := fun e => hn'.1 (by rw [← Option.some.inj e]; exact List.mem_map_of_mem hv)
    show putAll r _ (putO u.d (setSt st (k + 1) g 0) (a.put (some v.d) x)) = (putAll r _ (putO u.d (st 0) a)).put _ _
    have e1 : setSt st (k + 1) g 0 = st 0 := by simp [setSt]
    have e2 : (fun j => setSt st (k + 1) g (j + 1)) = setSt (fun j => st (j + 1)) k g := by funext j; simp [setSt]
    rw [e1, e2, ← putO_comm _ _ hne]
    exact putAll_made x r (fun j => st (j + 1)) (putO u.d (st 0) a) k v (by simpa using h) hn'.2 hs

section

variable {P : Program} {Q : Exit → Act → World → Prop} {l : List Oper} {n : Nat} {ms : List Nat} {A : Act}

theorem maskL_same {i : Nat} (hi : i < n) (h1 : i ∉ ms) : (maskL ms (l.take n)).toArray[i]? = l.toArray[i]? := by
  simp [maskL_get, hi, h1]

theorem maskL_dst (i : Nat) : ((maskL ms (l.take n)).toArray[i]?).bind (·.dst) = ((l.take n).toArray[i]?).bind (·.dst) := by
  simp only [List.getElem?_toArray, maskL_get]
  cases (List.take n l)[i]? with
  | none => rfl
  | some o =>
    simp only [Option.map_some, Option.bind_some]
    split <;> rfl

theorem maskL_after {i : Nat} {o : Oper} (hi : i < n) (ho : l.toArray[i]? = some o) : ∃ o', (maskL ms (l.take n)).toArray[i]? = some o' ∧ o'.after = o.after ∧ o'.dst = o.dst := by
  have ho' : l[i]? = some o := by simpa using ho
  refine ⟨if i ∈ ms then { o with op := .assign (.const undef) } else o, ?_, ?_, ?_⟩
  · simp [maskL_get, hi, ho']
  · split <;> rfl
  · split <;> rfl

theorem wanted_maskL {o : Oper} (tmps : Array Value) (hg : ∀ g, o.guard = some g → g.1 < n) : Region.wanted o (yielded (maskL ms (l.take n)).toArray tmps) = Region.wanted o (yielded l.toArray tmps) := by
  rw [← wanted_take (l := l) tmps hg]
  unfold Region.wanted
  cases h : o.guard with
  | none => rfl
  | some g =>
    obtain ⟨j, b⟩ := g
    dsimp only
    unfold yielded
    rw [maskL_dst]

theorem qOp_maskL {C : World → Prop} {i : Nat} {K : Act → Prop} {a : Act} (hB : headB l n = true) (hi : i < n) (h1 : i ∉ ms) (h : qOp P (maskL ms (l.take n)).toArray C i K a) : qOp P l.toArray C i K a := by
  unfold qOp at *
  rw [maskL_same hi h1] at h
  cases ho : l.toArray[i]? with
  | none => rw [ho] at h; exact h
  | some o =>
    rw [ho] at h
    dsimp only at *
    rw [← wanted_maskL (l := l) (n := n) (ms := ms) a.tmps (head_of hB hi ho).2]
    exact h

theorem maskL_inv {j : Nat} {oj : Oper} (h : (maskL ms (l.take n)).toArray[j]? = some oj) : j < n ∧ ∃ o, l.toArray[j]? = some o ∧ o.dst = oj.dst := by
  have h' : (maskL ms (l.take n))[j]? = some oj := by simpa using h
  rw [maskL_get, List.getElem?_take] at h'
  by_cases hj : j < n
  · refine ⟨hj, ?_⟩
    rw [if_pos hj] at h'
    cases ho : l[j]? with
    | none => rw [ho] at h'; cases h'
    | some o =>
      rw [ho] at h'
      have h' := Option.some.inj h'
      refine ⟨o, by simpa using ho, ?_⟩
      rw [← h']
      split <;> rfl
  · rw [if_neg hj] at h'; cases h'

theorem wanted_putAll {o : Oper} {ops : List Oper} : ∀ (vs : List FVar) (st : Nat → Option Nat) (a : Act), (∀ v ∈ vs, v.d ∉ o.looksAt ops.toArray) → Region.wanted o (yielded ops.toArray (putAll vs st a).tmps) = Region.wanted o (yielded ops.toArray a.tmps)
  | [], _, _, _ => rfl
  | v :: r, st, a, h => by
    show Region.wanted o (yielded ops.toArray (putAll r _ (putO v.d (st 0) a)).tmps) = _
    rw [wanted_putAll r _ _ (fun u hu => h u (List.mem_cons_of_mem _ hu)), wanted_putO _ _ _ (h v List.mem_cons_self)]

theorem exec_putAll {o : Oper} {ops : List Oper} (hs : ∀ cs b, o.op ≠ .select cs b) : ∀ (vs : List FVar) (st : Nat → Option Nat) (a : Act), (∀ v ∈ vs, v.d ∉ o.looksAt ops.toArray) → execOp (putAll vs st a).eval o = execOp a.eval o
  | [], _, _, _ => rfl
  | v :: r, st, a, h => by
    show execOp (putAll r _ (putO v.d (st 0) a)).eval o = _
    rw [exec_putAll hs r _ _ (fun u hu => h u (List.mem_cons_of_mem _ hu)), exec_putO hs _ _ _ (h v List.mem_cons_self)]

/-- What the text says of a variable's operation. -/
def OkV (P : Program) (l : List Oper) (n : Nat) (v : FVar) : Prop :=
  v.m < n ∧ ∃ o, l.toArray[v.m]? = some o ∧ o.dst = some v.d ∧ o.guard = none ∧ ∀ ev (w : World), (execOp ev o).run P w = .ok (.value (.pointer (some ⟨w.heap.size, 0, none⟩))) (w.alloc (.cells v.z v.t))

def AllV (P : Program) (l : List Oper) : List FVar → Prop
  | [] => True
  | v :: r => (∃ o, l[v.m]? = some o ∧ ∀ ev (w : World), (execOp ev o).run P w = .ok (.value (.pointer (some ⟨w.heap.size, 0, none⟩))) (w.alloc (.cells v.z v.t))) ∧ AllV P l r

theorem AllV.mem : ∀ {vs : List FVar}, AllV P l vs → ∀ v ∈ vs, ∃ o, l[v.m]? = some o ∧ ∀ ev (w : World), (execOp ev o).run P w = .ok (.value (.pointer (some ⟨w.heap.size, 0, none⟩))) (w.alloc (.cells v.z v.t))
  | [], _, _, h => by cases h
  | u :: r, ⟨h1, h2⟩, v, h => by
    rcases List.mem_cons.1 h with rfl | h
    · exact h1
    · exact h2.mem v h

end

/- As above: a drawn region in which one operation lays a block at any time beside calls that make memory (a slice of its arguments, built for a variadic call): its cells are what earlier operations yielded, and it may stand behind a guard. Imports nothing of the translation. -/

section

variable {P : Program} {Q : Exit → Act → World → Prop} {l : List Oper} {n m dA : Nat} {A : Act}

/-- Each operation that writes one of the slots ds is waited for by operation m. -/
def pinB (l : List Oper) (n m : Nat) (ds : List Nat) : Bool :=
  match l[m]? with
  | some oA => ds.all fun d => (List.range n).all fun i => !(decide ((l[i]?).bind (·.dst) = some d)) || (oA.after.any fun e => Region.binds .any e && decide (e.on = i))
  | none => false

theorem float_headV {wb : World} {oA : Oper} {zs : Array Value} {t : TypeId} {s : Nat} {ds : List Nat} (pv : Nat → Value) (hn : n < l.length) (h1 : Region.sinkB .any l.toArray n = true) (h2 : Region.chainB .any l.toArray n = true) (h3 : Region.seqB .any l.toArray (l.length - n) n (upto n (l.length - n)) = true) (h4 : headB l n = true)
    (hsel : ∀ (i : Nat) (o : Oper) cs b, i < n → i ≠ m → l.toArray[i]? = some o → o.op ≠ .select cs b)
    (hd : ∀ (i : Nat) (o : Oper), i < n → i ≠ m → l.toArray[i]? = some o → dA ∉ o.looksAt l.toArray ∧ o.dst ≠ some dA)
    (hmn : m < n) (hoA : l.toArray[m]? = some oA) (hdA : oA.dst = some dA) (hpin : pinB l n m ds = true)
    (hA : ∀ (a : Act) (w : World), (∀ d ∈ ds, a.tmps[d]? = A.tmps[d]?) → Region.wanted oA (yielded l.toArray a.tmps) = true ∧ (execOp a.eval oA).run P w = .ok (.value (pv w.heap.size)) (w.alloc (.cells zs t)))
    (hdst : ∀ (i : Nat) (o : Oper), i < n → l.toArray[i]? = some o → ∃ d, o.dst = some d ∧ d < s ∧ ∀ (j : Nat) (o' : Oper), j < n → j ≠ i → l.toArray[j]? = some o' → o'.dst ≠ some d)
    (T : ∀ (W : World) (g : Nat), Below wb.heap.size wb W → wb.heap.size ≤ g → Bk W g t zs → wpList P l.toArray Q (l.drop n) (A.put (some dA) (pv g)) W) :
    ∀ (f : Nat) (listed : Array Bool) (a : Act) (w : World), Cls wb w → HeadInv .any l.toArray n listed → left listed n = f → listed.getD m false = false → a.tmps.size = s →
      (∀ wb', Below wb.heap.size wb wb' → wpAnyQ P .any (maskAt m (l.take n)).toArray (Cls wb') (fun a' => a' = A) f (listed.extract 0 n) a) →
      wpAny P .any l.toArray Q (f + (l.length - n)) listed a w
  | 0, listed, a, w, hC, inv, hf, hm, hsz, h => by
    have := left_zero listed n hf m hmn
    rw [hm] at this
    cases this
  | f + 1, listed, a, w, hC, inv, hf, hm, hsz, h => by
    rw [show f + 1 + (l.length - n) = (f + (l.length - n)) + 1 by omega]
    obtain ⟨hne, hstep⟩ := head_step (m := m) hn h1 h2 h4 inv hf
    refine ⟨fun h0 => absurd h0 hne, fun i hi => ?_⟩
    obtain ⟨hin, hi', hui, inv', hl', he'⟩ := hstep i hi
    have hls : n ≤ listed.size := by rw [inv.size]; simp; omega
    by_cases hme : i = m
    · subst hme
      -- the block is laid
      have hpins : ∀ d ∈ ds, a.tmps[d]? = A.tmps[d]? := fun d hdd => by
        refine pin (d := d) _ _ _ (h _ (Below.refl _ _)) (fun j oj hj hu e => ?_)
        obtain ⟨hjn, o', ho', hd'⟩ := mask_inv hj
        obtain ⟨_, oM, hoM, hafter⟩ := mem_ready.1 hi
        have hoM' : l[i]? = some oA := by simpa using hoA
        rw [hoA] at hoM
        cases hoM
        unfold pinB at hpin
        rw [hoM'] at hpin
        have k1 := List.all_eq_true.1 (List.all_eq_true.1 hpin d hdd) j (List.mem_range.2 hjn)
        have ho2 : l[j]? = some o' := by simpa using ho'
        rw [ho2] at k1
        simp only [Option.bind_some, hd', e, decide_true, Bool.not_true, Bool.false_or] at k1
        obtain ⟨ed, hed, he2⟩ := Array.any_eq_true'.1 k1
        simp only [Bool.and_eq_true, decide_eq_true_eq] at he2
        have k2 := hafter ed hed he2.1
        rw [he2.2] at k2
        have k3 : (listed.extract 0 n).getD j false = true := by rw [extract_getD _ _ _ _ hjn (by omega)]; exact k2
        rw [hu] at k3
        cases k3
      obtain ⟨hw, hrun⟩ := hA a w hpins
      obtain ⟨q0, rfl⟩ := hC
      unfold wpOp
      rw [hoA]
      dsimp only
      rw [if_pos hw]
      refine .inl ?_
      unfold Oper.wp
      rw [hrun]
      simp only [Oper.upon]
      rw [hdA]
      have hb : Below wb.heap.size wb (q0.w.alloc (.cells zs t)) := q0.h.alloc q0.h.size _
      have hq := (h _ hb).2 i hi'
      obtain ⟨oM, hoM, _, hdM⟩ := mask_after (m := i) hin hoA
      obtain ⟨v, _, hK⟩ := yieldsIn_of_qOp hoM hq
      have := float_rest (Q := Q) (A := A) (dA := dA) (m := i) (p := pv q0.w.heap.size) hn h1 h2 h3 h4 hsel hd
        (fun q => T q.w q0.w.heap.size (hb.trans (q.h.mono hb.size)) q0.h.size (Bk.below (Bk.new _ _ _) q.h))
        f (listed.setIfInBounds i true) (a.put oM.dst v) (q0.w.alloc (.cells zs t)) ⟨BW.start _, rfl⟩ inv' hl' (by
          have : i < listed.size := by omega
          simp [this]) (by rw [he']; exact hK)
      rw [hdM, hdA] at this
      have e : (a.put (some dA) v).put (some dA) (pv q0.w.heap.size) = a.put (some dA) (pv q0.w.heap.size) := by simp [Act.put]
      rw [e] at this
      exact this
    · -- another one, whose value is the same in every class
      obtain ⟨_, o, ho, _⟩ := mem_ready.1 hi
      obtain ⟨d, hod, hds, hdo⟩ := hdst i o hin ho
      have hpin' : ∀ (wb' : World) (v : Value), wpAnyQ P .any (maskAt m (l.take n)).toArray (Cls wb') (fun a' => a' = A) f ((listed.extract 0 n).setIfInBounds i true) (a.put o.dst v) → A.tmps[d]? = some v := fun wb' v hv => by
        have := pin (d := d) f _ _ hv (fun j oj hj hu => by
          obtain ⟨hjn, o', ho', hd'⟩ := mask_inv hj
          rw [← hd']
          by_cases e : j = i
          · subst e
            exfalso
            have : j < (listed.extract 0 n).size := by simp; omega
            simp [this] at hu
            omega
          · exact hdo j o' hjn e ho')
        rw [← this, hod]
        simp [Act.put, hsz, hds]
      have hq : ∀ wb', Below wb.heap.size wb wb' → qOp P l.toArray (Cls wb') i (wpAnyQ P .any (maskAt m (l.take n)).toArray (Cls wb') (fun a' => a' = A) f ((listed.extract 0 n).setIfInBounds i true)) a :=
        fun wb' hb => qOp_mask h4 hin hme ((h wb' hb).2 i hi')
      have hq' : qOp P l.toArray (Cls wb) i (fun a' => a'.tmps.size = s ∧ ∀ wb', Below wb.heap.size wb wb' → wpAnyQ P .any (maskAt m (l.take n)).toArray (Cls wb') (fun a' => a' = A) f ((listed.extract 0 n).setIfInBounds i true) a') a := by
        have hsz' : ∀ v, (a.put o.dst v).tmps.size = s := fun v => by rw [hod]; simp [Act.put, hsz]
        have h0 := hq wb (Below.refl _ _)
        unfold qOp at h0 hq ⊢
        rw [ho] at h0 ⊢
        dsimp only at h0 ⊢
        split
        · rename_i hw
          rw [if_pos hw] at h0
          obtain ⟨v, hv, hK⟩ := h0
          refine ⟨v, hv, hsz' v, fun wb' hb => ?_⟩
          have h5 := hq wb' hb
          rw [ho] at h5
          dsimp only at h5
          rw [if_pos hw] at h5
          obtain ⟨v', hv', hK'⟩ := h5
          have e1 := hpin' wb v hK
          have e2 := hpin' wb' v' hK'
          rw [e1] at e2
          cases e2
          exact hK'
        · rename_i hw
          refine ⟨hsz' _, fun wb' hb => ?_⟩
          have h5 := hq wb' hb
          rw [ho] at h5
          dsimp only at h5
          rw [if_neg hw] at h5
          exact h5
      refine wpOp_of_qOp (P := P) (ops := l.toArray) (C := Cls wb) (i := i) (w := w) (Q' := Q) hC (fun a' w' hC' hK => ?_) hq'
      refine float_headV pv hn h1 h2 h3 h4 hsel hd hmn hoA hdA hpin hA hdst T f (listed.setIfInBounds i true) a' w' hC' inv' hl' ?_ hK.1 (by rw [he']; exact hK.2)
      rw [getD_set_ne false hme]
      exact hm

def floatVB (l : List Oper) (n m dA s : Nat) (ds : List Nat) : Bool :=
  decide (m < n) && (dstB l n s && (freeB l n m && (pinB l n m ds && (match l[m]? with | some o => decide (o.dst = some dA) | none => false))))

/-- **A drawn region with a block that is laid at any time.** n: the operations ahead of the tail; m: the one that lays the block; dA: its slot; s: how many slots there are; ds: the slots that m reads, and the one that its guard stands on; pv: the value that it yields. -/
theorem any_region_floatV {a : Act} {wb : World} {p : BW wb} {zs : Array Value} {t : TypeId} {oA : Oper} (n m dA s : Nat) (ds : List Nat) (pv : Nat → Value) (hB : Region.lexB .any (maskAt m (l.take n)).toArray = true) (hT : tailB l n = true) (hF : floatVB l n m dA s ds = true)
    (hs : a.tmps.size = s) (hoA : l[m]? = some oA)
    (h : ∃ A : Act, (∀ wb', Below wb.heap.size wb wb' → wpQuiet P (maskAt m (l.take n)).toArray (fun w' => ∃ q : BW wb', w' = q.w) (fun a' => a' = A) (maskAt m (l.take n)) a) ∧
      (∀ (a : Act) (w : World), (∀ d ∈ ds, a.tmps[d]? = A.tmps[d]?) → Region.wanted oA (yielded l.toArray a.tmps) = true ∧ (execOp a.eval oA).run P w = .ok (.value (pv w.heap.size)) (w.alloc (.cells zs t))) ∧
      ∀ (W : World) (g : Nat), Below wb.heap.size wb W → wb.heap.size ≤ g → Bk W g t zs → wpList P l.toArray Q (l.drop n) (A.put (some dA) (pv g)) W) :
    wpAny P .any l.toArray Q l.toArray.size (Array.replicate l.toArray.size false) a { p.w with drawn := p.w.drawn + 1 } := by
  obtain ⟨A, hW, hA, T⟩ := h
  simp only [tailB, Bool.and_eq_true, decide_eq_true_eq] at hT
  obtain ⟨hn, h1, h2, h3, h4⟩ := hT
  simp only [floatVB, Bool.and_eq_true, decide_eq_true_eq, hoA] at hF
  obtain ⟨hmn, f1, f2, fp, f3⟩ := hF
  simp only [Region.lexB, Bool.and_eq_true] at hB
  have hoA' : l.toArray[m]? = some oA := by simpa using hoA
  have hlen : (maskAt m (l.take n)).length = n := by rw [maskAt_len]; simp; omega
  have hdst : ∀ (i : Nat) (o : Oper), i < n → l.toArray[i]? = some o → ∃ d, o.dst = some d ∧ d < s ∧ ∀ (j : Nat) (o' : Oper), j < n → j ≠ i → l.toArray[j]? = some o' → o'.dst ≠ some d := fun i o hi ho => by
    have h := List.all_eq_true.1 f1 i (List.mem_range.2 hi)
    have ho' : l[i]? = some o := by simpa using ho
    rw [ho'] at h
    simp only [Option.bind_some] at h
    cases hd : o.dst with
    | none => rw [hd] at h; cases h
    | some d =>
      rw [hd] at h
      simp only [Bool.and_eq_true, decide_eq_true_eq] at h
      refine ⟨d, rfl, h.1, fun j o' hj hji hj' => ?_⟩
      have h5 := List.all_eq_true.1 h.2 j (List.mem_range.2 hj)
      have hj2 : l[j]? = some o' := by simpa using hj'
      rw [hj2] at h5
      simp only [Option.bind_some, Bool.or_eq_true, decide_eq_true_eq] at h5
      exact h5.resolve_left hji
  have hd : ∀ (i : Nat) (o : Oper), i < n → i ≠ m → l.toArray[i]? = some o → dA ∉ o.looksAt l.toArray ∧ o.dst ≠ some dA := fun i o hi him ho => by
    have ho' : l[i]? = some o := by simpa using ho
    refine ⟨?_, ?_⟩
    · unfold freeB at f2
      rw [hoA] at f2
      simp only [Option.bind_some, f3] at f2
      have h := List.all_eq_true.1 f2 i (List.mem_range.2 hi)
      rw [ho'] at h
      simpa using h
    · obtain ⟨d, e1, _, e2⟩ := hdst m oA hmn hoA'
      rw [f3] at e1
      cases e1
      exact e2 i o hi him ho
  have hsel : ∀ (i : Nat) (o : Oper) cs b, i < n → i ≠ m → l.toArray[i]? = some o → o.op ≠ .select cs b := fun i o cs b hi him ho =>
    Region.noSelect_spec hB.1 i o cs b (by rw [mask_get hi him]; exact ho)
  have inv0 : HeadInv .any l.toArray n (Array.replicate l.toArray.size false) :=
    ⟨by simp, fun j oj _ hl => (by rw [getD_replicate_false] at hl; cases hl), fun t _ ht => getD_in (by simpa using ht) (getD_replicate_false _ _)⟩
  have e : (Array.replicate l.toArray.size false).extract 0 n = Array.replicate (maskAt m (l.take n)).toArray.size false := by
    have hz : (maskAt m (l.take n)).toArray.size = n := by simpa using hlen
    rw [hz]
    apply Array.ext
    · simp; omega
    · intro j j1 j2; simp
  have H : ∀ wb', Below wb.heap.size wb wb' → wpAnyQ P .any (maskAt m (l.take n)).toArray (Cls wb') (fun a' => a' = A) n ((Array.replicate l.toArray.size false).extract 0 n) a := fun wb' hb => by
    have := wpAnyQ_lex (C := Cls wb') (md := .any) hB.1 (maskAt m (l.take n)) 0 (Array.replicate (maskAt m (l.take n)).toArray.size false) a (by simp) (by simpa using hB.2) (hW wb' hb)
    rw [hlen] at this
    rw [e]
    exact this
  have := float_headV (P := P) (Q := Q) (A := A) pv hn h1 h2 h3 h4 hsel hd hmn hoA' f3 fp hA hdst T n (Array.replicate l.toArray.size false) a { p.w with drawn := p.w.drawn + 1 } ⟨p.next { p.w with drawn := p.w.drawn + 1 } ⟨rfl, rfl, rfl, Nat.le_refl _, fun _ _ => rfl⟩, rfl⟩ inv0 (left_start _ _) (getD_replicate_false _ _) hs H
  rw [show n + (l.length - n) = l.toArray.size by simp; omega] at this
  exact this

theorem wp_region_floatV {id : Nat} {a : Act} {wb : World} {p : BW wb} {zs : Array Value} {t : TypeId} {oA : Oper} (n m dA s : Nat) (ds : List Nat) (pv : Nat → Value) (hm : P.follows .mixedOrders = true) (hB : Region.lexB .any (maskAt m (l.take n)).toArray = true) (hT : tailB l n = true) (hF : floatVB l n m dA s ds = true)
    (hs : a.tmps.size = s) (hoA : l[m]? = some oA)
    (h : ∃ A : Act, (∀ wb', Below wb.heap.size wb wb' → wpQuiet P (maskAt m (l.take n)).toArray (fun w' => ∃ q : BW wb', w' = q.w) (fun a' => a' = A) (maskAt m (l.take n)) a) ∧
      (∀ (a : Act) (w : World), (∀ d ∈ ds, a.tmps[d]? = A.tmps[d]?) → Region.wanted oA (yielded l.toArray a.tmps) = true ∧ (execOp a.eval oA).run P w = .ok (.value (pv w.heap.size)) (w.alloc (.cells zs t))) ∧
      ∀ (W : World) (g : Nat), Below wb.heap.size wb W → wb.heap.size ≤ g → Bk W g t zs → wpList P l.toArray Q (l.drop n) (A.put (some dA) (pv g)) W) :
    (Code.region id l.toArray true).wp P Q a p.w :=
  wp_region_any hm (any_region_floatV n m dA s ds pv hB hT hF hs hoA h)

end

/- A drawn region in which a second result may be taken behind the store of the first one: it may as well be taken ahead of it. Imports nothing of the translation. -/

/-- Operation y waits for operation x, too. -/
def edgeAt : Nat → Nat → List Oper → List Oper
  | _, _, [] => []
  | 0, x, o :: r => { o with after := o.after.push { on := x, ground := .data } } :: r
  | y + 1, x, o :: r => o :: edgeAt y x r

section

variable {P : Program} {Q : Exit → Act → World → Prop} {l : List Oper} {x y : Nat} {ox : Oper}

def edgeB (l : List Oper) (x y : Nat) : Bool :=
  decide (x ≠ y) && (Region.noSelect l.toArray && (match l[x]?, l[y]? with
  | some ox, some oy => ox.guard.isNone && ((ox.after.all fun e => !Region.binds .any e || oy.after.any fun e' => Region.binds .any e' && e'.on == e.on) &&
      ((List.range l.length).all fun j => decide (j = x) || match l[j]? with
        | some oj => (oj.after.any fun e => Region.binds .any e && e.on == x) || ((ox.after.any fun e => Region.binds .any e && e.on == j) || ox.apart l.toArray oj)
        | none => true))
  | _, _ => false))

end

end
end Go.Proofs.Sky
