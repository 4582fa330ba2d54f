/- A region that draws its order, with one variable made at any time beside calls that make memory, and a forced tail: walked once: the head in the text's order, the new variable's place held open; then the tail, from any world in which that variable lies anywhere. Imports nothing of the translation. -/
import Derived.Test.YtnidgokmndnenaaTail
import Derived.Test.YtnidgokmndnenaaMem02
namespace Go.Proofs.Sky
open Go Go.RowKit
set_option linter.unusedVariables false
set_option linter.unusedSimpArgs false

/-- Operation m yields nothing yet. -/
def maskAt : Nat → List Oper → List Oper
  | _, [] => []
  | 0, o :: r => { o with op := .assign (.const undef) } :: r
  | m + 1, o :: r => o :: maskAt m r
theorem maskAt_len : ∀ (m : Nat) (l : List Oper), (maskAt m l).length = l.length
  | 0, [] => rfl
  | _ + 1, [] => rfl
  | 0, _ :: _ => rfl
  | m + 1, _ :: r => by unfold maskAt; simp [maskAt_len m r]
theorem maskAt_get : ∀ (m : Nat) (l : List Oper) (i : Nat), (maskAt m l)[i]? = (l[i]?).map (fun o => if i = m then { o with op := .assign (.const undef) } else o)
  | 0, [], i => by simp [maskAt]
  | _ + 1, [], i => by simp [maskAt]
  | 0, o :: r, 0 => by simp [maskAt]
  | 0, o :: r, i + 1 => by simp [maskAt]
  | m + 1, o :: r, 0 => by simp [maskAt]
  | m + 1, o :: r, i + 1 => by simp [maskAt, maskAt_get m r i]

/-- Each of the first n writes a slot of its own. -/
def dstB (l : List Oper) (n s : Nat) : Bool := (List.range n).all fun i =>
  match (l[i]?).bind (·.dst) with
  | some d => decide (d < s) && (List.range n).all fun j => decide (j = i) || decide ((l[j]?).bind (·.dst) ≠ some d)
  | none => false
/-- None of the first n looks at the slot that operation m writes. -/
def freeB (l : List Oper) (n m : Nat) : Bool :=
  match (l[m]?).bind (·.dst) with
  | some d => (List.range n).all fun i => match l[i]? with | some o => !((o.looksAt l.toArray).contains d) | none => true
  | none => false

abbrev Cls (wb : World) : World → Prop := fun w' => ∃ q : BW wb, w' = q.w

section
variable {P : Program} {Q : Exit → Act → World → Prop} {l : List Oper} {n m dA : Nat} {A : Act}

theorem mask_get {i : Nat} (hi : i < n) (hm : i ≠ m) : (maskAt m (l.take n)).toArray[i]? = l.toArray[i]? := by
  simp [maskAt_get, hi, hm]
theorem mask_dst (i : Nat) : ((maskAt m (l.take n)).toArray[i]?).bind (·.dst) = ((l.take n).toArray[i]?).bind (·.dst) := by
  simp only [List.getElem?_toArray, maskAt_get]
  cases (List.take n l)[i]? with
  | none => rfl
  | some o =>
    simp only [Option.map_some, Option.bind_some]
    split <;> rfl
theorem mask_after {i : Nat} {o : Oper} (hi : i < n) (ho : l.toArray[i]? = some o) : ∃ o', (maskAt m (l.take n)).toArray[i]? = some o' ∧ o'.after = o.after ∧ o'.dst = o.dst := by
  have ho' : l[i]? = some o := by simpa using ho
  refine ⟨if i = m then { o with op := .assign (.const undef) } else o, ?_, ?_, ?_⟩
  · simp [maskAt_get, hi, ho']
  · split <;> rfl
  · split <;> rfl
theorem wanted_mask {o : Oper} (tmps : Array Value) (hg : ∀ g, o.guard = some g → g.1 < n) : Region.wanted o (yielded (maskAt m (l.take n)).toArray tmps) = Region.wanted o (yielded l.toArray tmps) := by
  rw [← wanted_take (l := l) tmps hg]
  unfold Region.wanted
  cases h : o.guard with
  | none => rfl
  | some g =>
    obtain ⟨j, b⟩ := g
    dsimp only
    unfold yielded
    rw [mask_dst]
theorem qOp_mask {C : World → Prop} {i : Nat} {K : Act → Prop} {a : Act} (hB : headB l n = true) (hi : i < n) (hm : i ≠ m) (h : qOp P (maskAt m (l.take n)).toArray C i K a) : qOp P l.toArray C i K a := by
  unfold qOp at *
  rw [mask_get hi hm] at h
  cases ho : l.toArray[i]? with
  | none => rw [ho] at h; exact h
  | some o =>
    rw [ho] at h
    dsimp only at *
    rw [← wanted_mask (l := l) (n := n) (m := m) a.tmps (head_of hB hi ho).2]
    exact h

/-- What a step of the head asks, and leaves. -/
theorem head_step (hn : n < l.length) (h1 : Region.sinkB .any l.toArray n = true) (h2 : Region.chainB .any l.toArray n = true) (h4 : headB l n = true) {f : Nat} {listed : Array Bool} (inv : HeadInv .any l.toArray n listed) (hf : left listed n = f + 1) :
    Region.ready .any l.toArray listed ≠ [] ∧ ∀ i ∈ Region.ready .any l.toArray listed, i < n ∧ i ∈ Region.ready .any (maskAt m (l.take n)).toArray (listed.extract 0 n) ∧ listed.getD i false = false ∧
      HeadInv .any l.toArray n (listed.setIfInBounds i true) ∧ left (listed.setIfInBounds i true) n = f ∧ (listed.setIfInBounds i true).extract 0 n = (listed.extract 0 n).setIfInBounds i true := by
  have hsz : listed.size = l.length := by rw [inv.size]; simp
  obtain ⟨k, k1, k2, k3⟩ := left_some listed n (by omega)
  have hun : listed.getD k true = false := getD_in (by omega) k2
  have hkr : k ∈ Region.ready .any l.toArray listed := by
    have ho : l.toArray[k]? = some l[k] := by simp
    exact mem_ready.2 ⟨hun, _, ho, fun e he hb => k3 _ ((head_of h4 k1 ho).1 e he hb)⟩
  refine ⟨fun h0 => (by rw [h0] at hkr; cases hkr), fun i hi => ?_⟩
  have hin : i < n := by
    rcases Nat.lt_or_ge i n with g | g
    · exact g
    · exact absurd hi (tail_waits h1 h2 (by simpa using hn) inv _ k rfl k1 hun i g)
  obtain ⟨a1, o, a2, a3⟩ := mem_ready.1 hi
  have hui : listed.getD i false = false := getD_both a1
  refine ⟨hin, ?_, hui, inv.set hi hin, ?_, extract_set _ _ _ hin (by omega)⟩
  · obtain ⟨o', b1, b2, b3⟩ := mask_after (m := m) hin a2
    refine mem_ready.2 ⟨?_, o', b1, fun e he hb => ?_⟩
    · rw [extract_getD _ _ _ _ hin (by omega)]; exact a1
    · rw [b2] at he
      have := (head_of h4 hin a2).1 e he hb
      rw [extract_getD _ _ _ _ (by omega) (by omega)]
      exact a3 e he hb
  · have := left_set listed i (by omega) hui n hin
    omega

theorem all_listed {listed : Array Bool} (hn : n < l.length) (inv : HeadInv .any l.toArray n listed) (hf : left listed n = 0) : listed = upto n (l.length - n) := by
  have hall := left_zero listed n hf
  have hsz : listed.size = l.length := by rw [inv.size]; simp
  apply Array.ext_getElem?
  intro j
  by_cases hl : j < listed.size
  · have hj : listed[j]? = some (listed.getD j false) := by simp [Array.getD_eq_getD_getElem?, Array.getElem?_eq_getElem hl]
    rw [hj, upto_get _ _ _ (by omega)]
    by_cases hj : j < n
    · rw [hall j hj, decide_eq_true hj]
    · rw [getD_both (inv.tail j (by omega) (by simp; omega)), decide_eq_false hj]
  · have h1 : listed.size ≤ j := by omega
    have h2 : (upto n (l.length - n)).size ≤ j := by unfold upto; simp; omega
    rw [Array.getElem?_eq_none h1, Array.getElem?_eq_none h2]

/-- The variable lies: the rest of the head, beside its place. -/
theorem float_rest {wb : World} {p : Value} (hn : n < l.length) (h1 : Region.sinkB .any l.toArray n = true) (h2 : Region.chainB .any l.toArray n = true) (h3 : Region.seqB .any l.toArray (l.length - n) n (upto n (l.length - n)) = true) (h4 : headB l n = true)
    (hsel : ∀ (i : Nat) (o : Oper) cs b, i < n → i ≠ m → l.toArray[i]? = some o → o.op ≠ .select cs b)
    (hd : ∀ (i : Nat) (o : Oper), i < n → i ≠ m → l.toArray[i]? = some o → dA ∉ o.looksAt l.toArray ∧ o.dst ≠ some dA)
    (T : ∀ q : BW wb, wpList P l.toArray Q (l.drop n) (A.put (some dA) p) q.w) :
    ∀ (f : Nat) (listed : Array Bool) (a : Act) (w : World), Cls wb w → HeadInv .any l.toArray n listed → left listed n = f → listed.getD m false = true →
      wpAnyQ P .any (maskAt m (l.take n)).toArray (Cls wb) (fun a' => a' = A) f (listed.extract 0 n) a →
      wpAny P .any l.toArray Q (f + (l.length - n)) listed (a.put (some dA) p) w
  | 0, listed, a, w, hC, inv, hf, hm, h => by
    have e := all_listed hn inv hf
    have hd : (l.drop n).length = l.length - n := by simp
    obtain ⟨q, rfl⟩ := hC
    have ea : a = A := h.2
    subst ea
    have := wpAny_of_seq (md := .any) (Q' := Q) (l.drop n) n listed (a.put (some dA) p) q.w (fun j => by simp [List.getElem?_drop]) (by rw [hd, e]; exact h3) (T q)
    rw [hd] at this
    rw [Nat.zero_add]
    exact this
  | f + 1, listed, a, w, hC, inv, hf, hm, h => by
    rw [show f + 1 + (l.length - n) = (f + (l.length - n)) + 1 by omega]
    obtain ⟨hne, hstep⟩ := head_step (m := m) hn h1 h2 h4 inv hf
    refine ⟨fun h0 => absurd h0 hne, fun i hi => ?_⟩
    obtain ⟨hin, hi', hui, inv', hl', he'⟩ := hstep i hi
    have hme : i ≠ m := fun e => by rw [e, hm] at hui; cases hui
    have hq := qOp_mask h4 hin hme (h.2 i hi')
    obtain ⟨_, o, ho, _⟩ := mem_ready.1 hi
    obtain ⟨hd1, hd2⟩ := hd i o hin hme ho
    have hs := fun cs b => hsel i o cs b hin hme ho
    have hnot : ∀ d, some dA = some d → d ∉ o.looksAt l.toArray := fun d hd => by cases hd; exact hd1
    -- beside the place
    have hq' : qOp P l.toArray (Cls wb) i (fun a' => ∃ a0 : Act, a' = a0.put (some dA) p ∧ wpAnyQ P .any (maskAt m (l.take n)).toArray (Cls wb) (fun a' => a' = A) f ((listed.extract 0 n).setIfInBounds i true) a0) (a.put (some dA) p) := by
      unfold qOp at hq ⊢
      rw [ho] at hq ⊢
      dsimp only at hq ⊢
      rw [wanted_put o a (some dA) p hnot]
      split
      · rename_i hw
        rw [if_pos hw] at hq
        obtain ⟨v, hv, hK⟩ := hq
        refine ⟨v, fun w' hw' => ?_, a.put o.dst v, ?_, hK⟩
        · have := hv w' hw'
          unfold Oper.quietAt at *
          rw [execOp_put o hs a (some dA) p hnot]
          exact this
        · exact Act.put_comm a p v (fun d hd h2 => by cases hd; exact hd2 h2)
      · rename_i hw
        rw [if_neg hw] at hq
        exact ⟨a.put o.dst undef, Act.put_comm a p undef (fun d hd h2 => by cases hd; exact hd2 h2), hq⟩
    refine wpOp_of_qOp (P := P) (ops := l.toArray) (C := Cls wb) (i := i) (w := w) (Q' := Q) hC (fun a' w' hC' hK => ?_) hq'
    obtain ⟨a0, rfl, hK⟩ := hK
    refine float_rest hn h1 h2 h3 h4 hsel hd T f (listed.setIfInBounds i true) a0 w' hC' inv' hl' ?_ (by rw [he']; exact hK)
    rw [getD_set_ne false (by omega)]
    exact hm

/-- The slots that have not come up keep what they hold; those that have hold what they hold in the end. -/
theorem pin {C : World → Prop} {ops : Array Oper} {d : Nat} : ∀ (f : Nat) (listed : Array Bool) (a : Act), wpAnyQ P .any ops C (fun a' => a' = A) f listed a →
    (∀ (i : Nat) (o : Oper), ops[i]? = some o → listed.getD i false = false → o.dst ≠ some d) → a.tmps[d]? = A.tmps[d]?
  | 0, _, a, h, _ => by rw [h.2]
  | f + 1, listed, a, h, hd => by
    cases hr : Region.ready .any ops listed with
    | nil => rw [h.1 hr]
    | cons i r =>
      have hi : i ∈ Region.ready .any ops listed := by rw [hr]; exact List.mem_cons_self
      have hq := h.2 i hi
      obtain ⟨a1, o, ho, _⟩ := mem_ready.1 hi
      obtain ⟨v, _, hK⟩ := yieldsIn_of_qOp ho hq
      have hne := hd i o ho (getD_both a1)
      have := pin f _ _ hK (fun j oj hj hu => hd j oj hj (by
        by_cases e : i = j
        · subst e; exact getD_both a1
        · rw [getD_set_ne false e] at hu; exact hu))
      rw [← this]
      cases hdst : o.dst with
      | none => rfl
      | some d' =>
        have : d' ≠ d := fun e => hne (by rw [hdst, e])
        simp [Act.put, Array.getElem?_setIfInBounds_ne this]

theorem mask_inv {j : Nat} {oj : Oper} (h : (maskAt m (l.take n)).toArray[j]? = some oj) : j < n ∧ ∃ o, l.toArray[j]? = some o ∧ o.dst = oj.dst := by
  have h' : (maskAt m (l.take n))[j]? = some oj := by simpa using h
  rw [maskAt_get, List.getElem?_take] at h'
  by_cases hj : j < n
  · refine ⟨hj, ?_⟩
    rw [if_pos hj] at h'
    cases ho : l[j]? with
    | none => rw [ho] at h'; cases h'
    | some o =>
      rw [ho] at h'
      have h' := Option.some.inj h'
      refine ⟨o, by simpa using ho, ?_⟩
      rw [← h']
      split <;> rfl
  · rw [if_neg hj] at h'; cases h'

/-- The variable does not lie yet. -/
theorem float_head {wb : World} {oA : Oper} {zs : Array Value} {t : TypeId} {s : Nat} (hn : n < l.length) (h1 : Region.sinkB .any l.toArray n = true) (h2 : Region.chainB .any l.toArray n = true) (h3 : Region.seqB .any l.toArray (l.length - n) n (upto n (l.length - n)) = true) (h4 : headB l n = true)
    (hsel : ∀ (i : Nat) (o : Oper) cs b, i < n → i ≠ m → l.toArray[i]? = some o → o.op ≠ .select cs b)
    (hd : ∀ (i : Nat) (o : Oper), i < n → i ≠ m → l.toArray[i]? = some o → dA ∉ o.looksAt l.toArray ∧ o.dst ≠ some dA)
    (hmn : m < n) (hoA : l.toArray[m]? = some oA) (hdA : oA.dst = some dA) (hgA : oA.guard = none)
    (hA : ∀ ev (w : World), (execOp ev oA).run P w = .ok (.value (.pointer (some ⟨w.heap.size, 0, none⟩))) (w.alloc (.cells zs t)))
    (hdst : ∀ (i : Nat) (o : Oper), i < n → l.toArray[i]? = some o → ∃ d, o.dst = some d ∧ d < s ∧ ∀ (j : Nat) (o' : Oper), j < n → j ≠ i → l.toArray[j]? = some o' → o'.dst ≠ some d)
    (T : ∀ (W : World) (g : Nat), Below wb.heap.size wb W → wb.heap.size ≤ g → Bk W g t zs → wpList P l.toArray Q (l.drop n) (A.put (some dA) (.pointer (some ⟨g, 0, none⟩))) W) :
    ∀ (f : Nat) (listed : Array Bool) (a : Act) (w : World), Cls wb w → HeadInv .any l.toArray n listed → left listed n = f → listed.getD m false = false → a.tmps.size = s →
      (∀ wb', Below wb.heap.size wb wb' → wpAnyQ P .any (maskAt m (l.take n)).toArray (Cls wb') (fun a' => a' = A) f (listed.extract 0 n) a) →
      wpAny P .any l.toArray Q (f + (l.length - n)) listed a w
  | 0, listed, a, w, hC, inv, hf, hm, hsz, h => by
    have := left_zero listed n hf m hmn
    rw [hm] at this
    cases this
  | f + 1, listed, a, w, hC, inv, hf, hm, hsz, h => by
    rw [show f + 1 + (l.length - n) = (f + (l.length - n)) + 1 by omega]
    obtain ⟨hne, hstep⟩ := head_step (m := m) hn h1 h2 h4 inv hf
    refine ⟨fun h0 => absurd h0 hne, fun i hi => ?_⟩
    obtain ⟨hin, hi', hui, inv', hl', he'⟩ := hstep i hi
    have hls : n ≤ listed.size := by rw [inv.size]; simp; omega
    by_cases hme : i = m
    · subst hme
      -- the variable is made
      obtain ⟨q0, rfl⟩ := hC
      unfold wpOp
      rw [hoA]
      dsimp only
      rw [if_pos (by unfold Region.wanted; rw [hgA])]
      refine .inl ?_
      unfold Oper.wp
      rw [hA]
      simp only [Oper.upon]
      rw [hdA]
      have hb : Below wb.heap.size wb (q0.w.alloc (.cells zs t)) := q0.h.alloc q0.h.size _
      have hq := (h _ hb).2 i hi'
      obtain ⟨oM, hoM, _, hdM⟩ := mask_after (m := i) hin hoA
      obtain ⟨v, _, hK⟩ := yieldsIn_of_qOp hoM hq
      have := float_rest (Q := Q) (A := A) (dA := dA) (m := i) (p := .pointer (some ⟨q0.w.heap.size, 0, none⟩)) hn h1 h2 h3 h4 hsel hd
        (fun q => T q.w q0.w.heap.size (hb.trans (q.h.mono hb.size)) q0.h.size (Bk.below (Bk.new _ _ _) q.h))
        f (listed.setIfInBounds i true) (a.put oM.dst v) (q0.w.alloc (.cells zs t)) ⟨BW.start _, rfl⟩ inv' hl' (by
          have : i < listed.size := by omega
          simp [this]) (by rw [he']; exact hK)
      rw [hdM, hdA] at this
      have e : (a.put (some dA) v).put (some dA) (.pointer (some ⟨q0.w.heap.size, 0, none⟩)) = a.put (some dA) (.pointer (some ⟨q0.w.heap.size, 0, none⟩)) := by simp [Act.put]
      rw [e] at this
      exact this
    · -- another one, whose value is the same in every class
      obtain ⟨_, o, ho, _⟩ := mem_ready.1 hi
      obtain ⟨d, hod, hds, hdo⟩ := hdst i o hin ho
      have hpin : ∀ (wb' : World) (v : Value), wpAnyQ P .any (maskAt m (l.take n)).toArray (Cls wb') (fun a' => a' = A) f ((listed.extract 0 n).setIfInBounds i true) (a.put o.dst v) → A.tmps[d]? = some v := fun wb' v hv => by
        have := pin (d := d) f _ _ hv (fun j oj hj hu => by
          obtain ⟨hjn, o', ho', hd'⟩ := mask_inv hj
          rw [← hd']
          by_cases e : j = i
          · subst e
            exfalso
            have : j < (listed.extract 0 n).size := by simp; omega
            simp [this] at hu
            omega
          · exact hdo j o' hjn e ho')
        rw [← this, hod]
        simp [Act.put, hsz, hds]
      have hq : ∀ wb', Below wb.heap.size wb wb' → qOp P l.toArray (Cls wb') i (wpAnyQ P .any (maskAt m (l.take n)).toArray (Cls wb') (fun a' => a' = A) f ((listed.extract 0 n).setIfInBounds i true)) a :=
        fun wb' hb => qOp_mask h4 hin hme ((h wb' hb).2 i hi')
      have hq' : qOp P l.toArray (Cls wb) i (fun a' => a'.tmps.size = s ∧ ∀ wb', Below wb.heap.size wb wb' → wpAnyQ P .any (maskAt m (l.take n)).toArray (Cls wb') (fun a' => a' = A) f ((listed.extract 0 n).setIfInBounds i true) a') a := by
        have hsz' : ∀ v, (a.put o.dst v).tmps.size = s := fun v => by rw [hod]; simp [Act.put, hsz]
        have h0 := hq wb (Below.refl _ _)
        unfold qOp at h0 hq ⊢
        rw [ho] at h0 ⊢
        dsimp only at h0 ⊢
        split
        · rename_i hw
          rw [if_pos hw] at h0
          obtain ⟨v, hv, hK⟩ := h0
          refine ⟨v, hv, hsz' v, fun wb' hb => ?_⟩
          have h5 := hq wb' hb
          rw [ho] at h5
          dsimp only at h5
          rw [if_pos hw] at h5
          obtain ⟨v', hv', hK'⟩ := h5
          have e1 := hpin wb v hK
          have e2 := hpin wb' v' hK'
          rw [e1] at e2
          cases e2
          exact hK'
        · rename_i hw
          refine ⟨hsz' _, fun wb' hb => ?_⟩
          have h5 := hq wb' hb
          rw [ho] at h5
          dsimp only at h5
          rw [if_neg hw] at h5
          exact h5
      refine wpOp_of_qOp (P := P) (ops := l.toArray) (C := Cls wb) (i := i) (w := w) (Q' := Q) hC (fun a' w' hC' hK => ?_) hq'
      refine float_head hn h1 h2 h3 h4 hsel hd hmn hoA hdA hgA hA hdst T f (listed.setIfInBounds i true) a' w' hC' inv' hl' ?_ hK.1 (by rw [he']; exact hK.2)
      rw [getD_set_ne false hme]
      exact hm

def floatB (l : List Oper) (n m dA s : Nat) : Bool :=
  decide (m < n) && (dstB l n s && (freeB l n m && (match l[m]? with | some o => decide (o.dst = some dA) && o.guard.isNone | none => false)))

/-- **A drawn region with a variable that is made at any time.** n: the operations ahead of the tail; m: the one that makes the variable; dA: its slot; s: how many slots there are. -/
theorem any_region_float {a : Act} {wb : World} {p : BW wb} {zs : Array Value} {t : TypeId} {oA : Oper} (n m dA s : Nat) (hB : Region.lexB .any (maskAt m (l.take n)).toArray = true) (hT : tailB l n = true) (hF : floatB l n m dA s = true)
    (hs : a.tmps.size = s) (hoA : l[m]? = some oA) (hA : ∀ ev (w : World), (execOp ev oA).run P w = .ok (.value (.pointer (some ⟨w.heap.size, 0, none⟩))) (w.alloc (.cells zs t)))
    (h : ∃ A : Act, (∀ wb', Below wb.heap.size wb wb' → wpQuiet P (maskAt m (l.take n)).toArray (fun w' => ∃ q : BW wb', w' = q.w) (fun a' => a' = A) (maskAt m (l.take n)) a) ∧
      ∀ (W : World) (g : Nat), Below wb.heap.size wb W → wb.heap.size ≤ g → Bk W g t zs → wpList P l.toArray Q (l.drop n) (A.put (some dA) (.pointer (some ⟨g, 0, none⟩))) W) :
    wpAny P .any l.toArray Q l.toArray.size (Array.replicate l.toArray.size false) a { p.w with drawn := p.w.drawn + 1 } := by
  obtain ⟨A, hW, T⟩ := h
  simp only [tailB, Bool.and_eq_true, decide_eq_true_eq] at hT
  obtain ⟨hn, h1, h2, h3, h4⟩ := hT
  simp only [floatB, Bool.and_eq_true, decide_eq_true_eq, hoA] at hF
  obtain ⟨hmn, f1, f2, f3, f4⟩ := hF
  simp only [Region.lexB, Bool.and_eq_true] at hB
  have hoA' : l.toArray[m]? = some oA := by simpa using hoA
  have hgA : oA.guard = none := by simpa using f4
  have hlen : (maskAt m (l.take n)).length = n := by rw [maskAt_len]; simp; omega
  have hdst : ∀ (i : Nat) (o : Oper), i < n → l.toArray[i]? = some o → ∃ d, o.dst = some d ∧ d < s ∧ ∀ (j : Nat) (o' : Oper), j < n → j ≠ i → l.toArray[j]? = some o' → o'.dst ≠ some d := fun i o hi ho => by
    have h := List.all_eq_true.1 f1 i (List.mem_range.2 hi)
    have ho' : l[i]? = some o := by simpa using ho
    rw [ho'] at h
    simp only [Option.bind_some] at h
    cases hd : o.dst with
    | none => rw [hd] at h; cases h
    | some d =>
      rw [hd] at h
      simp only [Bool.and_eq_true, decide_eq_true_eq] at h
      refine ⟨d, rfl, h.1, fun j o' hj hji hj' => ?_⟩
      have h5 := List.all_eq_true.1 h.2 j (List.mem_range.2 hj)
      have hj2 : l[j]? = some o' := by simpa using hj'
      rw [hj2] at h5
      simp only [Option.bind_some, Bool.or_eq_true, decide_eq_true_eq] at h5
      exact h5.resolve_left hji
  have hd : ∀ (i : Nat) (o : Oper), i < n → i ≠ m → l.toArray[i]? = some o → dA ∉ o.looksAt l.toArray ∧ o.dst ≠ some dA := fun i o hi him ho => by
    have ho' : l[i]? = some o := by simpa using ho
    refine ⟨?_, ?_⟩
    · unfold freeB at f2
      rw [hoA] at f2
      simp only [Option.bind_some, f3] at f2
      have h := List.all_eq_true.1 f2 i (List.mem_range.2 hi)
      rw [ho'] at h
      simpa using h
    · obtain ⟨d, e1, _, e2⟩ := hdst m oA hmn hoA'
      rw [f3] at e1
      cases e1
      exact e2 i o hi him ho
  have hsel : ∀ (i : Nat) (o : Oper) cs b, i < n → i ≠ m → l.toArray[i]? = some o → o.op ≠ .select cs b := fun i o cs b hi him ho =>
    Region.noSelect_spec hB.1 i o cs b (by rw [mask_get hi him]; exact ho)
  have inv0 : HeadInv .any l.toArray n (Array.replicate l.toArray.size false) :=
    ⟨by simp, fun j oj _ hl => (by rw [getD_replicate_false] at hl; cases hl), fun t _ ht => getD_in (by simpa using ht) (getD_replicate_false _ _)⟩
  have e : (Array.replicate l.toArray.size false).extract 0 n = Array.replicate (maskAt m (l.take n)).toArray.size false := by
    have hz : (maskAt m (l.take n)).toArray.size = n := by simpa using hlen
    rw [hz]
    apply Array.ext
    · simp; omega
    · intro j j1 j2; simp
  have H : ∀ wb', Below wb.heap.size wb wb' → wpAnyQ P .any (maskAt m (l.take n)).toArray (Cls wb') (fun a' => a' = A) n ((Array.replicate l.toArray.size false).extract 0 n) a := fun wb' hb => by
    have := wpAnyQ_lex (C := Cls wb') (md := .any) hB.1 (maskAt m (l.take n)) 0 (Array.replicate (maskAt m (l.take n)).toArray.size false) a (by simp) (by simpa using hB.2) (hW wb' hb)
    rw [hlen] at this
    rw [e]
    exact this
  have := float_head (P := P) (Q := Q) (A := A) hn h1 h2 h3 h4 hsel hd hmn hoA' f3 hgA hA hdst T n (Array.replicate l.toArray.size false) a { p.w with drawn := p.w.drawn + 1 } ⟨p.next { p.w with drawn := p.w.drawn + 1 } ⟨rfl, rfl, rfl, Nat.le_refl _, fun _ _ => rfl⟩, rfl⟩ inv0 (left_start _ _) (getD_replicate_false _ _) hs H
  rw [show n + (l.length - n) = l.toArray.size by simp; omega] at this
  exact this

theorem wp_region_float {id : Nat} {a : Act} {wb : World} {p : BW wb} {zs : Array Value} {t : TypeId} {oA : Oper} (n m dA s : Nat) (hm : P.follows .mixedOrders = true) (hB : Region.lexB .any (maskAt m (l.take n)).toArray = true) (hT : tailB l n = true) (hF : floatB l n m dA s = true)
    (hs : a.tmps.size = s) (hoA : l[m]? = some oA) (hA : ∀ ev (w : World), (execOp ev oA).run P w = .ok (.value (.pointer (some ⟨w.heap.size, 0, none⟩))) (w.alloc (.cells zs t)))
    (h : ∃ A : Act, (∀ wb', Below wb.heap.size wb wb' → wpQuiet P (maskAt m (l.take n)).toArray (fun w' => ∃ q : BW wb', w' = q.w) (fun a' => a' = A) (maskAt m (l.take n)) a) ∧
      ∀ (W : World) (g : Nat), Below wb.heap.size wb W → wb.heap.size ≤ g → Bk W g t zs → wpList P l.toArray Q (l.drop n) (A.put (some dA) (.pointer (some ⟨g, 0, none⟩))) W) :
    (Code.region id l.toArray true).wp P Q a p.w :=
  wp_region_any hm (any_region_float n m dA s hB hT hF hs hoA hA h)
end

end Go.Proofs.Sky
