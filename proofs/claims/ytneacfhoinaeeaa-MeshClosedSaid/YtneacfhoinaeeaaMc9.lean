/- A drawn region in which one call makes memory of which only its result's reading is known, at any time beside operations that read or call: walked once. Imports nothing of the translation. -/
import Derived.Test.YtneacfhoinaeeaaMc8


namespace Go.Proofs.Sky
section

open Go Go.RowKit

set_option linter.unusedVariables false

set_option linter.unusedSimpArgs false

section

variable {P : Program} {Q : Exit → Act → World → Prop} {l : List Oper} {n m dA : Nat} {A : Act}

theorem float_headW {wb : World} {oA : Oper} {s : Nat} {ds : List Nat} {Φ : World → Value → Prop} (hn : n < l.length) (h1 : Region.sinkB .any l.toArray n = true) (h2 : Region.chainB .any l.toArray n = true) (h3 : Region.seqB .any l.toArray (l.length - n) n (upto n (l.length - n)) = true) (h4 : headB l n = true)
    (hsel : ∀ (i : Nat) (o : Oper) cs b, i < n → i ≠ m → l.toArray[i]? = some o → o.op ≠ .select cs b)
    (hd : ∀ (i : Nat) (o : Oper), i < n → i ≠ m → l.toArray[i]? = some o → dA ∉ o.looksAt l.toArray ∧ o.dst ≠ some dA)
    (hmn : m < n) (hoA : l.toArray[m]? = some oA) (hdA : oA.dst = some dA) (hpin : pinB l n m ds = true)
    (hA : ∀ (a : Act) (q : BW wb), (∀ d ∈ ds, a.tmps[d]? = A.tmps[d]?) → Region.wanted oA (yielded l.toArray a.tmps) = true ∧ ∃ f args, (execOp a.eval oA).run P q.w = .ok (.enter f args) q.w ∧ Calls P f args q.w fun e w' => ∃ v, e = .returned v ∧ Below q.w.heap.size q.w w' ∧ Φ w' v)
    (hΦ : ∀ (W W' : World) (v : Value), Φ W v → Below W.heap.size W W' → Φ W' v)
    (hdst : ∀ (i : Nat) (o : Oper), i < n → l.toArray[i]? = some o → ∃ d, o.dst = some d ∧ d < s ∧ ∀ (j : Nat) (o' : Oper), j < n → j ≠ i → l.toArray[j]? = some o' → o'.dst ≠ some d)
    (T : ∀ (W : World) (v : Value), Below wb.heap.size wb W → Φ W v → wpList P l.toArray Q (l.drop n) (A.put (some dA) v) W) :
    ∀ (f : Nat) (listed : Array Bool) (a : Act) (w : World), Cls wb w → HeadInv .any l.toArray n listed → left listed n = f → listed.getD m false = false → a.tmps.size = s →
      (∀ wb', Below wb.heap.size wb wb' → wpAnyQ P .any (maskAt m (l.take n)).toArray (Cls wb') (fun a' => a' = A) f (listed.extract 0 n) a) →
      wpAny P .any l.toArray Q (f + (l.length - n)) listed a w
  | 0, listed, a, w, hC, inv, hf, hm, hsz, h => by
    have := left_zero listed n hf m hmn
    rw [hm] at this
    cases this
  | f + 1, listed, a, w, hC, inv, hf, hm, hsz, h => by
    rw [show f + 1 + (l.length - n) = (f + (l.length - n)) + 1 by omega]
    obtain ⟨hne, hstep⟩ := head_step (m := m) hn h1 h2 h4 inv hf
    refine ⟨fun h0 => absurd h0 hne, fun i hi => ?_⟩
    obtain ⟨hin, hi', hui, inv', hl', he'⟩ := hstep i hi
    have hls : n ≤ listed.size := by rw [inv.size]; simp; omega
    by_cases hme : i = m
    · subst hme
      -- the block is laid
      have hpins : ∀ d ∈ ds, a.tmps[d]? = A.tmps[d]? := fun d hdd => by
        refine pin (d := d) _ _ _ (h _ (Below.refl _ _)) (fun j oj hj hu e => ?_)
        obtain ⟨hjn, o', ho', hd'⟩ := mask_inv hj
        obtain ⟨_, oM, hoM, hafter⟩ := mem_ready.1 hi
        have hoM' : l[i]? = some oA := by simpa using hoA
        rw [hoA] at hoM
        cases hoM
        unfold pinB at hpin
        rw [hoM'] at hpin
        have k1 := List.all_eq_true.1 (List.all_eq_true.1 hpin d hdd) j (List.mem_range.2 hjn)
        have ho2 : l[j]? = some o' := by simpa using ho'
        rw [ho2] at k1
        simp only [Option.bind_some, hd', e, decide_true, Bool.not_true, Bool.false_or] at k1
        obtain ⟨ed, hed, he2⟩ := Array.any_eq_true'.1 k1
        simp only [Bool.and_eq_true, decide_eq_true_eq] at he2
        have k2 := hafter ed hed he2.1
        rw [he2.2] at k2
        have k3 : (listed.extract 0 n).getD j false = true := by rw [extract_getD _ _ _ _ hjn (by omega)]; exact k2
        rw [hu] at k3
        cases k3
      obtain ⟨q0, rfl⟩ := hC
      obtain ⟨hw, f', args, hrun, hcall⟩ := hA a q0 hpins
      unfold wpOp
      rw [hoA]
      dsimp only
      rw [if_pos hw]
      refine .inl ?_
      unfold Oper.wp
      rw [hrun]
      simp only [Oper.upon]
      refine hcall.mono ?_
      rintro e0 w' ⟨v, rfl, hb0, hφ⟩
      dsimp only
      rw [hdA]
      have hb : Below wb.heap.size wb w' := q0.h.trans (hb0.mono q0.h.size)
      have hq := (h _ hb).2 i hi'
      obtain ⟨oM, hoM, _, hdM⟩ := mask_after (m := i) hin hoA
      obtain ⟨v0, _, hK⟩ := yieldsIn_of_qOp hoM hq
      have := float_rest (Q := Q) (A := A) (dA := dA) (m := i) (p := v) hn h1 h2 h3 h4 hsel hd
        (fun q => T q.w v (hb.trans (q.h.mono hb.size)) (hΦ _ _ _ hφ q.h))
        f (listed.setIfInBounds i true) (a.put oM.dst v0) w' ⟨BW.start _, rfl⟩ inv' hl' (by
          have : i < listed.size := by omega
          simp [this]) (by rw [he']; exact hK)
      rw [hdM, hdA] at this
      have e : (a.put (some dA) v0).put (some dA) v = a.put (some dA) v := by simp [Act.put]
      rw [e] at this
      exact this
    · -- another one, whose value is the same in every class
      obtain ⟨_, o, ho, _⟩ := mem_ready.1 hi
      obtain ⟨d, hod, hds, hdo⟩ := hdst i o hin ho
      have hpin' : ∀ (wb' : World) (v : Value), wpAnyQ P .any (maskAt m (l.take n)).toArray (Cls wb') (fun a' => a' = A) f ((listed.extract 0 n).setIfInBounds i true) (a.put o.dst v) → A.tmps[d]? = some v := fun wb' v hv => by
        have := pin (d := d) f _ _ hv (fun j oj hj hu => by
          obtain ⟨hjn, o', ho', hd'⟩ := mask_inv hj
          rw [← hd']
          by_cases e : j = i
          · subst e
            exfalso
            have : j < (listed.extract 0 n).size := by simp; omega
            simp [this] at hu
            omega
          · exact hdo j o' hjn e ho')
        rw [← this, hod]
        simp [Act.put, hsz, hds]
      have hq : ∀ wb', Below wb.heap.size wb wb' → qOp P l.toArray (Cls wb') i (wpAnyQ P .any (maskAt m (l.take n)).toArray (Cls wb') (fun a' => a' = A) f ((listed.extract 0 n).setIfInBounds i true)) a :=
        fun wb' hb => qOp_mask h4 hin hme ((h wb' hb).2 i hi')
      have hq' : qOp P l.toArray (Cls wb) i (fun a' => a'.tmps.size = s ∧ ∀ wb', Below wb.heap.size wb wb' → wpAnyQ P .any (maskAt m (l.take n)).toArray (Cls wb') (fun a' => a' = A) f ((listed.extract 0 n).setIfInBounds i true) a') a := by
        have hsz' : ∀ v, (a.put o.dst v).tmps.size = s := fun v => by rw [hod]; simp [Act.put, hsz]
        have h0 := hq wb (Below.refl _ _)
        unfold qOp at h0 hq ⊢
        rw [ho] at h0 ⊢
        dsimp only at h0 ⊢
        split
        · rename_i hw
          rw [if_pos hw] at h0
          obtain ⟨v, hv, hK⟩ := h0
          refine ⟨v, hv, hsz' v, fun wb' hb => ?_⟩
          have h5 := hq wb' hb
          rw [ho] at h5
          dsimp only at h5
          rw [if_pos hw] at h5
          obtain ⟨v', hv', hK'⟩ := h5
          have e1 := hpin' wb v hK
          have e2 := hpin' wb' v' hK'
          rw [e1] at e2
          cases e2
          exact hK'
        · rename_i hw
          refine ⟨hsz' _, fun wb' hb => ?_⟩
          have h5 := hq wb' hb
          rw [ho] at h5
          dsimp only at h5
          rw [if_neg hw] at h5
          exact h5
      refine wpOp_of_qOp (P := P) (ops := l.toArray) (C := Cls wb) (i := i) (w := w) (Q' := Q) hC (fun a' w' hC' hK => ?_) hq'
      refine float_headW hn h1 h2 h3 h4 hsel hd hmn hoA hdA hpin hA hΦ hdst T f (listed.setIfInBounds i true) a' w' hC' inv' hl' ?_ hK.1 (by rw [he']; exact hK.2)
      rw [getD_set_ne false hme]
      exact hm

/-- **A drawn region with a call at any time whose result lies in memory that it made.** n: the operations ahead of the tail; m: the call; dA: its slot; s: how many slots there are; ds: the slots that m reads; Φ: what the result is in a world, and in all worlds above it. -/
theorem any_region_floatW {a : Act} {wb : World} {p : BW wb} {oA : Oper} (Φ : World → Value → Prop) (n m dA s : Nat) (ds : List Nat) (hB : Region.lexB .any (maskAt m (l.take n)).toArray = true) (hT : tailB l n = true) (hF : floatVB l n m dA s ds = true)
    (hs : a.tmps.size = s) (hoA : l[m]? = some oA)
    (h : ∃ A : Act, (∀ wb', Below wb.heap.size wb wb' → wpQuiet P (maskAt m (l.take n)).toArray (fun w' => ∃ q : BW wb', w' = q.w) (fun a' => a' = A) (maskAt m (l.take n)) a) ∧
      (∀ (a : Act) (q : BW wb), (∀ d ∈ ds, a.tmps[d]? = A.tmps[d]?) → Region.wanted oA (yielded l.toArray a.tmps) = true ∧ ∃ f args, (execOp a.eval oA).run P q.w = .ok (.enter f args) q.w ∧ Calls P f args q.w fun e w' => ∃ v, e = .returned v ∧ Below q.w.heap.size q.w w' ∧ Φ w' v) ∧
      (∀ (W W' : World) (v : Value), Φ W v → Below W.heap.size W W' → Φ W' v) ∧
      ∀ (W : World) (v : Value), Below wb.heap.size wb W → Φ W v → wpList P l.toArray Q (l.drop n) (A.put (some dA) v) W) :
    wpAny P .any l.toArray Q l.toArray.size (Array.replicate l.toArray.size false) a { p.w with drawn := p.w.drawn + 1 } := by
  obtain ⟨A, hW, hA, hΦ, T⟩ := h
  simp only [tailB, Bool.and_eq_true, decide_eq_true_eq] at hT
  obtain ⟨hn, h1, h2, h3, h4⟩ := hT
  simp only [floatVB, Bool.and_eq_true, decide_eq_true_eq, hoA] at hF
  obtain ⟨hmn, f1, f2, fp, f3⟩ := hF
  simp only [Region.lexB, Bool.and_eq_true] at hB
  have hoA' : l.toArray[m]? = some oA := by simpa using hoA
  have hlen : (maskAt m (l.take n)).length = n := by rw [maskAt_len]; simp; omega
  have hdst : ∀ (i : Nat) (o : Oper), i < n → l.toArray[i]? = some o → ∃ d, o.dst = some d ∧ d < s ∧ ∀ (j : Nat) (o' : Oper), j < n → j ≠ i → l.toArray[j]? = some o' → o'.dst ≠ some d := fun i o hi ho => by
    have h := List.all_eq_true.1 f1 i (List.mem_range.2 hi)
    have ho' : l[i]? = some o := by simpa using ho
    rw [ho'] at h
    simp only [Option.bind_some] at h
    cases hd : o.dst with
    | none => rw [hd] at h; cases h
    | some d =>
      rw [hd] at h
      simp only [Bool.and_eq_true, decide_eq_true_eq] at h
      refine ⟨d, rfl, h.1, fun j o' hj hji hj' => ?_⟩
      have h5 := List.all_eq_true.1 h.2 j (List.mem_range.2 hj)
      have hj2 : l[j]? = some o' := by simpa using hj'
      rw [hj2] at h5
      simp only [Option.bind_some, Bool.or_eq_true, decide_eq_true_eq] at h5
      exact h5.resolve_left hji
  have hd : ∀ (i : Nat) (o : Oper), i < n → i ≠ m → l.toArray[i]? = some o → dA ∉ o.looksAt l.toArray ∧ o.dst ≠ some dA := fun i o hi him ho => by
    have ho' : l[i]? = some o := by simpa using ho
    refine ⟨?_, ?_⟩
    · unfold freeB at f2
      rw [hoA] at f2
      simp only [Option.bind_some, f3] at f2
      have h := List.all_eq_true.1 f2 i (List.mem_range.2 hi)
      rw [ho'] at h
      simpa using h
    · obtain ⟨d, e1, _, e2⟩ := hdst m oA hmn hoA'
      rw [f3] at e1
      cases e1
      exact e2 i o hi him ho
  have hsel : ∀ (i : Nat) (o : Oper) cs b, i < n → i ≠ m → l.toArray[i]? = some o → o.op ≠ .select cs b := fun i o cs b hi him ho =>
    Region.noSelect_spec hB.1 i o cs b (by rw [mask_get hi him]; exact ho)
  have inv0 : HeadInv .any l.toArray n (Array.replicate l.toArray.size false) :=
    ⟨by simp, fun j oj _ hl => (by rw [getD_replicate_false] at hl; cases hl), fun t _ ht => getD_in (by simpa using ht) (getD_replicate_false _ _)⟩
  have e : (Array.replicate l.toArray.size false).extract 0 n = Array.replicate (maskAt m (l.take n)).toArray.size false := by
    have hz : (maskAt m (l.take n)).toArray.size = n := by simpa using hlen
    rw [hz]
    apply Array.ext
    · simp; omega
    · intro j j1 j2; simp
  have H : ∀ wb', Below wb.heap.size wb wb' → wpAnyQ P .any (maskAt m (l.take n)).toArray (Cls wb') (fun a' => a' = A) n ((Array.replicate l.toArray.size false).extract 0 n) a := fun wb' hb => by
    have := wpAnyQ_lex (C := Cls wb') (md := .any) hB.1 (maskAt m (l.take n)) 0 (Array.replicate (maskAt m (l.take n)).toArray.size false) a (by simp) (by simpa using hB.2) (hW wb' hb)
    rw [hlen] at this
    rw [e]
    exact this
  have := float_headW (P := P) (Q := Q) (A := A) hn h1 h2 h3 h4 hsel hd hmn hoA' f3 fp hA hΦ hdst T n (Array.replicate l.toArray.size false) a { p.w with drawn := p.w.drawn + 1 } ⟨p.next { p.w with drawn := p.w.drawn + 1 } ⟨rfl, rfl, rfl, Nat.le_refl _, fun _ _ => rfl⟩, rfl⟩ inv0 (left_start _ _) (getD_replicate_false _ _) hs H
  rw [show n + (l.length - n) = l.toArray.size by simp; omega] at this
  exact this

theorem wp_region_floatW {id : Nat} {a : Act} {wb : World} {p : BW wb} {oA : Oper} (Φ : World → Value → Prop) (n m dA s : Nat) (ds : List Nat) (hm : P.follows .mixedOrders = true) (hB : Region.lexB .any (maskAt m (l.take n)).toArray = true) (hT : tailB l n = true) (hF : floatVB l n m dA s ds = true)
    (hs : a.tmps.size = s) (hoA : l[m]? = some oA)
    (h : ∃ A : Act, (∀ wb', Below wb.heap.size wb wb' → wpQuiet P (maskAt m (l.take n)).toArray (fun w' => ∃ q : BW wb', w' = q.w) (fun a' => a' = A) (maskAt m (l.take n)) a) ∧
      (∀ (a : Act) (q : BW wb), (∀ d ∈ ds, a.tmps[d]? = A.tmps[d]?) → Region.wanted oA (yielded l.toArray a.tmps) = true ∧ ∃ f args, (execOp a.eval oA).run P q.w = .ok (.enter f args) q.w ∧ Calls P f args q.w fun e w' => ∃ v, e = .returned v ∧ Below q.w.heap.size q.w w' ∧ Φ w' v) ∧
      (∀ (W W' : World) (v : Value), Φ W v → Below W.heap.size W W' → Φ W' v) ∧
      ∀ (W : World) (v : Value), Below wb.heap.size wb W → Φ W v → wpList P l.toArray Q (l.drop n) (A.put (some dA) v) W) :
    (Code.region id l.toArray true).wp P Q a p.w :=
  wp_region_any hm (any_region_floatW Φ n m dA s ds hB hT hF hs hoA h)

end

end
end Go.Proofs.Sky
