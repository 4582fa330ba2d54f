/- A drawn region in which one call makes memory of which only its result -/
import Derived.Test.YtbmpmjdlaahekaaGreatWs5
import Derived.Test.YtbmpmjdlaahekaaGreatWs7
set_option maxRecDepth 100000
set_option maxHeartbeats 8000000
set_option linter.unusedVariables false
set_option linter.unusedSimpArgs false
namespace Go.Proofs.Sky
section
open Go Go.RowKit
section
variable {P : Program} {Q : Exit → Act → World → Prop} {l : List Oper} {n m dA : Nat} {A : Act}
theorem float_headW {wb : World} {oA : Oper} {s : Nat} {ds : List Nat} {Φ : World → Value → Prop} (hn : n < l.length) (h1 : Region.sinkB .any l.toArray n = true) (h2 : Region.chainB .any l.toArray n = true) (h3 : Region.seqB .any l.toArray (l.length - n) n (upto n (l.length - n)) = true) (h4 : headB l n = true)
  (hsel : ∀ (i : Nat) (o : Oper) cs b, i < n → i ≠ m → l.toArray[i]? = some o → o.op ≠ .select cs b)
  (hd : ∀ (i : Nat) (o : Oper), i < n → i ≠ m → l.toArray[i]? = some o → dA ∉ o.looksAt l.toArray ∧ o.dst ≠ some dA)
  (hmn : m < n) (hoA : l.toArray[m]? = some oA) (hdA : oA.dst = some dA) (hpin : pinB l n m ds = true)
  (hA : ∀ (a : Act) (q : BW wb), (∀ d ∈ ds, a.tmps[d]? = A.tmps[d]?) → Region.wanted oA (yielded l.toArray a.tmps) = true ∧ ∃ f args, (execOp a.eval oA).run P q.w = .ok (.enter f args) q.w ∧ Calls P f args q.w fun e w' => ∃ v, e = .returned v ∧ Below q.w.heap.size q.w w' ∧ Φ w' v)
  (hΦ : ∀ (W W' : World) (v : Value), Φ W v → Below W.heap.size W W' → Φ W' v)
  (hdst : ∀ (i : Nat) (o : Oper), i < n → l.toArray[i]? = some o → ∃ d, o.dst = some d ∧ d < s ∧ ∀ (j : Nat) (o' : Oper), j < n → j ≠ i → l.toArray[j]? = some o' → o'.dst ≠ some d)
  (T : ∀ (W : World) (v : Value), Below wb.heap.size wb W → Φ W v → wpList P l.toArray Q (l.drop n) (A.put (some dA) v) W) :
  ∀ (f : Nat) (listed : Array Bool) (a : Act) (w : World), Cls wb w → HeadInv .any l.toArray n listed → left listed n = f → listed.getD m false = false → a.tmps.size = s →
   (∀ wb', Below wb.heap.size wb wb' → wpAnyQ P .any (maskAt m (l.take n)).toArray (Cls wb') (fun a' => a' = A) f (listed.extract 0 n) a) →
   wpAny P .any l.toArray Q (f + (l.length - n)) listed a w
 | 0, listed, a, w, hC, inv, hf, hm, hsz, h => by
  have := left_zero listed n hf m hmn
  rw [hm] at this
  cases this
 | f + 1, listed, a, w, hC, inv, hf, hm, hsz, h => by
  rw [show f + 1 + (l.length - n) = (f + (l.length - n)) + 1 by omega]
  obtain ⟨hne, hstep⟩ := head_step (m := m) hn h1 h2 h4 inv hf
  refine ⟨fun h0 => absurd h0 hne, fun i hi => ?_⟩
  obtain ⟨hin, hi', hui, inv', hl', he'⟩ := hstep i hi
  have hls : n ≤ listed.size := by rw [inv.size]; simp; omega
  by_cases hme : i = m
  · subst hme
    -- the block is laid
    have hpins : ∀ d ∈ ds, a.tmps[d]? = A.tmps[d]? := fun d hdd => by
     refine pin (d := d) _ _ _ (h _ (Below.refl _ _)) (fun j oj hj hu e => ?_)
     obtain ⟨hjn, o', ho', hd'⟩ := mask_inv hj
     obtain ⟨_, oM, hoM, hafter⟩ := mem_ready.1 hi
     have hoM' : l[i]? = some oA := by simpa using hoA
     rw [hoA] at hoM
     cases hoM
     unfold pinB at hpin
     rw [hoM'] at hpin
     have k1 := List.all_eq_true.1 (List.all_eq_true.1 hpin d hdd) j (List.mem_range.2 hjn)
     have ho2 : l[j]? = some o' := by simpa using ho'
     rw [ho2] at k1
     simp only [Option.bind_some, hd', e, decide_true, Bool.not_true, Bool.false_or] at k1
     obtain ⟨ed, hed, he2⟩ := Array.any_eq_true'.1 k1
     simp only [Bool.and_eq_true, decide_eq_true_eq] at he2
     have k2 := hafter ed hed he2.1
     rw [he2.2] at k2
     have k3 : (listed.extract 0 n).getD j false = true := by rw [z12 _ _ _ _ hjn (by omega)]; exact k2
     rw [hu] at k3
     cases k3
    obtain ⟨q0, rfl⟩ := hC
    obtain ⟨hw, f', args, hrun, hcall⟩ := hA a q0 hpins
    unfold wpOp
    rw [hoA]
    dsimp only
    rw [if_pos hw]
    refine .inl ?_
    unfold Oper.wp
    rw [hrun]
    simp only [Oper.upon]
    refine hcall.mono ?_
    rintro e0 w' ⟨v, rfl, hb0, hφ⟩
    dsimp only
    rw [hdA]
    have hb : Below wb.heap.size wb w' := q0.h.trans (hb0.mono q0.h.size)
    have hq := (h _ hb).2 i hi'
    obtain ⟨oM, hoM, _, hdM⟩ := mask_after (m := i) hin hoA
    obtain ⟨v0, _, hK⟩ := yieldsIn_of_qOp hoM hq
    have := float_rest (Q := Q) (A := A) (dA := dA) (m := i) (p := v) hn h1 h2 h3 h4 hsel hd
     (fun q => T q.w v (hb.trans (q.h.mono hb.size)) (hΦ _ _ _ hφ q.h))
     f (listed.setIfInBounds i true) (a.put oM.dst v0) w' ⟨BW.start _, rfl⟩ inv' hl' (by
      have : i < listed.size := by omega
      simp [this]) (by rw [he']; exact hK)
    rw [hdM, hdA] at this
    have e : (a.put (some dA) v0).put (some dA) v = a.put (some dA) v := by simp [Act.put]
    rw [e] at this
    exact this
  · -- another one, whose value is the same in every class
    obtain ⟨_, o, ho, _⟩ := mem_ready.1 hi
    obtain ⟨d, hod, hds, hdo⟩ := hdst i o hin ho
    have hpin' : ∀ (wb' : World) (v : Value), wpAnyQ P .any (maskAt m (l.take n)).toArray (Cls wb') (fun a' => a' = A) f ((listed.extract 0 n).setIfInBounds i true) (a.put o.dst v) → A.tmps[d]? = some v := fun wb' v hv => by
     have := pin (d := d) f _ _ hv (fun j oj hj hu => by
      obtain ⟨hjn, o', ho', hd'⟩ := mask_inv hj
      rw [← hd']
      by_cases e : j = i
      · subst e
        exfalso
        have : j < (listed.extract 0 n).size := by simp; omega
        simp [this] at hu
        omega
      · exact hdo j o' hjn e ho')
     rw [← this, hod]
     simp [Act.put, hsz, hds]
    have hq : ∀ wb', Below wb.heap.size wb wb' → qOp P l.toArray (Cls wb') i (wpAnyQ P .any (maskAt m (l.take n)).toArray (Cls wb') (fun a' => a' = A) f ((listed.extract 0 n).setIfInBounds i true)) a :=
     fun wb' hb => qOp_mask h4 hin hme ((h wb' hb).2 i hi')
    have hq' : qOp P l.toArray (Cls wb) i (fun a' => a'.tmps.size = s ∧ ∀ wb', Below wb.heap.size wb wb' → wpAnyQ P .any (maskAt m (l.take n)).toArray (Cls wb') (fun a' => a' = A) f ((listed.extract 0 n).setIfInBounds i true) a') a := by
     have hsz' : ∀ v, (a.put o.dst v).tmps.size = s := fun v => by rw [hod]; simp [Act.put, hsz]
     have h0 := hq wb (Below.refl _ _)
     unfold qOp at h0 hq ⊢
     rw [ho] at h0 ⊢
     dsimp only at h0 ⊢
     split
     · rename_i hw
       rw [if_pos hw] at h0
       obtain ⟨v, hv, hK⟩ := h0
       refine ⟨v, hv, hsz' v, fun wb' hb => ?_⟩
       have h5 := hq wb' hb
       rw [ho] at h5
       dsimp only at h5
       rw [if_pos hw] at h5
       obtain ⟨v', hv', hK'⟩ := h5
       have e1 := hpin' wb v hK
       have e2 := hpin' wb' v' hK'
       rw [e1] at e2
       cases e2
       exact hK'
     · rename_i hw
       refine ⟨hsz' _, fun wb' hb => ?_⟩
       have h5 := hq wb' hb
       rw [ho] at h5
       dsimp only at h5
       rw [if_neg hw] at h5
       exact h5
    refine wpOp_of_qOp (P := P) (ops := l.toArray) (C := Cls wb) (i := i) (w := w) (Q' := Q) hC (fun a' w' hC' hK => ?_) hq'
    refine float_headW hn h1 h2 h3 h4 hsel hd hmn hoA hdA hpin hA hΦ hdst T f (listed.setIfInBounds i true) a' w' hC' inv' hl' ?_ hK.1 (by rw [he']; exact hK.2)
    rw [getD_set_ne false hme]
    exact hm
theorem any_region_floatW {a : Act} {wb : World} {p : BW wb} {oA : Oper} (Φ : World → Value → Prop) (n m dA s : Nat) (ds : List Nat) (hB : Region.lexB .any (maskAt m (l.take n)).toArray = true) (hT : tailB l n = true) (hF : floatVB l n m dA s ds = true)
  (hs : a.tmps.size = s) (hoA : l[m]? = some oA)
  (h : ∃ A : Act, (∀ wb', Below wb.heap.size wb wb' → wpQuiet P (maskAt m (l.take n)).toArray (fun w' => ∃ q : BW wb', w' = q.w) (fun a' => a' = A) (maskAt m (l.take n)) a) ∧
   (∀ (a : Act) (q : BW wb), (∀ d ∈ ds, a.tmps[d]? = A.tmps[d]?) → Region.wanted oA (yielded l.toArray a.tmps) = true ∧ ∃ f args, (execOp a.eval oA).run P q.w = .ok (.enter f args) q.w ∧ Calls P f args q.w fun e w' => ∃ v, e = .returned v ∧ Below q.w.heap.size q.w w' ∧ Φ w' v) ∧
   (∀ (W W' : World) (v : Value), Φ W v → Below W.heap.size W W' → Φ W' v) ∧
   ∀ (W : World) (v : Value), Below wb.heap.size wb W → Φ W v → wpList P l.toArray Q (l.drop n) (A.put (some dA) v) W) :
  wpAny P .any l.toArray Q l.toArray.size (Array.replicate l.toArray.size false) a { p.w with drawn := p.w.drawn + 1 } := by
 obtain ⟨A, hW, hA, hΦ, T⟩ := h
 simp only [tailB, Bool.and_eq_true, decide_eq_true_eq] at hT
 obtain ⟨hn, h1, h2, h3, h4⟩ := hT
 simp only [floatVB, Bool.and_eq_true, decide_eq_true_eq, hoA] at hF
 obtain ⟨hmn, f1, f2, fp, f3⟩ := hF
 simp only [Region.lexB, Bool.and_eq_true] at hB
 have hoA' : l.toArray[m]? = some oA := by simpa using hoA
 have hlen : (maskAt m (l.take n)).length = n := by rw [maskAt_len]; simp; omega
 have hdst : ∀ (i : Nat) (o : Oper), i < n → l.toArray[i]? = some o → ∃ d, o.dst = some d ∧ d < s ∧ ∀ (j : Nat) (o' : Oper), j < n → j ≠ i → l.toArray[j]? = some o' → o'.dst ≠ some d := fun i o hi ho => by
  have h := List.all_eq_true.1 f1 i (List.mem_range.2 hi)
  have ho' : l[i]? = some o := by simpa using ho
  rw [ho'] at h
  simp only [Option.bind_some] at h
  cases hd : o.dst with
  | none => rw [hd] at h; cases h
  | some d =>
   rw [hd] at h
   simp only [Bool.and_eq_true, decide_eq_true_eq] at h
   refine ⟨d, rfl, h.1, fun j o' hj hji hj' => ?_⟩
   have h5 := List.all_eq_true.1 h.2 j (List.mem_range.2 hj)
   have hj2 : l[j]? = some o' := by simpa using hj'
   rw [hj2] at h5
   simp only [Option.bind_some, Bool.or_eq_true, decide_eq_true_eq] at h5
   exact h5.resolve_left hji
 have hd : ∀ (i : Nat) (o : Oper), i < n → i ≠ m → l.toArray[i]? = some o → dA ∉ o.looksAt l.toArray ∧ o.dst ≠ some dA := fun i o hi him ho => by
  have ho' : l[i]? = some o := by simpa using ho
  refine ⟨?_, ?_⟩
  · unfold freeB at f2
    rw [hoA] at f2
    simp only [Option.bind_some, f3] at f2
    have h := List.all_eq_true.1 f2 i (List.mem_range.2 hi)
    rw [ho'] at h
    simpa using h
  · obtain ⟨d, e1, _, e2⟩ := hdst m oA hmn hoA'
    rw [f3] at e1
    cases e1
    exact e2 i o hi him ho
 have hsel : ∀ (i : Nat) (o : Oper) cs b, i < n → i ≠ m → l.toArray[i]? = some o → o.op ≠ .select cs b := fun i o cs b hi him ho =>
  Region.noSelect_spec hB.1 i o cs b (by rw [mask_get hi him]; exact ho)
 have inv0 : HeadInv .any l.toArray n (Array.replicate l.toArray.size false) :=
  ⟨by simp, fun j oj _ hl => (by rw [getD_replicate_false] at hl; cases hl), fun t _ ht => getD_in (by simpa using ht) (getD_replicate_false _ _)⟩
 have e : (Array.replicate l.toArray.size false).extract 0 n = Array.replicate (maskAt m (l.take n)).toArray.size false := by
  have hz : (maskAt m (l.take n)).toArray.size = n := by simpa using hlen
  rw [hz]
  apply Array.ext
  · simp; omega
  · intro j j1 j2; simp
 have H : ∀ wb', Below wb.heap.size wb wb' → wpAnyQ P .any (maskAt m (l.take n)).toArray (Cls wb') (fun a' => a' = A) n ((Array.replicate l.toArray.size false).extract 0 n) a := fun wb' hb => by
  have := wpAnyQ_lex (C := Cls wb') (md := .any) hB.1 (maskAt m (l.take n)) 0 (Array.replicate (maskAt m (l.take n)).toArray.size false) a (by simp) (by simpa using hB.2) (hW wb' hb)
  rw [hlen] at this
  rw [e]
  exact this
 have := float_headW (P := P) (Q := Q) (A := A) hn h1 h2 h3 h4 hsel hd hmn hoA' f3 fp hA hΦ hdst T n (Array.replicate l.toArray.size false) a { p.w with drawn := p.w.drawn + 1 } ⟨p.next { p.w with drawn := p.w.drawn + 1 } ⟨rfl, rfl, rfl, Nat.le_refl _, fun _ _ => rfl⟩, rfl⟩ inv0 (left_start _ _) (getD_replicate_false _ _) hs H
 rw [show n + (l.length - n) = l.toArray.size by simp; omega] at this
 exact this
theorem wp_region_floatW {id : Nat} {a : Act} {wb : World} {p : BW wb} {oA : Oper} (Φ : World → Value → Prop) (n m dA s : Nat) (ds : List Nat) (hm : P.follows .mixedOrders = true) (hB : Region.lexB .any (maskAt m (l.take n)).toArray = true) (hT : tailB l n = true) (hF : floatVB l n m dA s ds = true)
  (hs : a.tmps.size = s) (hoA : l[m]? = some oA)
  (h : ∃ A : Act, (∀ wb', Below wb.heap.size wb wb' → wpQuiet P (maskAt m (l.take n)).toArray (fun w' => ∃ q : BW wb', w' = q.w) (fun a' => a' = A) (maskAt m (l.take n)) a) ∧
   (∀ (a : Act) (q : BW wb), (∀ d ∈ ds, a.tmps[d]? = A.tmps[d]?) → Region.wanted oA (yielded l.toArray a.tmps) = true ∧ ∃ f args, (execOp a.eval oA).run P q.w = .ok (.enter f args) q.w ∧ Calls P f args q.w fun e w' => ∃ v, e = .returned v ∧ Below q.w.heap.size q.w w' ∧ Φ w' v) ∧
   (∀ (W W' : World) (v : Value), Φ W v → Below W.heap.size W W' → Φ W' v) ∧
   ∀ (W : World) (v : Value), Below wb.heap.size wb W → Φ W v → wpList P l.toArray Q (l.drop n) (A.put (some dA) v) W) :
  (Code.region id l.toArray true).wp P Q a p.w :=
 wp_region_any hm (any_region_floatW Φ n m dA s ds hB hT hF hs hoA h)
end
end
section
section
open Go.RowKit
def ballR (c : T3) (r : Int) : Bool := plc c && decide (4 ≤ r ∧ r ≤ 262144)
def ballM (c : T3) (r : Int) (o d : T3) : Bool := ballR c r && (plc o && (nrT d && !isZ d))
def ballQ (c : T3) (r : Int) (o : T3) : Int := dtT (sbT o c) (sbT o c) - r * r
def ballD (c : T3) (r : Int) (o d : T3) : Int := dtT (sbT o c) d * dtT (sbT o c) d - dtT d d * ballQ c r o
def ballS (c : T3) (r : Int) (o d : T3) : Int := (isq (ballD c r o d).toNat : Int)
def ballF (a b q s : Int) : (Int × Int) × Bool := if 0 < q ∧ b < 0 then ((-b - s, a), true) else if q ≤ 0 ∧ 0 < s - b then ((s - b, a), true) else ((0, 0), false)
def ballH (c : T3) (r : Int) (o d : T3) : (Int × Int) × Bool :=
 if ballM c r o d = true ∧ 0 ≤ ballD c r o d then ballF (dtT d d) (dtT (sbT o c) d) (ballQ c r o) (ballS c r o d) else ((0, 0), false)
def ballT (c : T3) (r : Int) (o d : T3) : (Int × Int) × Bool :=
 if ballM c r o d = true ∧ dtT (sbT o c) d < 0 then ((-2 * dtT (sbT o c) d, dtT d d), true) else ((0, 0), false)
def ballV (a b q n e : Int) : Int := a * n * n + 2 * b * n * e + q * e * e
theorem ballV_sq (a b q n : Int) : ballV a b q n a = a * ((n + b) * (n + b) - (b * b - a * q)) := by unfold ballV; grind
theorem sq_le_of {s b : Int} (hs : 0 ≤ s) (h : s * s < b * b) (hb : b < 0) : s < -b := by
 by_cases g : s < -b
 · exact g
 · have := Int.mul_self_le_mul_self (show 0 ≤ -b by omega) (show -b ≤ s by omega)
   rw [Int.neg_mul_neg] at this
   omega
theorem ball_met {a b q s : Int} (ha : 1 ≤ a) (hs : 0 ≤ s) (h1 : s * s ≤ b * b - a * q) (h2 : b * b - a * q < (s + 1) * (s + 1)) (hk : (ballF a b q s).2 = true) :
  1 ≤ (ballF a b q s).1.1 ∧ (ballF a b q s).1.2 = a ∧ ballV a b q (ballF a b q s).1.1 a ≤ 0 ∧ (q ≤ 0 → 0 < ballV a b q ((ballF a b q s).1.1 + 1) a) ∧ (¬ q ≤ 0 → 0 < ballV a b q ((ballF a b q s).1.1 - 1) a) ∧ ((ballF a b q s).1.1 = -b - s ∨ (ballF a b q s).1.1 = s - b) := by
 unfold ballF at hk ⊢
 have up : 0 < a * ((s + 1) * (s + 1) - (b * b - a * q)) := Int.mul_pos (by omega) (by omega)
 have dn : 0 ≤ a * ((b * b - a * q) - s * s) := Int.mul_nonneg (by omega) (by omega)
 by_cases c1 : 0 < q ∧ b < 0
 · rw [if_pos c1]
   dsimp only
   have pq : 0 < a * q := Int.mul_pos (by omega) c1.1
   have sl := sq_le_of hs (show s * s < b * b by omega) c1.2
   rw [ballV_sq, ballV_sq, ballV_sq]
   refine ⟨by omega, rfl, ?_, fun h => by omega, fun _ => ?_, .inl rfl⟩
   · have e : a * ((-b - s + b) * (-b - s + b) - (b * b - a * q)) = -(a * ((b * b - a * q) - s * s)) := by grind
     omega
   · have e : a * ((-b - s - 1 + b) * (-b - s - 1 + b) - (b * b - a * q)) = a * ((s + 1) * (s + 1) - (b * b - a * q)) := by grind
     omega
 · rw [if_neg c1] at hk ⊢
   by_cases c2 : q ≤ 0 ∧ 0 < s - b
   · rw [if_pos c2]
     dsimp only
     rw [ballV_sq, ballV_sq, ballV_sq]
     refine ⟨by omega, rfl, ?_, fun _ => ?_, fun h => absurd c2.1 h, .inr rfl⟩
     · have e : a * ((s - b + b) * (s - b + b) - (b * b - a * q)) = -(a * ((b * b - a * q) - s * s)) := by grind
       omega
     · have e : a * ((s - b + 1 + b) * (s - b + 1 + b) - (b * b - a * q)) = a * ((s + 1) * (s + 1) - (b * b - a * q)) := by grind
       omega
   · rw [if_neg c2] at hk
     cases hk
end
end
section
section
open Go.RowKit
theorem dtT_pos {d : T3} (h : isZ d = false) : 1 ≤ dtT d d := by
 unfold isZ at h
 have hz' := of_decide_eq_false h
 have s1 : ∀ x : Int, ¬ x = 0 → 0 < x * x := fun x hx => by
  rcases Int.lt_or_gt_of_ne hx with h | h
  · rw [← Int.neg_mul_neg]; exact Int.mul_pos (by omega) (by omega)
  · exact Int.mul_pos h h
 have t1 := s1 d.1; have t2 := s1 d.2.1; have t3 := s1 d.2.2
 have a4 := z0i d.1; have a5 := z0i d.2.1; have a6 := z0i d.2.2
 unfold dtT
 omega
theorem sbT_vs {u v : T3} (hu : plc u = true) (hv : plc v = true) : (vsub u.1 v.1, vsub u.2.1 v.2.1, vsub u.2.2 v.2.2) = sbT u v := by
 rw [z0a] at hu hv
 have sx : ∀ x y : Int, -524288 ≤ x ∧ x ≤ 524288 → -524288 ≤ y ∧ y ≤ 524288 → vsub x y = x - y := fun x y hx hy => by
  unfold vsub sat
  rw [if_neg (by omega), if_neg (by omega), if_neg (by omega), if_neg (by omega)]
  omega
 unfold sbT
 rw [sx _ _ (by omega) (by omega), sx _ _ (by omega) (by omega), sx _ _ (by omega) (by omega)]
theorem vdot_dtT {u v : T3} (hu : nrT u = true) (hv : nrT v = true) : vdot u.1 u.2.1 u.2.2 v.1 v.2.1 v.2.2 = dtT u v := by
 unfold vdot
 rw [if_pos ⟨hu, hv⟩]
 rfl
theorem dtT_near {u v : T3} (hu : nrT u = true) (hv : nrT v = true) : -3298534883328 ≤ dtT u v ∧ dtT u v ≤ 3298534883328 := by
 unfold nrT at hu hv
 rw [z0t] at hu hv
 have p1 := z0n (x := u.1) (a := v.1) (by omega) (by omega)
 have p2 := z0n (x := u.2.1) (a := v.2.1) (by omega) (by omega)
 have p3 := z0n (x := u.2.2) (a := v.2.2) (by omega) (by omega)
 unfold dtT
 omega
theorem vdot_in (x y z a b c : Int) : -3298534883328 ≤ vdot x y z a b c ∧ vdot x y z a b c ≤ 3298534883328 := by
 unfold vdot
 split
 · rename_i h
   exact dtT_near (u := (x, y, z)) (v := (a, b, c)) h.1 h.2
 · omega
theorem ballR_eq (c : T3) (r : Int) : ballR c r = (plc c && (decide (4 ≤ r) && decide (r ≤ 262144))) := by
 unfold ballR; rw [Bool.decide_and]
theorem ballR_iff {c : T3} {r : Int} : ballR c r = true ↔ plc c = true ∧ 4 ≤ r ∧ r ≤ 262144 := by unfold ballR; simp
theorem rr_in {r : Int} (h : 4 ≤ r ∧ r ≤ 262144) : -68719476736 ≤ r * r ∧ r * r ≤ 68719476736 := mul_in (N := 262144) (M := 262144) (by omega) (by omega)
theorem vdot_self (x y z : Int) : 0 ≤ vdot x y z x y z := by
 unfold vdot
 split
 · have a4 := z0i x; have a5 := z0i y; have a6 := z0i z
   omega
 · omega
def ballG (a b z : Int) : (Int × Int) × Bool :=
 if 0 ≤ b * b - a * z ∧ 1 ≤ a then ballF a b z (isq (b * b - a * z).toNat : Int) else ((0, 0), false)
theorem ballG_none (b z : Int) : ballG 0 b z = ((0, 0), false) := by
 unfold ballG
 rw [if_neg (fun e => by omega)]
theorem ballH_G {c o d : T3} {r : Int} (hr : ballR c r = true) (ho : plc o = true) :
  ballH c r o d = ballG (vdot d.1 d.2.1 d.2.2 d.1 d.2.1 d.2.2) (vdot (sbT o c).1 (sbT o c).2.1 (sbT o c).2.2 d.1 d.2.1 d.2.2) (ballQ c r o) := by
 have hc := (ballR_iff.1 hr).1
 unfold ballH ballM
 cases hn : nrT d with
 | false =>
  rw [if_neg (by simp)]
  have e : vdot d.1 d.2.1 d.2.2 d.1 d.2.1 d.2.2 = 0 := by unfold vdot; rw [if_neg]; rintro ⟨h, _⟩; unfold nrT at hn; rw [h] at hn; cases hn
  rw [e, ballG_none]
 | true =>
  rw [vdot_dtT hn hn, vdot_dtT (nr_sb ho hc) hn]
  cases hz : isZ d with
  | true =>
   rw [if_neg (by simp)]
   have e : dtT d d = 0 := by rw [isZ_eq hz]; rfl
   rw [e, ballG_none]
  | false =>
   have hp := dtT_pos hz
   rw [hr, ho]
   unfold ballG ballS ballD
   by_cases hD : 0 ≤ dtT (sbT o c) d * dtT (sbT o c) d - dtT d d * ballQ c r o
   · rw [if_pos ⟨rfl, hD⟩, if_pos ⟨hD, hp⟩]
   · rw [if_neg (fun e => hD e.2), if_neg (fun e => hD e.1)]
theorem isq_self (b : Int) : (isq (b * b).toNat : Int) = if b < 0 then -b else b := by
 have h : isq (b * b).toNat = b.natAbs := by
  apply isq_eq
  have e : (b * b).toNat = b.natAbs * b.natAbs := by
   rw [← Int.natAbs_mul_self]
   exact Int.toNat_natCast _
  unfold IsRoot
  rw [e]
  exact ⟨Nat.le_refl _, Nat.mul_self_lt_mul_self (Nat.lt_succ_self _)⟩
 rw [h]
 split <;> omega
theorem ballT_G {c o d : T3} {r : Int} (hr : ballR c r = true) (ho : plc o = true) :
  ballT c r o d = ballG (vdot d.1 d.2.1 d.2.2 d.1 d.2.1 d.2.2) (vdot (sbT o c).1 (sbT o c).2.1 (sbT o c).2.2 d.1 d.2.1 d.2.2) 0 := by
 have hc := (ballR_iff.1 hr).1
 unfold ballT ballM
 cases hn : nrT d with
 | false =>
  rw [if_neg (by simp)]
  have e : vdot d.1 d.2.1 d.2.2 d.1 d.2.1 d.2.2 = 0 := by unfold vdot; rw [if_neg]; rintro ⟨h, _⟩; unfold nrT at hn; rw [h] at hn; cases hn
  rw [e, ballG_none]
 | true =>
  rw [vdot_dtT hn hn, vdot_dtT (nr_sb ho hc) hn]
  cases hz : isZ d with
  | true =>
   rw [if_neg (by simp)]
   have e : dtT d d = 0 := by rw [isZ_eq hz]; rfl
   rw [e, ballG_none]
  | false =>
   have hp := dtT_pos hz
   rw [hr, ho]
   unfold ballG
   generalize dtT (sbT o c) d = b at *
   have e : (if 0 ≤ b * b - dtT d d * 0 ∧ 1 ≤ dtT d d then ballF (dtT d d) b 0 (isq (b * b - dtT d d * 0).toNat : Int) else ((0, 0), false)) = ballF (dtT d d) b 0 (if b < 0 then -b else b) := by
    rw [Int.mul_zero, Int.sub_zero, if_pos ⟨z0i b, hp⟩, isq_self]
   rw [e]
   unfold ballF
   by_cases hb : b < 0
   · rw [if_pos ⟨rfl, hb⟩, if_pos hb, if_neg (by omega), if_pos ⟨by omega, by omega⟩]
     simp only [Prod.mk.injEq, and_true]
     omega
   · rw [if_neg (fun e => hb e.2), if_neg hb, if_neg (by omega), if_neg (by omega)]
theorem sq_zero {x : Int} (h : x * x ≤ 0) : x = 0 := by
 rcases Int.lt_trichotomy x 0 with g | g | g
 · have := Int.mul_pos (show 0 < -x by omega) (show 0 < -x by omega)
   rw [Int.neg_mul_neg] at this
   omega
 · exact g
 · have := Int.mul_pos g g
   omega
theorem ballQ_in {c o : T3} {r : Int} (h1 : plc c = true) (h2 : plc o = true) (h3 : 4 ≤ r ∧ r ≤ 262144) : -3298534883328 ≤ ballQ c r o ∧ ballQ c r o ≤ 3298534883328 := by
 have nn := nr_sb h2 h1
 have ds := dtT_near nn nn
 have d0 : 0 ≤ dtT (sbT o c) (sbT o c) := by
  have a4 := z0i (sbT o c).1; have a5 := z0i (sbT o c).2.1; have a6 := z0i (sbT o c).2.2
  unfold dtT
  omega
 have ir := rr_in h3
 have r0 := z0i r
 unfold ballQ
 omega
end
end
end Go.Proofs.Sky
