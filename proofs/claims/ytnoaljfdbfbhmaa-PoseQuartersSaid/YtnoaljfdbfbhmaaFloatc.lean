/- As XFloatb, where the first variable's value may be laid ahead of other operations of the head (a store that others need not wait for). Imports nothing of the translation. -/
import Derived.Test.YtnoaljfdbfbhmaaFloatb
namespace Go.Proofs.Sky
open Go Go.RowKit
set_option linter.unusedVariables false
set_option linter.unusedSimpArgs false

/-- The head, with operations m1, m2 and m3 yielding nothing yet. -/
def mask3 (m1 m2 m3 : Nat) (l : List Oper) : List Oper := maskAt m3 (mask2 m1 m2 l)
theorem mask3_len (m1 m2 m3 : Nat) (l : List Oper) : (mask3 m1 m2 m3 l).length = l.length := by
  unfold mask3; rw [maskAt_len, mask2_len]
theorem mask3_get (m1 m2 m3 : Nat) (l : List Oper) (i : Nat) : (mask3 m1 m2 m3 l)[i]? = (l[i]?).map (fun o => if i = m3 ∨ i = m1 ∨ i = m2 then { o with op := .assign (.const undef) } else o) := by
  unfold mask3
  rw [maskAt_get, mask2_get, Option.map_map]
  congr 1
  funext o
  by_cases h2 : i = m1 ∨ i = m2
  · by_cases h1 : i = m3
    · simp only [Function.comp, if_pos h1, if_pos (Or.inl h1 : i = m3 ∨ i = m1 ∨ i = m2), if_pos h2]
    · simp only [Function.comp, if_neg h1, if_pos (Or.inr h2 : i = m3 ∨ i = m1 ∨ i = m2), if_pos h2]
  · by_cases h1 : i = m3
    · simp only [Function.comp, if_pos h1, if_pos (Or.inl h1 : i = m3 ∨ i = m1 ∨ i = m2), if_neg h2]
    · simp only [Function.comp, if_neg h1, if_neg (fun e : i = m3 ∨ i = m1 ∨ i = m2 => e.elim h1 h2), if_neg h2]

section
variable {P : Program} {Q : Exit → Act → World → Prop} {l : List Oper} {n m1 m2 m3 d1 d2 : Nat} {A : Act}

theorem mask3_same {i : Nat} (hi : i < n) (h1 : i ≠ m1) (h2 : i ≠ m2) (h3 : i ≠ m3) : (mask3 m1 m2 m3 (l.take n)).toArray[i]? = l.toArray[i]? := by
  simp [mask3_get, hi, h1, h2, h3]
theorem mask3_dst (i : Nat) : ((mask3 m1 m2 m3 (l.take n)).toArray[i]?).bind (·.dst) = ((l.take n).toArray[i]?).bind (·.dst) := by
  simp only [List.getElem?_toArray, mask3_get]
  cases (List.take n l)[i]? with
  | none => rfl
  | some o =>
    simp only [Option.map_some, Option.bind_some]
    split <;> rfl
theorem mask3_after {i : Nat} {o : Oper} (hi : i < n) (ho : l.toArray[i]? = some o) : ∃ o', (mask3 m1 m2 m3 (l.take n)).toArray[i]? = some o' ∧ o'.after = o.after ∧ o'.dst = o.dst := by
  have ho' : l[i]? = some o := by simpa using ho
  refine ⟨if i = m3 ∨ i = m1 ∨ i = m2 then { o with op := .assign (.const undef) } else o, ?_, ?_, ?_⟩
  · simp [mask3_get, hi, ho']
  · split <;> rfl
  · split <;> rfl
theorem wanted_mask3 {o : Oper} (tmps : Array Value) (hg : ∀ g, o.guard = some g → g.1 < n) : Region.wanted o (yielded (mask3 m1 m2 m3 (l.take n)).toArray tmps) = Region.wanted o (yielded l.toArray tmps) := by
  rw [← wanted_take (l := l) tmps hg]
  unfold Region.wanted
  cases h : o.guard with
  | none => rfl
  | some g =>
    obtain ⟨j, b⟩ := g
    dsimp only
    unfold yielded
    rw [mask3_dst]
theorem qOp_mask3 {C : World → Prop} {i : Nat} {K : Act → Prop} {a : Act} (hB : headB l n = true) (hi : i < n) (h1 : i ≠ m1) (h2 : i ≠ m2) (h3 : i ≠ m3) (h : qOp P (mask3 m1 m2 m3 (l.take n)).toArray C i K a) : qOp P l.toArray C i K a := by
  unfold qOp at *
  rw [mask3_same hi h1 h2 h3] at h
  cases ho : l.toArray[i]? with
  | none => rw [ho] at h; exact h
  | some o =>
    rw [ho] at h
    dsimp only at *
    rw [← wanted_mask3 (l := l) (n := n) (m1 := m1) (m2 := m2) (m3 := m3) a.tmps (head_of hB hi ho).2]
    exact h
theorem head_step3 (hn : n < l.length) (h1 : Region.sinkB .any l.toArray n = true) (h2 : Region.chainB .any l.toArray n = true) (h4 : headB l n = true) {f : Nat} {listed : Array Bool} (inv : HeadInv .any l.toArray n listed) (hf : left listed n = f + 1) :
    Region.ready .any l.toArray listed ≠ [] ∧ ∀ i ∈ Region.ready .any l.toArray listed, i < n ∧ i ∈ Region.ready .any (mask3 m1 m2 m3 (l.take n)).toArray (listed.extract 0 n) ∧ listed.getD i false = false ∧
      HeadInv .any l.toArray n (listed.setIfInBounds i true) ∧ left (listed.setIfInBounds i true) n = f ∧ (listed.setIfInBounds i true).extract 0 n = (listed.extract 0 n).setIfInBounds i true := by
  have hsz : listed.size = l.length := by rw [inv.size]; simp
  obtain ⟨g0, g1⟩ := head_step (m := n) hn h1 h2 h4 inv hf
  refine ⟨g0, fun i hi => ?_⟩
  obtain ⟨hin, _, k2, k3, k4, k5⟩ := g1 i hi
  refine ⟨hin, ?_, k2, k3, k4, k5⟩
  obtain ⟨a1, o, a2, a3⟩ := mem_ready.1 hi
  obtain ⟨o', b1, b2, b3⟩ := mask3_after (m1 := m1) (m2 := m2) (m3 := m3) hin a2
  refine mem_ready.2 ⟨?_, o', b1, fun e he hb => ?_⟩
  · rw [extract_getD _ _ _ _ hin (by omega)]; exact a1
  · rw [b2] at he
    have := (head_of h4 hin a2).1 e he hb
    rw [extract_getD _ _ _ _ (by omega) (by omega)]
    exact a3 e he hb
theorem mask3_inv {j : Nat} {oj : Oper} (h : (mask3 m1 m2 m3 (l.take n)).toArray[j]? = some oj) : j < n ∧ ∃ o, l.toArray[j]? = some o ∧ o.dst = oj.dst := by
  have h' : (mask3 m1 m2 m3 (l.take n))[j]? = some oj := by simpa using h
  rw [mask3_get, List.getElem?_take] at h'
  by_cases hj : j < n
  · refine ⟨hj, ?_⟩
    rw [if_pos hj] at h'
    cases ho : l[j]? with
    | none => rw [ho] at h'; cases h'
    | some o =>
      rw [ho] at h'
      have h' := Option.some.inj h'
      refine ⟨o, by simpa using ho, ?_⟩
      rw [← h']
      split <;> rfl
  · rw [if_neg hj] at h'; cases h'
/-- The same value in every class. -/
theorem same_pin3 {C C' : World → Prop} {s i f : Nat} {o oM : Oper} {listed : Array Bool} {a : Act} {v v' : Value} (hin : i < n) (hi3 : i ≠ m3) (hls : n ≤ listed.size) (ho : l.toArray[i]? = some o) (hdM : oM.dst = o.dst) (hsz : a.tmps.size = s)
    (hdst : ∀ (i : Nat) (o : Oper), i < n → i ≠ m3 → l.toArray[i]? = some o → ∃ d, o.dst = some d ∧ d < s ∧ ∀ (j : Nat) (o' : Oper), j < n → j ≠ i → l.toArray[j]? = some o' → o'.dst ≠ some d)
    (h1 : wpAnyQ P .any (mask3 m1 m2 m3 (l.take n)).toArray C (fun a' => a' = A) f ((listed.extract 0 n).setIfInBounds i true) (a.put oM.dst v))
    (h2 : wpAnyQ P .any (mask3 m1 m2 m3 (l.take n)).toArray C' (fun a' => a' = A) f ((listed.extract 0 n).setIfInBounds i true) (a.put oM.dst v')) : v = v' := by
  obtain ⟨d, hd0, hds, hdo⟩ := hdst i o hin hi3 ho
  have all : ∀ {C : World → Prop} {v : Value}, wpAnyQ P .any (mask3 m1 m2 m3 (l.take n)).toArray C (fun a' => a' = A) f ((listed.extract 0 n).setIfInBounds i true) (a.put oM.dst v) → A.tmps[d]? = some v := fun {C v} h => by
    have := pin (d := d) f _ _ h (fun j oj hj hu => by
      obtain ⟨hjn, o', ho', hd'⟩ := mask3_inv hj
      rw [← hd']
      by_cases e : j = i
      · subst e
        exfalso
        have : j < (listed.extract 0 n).size := by simp; omega
        simp [this] at hu
        omega
      · exact hdo j o' hjn e ho')
    rw [← this, hdM, hd0]
    simp [Act.put, hsz, hds]
  have e1 := all h1
  have e2 := all h2
  rw [e1] at e2
  cases e2
  rfl
theorem float3 {wb : World} {oA oB oS : Oper} {z1 y1 z2 : Array Value} {t1 t2 : TypeId} {s : Nat} (hn : n < l.length) (h1 : Region.sinkB .any l.toArray n = true) (h2 : Region.chainB .any l.toArray n = true) (h3 : Region.seqB .any l.toArray (l.length - n) n (upto n (l.length - n)) = true) (h4 : headB l n = true)
    (hsel : ∀ (i : Nat) (o : Oper) cs b, i < n → i ≠ m1 → i ≠ m2 → i ≠ m3 → l.toArray[i]? = some o → o.op ≠ .select cs b)
    (hd : ∀ (i : Nat) (o : Oper), i < n → i ≠ m1 → i ≠ m2 → i ≠ m3 → l.toArray[i]? = some o → (d1 ∉ o.looksAt l.toArray ∧ o.dst ≠ some d1) ∧ (d2 ∉ o.looksAt l.toArray ∧ o.dst ≠ some d2))
    (hm12 : m1 ≠ m2) (hm13 : m1 ≠ m3) (hm23 : m2 ≠ m3) (hd12 : d1 ≠ d2)
    (hm1 : m1 < n) (hoA : l.toArray[m1]? = some oA) (hdA : oA.dst = some d1) (hgA : oA.guard = none) (hA : ∀ ev (w : World), (execOp ev oA).run P w = .ok (.value (.pointer (some ⟨w.heap.size, 0, none⟩))) (w.alloc (.cells z1 t1)))
    (hm2 : m2 < n) (hoB : l.toArray[m2]? = some oB) (hdB : oB.dst = some d2) (hgB : oB.guard = none) (hA2 : ∀ ev (w : World), (execOp ev oB).run P w = .ok (.value (.pointer (some ⟨w.heap.size, 0, none⟩))) (w.alloc (.cells z2 t2)))
    (hm3 : m3 < n) (hoS : l.toArray[m3]? = some oS) (hdS : oS.dst = none) (hgS : oS.guard = none) {dv c : Nat} (hdep : ∃ e ∈ oS.after, Region.binds .any e = true ∧ e.on = m1) (hdepv : ∃ e ∈ oS.after, Region.binds .any e = true ∧ e.on = c) (hcv : ∀ (j : Nat) (o : Oper), j < n → j ≠ c → l.toArray[j]? = some o → o.dst ≠ some dv) (hv1 : dv ≠ d1) (hv2 : dv ≠ d2)
    (stored : World → Nat → World) (hS : ∀ (a : Act) (W : World) (g : Nat), a.tmps[d1]? = some (.pointer (some ⟨g, 0, none⟩)) → a.tmps[dv]? = A.tmps[dv]? → Bk W g t1 z1 → ∃ v, (execOp a.eval oS).run P W = .ok v (stored W g) ∧ (v = .skip ∨ ∃ u, v = .value u))
    (hS2 : ∀ (W : World) (g : Nat), Bk W g t1 z1 → Bk (stored W g) g t1 y1 ∧ (stored W g).os = W.os ∧ (stored W g).tape = W.tape ∧ (stored W g).output = W.output ∧ (stored W g).heap.size = W.heap.size ∧ ∀ b, b ≠ g → (stored W g).heap[b]? = W.heap[b]?)
    (hdst : ∀ (i : Nat) (o : Oper), i < n → i ≠ m3 → l.toArray[i]? = some o → ∃ d, o.dst = some d ∧ d < s ∧ ∀ (j : Nat) (o' : Oper), j < n → j ≠ i → l.toArray[j]? = some o' → o'.dst ≠ some d)
    (T : ∀ (W : World) (g1 g2 : Nat), Below wb.heap.size wb W → wb.heap.size ≤ g1 → wb.heap.size ≤ g2 → g1 ≠ g2 → Bk W g1 t1 y1 → Bk W g2 t2 z2 → wpList P l.toArray Q (l.drop n) (putO d2 (some g2) (putO d1 (some g1) A)) W) :
    ∀ (f : Nat) (listed : Array Bool) (a : Act) (wk w : World) (o1 o2 : Option Nat) (st : Bool), Below wb.heap.size wb wk → Cls wk w → HeadInv .any l.toArray n listed → left listed n = f →
      (listed.getD m1 false = o1.isSome) → (listed.getD m2 false = o2.isSome) → (listed.getD m3 false = st) → (st = true → o1.isSome = true) → Lies wb wk t1 (if st then y1 else z1) o1 → Lies wb wk t2 z2 o2 → (∀ g1 g2, o1 = some g1 → o2 = some g2 → g1 ≠ g2) → a.tmps.size = s →
      (∀ wb', Below wb.heap.size wb wb' → wpAnyQ P .any (mask3 m1 m2 m3 (l.take n)).toArray (Cls wb') (fun a' => a' = A) f (listed.extract 0 n) a) →
      wpAny P .any l.toArray Q (f + (l.length - n)) listed (putO d2 o2 (putO d1 o1 a)) w
  | 0, listed, a, wk, w, o1, o2, st, hbk, hC, inv, hf, hl1, hl2, hl3, hst, hL1, hL2, hne, hsz, h => by
    have e := all_listed hn inv hf
    have hdl : (l.drop n).length = l.length - n := by simp
    obtain ⟨q, rfl⟩ := hC
    have ea : a = A := (h _ (Below.refl _ _)).2
    subst ea
    have e1 := left_zero listed n hf m1 hm1
    have e2 := left_zero listed n hf m2 hm2
    rw [hl1] at e1
    rw [hl2] at e2
    obtain ⟨g1, rfl⟩ := Option.isSome_iff_exists.1 e1
    obtain ⟨g2, rfl⟩ := Option.isSome_iff_exists.1 e2
    have e3 := left_zero listed n hf m3 hm3
    rw [hl3] at e3
    subst e3
    rw [if_pos rfl] at hL1
    have := wpAny_of_seq (md := .any) (Q' := Q) (l.drop n) n listed (putO d2 (some g2) (putO d1 (some g1) a)) q.w (fun j => by simp [List.getElem?_drop]) (by rw [hdl, e]; exact h3)
      (T q.w g1 g2 (hbk.trans (q.h.mono hbk.size)) hL1.1 hL2.1 (hne _ _ rfl rfl) (hL1.2.below q.h) (hL2.2.below q.h))
    rw [hdl] at this
    rw [Nat.zero_add]
    exact this
  | f + 1, listed, a, wk, w, o1, o2, st, hbk, hC, inv, hf, hl1, hl2, hl3, hst, hL1, hL2, hne, hsz, h => by
    rw [show f + 1 + (l.length - n) = (f + (l.length - n)) + 1 by omega]
    obtain ⟨hne0, hstep⟩ := head_step3 (m1 := m1) (m2 := m2) (m3 := m3) hn h1 h2 h4 inv hf
    refine ⟨fun h0 => absurd h0 hne0, fun i hi => ?_⟩
    obtain ⟨hin, hi', hui, inv', hl', he'⟩ := hstep i hi
    have hls : n ≤ listed.size := by rw [inv.size]; simp; omega
    by_cases he1 : i = m1
    · have hoi : l.toArray[i]? = some oA := by rw [he1]; exact hoA
      have hlk : listed.getD i false = o1.isSome := by rw [he1]; exact hl1
      obtain ⟨q0, rfl⟩ := hC
      obtain rfl : o1 = none := by
        rw [hui] at hlk
        cases o1 with
        | none => rfl
        | some g => cases hlk
      have hst0 : st = false := by
        cases st with
        | false => rfl
        | true => exact absurd (hst rfl) (by simp)
      unfold wpOp
      rw [hoi]
      dsimp only
      rw [if_pos (by unfold Region.wanted; rw [hgA])]
      refine .inl ?_
      unfold Oper.wp
      rw [hA]
      simp only [Oper.upon]
      rw [hdA]
      have hb0 : Below wb.heap.size wb q0.w := hbk.trans (q0.h.mono hbk.size)
      have hb : Below wb.heap.size wb (q0.w.alloc (.cells z1 t1)) := hb0.alloc hb0.size _
      have hq := (h _ hb).2 i hi'
      obtain ⟨oM, hoM, _, hdM⟩ := mask3_after (m1 := m1) (m2 := m2) (m3 := m3) hin hoi
      obtain ⟨v, _, hK⟩ := yieldsIn_of_qOp hoM hq
      have := float3 hn h1 h2 h3 h4 hsel hd hm12 hm13 hm23 hd12 hm1 hoA hdA hgA hA hm2 hoB hdB hgB hA2 hm3 hoS hdS hgS hdep hdepv hcv hv1 hv2 stored hS hS2 hdst T f (listed.setIfInBounds i true) (a.put oM.dst v) (q0.w.alloc (.cells z1 t1)) (q0.w.alloc (.cells z1 t1)) (some q0.w.heap.size) o2 st hb ⟨BW.start _, rfl⟩ inv' hl'
        (by rw [← he1]; simp [show i < listed.size by omega])
        (by rw [getD_set_ne false (by omega)]; exact hl2)
        (by rw [getD_set_ne false (by omega)]; exact hl3) (fun _ => rfl)
        (by rw [hst0]; exact ⟨hb0.size, Bk.new _ _ _⟩) ((hL2.below q0.h).below ((Below.refl _ _).alloc (Nat.le_refl _) _))
        (fun g1 g2 e1 e2 => by
          cases e1
          have := (hL2.below q0.h).ne (g := q0.w.heap.size) (Nat.le_refl _)
          intro e3; subst e3; exact this e2)
        (by rw [hdM, hdA]; simp [Act.put, hsz])
        (fun wb' hb' => by
          have hq' := (h wb' hb').2 i hi'
          obtain ⟨v', hv', hK'⟩ := yieldsIn_of_qOp hoM hq'
          have e := same_pin3 hin (by rw [he1]; assumption) hls hoi hdM hsz hdst hK hK'
          subst e
          rw [he']
          exact hK')
      rw [hdM, hdA] at this
      have e : putO d2 o2 (putO d1 (some q0.w.heap.size) (a.put (some d1) v)) = (putO d2 o2 (putO d1 none a)).put (some d1) (.pointer (some ⟨q0.w.heap.size, 0, none⟩)) := by
        rw [putO_comm _ _ (by intro e; cases e; exact hd12 rfl)]
        congr 1
        simp [putO, Act.put]
      rw [e] at this
      exact this
    · by_cases he2 : i = m2
      · have hoi : l.toArray[i]? = some oB := by rw [he2]; exact hoB
        have hlk : listed.getD i false = o2.isSome := by rw [he2]; exact hl2
        obtain ⟨q0, rfl⟩ := hC
        obtain rfl : o2 = none := by
          rw [hui] at hlk
          cases o2 with
          | none => rfl
          | some g => cases hlk
        unfold wpOp
        rw [hoi]
        dsimp only
        rw [if_pos (by unfold Region.wanted; rw [hgB])]
        refine .inl ?_
        unfold Oper.wp
        rw [hA2]
        simp only [Oper.upon]
        rw [hdB]
        have hb0 : Below wb.heap.size wb q0.w := hbk.trans (q0.h.mono hbk.size)
        have hb : Below wb.heap.size wb (q0.w.alloc (.cells z2 t2)) := hb0.alloc hb0.size _
        have hq := (h _ hb).2 i hi'
        obtain ⟨oM, hoM, _, hdM⟩ := mask3_after (m1 := m1) (m2 := m2) (m3 := m3) hin hoi
        obtain ⟨v, _, hK⟩ := yieldsIn_of_qOp hoM hq
        have := float3 hn h1 h2 h3 h4 hsel hd hm12 hm13 hm23 hd12 hm1 hoA hdA hgA hA hm2 hoB hdB hgB hA2 hm3 hoS hdS hgS hdep hdepv hcv hv1 hv2 stored hS hS2 hdst T f (listed.setIfInBounds i true) (a.put oM.dst v) (q0.w.alloc (.cells z2 t2)) (q0.w.alloc (.cells z2 t2)) o1 (some q0.w.heap.size) st hb ⟨BW.start _, rfl⟩ inv' hl'
          (by rw [getD_set_ne false (by omega)]; exact hl1)
          (by rw [← he2]; simp [show i < listed.size by omega])
          (by rw [getD_set_ne false (by omega)]; exact hl3) hst
          ((hL1.below q0.h).below ((Below.refl _ _).alloc (Nat.le_refl _) _)) ⟨hb0.size, Bk.new _ _ _⟩
          (fun g1 g2 e1 e2 => by
            cases e2
            have := (hL1.below q0.h).ne (g := q0.w.heap.size) (Nat.le_refl _)
            intro e3; subst e3; exact this e1)
          (by rw [hdM, hdB]; simp [Act.put, hsz])
          (fun wb' hb' => by
            have hq' := (h wb' hb').2 i hi'
            obtain ⟨v', hv', hK'⟩ := yieldsIn_of_qOp hoM hq'
            have e := same_pin3 hin (by rw [he2]; assumption) hls hoi hdM hsz hdst hK hK'
            subst e
            rw [he']
            exact hK')
        rw [hdM, hdB] at this
        have e : putO d2 (some q0.w.heap.size) (putO d1 o1 (a.put (some d2) v)) = (putO d2 none (putO d1 o1 a)).put (some d2) (.pointer (some ⟨q0.w.heap.size, 0, none⟩)) := by
          rw [← putO_comm _ _ (by intro e; cases e; exact hd12 rfl)]
          simp [putO, Act.put]
        rw [e] at this
        exact this
      · by_cases he3 : i = m3
        · have hoi : l.toArray[i]? = some oS := by rw [he3]; exact hoS
          obtain rfl : st = false := by rw [← hl3, ← he3]; exact hui
          obtain ⟨_, oo, ho, hall⟩ := mem_ready.1 hi
          rw [hoi] at ho
          cases ho
          obtain ⟨ed, k1, k2, k3⟩ := hdep
          have hm1l := hall ed k1 k2
          rw [k3] at hm1l
          obtain ⟨ev, k4, k5, k6⟩ := hdepv
          have hcl := hall ev k4 k5
          rw [k6] at hcl
          have hm1l' : o1.isSome = true := by
            rw [← hl1]
            cases hb : listed.getD m1 false with
            | true => rfl
            | false => rw [getD_both (getD_in (by omega) hb)] at hm1l; cases hm1l
          obtain ⟨g1, rfl⟩ := Option.isSome_iff_exists.1 hm1l'
          rw [if_neg (by simp)] at hL1
          obtain ⟨q, rfl⟩ := hC
          have kq := hL1.2.below q.h
          have hpv : a.tmps[dv]? = A.tmps[dv]? := pin (d := dv) (f + 1) _ _ (h _ (Below.refl _ _)) (fun j oj hj hu => by
            obtain ⟨hjn, o', ho', hd'⟩ := mask3_inv hj
            rw [← hd']
            by_cases e : j = c
            · subst e
              exfalso
              rw [extract_getD _ _ _ _ hjn (by omega)] at hu
              rw [hu] at hcl
              cases hcl
            · exact hcv j o' hjn e ho')
          have hb0 : Below wb.heap.size wb q.w := hbk.trans (q.h.mono hbk.size)
          have hA1 : (putO d2 o2 (putO d1 (some g1) a)).tmps[d1]? = some (.pointer (some ⟨g1, 0, none⟩)) := by
            have hs1 : d1 < a.tmps.size := by
              obtain ⟨d, e1, e2, _⟩ := hdst m1 oA hm1 hm13 hoA
              rw [hdA] at e1
              rw [hsz, Option.some.inj e1]
              exact e2
            cases o2 with
            | none => simp [putO, Act.put, hs1]
            | some g2 => simp [putO, Act.put, hs1, Ne.symm hd12]
          have hAv : (putO d2 o2 (putO d1 (some g1) a)).tmps[dv]? = A.tmps[dv]? := by
            rw [← hpv]
            cases o2 with
            | none => simp [putO, Act.put, Ne.symm hv1]
            | some g2 => simp [putO, Act.put, Ne.symm hv1, Ne.symm hv2]
          obtain ⟨r, hr, hrv⟩ := hS _ q.w g1 hA1 hAv kq
          obtain ⟨s1, s2, s3, s4, s5, s6⟩ := hS2 q.w g1 kq
          have hbS : Below wb.heap.size wb (stored q.w g1) := ⟨s2.trans hb0.os, s3.trans hb0.tape, s4.trans hb0.output, by rw [s5]; exact hb0.size, fun b hb => (s6 b (by have := hL1.1; omega)).trans (hb0.block b hb)⟩
          obtain ⟨oM, hoM, _, hdM⟩ := mask3_after (m1 := m1) (m2 := m2) (m3 := m3) hin hoi
          have hput : ∀ v, a.put oM.dst v = a := fun v => by rw [hdM, hdS]; rfl
          have hput2 : ∀ v, (putO d2 o2 (putO d1 (some g1) a)).put oS.dst v = putO d2 o2 (putO d1 (some g1) a) := fun v => by rw [hdS]; rfl
          have := float3 hn h1 h2 h3 h4 hsel hd hm12 hm13 hm23 hd12 hm1 hoA hdA hgA hA hm2 hoB hdB hgB hA2 hm3 hoS hdS hgS ⟨ed, k1, k2, k3⟩ ⟨ev, k4, k5, k6⟩ hcv hv1 hv2 stored hS hS2 hdst T f (listed.setIfInBounds i true) a (stored q.w g1) (stored q.w g1) (some g1) o2 true hbS ⟨BW.start _, rfl⟩ inv' hl'
            (by rw [getD_set_ne false (by omega)]; exact hl1)
            (by rw [getD_set_ne false (by omega)]; exact hl2)
            (by rw [← he3]; simp [show i < listed.size by omega]) (fun _ => rfl)
            (by rw [if_pos rfl]; exact ⟨hL1.1, s1⟩)
            (by
              have := hL2.below q.h
              cases o2 with
              | none => trivial
              | some g2 => exact ⟨this.1, (s6 g2 (fun e => hne g1 g2 rfl rfl e.symm)).trans this.2⟩)
            hne hsz (fun wb' hb' => by
              have hq' := (h wb' hb').2 i hi'
              obtain ⟨v', hv', hK'⟩ := yieldsIn_of_qOp hoM hq'
              rw [hput] at hK'
              rw [he']
              exact hK')
          unfold wpOp
          rw [hoi]
          dsimp only
          rw [if_pos (by unfold Region.wanted; rw [hgS])]
          refine .inl ?_
          unfold Oper.wp
          rw [hr]
          rcases hrv with rfl | ⟨u, rfl⟩
          · show wpAny P .any l.toArray Q _ _ _ _
            rw [hput2]; exact this
          · show wpAny P .any l.toArray Q _ _ _ _
            rw [hput2]; exact this
        · obtain ⟨_, o, ho, _⟩ := mem_ready.1 hi
          obtain ⟨⟨x1, x2⟩, w1, w2⟩ := hd i o hin he1 he2 he3 ho
          have hs := fun cs b => hsel i o cs b hin he1 he2 he3 ho
          obtain ⟨d, hod, hds, hdo⟩ := hdst i o hin he3 ho
          have hq : ∀ wb', Below wb.heap.size wb wb' → qOp P l.toArray (Cls wb') i (wpAnyQ P .any (mask3 m1 m2 m3 (l.take n)).toArray (Cls wb') (fun a' => a' = A) f ((listed.extract 0 n).setIfInBounds i true)) a :=
            fun wb' hb => qOp_mask3 h4 hin he1 he2 he3 ((h wb' hb).2 i hi')
          have hq' : qOp P l.toArray (Cls wk) i (fun a' => ∃ a0 : Act, a' = putO d2 o2 (putO d1 o1 a0) ∧ a0.tmps.size = s ∧ ∀ wb', Below wb.heap.size wb wb' → wpAnyQ P .any (mask3 m1 m2 m3 (l.take n)).toArray (Cls wb') (fun a' => a' = A) f ((listed.extract 0 n).setIfInBounds i true) a0) (putO d2 o2 (putO d1 o1 a)) := by
            have hsz' : ∀ v, (a.put o.dst v).tmps.size = s := fun v => by rw [hod]; simp [Act.put, hsz]
            have hcomm : ∀ v, (putO d2 o2 (putO d1 o1 a)).put o.dst v = putO d2 o2 (putO d1 o1 (a.put o.dst v)) := fun v => by
              rw [putO_comm _ _ w2, putO_comm _ _ x2]
            have h0 := hq wk hbk
            unfold qOp at h0 hq ⊢
            rw [ho] at h0 ⊢
            dsimp only at h0 ⊢
            rw [wanted_putO _ _ _ w1, wanted_putO _ _ _ x1]
            split
            · rename_i hw
              rw [if_pos hw] at h0
              obtain ⟨v, hv, hK⟩ := h0
              refine ⟨v, fun w' hw' => ?_, a.put o.dst v, hcomm v, hsz' v, fun wb' hb => ?_⟩
              · have := hv w' hw'
                unfold Oper.quietAt at *
                rw [exec_putO hs _ _ _ w1, exec_putO hs _ _ _ x1]
                exact this
              · have h5 := hq wb' hb
                rw [ho] at h5
                dsimp only at h5
                rw [if_pos hw] at h5
                obtain ⟨v', hv', hK'⟩ := h5
                have e := same_pin3 hin he3 hls ho rfl hsz hdst hK hK'
                subst e
                exact hK'
            · rename_i hw
              refine ⟨a.put o.dst undef, hcomm undef, hsz' _, fun wb' hb => ?_⟩
              have h5 := hq wb' hb
              rw [ho] at h5
              dsimp only at h5
              rw [if_neg hw] at h5
              exact h5
          refine wpOp_of_qOp (P := P) (ops := l.toArray) (C := Cls wk) (i := i) (w := w) (Q' := Q) hC (fun a' w' hC' hK => ?_) hq'
          obtain ⟨a0, rfl, hsz0, hK⟩ := hK
          refine float3 hn h1 h2 h3 h4 hsel hd hm12 hm13 hm23 hd12 hm1 hoA hdA hgA hA hm2 hoB hdB hgB hA2 hm3 hoS hdS hgS hdep hdepv hcv hv1 hv2 stored hS hS2 hdst T f (listed.setIfInBounds i true) a0 wk w' o1 o2 st hbk hC' inv' hl' ?_ ?_ ?_ hst hL1 hL2 hne hsz0 (fun wb' hb => by rw [he']; exact hK wb' hb)
          · rw [getD_set_ne false he1]; exact hl1
          · rw [getD_set_ne false he2]; exact hl2
          · rw [getD_set_ne false he3]; exact hl3

def floatcB (l : List Oper) (n m1 m2 m3 d1 d2 dv c s : Nat) : Bool :=
  match l[m1]?, l[m2]?, l[m3]? with
  | some oA, some oB, some oS =>
    decide (m1 < n) && (decide (m2 < n) && (decide (m3 < n) && (decide (m1 ≠ m3) && (decide (m2 ≠ m3) && (decide (dv ≠ d1) && (decide (dv ≠ d2) && (decide (oA.dst = some d1) && (decide (oB.dst = some d2) && (oS.dst.isNone && (oA.guard.isNone && (oB.guard.isNone && (oS.guard.isNone &&
    ((oS.after.any fun e => Region.binds .any e && e.on == m1) && ((oS.after.any fun e => Region.binds .any e && e.on == c) &&
    (((List.range n).all fun i => decide (i = m3) || ((match (l[i]?).bind (·.dst) with
      | some d => decide (d < s) && (List.range n).all fun j => decide (j = i) || decide ((l[j]?).bind (·.dst) ≠ some d)
      | none => false) && (match l[i]? with
      | some o => !((o.looksAt l.toArray).contains d1) && !((o.looksAt l.toArray).contains d2)
      | none => true))) &&
    ((List.range n).all fun j => decide (j = c) || decide ((l[j]?).bind (·.dst) ≠ some dv)))))))))))))))))
  | _, _, _ => false

/-- **A drawn region with two variables, each made at any time, the first of which may be written ahead of the rest of the head.** m3: that store; dv: the slot that it lays down, which operation c writes. n: the operations ahead of the tail; m1, m2: those that make the variables; d1, d2: their slots; s: how many slots there are. -/
theorem any_region_float3 {a : Act} {wb : World} {p : BW wb} {z1 y1 z2 : Array Value} {t1 t2 : TypeId} {oA oB oS : Oper} (n m1 m2 m3 d1 d2 dv c s : Nat) (hB : Region.lexB .any (mask3 m1 m2 m3 (l.take n)).toArray = true) (hT : tailB l n = true) (hF : floatcB l n m1 m2 m3 d1 d2 dv c s = true) (hm12 : m1 ≠ m2)
    (hs : a.tmps.size = s) (hoA : l[m1]? = some oA) (hoB : l[m2]? = some oB) (hoS : l[m3]? = some oS) (hA : ∀ ev (w : World), (execOp ev oA).run P w = .ok (.value (.pointer (some ⟨w.heap.size, 0, none⟩))) (w.alloc (.cells z1 t1)))
    (hA2 : ∀ ev (w : World), (execOp ev oB).run P w = .ok (.value (.pointer (some ⟨w.heap.size, 0, none⟩))) (w.alloc (.cells z2 t2)))
    (stored : World → Nat → World) (hS2 : ∀ (W : World) (g : Nat), Bk W g t1 z1 → Bk (stored W g) g t1 y1 ∧ (stored W g).os = W.os ∧ (stored W g).tape = W.tape ∧ (stored W g).output = W.output ∧ (stored W g).heap.size = W.heap.size ∧ ∀ b, b ≠ g → (stored W g).heap[b]? = W.heap[b]?)
    (h : ∃ A : Act, (∀ wb', Below wb.heap.size wb wb' → wpQuiet P (mask3 m1 m2 m3 (l.take n)).toArray (fun w' => ∃ q : BW wb', w' = q.w) (fun a' => a' = A) (mask3 m1 m2 m3 (l.take n)) a) ∧
      (∀ (a : Act) (W : World) (g : Nat), a.tmps[d1]? = some (.pointer (some ⟨g, 0, none⟩)) → a.tmps[dv]? = A.tmps[dv]? → Bk W g t1 z1 → ∃ v, (execOp a.eval oS).run P W = .ok v (stored W g) ∧ (v = .skip ∨ ∃ u, v = .value u)) ∧
      ∀ (W : World) (g1 g2 : Nat), Below wb.heap.size wb W → wb.heap.size ≤ g1 → wb.heap.size ≤ g2 → g1 ≠ g2 → Bk W g1 t1 y1 → Bk W g2 t2 z2 →
        wpList P l.toArray Q (l.drop n) ((A.put (some d1) (.pointer (some ⟨g1, 0, none⟩))).put (some d2) (.pointer (some ⟨g2, 0, none⟩))) W) :
    wpAny P .any l.toArray Q l.toArray.size (Array.replicate l.toArray.size false) a { p.w with drawn := p.w.drawn + 1 } := by
  obtain ⟨A, hW, hS, T⟩ := h
  simp only [tailB, Bool.and_eq_true, decide_eq_true_eq] at hT
  obtain ⟨hn, h1, h2, h3, h4⟩ := hT
  simp only [floatcB, hoA, hoB, hoS, Bool.and_eq_true, decide_eq_true_eq] at hF
  obtain ⟨hmn, hmn2, hmn3, hm13, hm23, hv1, hv2, hd1, hd2, hdS, hgA, hgB, hgS, hdep, hdepv, hall, hcv⟩ := hF
  have hoA' : l.toArray[m1]? = some oA := by simpa using hoA
  have hoB' : l.toArray[m2]? = some oB := by simpa using hoB
  have hoS' : l.toArray[m3]? = some oS := by simpa using hoS
  simp only [Region.lexB, Bool.and_eq_true] at hB
  have hlen : (mask3 m1 m2 m3 (l.take n)).length = n := by rw [mask3_len]; simp; omega
  have hdst : ∀ (i : Nat) (o : Oper), i < n → i ≠ m3 → l.toArray[i]? = some o → ∃ d, o.dst = some d ∧ d < s ∧ ∀ (j : Nat) (o' : Oper), j < n → j ≠ i → l.toArray[j]? = some o' → o'.dst ≠ some d := fun i o hi hi3 ho => by
    have h := List.all_eq_true.1 hall i (List.mem_range.2 hi)
    have ho' : l[i]? = some o := by simpa using ho
    simp only [decide_eq_false hi3, Bool.false_or, Bool.and_eq_true] at h
    have h := h.1
    rw [ho'] at h
    simp only [Option.bind_some] at h
    cases hd : o.dst with
    | none => rw [hd] at h; cases h
    | some d =>
      rw [hd] at h
      simp only [Bool.and_eq_true, decide_eq_true_eq] at h
      refine ⟨d, rfl, h.1, fun j o' hj hji hj' => ?_⟩
      have h5 := List.all_eq_true.1 h.2 j (List.mem_range.2 hj)
      have hj2 : l[j]? = some o' := by simpa using hj'
      rw [hj2] at h5
      simp only [Option.bind_some, Bool.or_eq_true, decide_eq_true_eq] at h5
      exact h5.resolve_left hji
  have hd12 : d1 ≠ d2 := fun e => by
    obtain ⟨d, e1, _, e2⟩ := hdst m1 oA hmn hm13 hoA'
    rw [hd1] at e1
    cases e1
    exact e2 m2 oB hmn2 (fun x => hm12 x.symm) hoB' (by rw [hd2, e])
  have hd : ∀ (i : Nat) (o : Oper), i < n → i ≠ m1 → i ≠ m2 → i ≠ m3 → l.toArray[i]? = some o → (d1 ∉ o.looksAt l.toArray ∧ o.dst ≠ some d1) ∧ (d2 ∉ o.looksAt l.toArray ∧ o.dst ≠ some d2) := fun i o hi him1 him2 him3 ho => by
    have ho' : l[i]? = some o := by simpa using ho
    have h := List.all_eq_true.1 hall i (List.mem_range.2 hi)
    simp only [decide_eq_false him3, Bool.false_or, Bool.and_eq_true] at h
    have h := h.2
    rw [ho'] at h
    simp only [Bool.and_eq_true, Bool.not_eq_true'] at h
    have no : ∀ d, (o.looksAt l.toArray).contains d = false → d ∉ o.looksAt l.toArray := fun d hc => by simpa using hc
    refine ⟨⟨no _ h.1, ?_⟩, no _ h.2, ?_⟩
    · obtain ⟨d, e1, _, e2⟩ := hdst m1 oA hmn hm13 hoA'
      rw [hd1] at e1
      cases e1
      exact e2 i o hi him1 ho
    · obtain ⟨d, e1, _, e2⟩ := hdst m2 oB hmn2 hm23 hoB'
      rw [hd2] at e1
      cases e1
      exact e2 i o hi him2 ho
  have hsel : ∀ (i : Nat) (o : Oper) cs b, i < n → i ≠ m1 → i ≠ m2 → i ≠ m3 → l.toArray[i]? = some o → o.op ≠ .select cs b := fun i o cs b hi him1 him2 him3 ho =>
    Region.noSelect_spec hB.1 i o cs b (by rw [mask3_same hi him1 him2 him3]; exact ho)
  have hcv' : ∀ (j : Nat) (o : Oper), j < n → j ≠ c → l.toArray[j]? = some o → o.dst ≠ some dv := fun j o hj hjc ho => by
    have h := List.all_eq_true.1 hcv j (List.mem_range.2 hj)
    have ho' : l[j]? = some o := by simpa using ho
    rw [ho'] at h
    simp only [decide_eq_false hjc, Bool.false_or, Option.bind_some, decide_eq_true_eq] at h
    exact h
  have dep : ∀ m, (oS.after.any fun e => Region.binds .any e && e.on == m) = true → ∃ e ∈ oS.after, Region.binds .any e = true ∧ e.on = m := fun m h => by
    obtain ⟨e, m1, m2⟩ := Array.any_eq_true'.1 h
    simp only [Bool.and_eq_true, beq_iff_eq] at m2
    exact ⟨e, m1, m2⟩
  have inv0 : HeadInv .any l.toArray n (Array.replicate l.toArray.size false) :=
    ⟨by simp, fun j oj _ hl => (by rw [getD_replicate_false] at hl; cases hl), fun t _ ht => getD_in (by simpa using ht) (getD_replicate_false _ _)⟩
  have e : (Array.replicate l.toArray.size false).extract 0 n = Array.replicate (mask3 m1 m2 m3 (l.take n)).toArray.size false := by
    have hz : (mask3 m1 m2 m3 (l.take n)).toArray.size = n := by simpa using hlen
    rw [hz]
    apply Array.ext
    · simp; omega
    · intro j j1 j2; simp
  have H : ∀ wb', Below wb.heap.size wb wb' → wpAnyQ P .any (mask3 m1 m2 m3 (l.take n)).toArray (Cls wb') (fun a' => a' = A) n ((Array.replicate l.toArray.size false).extract 0 n) a := fun wb' hb => by
    have := wpAnyQ_lex (C := Cls wb') (md := .any) hB.1 (mask3 m1 m2 m3 (l.take n)) 0 (Array.replicate (mask3 m1 m2 m3 (l.take n)).toArray.size false) a (by simp) (by simpa using hB.2) (hW wb' hb)
    rw [hlen] at this
    rw [e]
    exact this
  have := float3 (P := P) (Q := Q) (A := A) hn h1 h2 h3 h4 hsel hd hm12 hm13 hm23 hd12 hmn hoA' hd1 (by simpa using hgA) hA hmn2 hoB' hd2 (by simpa using hgB) hA2 hmn3 hoS' (by simpa using hdS) (by simpa using hgS) (dep _ hdep) (dep _ hdepv) hcv' hv1 hv2 stored hS hS2 hdst T n (Array.replicate l.toArray.size false) a wb { p.w with drawn := p.w.drawn + 1 } none none false (Below.refl _ _)
    ⟨p.next { p.w with drawn := p.w.drawn + 1 } ⟨rfl, rfl, rfl, Nat.le_refl _, fun _ _ => rfl⟩, rfl⟩ inv0 (left_start _ _) (getD_replicate_false _ _) (getD_replicate_false _ _) (getD_replicate_false _ _) (fun h => by cases h) trivial trivial (fun _ _ h => by cases h) hs H
  rw [show n + (l.length - n) = l.toArray.size by simp; omega] at this
  exact this

theorem wp_region_float3 {id : Nat} {a : Act} {wb : World} {p : BW wb} {z1 y1 z2 : Array Value} {t1 t2 : TypeId} {oA oB oS : Oper} (n m1 m2 m3 d1 d2 dv c s : Nat) (hm : P.follows .mixedOrders = true) (hB : Region.lexB .any (mask3 m1 m2 m3 (l.take n)).toArray = true) (hT : tailB l n = true) (hF : floatcB l n m1 m2 m3 d1 d2 dv c s = true) (hm12 : m1 ≠ m2)
    (hs : a.tmps.size = s) (hoA : l[m1]? = some oA) (hoB : l[m2]? = some oB) (hoS : l[m3]? = some oS) (hA : ∀ ev (w : World), (execOp ev oA).run P w = .ok (.value (.pointer (some ⟨w.heap.size, 0, none⟩))) (w.alloc (.cells z1 t1)))
    (hA2 : ∀ ev (w : World), (execOp ev oB).run P w = .ok (.value (.pointer (some ⟨w.heap.size, 0, none⟩))) (w.alloc (.cells z2 t2)))
    (stored : World → Nat → World) (hS2 : ∀ (W : World) (g : Nat), Bk W g t1 z1 → Bk (stored W g) g t1 y1 ∧ (stored W g).os = W.os ∧ (stored W g).tape = W.tape ∧ (stored W g).output = W.output ∧ (stored W g).heap.size = W.heap.size ∧ ∀ b, b ≠ g → (stored W g).heap[b]? = W.heap[b]?)
    (h : ∃ A : Act, (∀ wb', Below wb.heap.size wb wb' → wpQuiet P (mask3 m1 m2 m3 (l.take n)).toArray (fun w' => ∃ q : BW wb', w' = q.w) (fun a' => a' = A) (mask3 m1 m2 m3 (l.take n)) a) ∧
      (∀ (a : Act) (W : World) (g : Nat), a.tmps[d1]? = some (.pointer (some ⟨g, 0, none⟩)) → a.tmps[dv]? = A.tmps[dv]? → Bk W g t1 z1 → ∃ v, (execOp a.eval oS).run P W = .ok v (stored W g) ∧ (v = .skip ∨ ∃ u, v = .value u)) ∧
      ∀ (W : World) (g1 g2 : Nat), Below wb.heap.size wb W → wb.heap.size ≤ g1 → wb.heap.size ≤ g2 → g1 ≠ g2 → Bk W g1 t1 y1 → Bk W g2 t2 z2 →
        wpList P l.toArray Q (l.drop n) ((A.put (some d1) (.pointer (some ⟨g1, 0, none⟩))).put (some d2) (.pointer (some ⟨g2, 0, none⟩))) W) :
    (Code.region id l.toArray true).wp P Q a p.w :=
  wp_region_any hm (any_region_float3 n m1 m2 m3 d1 d2 dv c s hB hT hF hm12 hs hoA hoB hoS hA hA2 stored hS2 h)
end

/-- The cells of a block, written from the i-th on. -/
def setFrom (W : World) (g : Nat) : Nat → List Value → World
  | _, [] => W
  | i, v :: vs => setFrom (W.setCell ⟨g, i, none⟩ v) g (i + 1) vs
theorem setFrom_spec {t : TypeId} {g : Nat} : ∀ (vs : List Value) (i : Nat) (W : World) (pre zs : List Value), pre.length = i → zs.length = vs.length → Bk W g t (pre ++ zs).toArray →
    Bk (setFrom W g i vs) g t (pre ++ vs).toArray ∧ (setFrom W g i vs).os = W.os ∧ (setFrom W g i vs).tape = W.tape ∧ (setFrom W g i vs).output = W.output ∧ (setFrom W g i vs).heap.size = W.heap.size ∧ ∀ b, b ≠ g → (setFrom W g i vs).heap[b]? = W.heap[b]?
  | [], i, W, pre, zs, hp, hz, h => by
    obtain rfl : zs = [] := List.eq_nil_of_length_eq_zero hz
    exact ⟨h, rfl, rfl, rfl, rfl, fun _ _ => rfl⟩
  | v :: vs, i, W, pre, zs, hp, hz, h => by
    obtain ⟨z, zs', rfl⟩ : ∃ z zs', zs = z :: zs' := by
      cases zs with
      | nil => cases hz
      | cons z zs' => exact ⟨z, zs', rfl⟩
    have hk : Bk (W.setCell ⟨g, i, none⟩ v) g t (pre ++ [v] ++ zs').toArray := (h.set i v).cast (by subst hp; simp)
    obtain ⟨k1, k2, k3, k4, k5, k6⟩ := setFrom_spec vs (i + 1) (W.setCell ⟨g, i, none⟩ v) (pre ++ [v]) zs' (by simp [hp]) (by simpa using hz) hk
    have hlt := h.lt
    refine ⟨?_, k2, k3, k4, ?_, fun b hb => ?_⟩
    · simpa [setFrom] using k1
    · rw [show setFrom W g i (v :: vs) = setFrom (W.setCell ⟨g, i, none⟩ v) g (i + 1) vs from rfl, k5]; simp
    · exact (k6 b hb).trans (Below.heap_setCell W ⟨g, i, none⟩ v b hb)
theorem setFrom_all {t : TypeId} {zs vs : List Value} (hl : zs.length = vs.length) (W : World) (g : Nat) (h : Bk W g t zs.toArray) :
    Bk (setFrom W g 0 vs) g t vs.toArray ∧ (setFrom W g 0 vs).os = W.os ∧ (setFrom W g 0 vs).tape = W.tape ∧ (setFrom W g 0 vs).output = W.output ∧ (setFrom W g 0 vs).heap.size = W.heap.size ∧ ∀ b, b ≠ g → (setFrom W g 0 vs).heap[b]? = W.heap[b]? :=
  setFrom_spec vs 0 W [] zs rfl hl h

end Go.Proofs.Sky
