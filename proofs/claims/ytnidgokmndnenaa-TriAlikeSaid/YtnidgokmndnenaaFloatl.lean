/- As XFloatb, for any number of variables, each made at any time. Imports nothing of the translation. -/
import Derived.Test.YtnidgokmndnenaaFloatb
namespace Go.Proofs.Sky
open Go Go.RowKit
set_option linter.unusedVariables false
set_option linter.unusedSimpArgs false

/-- A variable: the operation that makes it, its slot, its type, its cells. -/
structure FVar where
  m : Nat
  d : Nat
  t : TypeId
  z : Array Value
def maskL (ms : List Nat) (l : List Oper) : List Oper := ms.foldr maskAt l
theorem maskL_len : ∀ (ms : List Nat) (l : List Oper), (maskL ms l).length = l.length
  | [], l => rfl
  | m :: r, l => by show (maskAt m (maskL r l)).length = _; rw [maskAt_len, maskL_len r l]
theorem maskL_get : ∀ (ms : List Nat) (l : List Oper) (i : Nat), (maskL ms l)[i]? = (l[i]?).map (fun o => if i ∈ ms then { o with op := .assign (.const undef) } else o)
  | [], l, i => by simp [maskL]
  | m :: r, l, i => by
    show (maskAt m (maskL r l))[i]? = _
    rw [maskAt_get, maskL_get r l, Option.map_map]
    congr 1
    funext o
    by_cases h2 : i ∈ r
    · by_cases h1 : i = m
      · simp only [Function.comp, if_pos h1, if_pos h2, if_pos (List.mem_cons.2 (Or.inl h1))]
      · simp only [Function.comp, if_neg h1, if_pos h2, if_pos (List.mem_cons.2 (Or.inr h2))]
    · by_cases h1 : i = m
      · simp only [Function.comp, if_pos h1, if_neg h2, if_pos (List.mem_cons.2 (Or.inl h1))]
      · simp only [Function.comp, if_neg h1, if_neg h2, if_neg (fun e => (List.mem_cons.1 e).elim h1 h2)]

theorem nodup_same {f : FVar → Nat} : ∀ (vs : List FVar) (j k : Nat) (u v : FVar), (vs.map f).Nodup → vs[j]? = some u → vs[k]? = some v → f u = f v → j = k
  | [], _, _, _, _, _, h, _, _ => by simp at h
  | x :: r, 0, 0, _, _, _, _, _, _ => rfl
  | x :: r, 0, k + 1, u, v, hn, hu, hv, e => by
    cases hu
    have hn' := List.nodup_cons.1 (show (f x :: r.map f).Nodup from hn)
    exact absurd (List.mem_map.2 ⟨v, List.mem_of_getElem? (by simpa using hv), e.symm⟩) hn'.1
  | x :: r, j + 1, 0, u, v, hn, hu, hv, e => by
    cases hv
    have hn' := List.nodup_cons.1 (show (f x :: r.map f).Nodup from hn)
    exact absurd (List.mem_map.2 ⟨u, List.mem_of_getElem? (by simpa using hu), e⟩) hn'.1
  | x :: r, j + 1, k + 1, u, v, hn, hu, hv, e => by
    have hn' := List.nodup_cons.1 (show (f x :: r.map f).Nodup from hn)
    rw [nodup_same r j k u v hn'.2 (by simpa using hu) (by simpa using hv) e]

/-- The places laid into their slots, of those that are made. -/
def putAll : List FVar → (Nat → Option Nat) → Act → Act
  | [], _, a => a
  | v :: r, st, a => putAll r (fun k => st (k + 1)) (putO v.d (st 0) a)
theorem putAll_comm {dst : Option Nat} (x : Value) : ∀ (vs : List FVar) (st : Nat → Option Nat) (a : Act), (∀ v ∈ vs, dst ≠ some v.d) → (putAll vs st a).put dst x = putAll vs st (a.put dst x)
  | [], _, _, _ => rfl
  | v :: r, st, a, h => by
    show (putAll r _ (putO v.d (st 0) a)).put dst x = putAll r _ (putO v.d (st 0) (a.put dst x))
    rw [putAll_comm x r _ _ (fun u hu => h u (List.mem_cons_of_mem _ hu)), putO_comm _ _ (h v List.mem_cons_self)]
def setSt (st : Nat → Option Nat) (k g : Nat) : Nat → Option Nat := fun j => if j = k then some g else st j
theorem putAll_made {g : Nat} (x : Value) : ∀ (vs : List FVar) (st : Nat → Option Nat) (a : Act) (k : Nat) (v : FVar), vs[k]? = some v → (vs.map (·.d)).Nodup → st k = none →
    putAll vs (setSt st k g) (a.put (some v.d) x) = (putAll vs st a).put (some v.d) (.pointer (some ⟨g, 0, none⟩))
  | [], _, _, k, _, h, _, _ => by simp at h
  | u :: r, st, a, 0, v, h, hn, hs => by
    cases h
    show putAll r _ (putO u.d (setSt st 0 g 0) (a.put (some u.d) x)) = (putAll r _ (putO u.d (st 0) a)).put _ _
    rw [hs]
    have e1 : putO u.d (setSt st 0 g 0) (a.put (some u.d) x) = a.put (some u.d) (.pointer (some ⟨g, 0, none⟩)) := by simp [setSt, putO, Act.put]
    have e2 : (fun k => setSt st 0 g (k + 1)) = fun k => st (k + 1) := by funext k; simp [setSt]
    rw [e1, e2, putAll_comm _ r _ _ (fun w hw e => ?_)]
    · rfl
    · have := (List.nodup_cons.1 (show (u.d :: r.map (·.d)).Nodup from hn)).1
      exact this (by rw [Option.some.inj e]; exact List.mem_map_of_mem hw)
  | u :: r, st, a, k + 1, v, h, hn, hs => by
    have hn' := List.nodup_cons.1 (show (u.d :: r.map (·.d)).Nodup from hn)
    have hv : v ∈ r := List.mem_of_getElem? (by simpa using h)
    have hne : some v.d ≠ some u.d := fun e => hn'.1 (by rw [← Option.some.inj e]; exact List.mem_map_of_mem hv)
    show putAll r _ (putO u.d (setSt st (k + 1) g 0) (a.put (some v.d) x)) = (putAll r _ (putO u.d (st 0) a)).put _ _
    have e1 : setSt st (k + 1) g 0 = st 0 := by simp [setSt]
    have e2 : (fun j => setSt st (k + 1) g (j + 1)) = setSt (fun j => st (j + 1)) k g := by funext j; simp [setSt]
    rw [e1, e2, ← putO_comm _ _ hne]
    exact putAll_made x r (fun j => st (j + 1)) (putO u.d (st 0) a) k v (by simpa using h) hn'.2 hs

section
variable {P : Program} {Q : Exit → Act → World → Prop} {l : List Oper} {n : Nat} {ms : List Nat} {A : Act}

theorem maskL_same {i : Nat} (hi : i < n) (h1 : i ∉ ms) : (maskL ms (l.take n)).toArray[i]? = l.toArray[i]? := by
  simp [maskL_get, hi, h1]
theorem maskL_dst (i : Nat) : ((maskL ms (l.take n)).toArray[i]?).bind (·.dst) = ((l.take n).toArray[i]?).bind (·.dst) := by
  simp only [List.getElem?_toArray, maskL_get]
  cases (List.take n l)[i]? with
  | none => rfl
  | some o =>
    simp only [Option.map_some, Option.bind_some]
    split <;> rfl
theorem maskL_after {i : Nat} {o : Oper} (hi : i < n) (ho : l.toArray[i]? = some o) : ∃ o', (maskL ms (l.take n)).toArray[i]? = some o' ∧ o'.after = o.after ∧ o'.dst = o.dst := by
  have ho' : l[i]? = some o := by simpa using ho
  refine ⟨if i ∈ ms then { o with op := .assign (.const undef) } else o, ?_, ?_, ?_⟩
  · simp [maskL_get, hi, ho']
  · split <;> rfl
  · split <;> rfl
theorem wanted_maskL {o : Oper} (tmps : Array Value) (hg : ∀ g, o.guard = some g → g.1 < n) : Region.wanted o (yielded (maskL ms (l.take n)).toArray tmps) = Region.wanted o (yielded l.toArray tmps) := by
  rw [← wanted_take (l := l) tmps hg]
  unfold Region.wanted
  cases h : o.guard with
  | none => rfl
  | some g =>
    obtain ⟨j, b⟩ := g
    dsimp only
    unfold yielded
    rw [maskL_dst]
theorem qOp_maskL {C : World → Prop} {i : Nat} {K : Act → Prop} {a : Act} (hB : headB l n = true) (hi : i < n) (h1 : i ∉ ms) (h : qOp P (maskL ms (l.take n)).toArray C i K a) : qOp P l.toArray C i K a := by
  unfold qOp at *
  rw [maskL_same hi h1] at h
  cases ho : l.toArray[i]? with
  | none => rw [ho] at h; exact h
  | some o =>
    rw [ho] at h
    dsimp only at *
    rw [← wanted_maskL (l := l) (n := n) (ms := ms) a.tmps (head_of hB hi ho).2]
    exact h
theorem head_stepL (hn : n < l.length) (h1 : Region.sinkB .any l.toArray n = true) (h2 : Region.chainB .any l.toArray n = true) (h4 : headB l n = true) {f : Nat} {listed : Array Bool} (inv : HeadInv .any l.toArray n listed) (hf : left listed n = f + 1) :
    Region.ready .any l.toArray listed ≠ [] ∧ ∀ i ∈ Region.ready .any l.toArray listed, i < n ∧ i ∈ Region.ready .any (maskL ms (l.take n)).toArray (listed.extract 0 n) ∧ listed.getD i false = false ∧
      HeadInv .any l.toArray n (listed.setIfInBounds i true) ∧ left (listed.setIfInBounds i true) n = f ∧ (listed.setIfInBounds i true).extract 0 n = (listed.extract 0 n).setIfInBounds i true := by
  have hsz : listed.size = l.length := by rw [inv.size]; simp
  obtain ⟨g0, g1⟩ := head_step (m := n) hn h1 h2 h4 inv hf
  refine ⟨g0, fun i hi => ?_⟩
  obtain ⟨hin, _, k2, k3, k4, k5⟩ := g1 i hi
  refine ⟨hin, ?_, k2, k3, k4, k5⟩
  obtain ⟨a1, o, a2, a3⟩ := mem_ready.1 hi
  obtain ⟨o', b1, b2, b3⟩ := maskL_after (ms := ms) hin a2
  refine mem_ready.2 ⟨?_, o', b1, fun e he hb => ?_⟩
  · rw [extract_getD _ _ _ _ hin (by omega)]; exact a1
  · rw [b2] at he
    have := (head_of h4 hin a2).1 e he hb
    rw [extract_getD _ _ _ _ (by omega) (by omega)]
    exact a3 e he hb
theorem maskL_inv {j : Nat} {oj : Oper} (h : (maskL ms (l.take n)).toArray[j]? = some oj) : j < n ∧ ∃ o, l.toArray[j]? = some o ∧ o.dst = oj.dst := by
  have h' : (maskL ms (l.take n))[j]? = some oj := by simpa using h
  rw [maskL_get, List.getElem?_take] at h'
  by_cases hj : j < n
  · refine ⟨hj, ?_⟩
    rw [if_pos hj] at h'
    cases ho : l[j]? with
    | none => rw [ho] at h'; cases h'
    | some o =>
      rw [ho] at h'
      have h' := Option.some.inj h'
      refine ⟨o, by simpa using ho, ?_⟩
      rw [← h']
      split <;> rfl
  · rw [if_neg hj] at h'; cases h'
/-- The same value in every class. -/
theorem same_pinL {C C' : World → Prop} {s i f : Nat} {o oM : Oper} {listed : Array Bool} {a : Act} {v v' : Value} (hin : i < n) (hls : n ≤ listed.size) (ho : l.toArray[i]? = some o) (hdM : oM.dst = o.dst) (hsz : a.tmps.size = s)
    (hdst : ∀ (i : Nat) (o : Oper), i < n → l.toArray[i]? = some o → ∃ d, o.dst = some d ∧ d < s ∧ ∀ (j : Nat) (o' : Oper), j < n → j ≠ i → l.toArray[j]? = some o' → o'.dst ≠ some d)
    (h1 : wpAnyQ P .any (maskL ms (l.take n)).toArray C (fun a' => a' = A) f ((listed.extract 0 n).setIfInBounds i true) (a.put oM.dst v))
    (h2 : wpAnyQ P .any (maskL ms (l.take n)).toArray C' (fun a' => a' = A) f ((listed.extract 0 n).setIfInBounds i true) (a.put oM.dst v')) : v = v' := by
  obtain ⟨d, hd0, hds, hdo⟩ := hdst i o hin ho
  have all : ∀ {C : World → Prop} {v : Value}, wpAnyQ P .any (maskL ms (l.take n)).toArray C (fun a' => a' = A) f ((listed.extract 0 n).setIfInBounds i true) (a.put oM.dst v) → A.tmps[d]? = some v := fun {C v} h => by
    have := pin (d := d) f _ _ h (fun j oj hj hu => by
      obtain ⟨hjn, o', ho', hd'⟩ := maskL_inv hj
      rw [← hd']
      by_cases e : j = i
      · subst e
        exfalso
        have : j < (listed.extract 0 n).size := by simp; omega
        simp [this] at hu
        omega
      · exact hdo j o' hjn e ho')
    rw [← this, hdM, hd0]
    simp [Act.put, hsz, hds]
  have e1 := all h1
  have e2 := all h2
  rw [e1] at e2
  cases e2
  rfl
theorem wanted_putAll {o : Oper} {ops : List Oper} : ∀ (vs : List FVar) (st : Nat → Option Nat) (a : Act), (∀ v ∈ vs, v.d ∉ o.looksAt ops.toArray) → Region.wanted o (yielded ops.toArray (putAll vs st a).tmps) = Region.wanted o (yielded ops.toArray a.tmps)
  | [], _, _, _ => rfl
  | v :: r, st, a, h => by
    show Region.wanted o (yielded ops.toArray (putAll r _ (putO v.d (st 0) a)).tmps) = _
    rw [wanted_putAll r _ _ (fun u hu => h u (List.mem_cons_of_mem _ hu)), wanted_putO _ _ _ (h v List.mem_cons_self)]
theorem exec_putAll {o : Oper} {ops : List Oper} (hs : ∀ cs b, o.op ≠ .select cs b) : ∀ (vs : List FVar) (st : Nat → Option Nat) (a : Act), (∀ v ∈ vs, v.d ∉ o.looksAt ops.toArray) → execOp (putAll vs st a).eval o = execOp a.eval o
  | [], _, _, _ => rfl
  | v :: r, st, a, h => by
    show execOp (putAll r _ (putO v.d (st 0) a)).eval o = _
    rw [exec_putAll hs r _ _ (fun u hu => h u (List.mem_cons_of_mem _ hu)), exec_putO hs _ _ _ (h v List.mem_cons_self)]

/-- What the text says of a variable's operation. -/
def OkV (P : Program) (l : List Oper) (n : Nat) (v : FVar) : Prop :=
  v.m < n ∧ ∃ o, l.toArray[v.m]? = some o ∧ o.dst = some v.d ∧ o.guard = none ∧ ∀ ev (w : World), (execOp ev o).run P w = .ok (.value (.pointer (some ⟨w.heap.size, 0, none⟩))) (w.alloc (.cells v.z v.t))

theorem floatL {wb : World} {s : Nat} {vs : List FVar} (hms : ms = vs.map (·.m)) (hn : n < l.length) (h1 : Region.sinkB .any l.toArray n = true) (h2 : Region.chainB .any l.toArray n = true) (h3 : Region.seqB .any l.toArray (l.length - n) n (upto n (l.length - n)) = true) (h4 : headB l n = true)
    (hsel : ∀ (i : Nat) (o : Oper) cs b, i < n → i ∉ ms → l.toArray[i]? = some o → o.op ≠ .select cs b)
    (hd : ∀ (i : Nat) (o : Oper), i < n → i ∉ ms → l.toArray[i]? = some o → ∀ v ∈ vs, v.d ∉ o.looksAt l.toArray ∧ o.dst ≠ some v.d)
    (hnm : ms.Nodup) (hnd : (vs.map (·.d)).Nodup) (hV : ∀ v ∈ vs, OkV P l n v)
    (hdst : ∀ (i : Nat) (o : Oper), i < n → l.toArray[i]? = some o → ∃ d, o.dst = some d ∧ d < s ∧ ∀ (j : Nat) (o' : Oper), j < n → j ≠ i → l.toArray[j]? = some o' → o'.dst ≠ some d)
    (T : ∀ (W : World) (st : Nat → Option Nat), Below wb.heap.size wb W → (∀ (k : Nat) (v : FVar), vs[k]? = some v → ∃ g, st k = some g ∧ wb.heap.size ≤ g ∧ Bk W g v.t v.z) → (∀ (j k g : Nat), j < vs.length → k < vs.length → j ≠ k → st j = some g → st k ≠ some g) → wpList P l.toArray Q (l.drop n) (putAll vs st A) W) :
    ∀ (f : Nat) (listed : Array Bool) (a : Act) (wk w : World) (st : Nat → Option Nat), Below wb.heap.size wb wk → Cls wk w → HeadInv .any l.toArray n listed → left listed n = f →
      (∀ (k : Nat) (v : FVar), vs[k]? = some v → listed.getD v.m false = (st k).isSome) → (∀ (k : Nat) (v : FVar), vs[k]? = some v → Lies wb wk v.t v.z (st k)) → (∀ (j k g : Nat), j < vs.length → k < vs.length → j ≠ k → st j = some g → st k ≠ some g) → a.tmps.size = s →
      (∀ wb', Below wb.heap.size wb wb' → wpAnyQ P .any (maskL ms (l.take n)).toArray (Cls wb') (fun a' => a' = A) f (listed.extract 0 n) a) →
      wpAny P .any l.toArray Q (f + (l.length - n)) listed (putAll vs st a) w
  | 0, listed, a, wk, w, st, hbk, hC, inv, hf, hl, hL, hne, hsz, h => by
    have e := all_listed hn inv hf
    have hdl : (l.drop n).length = l.length - n := by simp
    obtain ⟨q, rfl⟩ := hC
    have ea : a = A := (h _ (Below.refl _ _)).2
    subst ea
    have := wpAny_of_seq (md := .any) (Q' := Q) (l.drop n) n listed (putAll vs st a) q.w (fun j => by simp [List.getElem?_drop]) (by rw [hdl, e]; exact h3)
      (T q.w st (hbk.trans (q.h.mono hbk.size)) (fun k v hv => by
        have e1 := left_zero listed n hf v.m (hV v (List.mem_of_getElem? hv)).1
        rw [hl k v hv] at e1
        obtain ⟨g, hg⟩ := Option.isSome_iff_exists.1 e1
        have hk := hL k v hv
        rw [hg] at hk
        exact ⟨g, hg, hk.1, hk.2.below q.h⟩) hne)
    rw [hdl] at this
    rw [Nat.zero_add]
    exact this
  | f + 1, listed, a, wk, w, st, hbk, hC, inv, hf, hl, hL, hne, hsz, h => by
    rw [show f + 1 + (l.length - n) = (f + (l.length - n)) + 1 by omega]
    obtain ⟨hne0, hstep⟩ := head_stepL (ms := ms) hn h1 h2 h4 inv hf
    refine ⟨fun h0 => absurd h0 hne0, fun i hi => ?_⟩
    obtain ⟨hin, hi', hui, inv', hl', he'⟩ := hstep i hi
    have hls : n ≤ listed.size := by rw [inv.size]; simp; omega
    by_cases hme : i ∈ ms
    · -- a variable is made
      obtain ⟨k, v, hkv, hvm⟩ : ∃ (k : Nat) (v : FVar), vs[k]? = some v ∧ v.m = i := by
        rw [hms] at hme
        obtain ⟨v, hv, e⟩ := List.mem_map.1 hme
        obtain ⟨k, hk⟩ := List.getElem?_of_mem hv
        exact ⟨k, v, hk, e⟩
      obtain ⟨_, o, ho, hod, hog, hoA⟩ := hV v (List.mem_of_getElem? hkv)
      rw [hvm] at ho
      obtain ⟨q0, rfl⟩ := hC
      have hst0 : st k = none := by
        have := hl k v hkv
        rw [hvm, hui] at this
        cases hs : st k with
        | none => rfl
        | some g => rw [hs] at this; cases this
      have hkl : k < vs.length := (List.getElem?_eq_some_iff.1 hkv).1
      unfold wpOp
      rw [ho]
      dsimp only
      rw [if_pos (by unfold Region.wanted; rw [hog])]
      refine .inl ?_
      unfold Oper.wp
      rw [hoA]
      simp only [Oper.upon]
      rw [hod]
      have hb0 : Below wb.heap.size wb q0.w := hbk.trans (q0.h.mono hbk.size)
      have hb : Below wb.heap.size wb (q0.w.alloc (.cells v.z v.t)) := hb0.alloc hb0.size _
      have hq := (h _ hb).2 i hi'
      obtain ⟨oM, hoM, _, hdM⟩ := maskL_after (ms := ms) hin ho
      obtain ⟨x, _, hK⟩ := yieldsIn_of_qOp hoM hq
      have inj : ∀ (j : Nat) (u : FVar), vs[j]? = some u → j ≠ k → u.m ≠ i := fun j u hj hjk e => by
        rw [hms] at hnm
        exact hjk (nodup_same vs j k u v hnm hj hkv (e.trans hvm.symm))
      have := floatL hms hn h1 h2 h3 h4 hsel hd hnm hnd hV hdst T f (listed.setIfInBounds i true) (a.put oM.dst x) (q0.w.alloc (.cells v.z v.t)) (q0.w.alloc (.cells v.z v.t)) (setSt st k q0.w.heap.size) hb ⟨BW.start _, rfl⟩ inv' hl'
        (fun j u hj => by
          by_cases e : j = k
          · subst e
            rw [hkv] at hj
            cases hj
            rw [hvm]
            simp [setSt, show i < listed.size by omega]
          · rw [getD_set_ne false (Ne.symm (inj j u hj e))]
            simp only [setSt, if_neg e]
            exact hl j u hj)
        (fun j u hj => by
          by_cases e : j = k
          · subst e
            rw [hkv] at hj
            cases hj
            simp only [setSt, if_pos]
            exact ⟨hb0.size, Bk.new _ _ _⟩
          · simp only [setSt, if_neg e]
            exact ((hL j u hj).below q0.h).below ((Below.refl _ _).alloc (Nat.le_refl _) _))
        (fun j j' g hj hj' hjj e1 e2 => by
          have old : ∀ j'', j'' < vs.length → j'' ≠ k → st j'' ≠ some q0.w.heap.size := fun j'' hl'' hn'' => by
            obtain ⟨u, hu⟩ : ∃ u, vs[j'']? = some u := ⟨_, List.getElem?_eq_getElem hl''⟩
            exact ((hL j'' u hu).below q0.h).ne (Nat.le_refl _)
          by_cases e : j = k
          · subst e
            have e' : j' ≠ j := Ne.symm hjj
            simp only [setSt, if_pos, Option.some.injEq] at e1
            simp only [setSt, if_neg e'] at e2
            subst e1
            exact old j' hj' e' e2
          · simp only [setSt, if_neg e] at e1
            by_cases e' : j' = k
            · subst e'
              simp only [setSt, if_pos, Option.some.injEq] at e2
              subst e2
              exact old j hj e e1
            · simp only [setSt, if_neg e'] at e2
              exact hne j j' g hj hj' hjj e1 e2)
        (by rw [hdM, hod]; simp [Act.put, hsz])
        (fun wb' hb' => by
          have hq' := (h wb' hb').2 i hi'
          obtain ⟨x', hx', hK'⟩ := yieldsIn_of_qOp hoM hq'
          have e := same_pinL hin hls ho hdM hsz hdst hK hK'
          subst e
          rw [he']
          exact hK')
      rw [hdM, hod, putAll_made x vs st a k v hkv hnd hst0] at this
      exact this
    · obtain ⟨_, o, ho, _⟩ := mem_ready.1 hi
      have hall := hd i o hin hme ho
      have hs := fun cs b => hsel i o cs b hin hme ho
      obtain ⟨d, hod, hds, hdo⟩ := hdst i o hin ho
      have hq : ∀ wb', Below wb.heap.size wb wb' → qOp P l.toArray (Cls wb') i (wpAnyQ P .any (maskL ms (l.take n)).toArray (Cls wb') (fun a' => a' = A) f ((listed.extract 0 n).setIfInBounds i true)) a :=
        fun wb' hb => qOp_maskL h4 hin hme ((h wb' hb).2 i hi')
      have hq' : qOp P l.toArray (Cls wk) i (fun a' => ∃ a0 : Act, a' = putAll vs st a0 ∧ a0.tmps.size = s ∧ ∀ wb', Below wb.heap.size wb wb' → wpAnyQ P .any (maskL ms (l.take n)).toArray (Cls wb') (fun a' => a' = A) f ((listed.extract 0 n).setIfInBounds i true) a0) (putAll vs st a) := by
        have hsz' : ∀ v, (a.put o.dst v).tmps.size = s := fun v => by rw [hod]; simp [Act.put, hsz]
        have hcomm : ∀ v, (putAll vs st a).put o.dst v = putAll vs st (a.put o.dst v) := fun v => putAll_comm v vs st a (fun u hu => (hall u hu).2)
        have h0 := hq wk hbk
        unfold qOp at h0 hq ⊢
        rw [ho] at h0 ⊢
        dsimp only at h0 ⊢
        rw [wanted_putAll vs st a (fun u hu => (hall u hu).1)]
        split
        · rename_i hw
          rw [if_pos hw] at h0
          obtain ⟨v, hv, hK⟩ := h0
          refine ⟨v, fun w' hw' => ?_, a.put o.dst v, hcomm v, hsz' v, fun wb' hb => ?_⟩
          · have := hv w' hw'
            unfold Oper.quietAt at *
            rw [exec_putAll hs vs st a (fun u hu => (hall u hu).1)]
            exact this
          · have h5 := hq wb' hb
            rw [ho] at h5
            dsimp only at h5
            rw [if_pos hw] at h5
            obtain ⟨v', hv', hK'⟩ := h5
            have e := same_pinL hin hls ho rfl hsz hdst hK hK'
            subst e
            exact hK'
        · rename_i hw
          refine ⟨a.put o.dst undef, hcomm undef, hsz' _, fun wb' hb => ?_⟩
          have h5 := hq wb' hb
          rw [ho] at h5
          dsimp only at h5
          rw [if_neg hw] at h5
          exact h5
      refine wpOp_of_qOp (P := P) (ops := l.toArray) (C := Cls wk) (i := i) (w := w) (Q' := Q) hC (fun a' w' hC' hK => ?_) hq'
      obtain ⟨a0, rfl, hsz0, hK⟩ := hK
      refine floatL hms hn h1 h2 h3 h4 hsel hd hnm hnd hV hdst T f (listed.setIfInBounds i true) a0 wk w' st hbk hC' inv' hl' (fun k v hv => ?_) hL hne hsz0 (fun wb' hb => by rw [he']; exact hK wb' hb)
      rw [getD_set_ne false (fun e => hme (by rw [hms]; exact List.mem_map.2 ⟨v, List.mem_of_getElem? hv, e.symm⟩))]
      exact hl k v hv

def AllV (P : Program) (l : List Oper) : List FVar → Prop
  | [] => True
  | v :: r => (∃ o, l[v.m]? = some o ∧ ∀ ev (w : World), (execOp ev o).run P w = .ok (.value (.pointer (some ⟨w.heap.size, 0, none⟩))) (w.alloc (.cells v.z v.t))) ∧ AllV P l r
theorem AllV.mem : ∀ {vs : List FVar}, AllV P l vs → ∀ v ∈ vs, ∃ o, l[v.m]? = some o ∧ ∀ ev (w : World), (execOp ev o).run P w = .ok (.value (.pointer (some ⟨w.heap.size, 0, none⟩))) (w.alloc (.cells v.z v.t))
  | [], _, _, h => by cases h
  | u :: r, ⟨h1, h2⟩, v, h => by
    rcases List.mem_cons.1 h with rfl | h
    · exact h1
    · exact h2.mem v h

/-- **A drawn region with variables that are made at any time.** n: the operations ahead of the tail; vs: the variables; s: how many slots there are. -/
theorem any_region_floatL {a : Act} {wb : World} {p : BW wb} (n s : Nat) (vs : List FVar) (hB : Region.lexB .any (maskL (vs.map (·.m)) (l.take n)).toArray = true) (hT : tailB l n = true) (hD : dstB l n s = true) (hF : (vs.all fun v => floatB l n v.m v.d s) = true) (hM : (vs.map (·.m)).Nodup)
    (hs : a.tmps.size = s) (hV : AllV P l vs)
    (h : ∃ A : Act, (∀ wb', Below wb.heap.size wb wb' → wpQuiet P (maskL (vs.map (·.m)) (l.take n)).toArray (fun w' => ∃ q : BW wb', w' = q.w) (fun a' => a' = A) (maskL (vs.map (·.m)) (l.take n)) a) ∧
      ∀ (W : World) (st : Nat → Option Nat), Below wb.heap.size wb W → (∀ (k : Nat) (v : FVar), vs[k]? = some v → ∃ g, st k = some g ∧ wb.heap.size ≤ g ∧ Bk W g v.t v.z) → (∀ (j k g : Nat), j < vs.length → k < vs.length → j ≠ k → st j = some g → st k ≠ some g) → wpList P l.toArray Q (l.drop n) (putAll vs st A) W) :
    wpAny P .any l.toArray Q l.toArray.size (Array.replicate l.toArray.size false) a { p.w with drawn := p.w.drawn + 1 } := by
  obtain ⟨A, hW, T⟩ := h
  simp only [tailB, Bool.and_eq_true, decide_eq_true_eq] at hT
  obtain ⟨hn, h1, h2, h3, h4⟩ := hT
  simp only [Region.lexB, Bool.and_eq_true] at hB
  have hlen : (maskL (vs.map (·.m)) (l.take n)).length = n := by rw [maskL_len]; simp; omega
  have hdst : ∀ (i : Nat) (o : Oper), i < n → l.toArray[i]? = some o → ∃ d, o.dst = some d ∧ d < s ∧ ∀ (j : Nat) (o' : Oper), j < n → j ≠ i → l.toArray[j]? = some o' → o'.dst ≠ some d := fun i o hi ho => by
    have h := List.all_eq_true.1 hD i (List.mem_range.2 hi)
    have ho' : l[i]? = some o := by simpa using ho
    rw [ho'] at h
    simp only [Option.bind_some] at h
    cases hd : o.dst with
    | none => rw [hd] at h; cases h
    | some d =>
      rw [hd] at h
      simp only [Bool.and_eq_true, decide_eq_true_eq] at h
      refine ⟨d, rfl, h.1, fun j o' hj hji hj' => ?_⟩
      have h5 := List.all_eq_true.1 h.2 j (List.mem_range.2 hj)
      have hj2 : l[j]? = some o' := by simpa using hj'
      rw [hj2] at h5
      simp only [Option.bind_some, Bool.or_eq_true, decide_eq_true_eq] at h5
      exact h5.resolve_left hji
  have hall : ∀ v ∈ vs, OkV P l n v ∧ ∀ (i : Nat) (o : Oper), i < n → i ≠ v.m → l.toArray[i]? = some o → v.d ∉ o.looksAt l.toArray ∧ o.dst ≠ some v.d := fun v hv => by
    obtain ⟨oA, hoA, hA⟩ := hV.mem v hv
    have hF1 := List.all_eq_true.1 hF v hv
    simp only [floatB, Bool.and_eq_true, decide_eq_true_eq, hoA] at hF1
    obtain ⟨hmn, f1, f2, f3, f4⟩ := hF1
    have hoA' : l.toArray[v.m]? = some oA := by simpa using hoA
    refine ⟨⟨hmn, oA, hoA', f3, by simpa using f4, hA⟩, fun i o hi him ho => ?_⟩
    have ho' : l[i]? = some o := by simpa using ho
    refine ⟨?_, ?_⟩
    · unfold freeB at f2
      rw [hoA] at f2
      simp only [Option.bind_some, f3] at f2
      have h := List.all_eq_true.1 f2 i (List.mem_range.2 hi)
      rw [ho'] at h
      simpa using h
    · obtain ⟨d, e1, _, e2⟩ := hdst v.m oA hmn hoA'
      rw [f3] at e1
      cases e1
      exact e2 i o hi him ho
  have hnd : (vs.map (·.d)).Nodup := by
    rw [List.nodup_iff_pairwise_ne, List.pairwise_map]
    have hM' := hM
    rw [List.nodup_iff_pairwise_ne, List.pairwise_map] at hM'
    refine hM'.imp_of_mem (fun {u v} hu hv hne e => ?_)
    obtain ⟨⟨hun, ou, hou, hdu, _⟩, _⟩ := hall u hu
    obtain ⟨_, k2⟩ := hall v hv
    exact (k2 u.m ou hun hne hou).2 (by rw [hdu, e])
  have hsel : ∀ (i : Nat) (o : Oper) cs b, i < n → i ∉ vs.map (·.m) → l.toArray[i]? = some o → o.op ≠ .select cs b := fun i o cs b hi him ho =>
    Region.noSelect_spec hB.1 i o cs b (by rw [maskL_same hi him]; exact ho)
  have inv0 : HeadInv .any l.toArray n (Array.replicate l.toArray.size false) :=
    ⟨by simp, fun j oj _ hl => (by rw [getD_replicate_false] at hl; cases hl), fun t _ ht => getD_in (by simpa using ht) (getD_replicate_false _ _)⟩
  have e : (Array.replicate l.toArray.size false).extract 0 n = Array.replicate (maskL (vs.map (·.m)) (l.take n)).toArray.size false := by
    have hz : (maskL (vs.map (·.m)) (l.take n)).toArray.size = n := by simpa using hlen
    rw [hz]
    apply Array.ext
    · simp; omega
    · intro j j1 j2; simp
  have H : ∀ wb', Below wb.heap.size wb wb' → wpAnyQ P .any (maskL (vs.map (·.m)) (l.take n)).toArray (Cls wb') (fun a' => a' = A) n ((Array.replicate l.toArray.size false).extract 0 n) a := fun wb' hb => by
    have := wpAnyQ_lex (C := Cls wb') (md := .any) hB.1 (maskL (vs.map (·.m)) (l.take n)) 0 (Array.replicate (maskL (vs.map (·.m)) (l.take n)).toArray.size false) a (by simp) (by simpa using hB.2) (hW wb' hb)
    rw [hlen] at this
    rw [e]
    exact this
  have none_all : ∀ (vs : List FVar) (a : Act), putAll vs (fun _ => none) a = a := fun vs => by
    induction vs with
    | nil => intro a; rfl
    | cons v r ih => intro a; exact ih a
  have := floatL (P := P) (Q := Q) (A := A) (vs := vs) rfl hn h1 h2 h3 h4 hsel (fun i o hi him ho v hv => (hall v hv).2 i o hi (fun e => him (by rw [e]; exact List.mem_map.2 ⟨v, hv, rfl⟩)) ho) hM hnd (fun v hv => (hall v hv).1) hdst T n (Array.replicate l.toArray.size false) a wb { p.w with drawn := p.w.drawn + 1 } (fun _ => none) (Below.refl _ _)
    ⟨p.next { p.w with drawn := p.w.drawn + 1 } ⟨rfl, rfl, rfl, Nat.le_refl _, fun _ _ => rfl⟩, rfl⟩ inv0 (left_start _ _) (fun k v hv => getD_replicate_false _ _) (fun k v hv => trivial) (fun _ _ _ _ _ _ h => by cases h) hs H
  rw [show n + (l.length - n) = l.toArray.size by simp; omega, none_all] at this
  exact this

theorem wp_region_floatL {id : Nat} {a : Act} {wb : World} {p : BW wb} (n s : Nat) (vs : List FVar) (hm : P.follows .mixedOrders = true) (hB : Region.lexB .any (maskL (vs.map (·.m)) (l.take n)).toArray = true) (hT : tailB l n = true) (hD : dstB l n s = true) (hF : (vs.all fun v => floatB l n v.m v.d s) = true) (hM : (vs.map (·.m)).Nodup)
    (hs : a.tmps.size = s) (hV : AllV P l vs)
    (h : ∃ A : Act, (∀ wb', Below wb.heap.size wb wb' → wpQuiet P (maskL (vs.map (·.m)) (l.take n)).toArray (fun w' => ∃ q : BW wb', w' = q.w) (fun a' => a' = A) (maskL (vs.map (·.m)) (l.take n)) a) ∧
      ∀ (W : World) (st : Nat → Option Nat), Below wb.heap.size wb W → (∀ (k : Nat) (v : FVar), vs[k]? = some v → ∃ g, st k = some g ∧ wb.heap.size ≤ g ∧ Bk W g v.t v.z) → (∀ (j k g : Nat), j < vs.length → k < vs.length → j ≠ k → st j = some g → st k ≠ some g) → wpList P l.toArray Q (l.drop n) (putAll vs st A) W) :
    (Code.region id l.toArray true).wp P Q a p.w :=
  wp_region_any hm (any_region_floatL n s vs hB hT hD hF hM hs hV h)
end

end Go.Proofs.Sky
