/- A drawn region without a tail: variables are made and written at any time (x, y := p[i], q[j]), the rest only reads. Imports nothing of the translation. -/
import Derived.Test.YtneacfhoinaeeaaMc8
import Derived.Test.YtneacfhoinaeeaaMc7
import Derived.Laws.Tables


namespace Go.Proofs.Sky
section

open Go Go.RowKit

set_option linter.unusedVariables false

set_option linter.unusedSimpArgs false

/-- A variable that is made and written: the operation that writes it, the slot of what is written, that value, the cells then. -/
structure SVar extends FVar where
  sm : Nat
  dv : Nat
  u : Value
  z2 : Array Value

def msk (vs : List SVar) : List Nat := vs.map (·.m) ++ vs.map (·.sm)

def fvs (vs : List SVar) : List FVar := vs.map (·.toFVar)

theorem nodup_sameS {f : SVar → Nat} : ∀ (vs : List SVar) (j k : Nat) (u v : SVar), (vs.map f).Nodup → vs[j]? = some u → vs[k]? = some v → f u = f v → j = k
  | [], _, _, _, _, _, h, _, _ => by simp at h
  | x :: r, 0, 0, _, _, _, _, _, _ => rfl
  | x :: r, 0, k + 1, u, v, hn, hu, hv, e => by
    cases hu
    have hn' := List.nodup_cons.1 (show (f x :: r.map f).Nodup from hn)
    exact absurd (List.mem_map.2 ⟨v, List.mem_of_getElem? (by simpa using hv), e.symm⟩) hn'.1
  | x :: r, j + 1, 0, u, v, hn, hu, hv, e => by
    cases hv
    have hn' := List.nodup_cons.1 (show (f x :: r.map f).Nodup from hn)
    exact absurd (List.mem_map.2 ⟨u, List.mem_of_getElem? (by simpa using hu), e⟩) hn'.1
  | x :: r, j + 1, k + 1, u, v, hn, hu, hv, e => by
    have hn' := List.nodup_cons.1 (show (f x :: r.map f).Nodup from hn)
    rw [nodup_sameS r j k u v hn'.2 (by simpa using hu) (by simpa using hv) e]

theorem putO_size (d : Nat) (o : Option Nat) (a : Act) : (putO d o a).tmps.size = a.tmps.size := by
  cases o <;> simp [putO, Act.put]

theorem putO_ne {d d' : Nat} (o : Option Nat) (a : Act) (h : d ≠ d') : (putO d o a).tmps[d']? = a.tmps[d']? := by
  cases o <;> simp [putO, Act.put, Array.getElem?_setIfInBounds_ne h]

theorem putAll_ne {d : Nat} : ∀ (vs : List FVar) (st : Nat → Option Nat) (a : Act), (∀ v ∈ vs, v.d ≠ d) → (putAll vs st a).tmps[d]? = a.tmps[d]?
  | [], _, _, _ => rfl
  | v :: r, st, a, h => (putAll_ne r _ _ (fun u hu => h u (List.mem_cons_of_mem _ hu))).trans (putO_ne _ _ (h v List.mem_cons_self))

theorem putAll_at {g : Nat} : ∀ (vs : List FVar) (st : Nat → Option Nat) (a : Act) (k : Nat) (v : FVar), vs[k]? = some v → (vs.map (·.d)).Nodup → st k = some g → v.d < a.tmps.size →
    (putAll vs st a).tmps[v.d]? = some (.pointer (some ⟨g, 0, none⟩))
  | [], _, _, k, _, h, _, _, _ => by simp at h
  | u :: r, st, a, 0, v, h, hn, hs, hz => by
    cases h
    have hn' := List.nodup_cons.1 (show (u.d :: r.map (·.d)).Nodup from hn)
    refine (putAll_ne r _ _ (fun w hw e => hn'.1 (by rw [← e]; exact List.mem_map_of_mem hw))).trans ?_
    rw [hs]
    simp [putO, Act.put, hz]
  | u :: r, st, a, k + 1, v, h, hn, hs, hz => by
    have hn' := List.nodup_cons.1 (show (u.d :: r.map (·.d)).Nodup from hn)
    exact putAll_at r _ _ k v (by simpa using h) hn'.2 hs (by rw [putO_size]; exact hz)

/-- A whole variable is written: the law that wp_region_floatS asks. -/
theorem store_whole {P : Program} {o : Oper} {a : Act} {w : World} {g : Nat} {t ty : TypeId} {x y : Nat} {old cells : Array Value} (ho : o.op = .store ty (.tmp x) (.tmp y)) (hx : a.tmps[x]? = some (.pointer (some ⟨g, 0, none⟩))) (hy : a.tmps[y]? = some (.agg cells)) (hg : Bk w g t old)
    (hi : (P.info? ty).map (·.size) = some cells.size) (hs : old.size = cells.size) (h1 : cells.all (·.oneCell') = true) :
    ∃ w', (execOp a.eval o).run P w = .ok .skip w' ∧ Bk w' g t cells ∧ (∀ b t cs, b ≠ g → Bk w b t cs → Bk w' b t cs) ∧ ∀ (W0 : World) (B : Nat), Below B W0 w → B ≤ g → Below B W0 w' := by
  have hx' : a.eval (.tmp x) = .pointer (some ⟨g, 0, none⟩) := by simp [Act.eval, hx]
  have hy' : a.eval (.tmp y) = .agg cells := by simp [Act.eval, hy]
  refine ⟨w.setRow g cells, ?_, setRow_heap w g old cells t (0, 0) hg, fun b t cs hne h => (setRow_other w g b cells hne).trans h, fun W0 B h hB => ⟨h.os, h.tape, h.output, by simp; exact h.size, fun i hi => (setRow_other w g i cells (by omega)).trans (h.block i hi)⟩⟩
  unfold execOp
  simp only [ho, hx', hy', Instr.storeAt, Instr.sureAddr, Sem.run_bind, Sem.run_pure, Result.andThen_ok, run_storeVar_row w g t ty old cells hg hi hs h1]

section

variable {P : Program} {Q : Exit → Act → World → Prop} {l : List Oper} {ms : List Nat} {A : Act}

theorem whole_step (h4 : headB l l.length = true) {f : Nat} {listed : Array Bool} (inv : HeadInv .any l.toArray l.length listed) (hf : left listed l.length = f + 1) :
    Region.ready .any l.toArray listed ≠ [] ∧ ∀ i ∈ Region.ready .any l.toArray listed, i < l.length ∧ i ∈ Region.ready .any (maskL ms (l.take l.length)).toArray listed ∧ listed.getD i false = false ∧
      HeadInv .any l.toArray l.length (listed.setIfInBounds i true) ∧ left (listed.setIfInBounds i true) l.length = f := by
  have hsz : listed.size = l.length := by rw [inv.size]; simp
  obtain ⟨k, k1, k2, k3⟩ := left_some listed l.length (by omega)
  have hun : listed.getD k true = false := getD_in (by omega) k2
  have hkr : k ∈ Region.ready .any l.toArray listed := by
    have ho : l.toArray[k]? = some l[k] := by simp
    exact mem_ready.2 ⟨hun, _, ho, fun e he hb => k3 _ ((head_of h4 k1 ho).1 e he hb)⟩
  refine ⟨fun h0 => (by rw [h0] at hkr; cases hkr), fun i hi => ?_⟩
  obtain ⟨a1, o, a2, a3⟩ := mem_ready.1 hi
  have hin : i < l.length := by
    have := (Array.getElem?_eq_some_iff.1 a2).1
    simpa using this
  have hui : listed.getD i false = false := getD_both a1
  refine ⟨hin, ?_, hui, inv.set hi hin, ?_⟩
  · obtain ⟨o', b1, b2, b3⟩ := maskL_after (ms := ms) hin a2
    exact mem_ready.2 ⟨a1, o', b1, fun e he hb => a3 e (by rw [b2] at he; exact he) hb⟩
  · have := left_set listed i (by omega) hui l.length hin
    omega

/-- The same value in every class. -/
theorem same_pinS {C C' : World → Prop} {s i f : Nat} {o oM : Oper} {listed : Array Bool} {a : Act} {v v' : Value} {d : Nat} (hin : i < l.length) (hls : l.length ≤ listed.size) (hdM : oM.dst = some d) (hsz : a.tmps.size = s) (hds : d < s)
    (hdo : ∀ (j : Nat) (o' : Oper), j < l.length → j ≠ i → l.toArray[j]? = some o' → o'.dst ≠ some d)
    (h1 : wpAnyQ P .any (maskL ms (l.take l.length)).toArray C (fun a' => a' = A) f (listed.setIfInBounds i true) (a.put oM.dst v))
    (h2 : wpAnyQ P .any (maskL ms (l.take l.length)).toArray C' (fun a' => a' = A) f (listed.setIfInBounds i true) (a.put oM.dst v')) : v = v' := by
  have all : ∀ {C : World → Prop} {v : Value}, wpAnyQ P .any (maskL ms (l.take l.length)).toArray C (fun a' => a' = A) f (listed.setIfInBounds i true) (a.put oM.dst v) → A.tmps[d]? = some v := fun {C v} h => by
    have := pin (d := d) f _ _ h (fun j oj hj hu => by
      obtain ⟨hjn, o', ho', hd'⟩ := maskL_inv hj
      rw [← hd']
      by_cases e : j = i
      · subst e
        exfalso
        have : j < listed.size := by omega
        simp [this] at hu
      · exact hdo j o' hjn e ho')
    rw [← this, hdM]
    simp [Act.put, hsz, hds]
  have e1 := all h1
  have e2 := all h2
  rw [e1] at e2
  cases e2
  rfl

/-- What the text says of a variable's writing. -/
def OkS (P : Program) (l : List Oper) (v : SVar) : Prop :=
  v.sm < l.length ∧ ∃ o, l.toArray[v.sm]? = some o ∧ o.dst = none ∧ o.guard = none ∧ (∃ e ∈ o.after, Region.binds .any e = true ∧ e.on = v.m) ∧
    (∀ (i : Nat) (o' : Oper), l.toArray[i]? = some o' → o'.dst = some v.dv → ∃ e ∈ o.after, Region.binds .any e = true ∧ e.on = i) ∧
    ∀ (a : Act) (w : World) (g : Nat), a.tmps[v.d]? = some (.pointer (some ⟨g, 0, none⟩)) → a.tmps[v.dv]? = some v.u → Bk w g v.t v.z →
      ∃ w', (execOp a.eval o).run P w = .ok .skip w' ∧ Bk w' g v.t v.z2 ∧ (∀ b t cs, b ≠ g → Bk w b t cs → Bk w' b t cs) ∧ ∀ (W0 : World) (B : Nat), Below B W0 w → B ≤ g → Below B W0 w'

theorem floatS {wb : World} {s : Nat} {vs : List SVar} (hms : ms = msk vs) (h4 : headB l l.length = true)
    (hsel : ∀ (i : Nat) (o : Oper) cs b, i < l.length → i ∉ ms → l.toArray[i]? = some o → o.op ≠ .select cs b)
    (hd : ∀ (i : Nat) (o : Oper), i < l.length → i ∉ ms → l.toArray[i]? = some o → ∀ v ∈ vs, v.d ∉ o.looksAt l.toArray ∧ o.dst ≠ some v.d)
    (hnm : ms.Nodup) (hnd : ((fvs vs).map (·.d)).Nodup) (hV : ∀ v ∈ vs, OkV P l l.length v.toFVar) (hS : ∀ v ∈ vs, OkS P l v) (hu : ∀ v ∈ vs, A.tmps[v.dv]? = some v.u) (hdv : ∀ v ∈ vs, ∀ x ∈ vs, x.d ≠ v.dv)
    (hdst : ∀ (i : Nat) (o : Oper), i < l.length → i ∉ vs.map (·.sm) → l.toArray[i]? = some o → ∃ d, o.dst = some d ∧ d < s ∧ ∀ (j : Nat) (o' : Oper), j < l.length → j ≠ i → l.toArray[j]? = some o' → o'.dst ≠ some d)
    (T : ∀ (W : World) (st : Nat → Option Nat), Below wb.heap.size wb W → (∀ (k : Nat) (v : SVar), vs[k]? = some v → ∃ g, st k = some g ∧ wb.heap.size ≤ g ∧ Bk W g v.t v.z2) → (∀ (j k g : Nat), j < vs.length → k < vs.length → j ≠ k → st j = some g → st k ≠ some g) → Q .normal (putAll (fvs vs) st A) W) :
    ∀ (f : Nat) (listed : Array Bool) (a : Act) (wk w : World) (st : Nat → Option Nat), Below wb.heap.size wb wk → Cls wk w → HeadInv .any l.toArray l.length listed → left listed l.length = f →
      (∀ (k : Nat) (v : SVar), vs[k]? = some v → listed.getD v.m false = (st k).isSome) →
      (∀ (k : Nat) (v : SVar), vs[k]? = some v → ∀ g, st k = some g → wb.heap.size ≤ g ∧ Bk wk g v.t (if listed.getD v.sm false then v.z2 else v.z)) →
      (∀ (j k g : Nat), j < vs.length → k < vs.length → j ≠ k → st j = some g → st k ≠ some g) → a.tmps.size = s →
      (∀ wb', Below wb.heap.size wb wb' → wpAnyQ P .any (maskL ms (l.take l.length)).toArray (Cls wb') (fun a' => a' = A) f listed a) →
      wpAny P .any l.toArray Q f listed (putAll (fvs vs) st a) w
  | 0, listed, a, wk, w, st, hbk, hC, inv, hf, hl, hL, hne, hsz, h => by
    obtain ⟨q, rfl⟩ := hC
    have ea : a = A := (h _ (Below.refl _ _)).2
    subst ea
    have hall := left_zero listed l.length hf
    refine ⟨?_, T q.w st (hbk.trans (q.h.mono hbk.size)) (fun k v hv => ?_) hne⟩
    · cases hr : Region.ready .any l.toArray listed with
      | nil => rfl
      | cons i r =>
        exfalso
        have hi : i ∈ Region.ready .any l.toArray listed := by rw [hr]; exact List.mem_cons_self
        obtain ⟨a1, o, a2, _⟩ := mem_ready.1 hi
        have hin : i < l.length := by
          have := (Array.getElem?_eq_some_iff.1 a2).1
          simpa using this
        have := hall i hin
        rw [getD_both a1] at this
        cases this
    · have hm := List.mem_of_getElem? hv
      have e1 := hall v.m (hV v hm).1
      rw [hl k v hv] at e1
      obtain ⟨g, hg⟩ := Option.isSome_iff_exists.1 e1
      have hk := hL k v hv g hg
      rw [hall v.sm (hS v hm).1, if_pos rfl] at hk
      exact ⟨g, hg, hk.1, hk.2.below q.h⟩
  | f + 1, listed, a, wk, w, st, hbk, hC, inv, hf, hl, hL, hne, hsz, h => by
    obtain ⟨hne0, hstep⟩ := whole_step (ms := ms) h4 inv hf
    refine ⟨fun h0 => absurd h0 hne0, fun i hi => ?_⟩
    obtain ⟨hin, hi', hui, inv', hl'⟩ := hstep i hi
    have hls : l.length ≤ listed.size := by rw [inv.size]; simp
    have gv : ∀ {k : Nat} {v : SVar}, vs[k]? = some v → (fvs vs)[k]? = some v.toFVar := fun {k v} hk => by simp [fvs, hk]
    have mm : ∀ {k : Nat} {v : SVar}, vs[k]? = some v → v.m ∈ vs.map (·.m) ∧ v.sm ∈ vs.map (·.sm) := fun {k v} hk => ⟨List.mem_map.2 ⟨v, List.mem_of_getElem? hk, rfl⟩, List.mem_map.2 ⟨v, List.mem_of_getElem? hk, rfl⟩⟩
    have hnd2 : (vs.map (·.m)).Nodup ∧ (vs.map (·.sm)).Nodup ∧ ∀ x ∈ vs.map (·.m), ∀ y ∈ vs.map (·.sm), x ≠ y := by
      rw [hms, msk, List.nodup_append] at hnm
      exact hnm
    have nth : ∀ (fn : SVar → Nat), (vs.map fn).Nodup → ∀ (j k : Nat) (u v : SVar), vs[j]? = some u → vs[k]? = some v → fn u = fn v → j = k := fun fn hn j k u v hj hk e => nodup_sameS vs j k u v hn hj hk e
    by_cases hme : i ∈ vs.map (·.m)
    · -- a variable is made
      have hns : i ∉ vs.map (·.sm) := fun hx => hnd2.2.2 i hme i hx rfl
      obtain ⟨k, v, hkv, hvm⟩ : ∃ (k : Nat) (v : SVar), vs[k]? = some v ∧ v.m = i := by
        obtain ⟨v, hv, e⟩ := List.mem_map.1 hme
        obtain ⟨k, hk⟩ := List.getElem?_of_mem hv
        exact ⟨k, v, hk, e⟩
      obtain ⟨_, o, ho, hod, hog, hoA⟩ := hV v (List.mem_of_getElem? hkv)
      rw [hvm] at ho
      obtain ⟨q0, rfl⟩ := hC
      have hst0 : st k = none := by
        have := hl k v hkv
        rw [hvm, hui] at this
        cases hs : st k with
        | none => rfl
        | some g => rw [hs] at this; cases this
      have hsu : listed.getD v.sm false = false := by
        cases hx : listed.getD v.sm false with
        | false => rfl
        | true =>
          obtain ⟨_, o2, ho2, _, _, ⟨e, he, hb, hem⟩, _⟩ := hS v (List.mem_of_getElem? hkv)
          have := inv.closed v.sm o2 ho2 hx e he hb
          rw [hem, hvm, hui] at this
          cases this
      have hkl : k < vs.length := (List.getElem?_eq_some_iff.1 hkv).1
      unfold wpOp
      rw [ho]
      dsimp only
      rw [if_pos (by unfold Region.wanted; rw [hog])]
      refine .inl ?_
      unfold Oper.wp
      rw [hoA]
      simp only [Oper.upon]
      rw [hod]
      have hb0 : Below wb.heap.size wb q0.w := hbk.trans (q0.h.mono hbk.size)
      have hb : Below wb.heap.size wb (q0.w.alloc (.cells v.z v.t)) := hb0.alloc hb0.size _
      have hq := (h _ hb).2 i hi'
      obtain ⟨oM, hoM, _, hdM⟩ := maskL_after (ms := ms) hin ho
      obtain ⟨x, _, hK⟩ := yieldsIn_of_qOp hoM hq
      obtain ⟨d0, hd1, hds, hdo⟩ := hdst i o hin hns ho
      have hdM' : oM.dst = some d0 := hdM.trans hd1
      have := floatS hms h4 hsel hd hnm hnd hV hS hu hdv hdst T f (listed.setIfInBounds i true) (a.put oM.dst x) (q0.w.alloc (.cells v.z v.t)) (q0.w.alloc (.cells v.z v.t)) (setSt st k q0.w.heap.size) hb ⟨BW.start _, rfl⟩ inv' hl'
        (fun j u hj => by
          by_cases e : j = k
          · subst e
            rw [hkv] at hj
            cases hj
            rw [hvm]
            simp [setSt, show i < listed.size by omega]
          · rw [getD_set_ne false (fun e2 => e (nth (·.m) hnd2.1 j k u v hj hkv (e2.symm.trans hvm.symm)))]
            simp only [setSt, if_neg e]
            exact hl j u hj)
        (fun j u hj g hg => by
          rw [getD_set_ne false (show i ≠ u.sm from fun e => hns (by rw [e]; exact (mm hj).2))]
          by_cases e : j = k
          · subst e
            rw [hkv] at hj
            cases hj
            simp only [setSt, if_pos, Option.some.injEq] at hg
            subst hg
            rw [hsu]
            exact ⟨hb0.size, Bk.new _ _ _⟩
          · simp only [setSt, if_neg e] at hg
            obtain ⟨k1, k2⟩ := hL j u hj g hg
            exact ⟨k1, (k2.below q0.h).alloc _⟩)
        (fun j j' g hj hj' hjj e1 e2 => by
          have old : ∀ j'', j'' < vs.length → j'' ≠ k → st j'' ≠ some q0.w.heap.size := fun j'' hl'' hn'' ec => by
            obtain ⟨u, hu⟩ : ∃ u, vs[j'']? = some u := ⟨_, List.getElem?_eq_getElem hl''⟩
            have := ((hL j'' u hu _ ec).2.below q0.h).lt
            omega
          by_cases e : j = k
          · subst e
            have e' : j' ≠ j := Ne.symm hjj
            simp only [setSt, if_pos, Option.some.injEq] at e1
            simp only [setSt, if_neg e'] at e2
            subst e1
            exact old j' hj' e' e2
          · simp only [setSt, if_neg e] at e1
            by_cases e' : j' = k
            · subst e'
              simp only [setSt, if_pos, Option.some.injEq] at e2
              subst e2
              exact old j hj e e1
            · simp only [setSt, if_neg e'] at e2
              exact hne j j' g hj hj' hjj e1 e2)
        (by rw [hdM']; simp [Act.put, hsz])
        (fun wb' hb' => by
          have hq' := (h wb' hb').2 i hi'
          obtain ⟨x', hx', hK'⟩ := yieldsIn_of_qOp hoM hq'
          have e := same_pinS (o := o) hin hls hdM' hsz hds hdo hK hK'
          subst e
          exact hK')
      rw [hdM, hod, putAll_made x (fvs vs) st a k v.toFVar (gv hkv) hnd hst0] at this
      exact this
    · by_cases hmS : i ∈ vs.map (·.sm)
      · -- a variable is written
        obtain ⟨k, v, hkv, hvm⟩ : ∃ (k : Nat) (v : SVar), vs[k]? = some v ∧ v.sm = i := by
          obtain ⟨v, hv, e⟩ := List.mem_map.1 hmS
          obtain ⟨k, hk⟩ := List.getElem?_of_mem hv
          exact ⟨k, v, hk, e⟩
        have hvv := List.mem_of_getElem? hkv
        obtain ⟨_, o, ho, hod, hog, ⟨em, hem1, hem2, hem3⟩, hwait, hlaw⟩ := hS v hvv
        rw [hvm] at ho
        obtain ⟨q0, rfl⟩ := hC
        have hkl : k < vs.length := (List.getElem?_eq_some_iff.1 hkv).1
        obtain ⟨_, o1, ho1, hready⟩ := mem_ready.1 hi
        obtain rfl : o = o1 := Option.some.inj (ho.symm.trans ho1)
        have hm1 : listed.getD v.m false = true := by rw [← hem3]; exact hready em hem1 hem2
        rw [hl k v hkv] at hm1
        obtain ⟨g, hg⟩ := Option.isSome_iff_exists.1 hm1
        obtain ⟨kg, kb⟩ := hL k v hkv g hg
        rw [hvm, hui, if_neg (by decide)] at kb
        have hpin : a.tmps[v.dv]? = some v.u := by
          rw [← hu v hvv]
          refine pin (d := v.dv) _ _ _ (h _ (Below.refl _ _)) (fun j oj hj hu2 e => ?_)
          obtain ⟨hjn, o', ho', hd'⟩ := maskL_inv hj
          obtain ⟨e2, he2, hb2, hj2⟩ := hwait j o' ho' (hd'.trans e)
          have := hready e2 he2 hb2
          rw [hj2, hu2] at this
          cases this
        obtain ⟨_, oV, hoV, hdV, _⟩ := hV v hvv
        have hvm2 : v.m < l.length := (hV v hvv).1
        have hvns : v.m ∉ vs.map (·.sm) := fun hx => hnd2.2.2 v.m (mm hkv).1 v.m hx rfl
        obtain ⟨d0, hd1, hds, _⟩ := hdst v.m oV hvm2 hvns hoV
        obtain rfl : v.d = d0 := Option.some.inj (hdV.symm.trans hd1)
        obtain ⟨w', hrun, kz, ko, kbl⟩ := hlaw (putAll (fvs vs) st a) q0.w g (putAll_at (fvs vs) st a k v.toFVar (gv hkv) hnd hg (by rw [hsz]; exact hds))
          ((putAll_ne (fvs vs) st a (fun u hu3 => by obtain ⟨u', hu', rfl⟩ := List.mem_map.1 hu3; exact hdv v hvv u' hu')).trans hpin) (kb.below q0.h)
        unfold wpOp
        rw [ho]
        dsimp only
        rw [if_pos (by unfold Region.wanted; rw [hog])]
        refine .inl ?_
        unfold Oper.wp
        rw [hrun]
        simp only [Oper.upon]
        rw [hod]
        have hb0 : Below wb.heap.size wb q0.w := hbk.trans (q0.h.mono hbk.size)
        have hb : Below wb.heap.size wb w' := kbl wb _ hb0 kg
        obtain ⟨oM, hoM, _, hdM⟩ := maskL_after (ms := ms) hin ho
        refine floatS hms h4 hsel hd hnm hnd hV hS hu hdv hdst T f (listed.setIfInBounds i true) a w' w' st hb ⟨BW.start _, rfl⟩ inv' hl' (fun j u hj => ?_) (fun j u hj g' hg' => ?_) hne hsz (fun wb' hb' => ?_)
        · rw [getD_set_ne false (show i ≠ u.m from fun e => hme (by rw [e]; exact (mm hj).1))]
          exact hl j u hj
        · by_cases e : j = k
          · subst e
            rw [hkv] at hj
            cases hj
            rw [hg] at hg'
            cases hg'
            rw [hvm]
            simp only [Array.getD_eq_getD_getElem?, Array.getElem?_setIfInBounds_self, show i < listed.size by omega, if_true, Option.getD_some]
            exact ⟨kg, kz⟩
          · rw [getD_set_ne false (fun e2 => e (nth (·.sm) hnd2.2.1 j k u v hj hkv (e2.symm.trans hvm.symm)))]
            obtain ⟨k1, k2⟩ := hL j u hj g' hg'
            refine ⟨k1, ko _ _ _ (fun e3 => ?_) (k2.below q0.h)⟩
            subst e3
            exact hne j k _ (List.getElem?_eq_some_iff.1 hj).1 hkl e hg' hg
        · have hq' := (h wb' hb').2 i hi'
          obtain ⟨x', _, hK'⟩ := yieldsIn_of_qOp hoM hq'
          rw [hdM, hod] at hK'
          exact hK'
      · have hme' : i ∉ ms := fun hx => by
          rw [hms, msk] at hx
          exact (List.mem_append.1 hx).elim hme hmS
        obtain ⟨_, o, ho, _⟩ := mem_ready.1 hi
        have hall0 := hd i o hin hme' ho
        have hall : ∀ u ∈ fvs vs, u.d ∉ o.looksAt l.toArray ∧ o.dst ≠ some u.d := fun u hu2 => by
          obtain ⟨u', hu', rfl⟩ := List.mem_map.1 hu2
          exact hall0 u' hu'
        have hs := fun cs b => hsel i o cs b hin hme' ho
        obtain ⟨d, hod, hds, hdo⟩ := hdst i o hin hmS ho
        have hq : ∀ wb', Below wb.heap.size wb wb' → qOp P l.toArray (Cls wb') i (wpAnyQ P .any (maskL ms (l.take l.length)).toArray (Cls wb') (fun a' => a' = A) f (listed.setIfInBounds i true)) a :=
          fun wb' hb => qOp_maskL h4 hin hme' ((h wb' hb).2 i hi')
        have hq' : qOp P l.toArray (Cls wk) i (fun a' => ∃ a0 : Act, a' = putAll (fvs vs) st a0 ∧ a0.tmps.size = s ∧ ∀ wb', Below wb.heap.size wb wb' → wpAnyQ P .any (maskL ms (l.take l.length)).toArray (Cls wb') (fun a' => a' = A) f (listed.setIfInBounds i true) a0) (putAll (fvs vs) st a) := by
          have hsz' : ∀ v, (a.put o.dst v).tmps.size = s := fun v => by rw [hod]; simp [Act.put, hsz]
          have hcomm : ∀ v, (putAll (fvs vs) st a).put o.dst v = putAll (fvs vs) st (a.put o.dst v) := fun v => putAll_comm v (fvs vs) st a (fun u hu => (hall u hu).2)
          have h0 := hq wk hbk
          unfold qOp at h0 hq ⊢
          rw [ho] at h0 ⊢
          dsimp only at h0 ⊢
          rw [wanted_putAll (fvs vs) st a (fun u hu => (hall u hu).1)]
          split
          · rename_i hw
            rw [if_pos hw] at h0
            obtain ⟨v, hv, hK⟩ := h0
            refine ⟨v, fun w' hw' => ?_, a.put o.dst v, hcomm v, hsz' v, fun wb' hb => ?_⟩
            · have := hv w' hw'
              unfold Oper.quietAt at *
              rw [exec_putAll hs (fvs vs) st a (fun u hu => (hall u hu).1)]
              exact this
            · have h5 := hq wb' hb
              rw [ho] at h5
              dsimp only at h5
              rw [if_pos hw] at h5
              obtain ⟨v', hv', hK'⟩ := h5
              have e := same_pinS (o := o) hin hls hod hsz hds hdo hK hK'
              subst e
              exact hK'
          · rename_i hw
            refine ⟨a.put o.dst undef, hcomm undef, hsz' _, fun wb' hb => ?_⟩
            have h5 := hq wb' hb
            rw [ho] at h5
            dsimp only at h5
            rw [if_neg hw] at h5
            exact h5
        refine wpOp_of_qOp (P := P) (ops := l.toArray) (C := Cls wk) (i := i) (w := w) (Q' := Q) hC (fun a' w' hC' hK => ?_) hq'
        obtain ⟨a0, rfl, hsz0, hK⟩ := hK
        refine floatS hms h4 hsel hd hnm hnd hV hS hu hdv hdst T f (listed.setIfInBounds i true) a0 wk w' st hbk hC' inv' hl' (fun k v hv => ?_) (fun k v hv g hg => ?_) hne hsz0 (fun wb' hb => hK wb' hb)
        · rw [getD_set_ne false (show i ≠ v.m from fun e => hme (by rw [e]; exact (mm hv).1))]
          exact hl k v hv
        · rw [getD_set_ne false (show i ≠ v.sm from fun e => hmS (by rw [e]; exact (mm hv).2))]
          exact hL k v hv g hg

/-- The two laws of each variable: it is made, it is written. -/
def AllS (P : Program) (l : List Oper) : List SVar → Prop
  | [] => True
  | v :: r => ((∃ o, l[v.m]? = some o ∧ ∀ ev (w : World), (execOp ev o).run P w = .ok (.value (.pointer (some ⟨w.heap.size, 0, none⟩))) (w.alloc (.cells v.z v.t))) ∧
      (∃ o, l[v.sm]? = some o ∧ ∀ (a : Act) (w : World) (g : Nat), a.tmps[v.d]? = some (.pointer (some ⟨g, 0, none⟩)) → a.tmps[v.dv]? = some v.u → Bk w g v.t v.z →
        ∃ w', (execOp a.eval o).run P w = .ok .skip w' ∧ Bk w' g v.t v.z2 ∧ (∀ b t cs, b ≠ g → Bk w b t cs → Bk w' b t cs) ∧ ∀ (W0 : World) (B : Nat), Below B W0 w → B ≤ g → Below B W0 w')) ∧ AllS P l r

theorem AllS.mem : ∀ {vs : List SVar}, AllS P l vs → ∀ v ∈ vs, ((∃ o, l[v.m]? = some o ∧ ∀ ev (w : World), (execOp ev o).run P w = .ok (.value (.pointer (some ⟨w.heap.size, 0, none⟩))) (w.alloc (.cells v.z v.t))) ∧
      (∃ o, l[v.sm]? = some o ∧ ∀ (a : Act) (w : World) (g : Nat), a.tmps[v.d]? = some (.pointer (some ⟨g, 0, none⟩)) → a.tmps[v.dv]? = some v.u → Bk w g v.t v.z →
        ∃ w', (execOp a.eval o).run P w = .ok .skip w' ∧ Bk w' g v.t v.z2 ∧ (∀ b t cs, b ≠ g → Bk w b t cs → Bk w' b t cs) ∧ ∀ (W0 : World) (B : Nat), Below B W0 w → B ≤ g → Below B W0 w'))
  | [], _, _, h => by cases h
  | u :: r, ⟨h1, h2⟩, v, h => by
    rcases List.mem_cons.1 h with rfl | h
    · exact h1
    · exact h2.mem v h

def dstS (l : List Oper) (sms : List Nat) (s : Nat) : Bool := (List.range l.length).all fun i => sms.contains i ||
  match (l[i]?).bind (·.dst) with
  | some d => decide (d < s) && (List.range l.length).all fun j => decide (j = i) || decide ((l[j]?).bind (·.dst) ≠ some d)
  | none => false

def freeS (l : List Oper) (ms : List Nat) (d : Nat) : Bool := (List.range l.length).all fun i => ms.contains i || (match l[i]? with | some o => !((o.looksAt l.toArray).contains d) | none => true)

def varB (l : List Oper) (ms : List Nat) (v : SVar) : Bool :=
  decide (v.m < l.length) && (decide (v.sm < l.length) && (freeS l ms v.d && ((match l[v.m]? with | some o => decide (o.dst = some v.d) && o.guard.isNone | none => false) &&
    match l[v.sm]? with
    | some o => decide (o.dst = none) && (o.guard.isNone && ((o.after.any fun e => Region.binds .any e && decide (e.on = v.m)) && ((List.range l.length).all fun i => !(decide ((l[i]?).bind (·.dst) = some v.dv)) || (o.after.any fun e => Region.binds .any e && decide (e.on = i)))))
    | none => false)))

/-- **A drawn region whose variables are made and written at any time, beside reads.** -/
theorem wp_region_floatS {id : Nat} {a : Act} {wb : World} {p : BW wb} (s : Nat) (vs : List SVar) (hm : P.follows .mixedOrders = true) (hB : Region.lexB .any (maskL (msk vs) (l.take l.length)).toArray = true) (h4 : headB l l.length = true) (hD : dstS l (vs.map (·.sm)) s = true) (hF : (vs.all fun v => varB l (msk vs) v) = true)
    (hnm : (msk vs).Nodup) (hnd : ((fvs vs).map (·.d)).Nodup) (hdv : (vs.all fun v => vs.all fun x => decide (x.d ≠ v.dv)) = true) (hs : a.tmps.size = s) (hV : AllS P l vs)
    (h : ∃ A : Act, (∀ wb', Below wb.heap.size wb wb' → wpQuiet P (maskL (msk vs) (l.take l.length)).toArray (fun w' => ∃ q : BW wb', w' = q.w) (fun a' => a' = A) (maskL (msk vs) (l.take l.length)) a) ∧ (∀ v ∈ vs, A.tmps[v.dv]? = some v.u) ∧
      ∀ (W : World) (st : Nat → Option Nat), Below wb.heap.size wb W → (∀ (k : Nat) (v : SVar), vs[k]? = some v → ∃ g, st k = some g ∧ wb.heap.size ≤ g ∧ Bk W g v.t v.z2) → (∀ (j k g : Nat), j < vs.length → k < vs.length → j ≠ k → st j = some g → st k ≠ some g) → Q .normal (putAll (fvs vs) st A) W) :
    (Code.region id l.toArray true).wp P Q a p.w := by
  refine wp_region_any hm ?_
  obtain ⟨A, hW, hu, T⟩ := h
  simp only [Region.lexB, Bool.and_eq_true] at hB
  have hlen : (maskL (msk vs) (l.take l.length)).length = l.length := by rw [maskL_len]; simp
  have hdst : ∀ (i : Nat) (o : Oper), i < l.length → i ∉ vs.map (·.sm) → l.toArray[i]? = some o → ∃ d, o.dst = some d ∧ d < s ∧ ∀ (j : Nat) (o' : Oper), j < l.length → j ≠ i → l.toArray[j]? = some o' → o'.dst ≠ some d := fun i o hi hns ho => by
    have h := List.all_eq_true.1 hD i (List.mem_range.2 hi)
    have ho' : l[i]? = some o := by simpa using ho
    rw [ho', show (vs.map (·.sm)).contains i = false by simpa using hns] at h
    simp only [Option.bind_some, Bool.false_or] at h
    cases hd : o.dst with
    | none => rw [hd] at h; cases h
    | some d =>
      rw [hd] at h
      simp only [Bool.and_eq_true, decide_eq_true_eq] at h
      refine ⟨d, rfl, h.1, fun j o' hj hji hj' => ?_⟩
      have h5 := List.all_eq_true.1 h.2 j (List.mem_range.2 hj)
      have hj2 : l[j]? = some o' := by simpa using hj'
      rw [hj2] at h5
      simp only [Option.bind_some, Bool.or_eq_true, decide_eq_true_eq] at h5
      exact h5.resolve_left hji
  have hmsn : ∀ v ∈ vs, v.m ∉ vs.map (·.sm) := fun v hv hx => by
    have := hnm
    rw [msk, List.nodup_append] at this
    exact this.2.2 v.m (List.mem_map.2 ⟨v, hv, rfl⟩) v.m hx rfl
  have hall : ∀ v ∈ vs, OkV P l l.length v.toFVar ∧ OkS P l v ∧ ∀ (i : Nat) (o : Oper), i < l.length → i ∉ msk vs → l.toArray[i]? = some o → v.d ∉ o.looksAt l.toArray ∧ o.dst ≠ some v.d := fun v hv => by
    obtain ⟨⟨oA, hoA, hA⟩, ⟨oS, hoS, hSt⟩⟩ := hV.mem v hv
    have hF1 := List.all_eq_true.1 hF v hv
    simp only [varB, Bool.and_eq_true, decide_eq_true_eq, hoA, hoS] at hF1
    obtain ⟨hmn, hsn, f2, ⟨f3, f4⟩, g1, g2, g3, g4⟩ := hF1
    have hoA' : l.toArray[v.m]? = some oA := by simpa using hoA
    have hoS' : l.toArray[v.sm]? = some oS := by simpa using hoS
    refine ⟨⟨hmn, oA, hoA', f3, by simpa using f4, hA⟩, ⟨hsn, oS, hoS', g1, by simpa using g2, ?_, fun i o' ho' hd' => ?_, hSt⟩, fun i o hi him ho => ⟨?_, ?_⟩⟩
    · obtain ⟨e, he, hb⟩ := Array.any_eq_true'.1 g3
      simp only [Bool.and_eq_true, decide_eq_true_eq] at hb
      exact ⟨e, he, hb⟩
    · have ho2 : l[i]? = some o' := by simpa using ho'
      have hi : i < l.length := (List.getElem?_eq_some_iff.1 ho2).1
      have k1 := List.all_eq_true.1 g4 i (List.mem_range.2 hi)
      rw [ho2] at k1
      simp only [Option.bind_some, hd', decide_true, Bool.not_true, Bool.false_or] at k1
      obtain ⟨e, he, hb⟩ := Array.any_eq_true'.1 k1
      simp only [Bool.and_eq_true, decide_eq_true_eq] at hb
      exact ⟨e, he, hb⟩
    · have ho' : l[i]? = some o := by simpa using ho
      have h := List.all_eq_true.1 f2 i (List.mem_range.2 hi)
      rw [ho', show (msk vs).contains i = false by simpa using him] at h
      simpa using h
    · obtain ⟨d, e1, _, e2⟩ := hdst v.m oA hmn (hmsn v hv) hoA'
      rw [f3] at e1
      cases e1
      exact e2 i o hi (fun e => him (by rw [e, msk]; exact List.mem_append_left _ (List.mem_map.2 ⟨v, hv, rfl⟩))) ho
  have hdv' : ∀ v ∈ vs, ∀ x ∈ vs, x.d ≠ v.dv := fun v hv x hx => by
    have := List.all_eq_true.1 (List.all_eq_true.1 hdv v hv) x hx
    simpa using this
  have hsel : ∀ (i : Nat) (o : Oper) cs b, i < l.length → i ∉ msk vs → l.toArray[i]? = some o → o.op ≠ .select cs b := fun i o cs b hi him ho =>
    Region.noSelect_spec hB.1 i o cs b (by rw [maskL_same hi him]; exact ho)
  have inv0 : HeadInv .any l.toArray l.length (Array.replicate l.toArray.size false) :=
    ⟨by simp, fun j oj _ hl => (by rw [getD_replicate_false] at hl; cases hl), fun t ht ht' => by simp at ht'; omega⟩
  have e : Array.replicate l.toArray.size false = Array.replicate (maskL (msk vs) (l.take l.length)).toArray.size false := by
    have hz : (maskL (msk vs) (l.take l.length)).toArray.size = l.toArray.size := by simpa using hlen
    rw [hz]
  have H : ∀ wb', Below wb.heap.size wb wb' → wpAnyQ P .any (maskL (msk vs) (l.take l.length)).toArray (Cls wb') (fun a' => a' = A) l.length (Array.replicate l.toArray.size false) a := fun wb' hb => by
    have := wpAnyQ_lex (C := Cls wb') (md := .any) hB.1 (maskL (msk vs) (l.take l.length)) 0 (Array.replicate (maskL (msk vs) (l.take l.length)).toArray.size false) a (by simp) (by simpa using hB.2) (hW wb' hb)
    rw [hlen] at this
    rw [e]
    exact this
  have none_all : ∀ (vs : List FVar) (a : Act), putAll vs (fun _ => none) a = a := fun vs => by
    induction vs with
    | nil => intro a; rfl
    | cons v r ih => intro a; exact ih a
  have := floatS (P := P) (Q := Q) (A := A) (wb := wb) (s := s) (vs := vs) rfl h4 hsel (fun i o hi him ho v hv => (hall v hv).2.2 i o hi him ho) hnm hnd (fun v hv => (hall v hv).1) (fun v hv => (hall v hv).2.1) hu hdv' hdst T l.length (Array.replicate l.toArray.size false) a wb { p.w with drawn := p.w.drawn + 1 } (fun _ => none) (Below.refl _ _)
    ⟨p.next { p.w with drawn := p.w.drawn + 1 } ⟨rfl, rfl, rfl, Nat.le_refl _, fun _ _ => rfl⟩, rfl⟩ inv0 (by simpa using left_start l.length l.length) (fun k v hv => getD_replicate_false _ _) (fun k v hv g hg => by cases hg) (fun _ _ _ _ _ _ h => by cases h) hs H
  rw [none_all] at this
  simpa using this

end

end
end Go.Proofs.Sky
