/- A drawn region in which a second result may be taken behind the store of the first one: it may as well be taken ahead of it. Imports nothing of the translation. -/
import Derived.Test.YtnidgokmndnenaaFloat
namespace Go.Proofs.Sky
open Go Go.RowKit
set_option linter.unusedVariables false
set_option linter.unusedSimpArgs false

/-- Operation y waits for operation x, too. -/
def edgeAt : Nat → Nat → List Oper → List Oper
  | _, _, [] => []
  | 0, x, o :: r => { o with after := o.after.push { on := x, ground := .data } } :: r
  | y + 1, x, o :: r => o :: edgeAt y x r
theorem edgeAt_len (x : Nat) : ∀ (y : Nat) (l : List Oper), (edgeAt y x l).length = l.length
  | 0, [] => rfl
  | _ + 1, [] => rfl
  | 0, _ :: _ => rfl
  | y + 1, _ :: r => by unfold edgeAt; simp [edgeAt_len x y r]
theorem edgeAt_get (x : Nat) : ∀ (y : Nat) (l : List Oper) (i : Nat), (edgeAt y x l)[i]? = (l[i]?).map (fun o => if i = y then { o with after := o.after.push { on := x, ground := .data } } else o)
  | 0, [], i => by simp [edgeAt]
  | _ + 1, [], i => by simp [edgeAt]
  | 0, o :: r, 0 => by simp [edgeAt]
  | 0, o :: r, i + 1 => by simp [edgeAt]
  | y + 1, o :: r, 0 => by simp [edgeAt]
  | y + 1, o :: r, i + 1 => by simp [edgeAt, edgeAt_get x y r i]

theorem extract_pure {P : Program} {Q : Exit → Act → World → Prop} {o : Oper} {x : Operand} {i : Nat} (h : o.op = .extract x i) (a : Act) (K : Act → World → Prop) (w : World)
    (hw : o.wp P a w K Q ∨ (o.asks P a w ∧ LetsOut Q)) : ∃ v, (∀ w, (execOp a.eval o).run P w = .ok (.value v) w) ∧ K (a.put o.dst v) w := by
  unfold Oper.wp Oper.asks at hw
  unfold execOp at hw ⊢
  rw [h] at hw ⊢
  dsimp only at hw ⊢
  generalize a.eval x = u at *
  have no : ∀ s : String, ¬ (noRoomEvent ∈ Sem.events P (Next.value <$> (stuck s : Sem Value)) w #[]) := fun s hs => by
    have e : Sem.events P (Next.value <$> (stuck s : Sem Value)) w #[] = #[] := rfl
    rw [e] at hs
    simp at hs
  have no2 : ∀ v : Value, ¬ (noRoomEvent ∈ Sem.events P (pure (Next.value v) : Sem Next) w #[]) := fun s hs => by
    have e : Sem.events P (pure (Next.value s) : Sem Next) w #[] = #[] := rfl
    rw [e] at hs
    simp at hs
  cases u with
  | tuple vs =>
    unfold Instr.extract at hw ⊢
    dsimp only at hw ⊢
    cases hv : vs[i]? with
    | none =>
      rw [hv] at hw
      simp [Oper.upon, go_sem] at hw
      exact absurd hw.1 (no _)
    | some v =>
      rw [hv] at hw
      simp [Oper.upon, go_sem] at hw ⊢
      rcases hw with hw | hw
      · exact hw
      · exact absurd hw.1 (no2 _)
  | _ =>
    unfold Instr.extract at hw
    simp [Oper.upon, go_sem] at hw
    exact absurd hw.1 (no _)

section
variable {P : Program} {Q : Exit → Act → World → Prop} {l : List Oper} {x y : Nat} {ox : Oper}

theorem edge_get (i : Nat) : (edgeAt y x l).toArray[i]? = (l.toArray[i]?).map (fun o => if i = y then { o with after := o.after.push { on := x, ground := .data } } else o) := by
  simp [edgeAt_get]
theorem edge_dst (i : Nat) : ((edgeAt y x l).toArray[i]?).bind (·.dst) = (l.toArray[i]?).bind (·.dst) := by
  rw [edge_get]
  cases l.toArray[i]? with
  | none => rfl
  | some o =>
    simp only [Option.map_some, Option.bind_some]
    split <;> rfl
theorem edge_wanted (o : Oper) (tmps : Array Value) : Region.wanted o (yielded (edgeAt y x l).toArray tmps) = Region.wanted o (yielded l.toArray tmps) := by
  unfold Region.wanted
  cases o.guard with
  | none => rfl
  | some g =>
    obtain ⟨j, b⟩ := g
    dsimp only
    unfold yielded
    rw [edge_dst]
theorem edge_wpOp {i : Nat} {K : Act → World → Prop} {a : Act} {w : World} (h : wpOp P (edgeAt y x l).toArray Q i K a w) : wpOp P l.toArray Q i K a w := by
  unfold wpOp at *
  rw [edge_get] at h
  cases ho : l.toArray[i]? with
  | none => rw [ho] at h; exact h
  | some o =>
    rw [ho] at h
    simp only [Option.map_some] at h
    by_cases e : i = y
    · rw [if_pos e] at h
      rw [edge_wanted] at h
      exact h
    · rw [if_neg e] at h
      rw [edge_wanted] at h
      exact h

theorem edge_any (hxy : x ≠ y) (hox : l.toArray[x]? = some ox) (hgx : ox.guard = none)
    (hE : ∀ (a : Act) (K : Act → World → Prop) (w : World), (ox.wp P a w K Q ∨ (ox.asks P a w ∧ LetsOut Q)) → ∃ v, (∀ w, (execOp a.eval ox).run P w = .ok (.value v) w) ∧ K (a.put ox.dst v) w)
    (hQ : ∀ c (a : Act) v w, Q (.panic c) (a.put ox.dst v) w → Q (.panic c) a w) (hsel : Region.noSelect l.toArray = true)
    (h2 : ∀ oy, l.toArray[y]? = some oy → ∀ e ∈ ox.after, Region.binds .any e = true → ∃ e' ∈ oy.after, Region.binds .any e' = true ∧ e'.on = e.on)
    (h3 : ∀ (j : Nat) (oj : Oper), l.toArray[j]? = some oj → j ≠ x → (∃ e ∈ oj.after, Region.binds .any e = true ∧ e.on = x) ∨ (∃ e ∈ ox.after, Region.binds .any e = true ∧ e.on = j) ∨ ox.apart l.toArray oj = true) :
    ∀ (f : Nat) (listed : Array Bool) (a : Act) (w : World), listed.size = l.length → wpAny P .any (edgeAt y x l).toArray Q f listed a w → wpAny P .any l.toArray Q f listed a w := by
  have hxl : x < l.length := by
    have := (Array.getElem?_eq_some_iff.1 hox).1
    simpa using this
  -- ready here: ready there, or number y with x ready
  have hr : ∀ (listed : Array Bool) (j : Nat), listed.size = l.length → j ∈ Region.ready .any l.toArray listed → x ∉ Region.ready .any l.toArray listed → j ∈ Region.ready .any (edgeAt y x l).toArray listed := fun listed j hs hj hx => by
    obtain ⟨a1, o, a2, a3⟩ := mem_ready.1 hj
    by_cases e : j = y
    · subst e
      have hlx : listed.getD x false = true := by
        cases hb : listed.getD x false with
        | true => rfl
        | false =>
          refine absurd (mem_ready.2 ⟨getD_in (by omega) hb, ox, hox, fun e he hb' => ?_⟩) hx
          obtain ⟨e', b1, b2, b3⟩ := h2 o a2 e he hb'
          rw [← b3]
          exact a3 e' b1 b2
      refine mem_ready.2 ⟨a1, { o with after := o.after.push { on := x, ground := .data } }, by rw [edge_get, a2]; simp, fun e he hb => ?_⟩
      rcases Array.mem_push.1 he with he | rfl
      · exact a3 e he hb
      · exact hlx
    · exact mem_ready.2 ⟨a1, o, by rw [edge_get, a2]; simp [e], a3⟩
  have hr2 : ∀ (listed : Array Bool) (j : Nat), j ∈ Region.ready .any (edgeAt y x l).toArray listed → j ∈ Region.ready .any l.toArray listed := fun listed j hj => by
    obtain ⟨a1, o, a2, a3⟩ := mem_ready.1 hj
    rw [edge_get] at a2
    cases ho : l.toArray[j]? with
    | none => rw [ho] at a2; cases a2
    | some o' =>
      rw [ho] at a2
      simp only [Option.map_some, Option.some.injEq] at a2
      refine mem_ready.2 ⟨a1, o', ho, fun e he hb => a3 e ?_ hb⟩
      rw [← a2]
      split
      · exact Array.mem_push.2 (.inl he)
      · exact he
  have hx1 : ∀ (listed : Array Bool), x ∈ Region.ready .any l.toArray listed → x ∈ Region.ready .any (edgeAt y x l).toArray listed := fun listed hx => by
    obtain ⟨a1, o, a2, a3⟩ := mem_ready.1 hx
    exact mem_ready.2 ⟨a1, o, by rw [edge_get, a2]; simp [hxy], a3⟩
  intro f
  induction f with
  | zero =>
    intro listed a w hs h
    refine ⟨?_, h.2⟩
    cases hl : Region.ready .any l.toArray listed with
    | nil => rfl
    | cons j r =>
      have hj : j ∈ Region.ready .any l.toArray listed := by rw [hl]; exact List.mem_cons_self
      by_cases hx : x ∈ Region.ready .any l.toArray listed
      · have := hx1 listed hx; rw [h.1] at this; cases this
      · have := hr listed j hs hj hx; rw [h.1] at this; cases this
  | succ f ih =>
    intro listed a w hs h
    by_cases hx : x ∈ Region.ready .any l.toArray listed
    · have hq := edge_wpOp (h.2 x (hx1 listed hx))
      unfold wpOp at hq
      rw [hox] at hq
      dsimp only at hq
      rw [if_pos (by unfold Region.wanted; rw [hgx])] at hq
      obtain ⟨v, hv, hK⟩ := hE a _ w hq
      refine wpAny_first (v := v) hox (Region.noSelect_spec hsel) (fun c a w => hQ c a _ w) f listed a w (fun j oj hj hjx hu hno => ?_) hx (.inl ⟨by unfold Region.wanted; rw [hgx], hv⟩) (ih _ _ _ (by simp [hs]) hK)
      rcases h3 j oj hj hjx with ⟨e, e1, e2, e3⟩ | ⟨e, e1, e2, e3⟩ | g
      · exact absurd e3 (hno e e1 e2)
      · obtain ⟨_, o, ho, hall⟩ := mem_ready.1 hx
        rw [hox] at ho
        cases ho
        have h5 := hall e e1 e2
        rw [e3] at h5
        have := getD_both hu
        rw [h5] at this
        cases this
      · exact g
    · refine ⟨fun h0 => h.1 ?_, fun j hj => wpOp_mono (fun a' w' h' => ih _ _ _ (by simp [hs]) h') (edge_wpOp (h.2 j (hr listed j hs hj hx)))⟩
      cases hl : Region.ready .any (edgeAt y x l).toArray listed with
      | nil => rfl
      | cons j r =>
        have hj : j ∈ Region.ready .any (edgeAt y x l).toArray listed := by rw [hl]; exact List.mem_cons_self
        have := hr2 listed j hj
        rw [h0] at this
        cases this

def edgeB (l : List Oper) (x y : Nat) : Bool :=
  decide (x ≠ y) && (Region.noSelect l.toArray && (match l[x]?, l[y]? with
  | some ox, some oy => ox.guard.isNone && ((ox.after.all fun e => !Region.binds .any e || oy.after.any fun e' => Region.binds .any e' && e'.on == e.on) &&
      ((List.range l.length).all fun j => decide (j = x) || match l[j]? with
        | some oj => (oj.after.any fun e => Region.binds .any e && e.on == x) || ((ox.after.any fun e => Region.binds .any e && e.on == j) || ox.apart l.toArray oj)
        | none => true))
  | _, _ => false))

/-- **A drawn region in which operation x, that takes a part of what a call hands back, may come behind the store y**: it may as well be taken ahead of it. -/
theorem wp_region_late {id : Nat} {a : Act} {w : World} {ox : Oper} {u : Operand} {i : Nat} (x y dX : Nat) (hm : P.follows .mixedOrders = true) (hB : edgeB l x y = true) (hox : l[x]? = some ox) (hop : ox.op = .extract u i) (hdX : ox.dst = some dX)
    (hQ : ∀ c (a : Act) v w, Q (.panic c) { a with tmps := a.tmps.setIfInBounds dX v } w → Q (.panic c) a w)
    (h : wpAny P .any (edgeAt y x l).toArray Q (edgeAt y x l).toArray.size (Array.replicate (edgeAt y x l).toArray.size false) a { w with drawn := w.drawn + 1 }) : (Code.region id l.toArray true).wp P Q a w := by
  refine wp_region_any hm ?_
  have hz : (edgeAt y x l).toArray.size = l.toArray.size := by simp [edgeAt_len]
  rw [hz] at h
  have hox' : l.toArray[x]? = some ox := by simpa using hox
  simp only [edgeB, Bool.and_eq_true, decide_eq_true_eq, hox] at hB
  obtain ⟨b1, b2, b3⟩ := hB
  cases hoy : l[y]? with
  | none => rw [hoy] at b3; cases b3
  | some oy =>
    rw [hoy] at b3
    simp only [Bool.and_eq_true] at b3
    obtain ⟨b4, b5, b6⟩ := b3
    refine edge_any (x := x) (y := y) b1 hox' (by simpa using b4) (fun a K w hw => extract_pure hop a K w hw) (fun c a v w h => hQ c a v w (by rw [hdX] at h; exact h)) b2 (fun oy' ho e he hb => ?_) (fun j oj hj hjx => ?_) _ _ _ _ (by simp) h
    · have ho' : l[y]? = some oy' := by simpa using ho
      rw [hoy] at ho'
      cases ho'
      have := Array.all_eq_true'.1 b5 e he
      rw [hb] at this
      simp only [Bool.not_true, Bool.false_or] at this
      obtain ⟨e', m1, m2⟩ := Array.any_eq_true'.1 this
      simp only [Bool.and_eq_true, beq_iff_eq] at m2
      exact ⟨e', m1, m2.1, m2.2⟩
    · have hjl : j < l.length := by
        have := (Array.getElem?_eq_some_iff.1 hj).1
        simpa using this
      have hj' : l[j]? = some oj := by simpa using hj
      have := List.all_eq_true.1 b6 j (List.mem_range.2 hjl)
      rw [hj', decide_eq_false hjx] at this
      simp only [Bool.false_or, Bool.or_eq_true] at this
      rcases this with g | g | g
      · obtain ⟨e', m1, m2⟩ := Array.any_eq_true'.1 g
        simp only [Bool.and_eq_true, beq_iff_eq] at m2
        exact .inl ⟨e', m1, m2.1, m2.2⟩
      · obtain ⟨e', m1, m2⟩ := Array.any_eq_true'.1 g
        simp only [Bool.and_eq_true, beq_iff_eq] at m2
        exact .inr (.inl ⟨e', m1, m2.1, m2.2⟩)
      · exact .inr (.inr g)
end

end Go.Proofs.Sky
