/- The last step of a law's row, whatever its parameters' types: the call returns true, and below the heap's old size nothing has turned. A value of structs of structs of ints and bools, that came in, opened: its cells, one by one. Imports nothing of the translation. -/
import Derived.WalkKit
import Derived.ProofKit
import Derived.OpenShut
import Derived.Carry
import Derived.ChangeSame
import Derived.Lib.SmallJoins
import Derived.ChangeArms
import Derived.WideShapes


namespace Go.Proofs.Sky
section

section

open Go.ChangeShapes Go.WideShapes Go.ChangeAt Go.RowKit Go.Joins

set_option linter.unusedVariables false

section

variable {H : Type} {enc : TypeId × Value → H} {P : Program}

theorem args_stay (hl : laidOutB P = true) {W W' : World} (hb : Below W.heap.size W W') : ∀ (ts : List TypeId) (vs : List Value) (ds : List (DataW H)) (ps : List MemPlace),
    (ts.all fun t => P.readableRec t && decide (t < P.types.size)) = true → DataW.TrodAll enc P W 0 (fun _ => true) true ts vs ds ps → (∀ x ∈ ps, x.block < W.heap.size) →
    DataW.TrodAll enc P W' 0 (fun b => decide (b < W.heap.size)) true ts vs ds ps
  | [], vs, ds, ps, _, h, _ => by
    obtain ⟨rfl, rfl, rfl⟩ := trodAll_nil h
    exact trodAll_mk0
  | t :: ts, vs, ds, ps, hr, h, hlt => by
    obtain ⟨v, vs', d, ds', p, q, rfl, rfl, rfl, h1, h2⟩ := trodAll_cons h
    simp only [List.all_cons, Bool.and_eq_true, decide_eq_true_eq] at hr
    exact trodAll_cons_mk (Below.trod hl hr.1.1 hr.1.2 h1 hb fun x hx => hlt x (List.mem_append.2 (.inl hx)))
      (args_stay hl hb ts vs' ds' q (by simpa using hr.2) h2 fun x hx => hlt x (List.mem_append.2 (.inr hx)))

theorem law_done {f : Func} {s : ChangeSpec} {W W' : World} {args : Array Value} {ds gs : List (DataW H)} {before : List MemPlace} {t : TypeId}
    (hl : laidOutB P = true) (hr : (f.params.toList.all fun t => P.readableRec t && decide (t < P.types.size)) = true)
    (hW : DataW.Whole enc P f.params.toList s.vars false W args.toList ds gs before) (hv : s.vars = []) (hres : f.resultTypes = #[t]) (ht : P.underlying t = some .bool)
    (hs : (s.fn H (ds ++ gs)).results = [.lit (.bool true)] ∧ (s.fn H (ds ++ gs)).args = ds ∧ (s.fn H (ds ++ gs)).vars = []) (hb : Below W.heap.size W W') :
    s.post enc P f false true false false W args (.bool true) W' := by
  have hlt := hW.lt
  have hW' := hW
  obtain ⟨p, q, hA, hV, rfl, _, _⟩ := hW
  rw [hv] at hV
  obtain ⟨rfl, rfl⟩ := trodVars_none hV
  obtain ⟨s1, s2, s3⟩ := hs
  refine ⟨ds, [], p ++ [], [], p ++ [], [], hW', ?_, ?_, ?_, hb.frame _, fun h => by cases h⟩
  · rw [s1, hres]
    exact trodAll_cons_mk (shut_bool ht _) trodAll_mk0
  · rw [s2]
    have := args_stay hl hb _ _ _ _ hr hA (fun x hx => hlt x (List.mem_append.2 (.inl hx)))
    simpa using this
  · rw [s3, hv]; rfl

end

end

end
end Go.Proofs.Sky

namespace Go.Proofs.Sky
section

section

open Go.ChangeShapes Go.WideShapes Go.RowKit

set_option linter.unusedVariables false

inductive LK where
  | int (k : IntKind)
  | bool

def leafOk : LK → Value → Prop
  | .int k, v => ∃ n, v = .int k n ∧ (Lit.int k n).wf = true
  | .bool, v => ∃ b, v = .bool b

def LeafAll : List LK → List Value → Prop
  | [], cs => cs = []
  | k :: ks, cs => ∃ v r, cs = v :: r ∧ leafOk k v ∧ LeafAll ks r

theorem LeafAll.append : ∀ {a b : List LK} {x y : List Value}, LeafAll a x → LeafAll b y → LeafAll (a ++ b) (x ++ y)
  | [], _, x, y, h, g => by
    have : x = [] := h
    subst this
    exact g
  | k :: a, b, x, y, h, g => by
    obtain ⟨v, r, rfl, h1, h2⟩ := h
    exact ⟨v, r ++ y, rfl, h1, h2.append g⟩

section

variable (P : Program)

def flatFields (fl : TypeId → Option (List LK)) : List Field → Nat → Option (List LK)
  | [], _ => some []
  | f :: fs, off => if f.offset = off then
      match fl f.type with
      | some ks => if P.cellsOf f.type = ks.length then (flatFields fl fs (off + ks.length)).map (fun r => ks ++ r) else none
      | none => none
    else none

def flat : Nat → TypeId → Option (List LK)
  | 0, _ => none
  | n + 1, t => match P.underlying t with
    | some (.int k) => some [.int k]
    | some .bool => some [.bool]
    | some (.struct fs) => match flatFields P (flat n) fs.toList 0 with
      | some ks => if P.cellsOf t = ks.length then some ks else none
      | none => none
    | _ => none

end

section

variable {P : Program} {H : Type} {enc : TypeId × Value → H} {w : World} {base : Nat} {spare : Nat → Bool} {held : Bool}

theorem flatFields_trod {fl : TypeId → Option (List LK)} {cs : List Value} (hfl : ∀ t ks, fl t = some ks → ∀ fuel cs x, DataW.trod enc P w base spare held fuel t cs = some x → LeafAll ks cs) :
    ∀ (fs : List Field) (off : Nat) (ks : List LK), flatFields P fl fs off = some ks → (∀ f ∈ fs, ∃ y n, DataW.trod enc P w base spare held n f.type ((cs.drop f.offset).take (P.cellsOf f.type)) = some y) →
      LeafAll ks ((cs.drop off).take ks.length)
  | [], off, ks, h, _ => by
    unfold flatFields at h
    cases h
    rfl
  | f :: fs, off, ks, h, hy => by
    unfold flatFields at h
    split at h
    · rename_i ho
      split at h
      · rename_i k1 hk1
        split at h
        · rename_i hc
          cases hr : flatFields P fl fs (off + k1.length) with
          | none => rw [hr] at h; cases h
          | some k2 =>
            rw [hr] at h
            simp only [Option.map_some, Option.some.injEq] at h
            subst h
            obtain ⟨y, n, hyn⟩ := hy f (List.mem_cons_self)
            have a := hfl _ _ hk1 _ _ _ hyn
            rw [hc, ho] at a
            have b := flatFields_trod hfl fs (off + k1.length) k2 hr (fun g hg => hy g (List.mem_cons_of_mem _ hg))
            have e : (cs.drop off).take (k1 ++ k2).length = (cs.drop off).take k1.length ++ (cs.drop (off + k1.length)).take k2.length := by
              rw [List.length_append, List.take_add, List.drop_drop]
            rw [e]
            exact a.append b
        · cases h
      · cases h
    · cases h

theorem flat_trod : ∀ (n : Nat) (t : TypeId) (ks : List LK), flat P n t = some ks → ∀ fuel cs x, DataW.trod enc P w base spare held fuel t cs = some x → LeafAll ks cs
  | 0, _, _, h => by cases h
  | n + 1, t, ks, h => fun fuel cs x hx => by
    unfold flat at h
    split at h
    · rename_i k hk
      cases h
      obtain ⟨m, rfl, _, hw⟩ := DataW.trod_int hk hx
      exact ⟨_, _, rfl, ⟨m, rfl, hw⟩, rfl⟩
    · rename_i hk
      cases h
      obtain ⟨b, rfl, _⟩ := DataW.trod_bool hk hx
      exact ⟨_, _, rfl, ⟨b, rfl⟩, rfl⟩
    · rename_i fs hk
      split at h
      · rename_i k2 hf
        split at h
        · rename_i hc
          cases h
          obtain ⟨xs, m, _, _, hl, hlen, hfs⟩ := DataW.trod_struct hk hx
          have := flatFields_trod (flat_trod n) fs.toList 0 _ hf (fun f hfm => by
            obtain ⟨i, hi, e⟩ := List.getElem_of_mem hfm
            have hi' : i < xs.length := by rw [hlen]; simpa using hi
            have h5 := hfs i f (by rw [← e]; simp)
            rw [List.getElem?_eq_getElem hi'] at h5
            exact ⟨_, _, h5⟩)
          rw [List.drop_zero, List.take_of_length_le (by omega)] at this
          exact this
        · cases h
      · cases h
    · cases h

/-- A struct that came in: its cells. -/
theorem open_flat {r : Reach} {b0 n : Nat} {t : TypeId} {ks : List LK} {v : Value} {d : DataW H} {p : List MemPlace} {fs : Array Field} (hs : P.underlying t = some (.struct fs)) (hk : flat P n t = some ks)
    (hv : Value.okWide P w r b0 t v) (h : DataW.Trod enc P w base spare held t v d p) : ∃ cs : List Value, v = .agg cs.toArray ∧ LeafAll ks cs := by
  obtain ⟨cs, rfl, hsz⟩ := okWide_struct hs hv
  obtain ⟨fuel, hf⟩ := h
  exact ⟨cs.toList, by simp, flat_trod n t ks hk fuel cs.toList _ (by simpa [Value.cells] using hf)⟩

end

end

end
end Go.Proofs.Sky
