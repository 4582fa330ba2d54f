/- A slice of slices of texts that came in, opened. -/
import Derived.Test.YtlhamgcmkodjeaaDoorLaw
import Derived.Test.YtlhamgcmkodjeaaDoorMem18
import Derived.Deep.Slices
import Derived.SliceStrings
namespace Go.Proofs.YtlhamgcmkodjeaaDoor
open Go.ChangeShapes Go.WideShapes Go.RowKit Go.Proofs.Sky
set_option linter.unusedVariables false
set_option linter.unusedSimpArgs false

/-- A slice of texts. -/
def Inner18 (w : World) (u : Value) (x : List (List UInt8)) : Prop :=
  ∃ a c, u = .slice a x.length c ∧ x.length ≤ c ∧ (x ≠ [] → ∃ b off, a = some ⟨b, off, none⟩ ∧ b < w.heap.size ∧ ∀ (j : Nat) y, x[j]? = some y → w.cell? ⟨b, off + j, none⟩ = some (sval y))

/-- A slice of such. -/
def Lists18 (w : World) (v : Value) (ls : List (List (List UInt8))) : Prop :=
  ∃ a c, v = .slice a ls.length c ∧ ∀ (i : Nat) x, ls[i]? = some x → ∃ b off u, a = some ⟨b, off, none⟩ ∧ b < w.heap.size ∧ w.cell? ⟨b, off + i, none⟩ = some u ∧ Inner18 w u x

theorem add18 (b off : Nat) (i : Nat) : (⟨b, off, none⟩ : Addr).add i = ⟨b, off + i, none⟩ := by
  unfold Addr.add
  split
  · rename_i h; rw [h]; rfl
  · rfl

theorem spot18 {w : World} {A : Addr} {v : Value} (h : w.cell? (A.add 0) = some v) : ∃ b off, A = ⟨b, off, none⟩ ∧ b < w.heap.size := by
  have := World.cell?_spot h
  obtain ⟨b, off, sp⟩ := A
  have hsp : sp = none := by simpa [Addr.add] using this
  subst hsp
  rw [add18] at h
  exact ⟨b, off, rfl, World.block_lt_of_cell? w _ h⟩

theorem open_lists {P : Program} {H : Type} {enc : TypeId × Value → H} {W : World} {r : Reach} {b0 : Nat} {t e f : TypeId} {v : Value} {d : DataW H} {p : List MemPlace} (ht : P.underlying t = some (.slice e)) (he : P.underlying e = some (.slice f)) (hf : P.underlying f = some .string)
    (hce : P.cellsOf e = 1) (hcf : P.cellsOf f = 1) (hv : Value.okWide P W r b0 t v) (h : DataW.Trod enc P W 0 (fun _ => true) true t v d p) : ∃ ls, Lists18 W v ls := by
  obtain ⟨a, len, cap, rfl⟩ := Go.WideShapes.okWide_slice ht hv
  obtain ⟨fuel, hfu⟩ := h
  rcases Go.Deep.open_slice1 ht hce hfu with ⟨hc', hx⟩ | ⟨A, len', cap', m, k, V, D, Pl, hc', _, hl, hm, hmm, hx, hall⟩
  · cases hc'
    exact ⟨[], _, 0, rfl, fun i x h => by simp at h⟩
  · cases hc'
    rw [if_pos rfl] at hmm
    have inner : ∀ i, i < len → ∃ x, Inner18 W (V i) x := fun i hi => by
      obtain ⟨_, h2⟩ := hall i (by omega)
      rcases open_strings he hf hcf h2 with ⟨hc', _⟩ | ⟨A2, len2, cap2, ss, hc', _, hl2, _, hss, _, hcell, _⟩
      · refine ⟨[], none, 0, (List.cons.inj hc').1, Nat.le_refl _, fun h => absurd rfl h⟩
      · rw [if_pos rfl] at hss
        refine ⟨(ss.take len2).map (·.data.toList), some A2, cap2, ?_, ?_, fun hne => ?_⟩
        · rw [(List.cons.inj hc').1]
          simp
          omega
        · simp; omega
        · have h0 : 0 < ss.length := by
            rcases Nat.eq_zero_or_pos ss.length with h0 | h0
            · rw [List.length_eq_zero_iff] at h0; rw [h0] at hne; simp at hne
            · exact h0
          obtain ⟨b, off, rfl, hb⟩ := spot18 (hcell 0 h0)
          refine ⟨b, off, rfl, hb, fun j y hy => ?_⟩
          rw [List.getElem?_map, List.getElem?_take] at hy
          split at hy
          · rename_i hj
            obtain ⟨s, hs, rfl⟩ := Option.map_eq_some_iff.1 hy
            have hjl := (List.getElem?_eq_some_iff.1 hs).1
            have := hcell j hjl
            rw [add18, List.getD_eq_getElem?_getD, hs] at this
            rw [this]
            simp [sval]
          · cases hy
    obtain ⟨F, hF⟩ := Go.Deep.choose_lt (α := List (List UInt8)) (p := fun i x => Inner18 W (V i) x) (n := len) inner
    refine ⟨(List.range len).map F, some A, cap, by simp, fun i x hx => ?_⟩
    rw [List.getElem?_map] at hx
    obtain ⟨i', hi', rfl⟩ := Option.map_eq_some_iff.1 hx
    have hi : i < len := by have := (List.getElem?_eq_some_iff.1 hi').1; simpa using this
    obtain rfl : i' = i := by simpa [List.getElem?_range, hi] using hi'.symm
    obtain ⟨h1, _⟩ := hall i' (by omega)
    obtain ⟨b, off, rfl, hb⟩ := spot18 (hall 0 (by omega)).1
    rw [add18] at h1
    exact ⟨b, off, V i', rfl, hb, h1, hF i' hi⟩

end Go.Proofs.YtlhamgcmkodjeaaDoor
