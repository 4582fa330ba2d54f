/- A slice of structs of ints and bools that came in, opened: its elements' cells, one by one. Imports nothing of the translation. -/
import Derived.Test.YtlhamgcmkodjeaaDoorLaw
import Derived.Deep.Slices
namespace Go.Proofs.Sky
open Go.ChangeShapes Go.WideShapes Go.RowKit
set_option linter.unusedVariables false

/-- From cell off of block b on lie n elements of c cells each: V. -/
def RowsAt (w : World) (b off n c : Nat) (ks : List LK) (V : Nat → List Value) : Prop :=
  ∀ i, i < n → LeafAll ks (V i) ∧ ∀ j, j < c → w.cell? ⟨b, off + i * c + j, none⟩ = (V i)[j]?
theorem LeafAll.length : ∀ {ks : List LK} {cs : List Value}, LeafAll ks cs → cs.length = ks.length
  | [], cs, h => by
    have : cs = [] := h
    subst this
    rfl
  | k :: ks, cs, h => by
    obtain ⟨v, r, rfl, _, h2⟩ := h
    simp [h2.length]
theorem open_rows {P : Program} {H : Type} {enc : TypeId × Value → H} {W : World} {r : Reach} {b0 n : Nat} {t e : TypeId} {ks : List LK} {v : Value} {d : DataW H} {p : List MemPlace} (ht : P.underlying t = some (.slice e)) (hk : flat P n e = some ks)
    (hc : P.cellsOf e = ks.length) (h0 : 0 < ks.length) (hv : Value.okWide P W r b0 t v) (h : DataW.Trod enc P W 0 (fun _ => true) true t v d p) :
    ∃ (a : Option Addr) (len cap : Nat) (V : Nat → List Value), v = .slice a len cap ∧ len ≤ maxLen ∧ (len = 0 ∨ ∃ b off, a = some ⟨b, off, none⟩ ∧ RowsAt W b off len ks.length ks V ∧ b < W.heap.size) := by
  obtain ⟨a, len, cap, rfl⟩ := Go.WideShapes.okWide_slice ht hv
  obtain ⟨fuel, hf⟩ := h
  rcases Go.Deep.open_slice ht hf with ⟨hc', hx⟩ | ⟨A, len', cap', m, k, D, Pl, hc', _, hl, hm, hmm, hx, hall⟩
  · cases hc'
    exact ⟨_, 0, 0, fun _ => [], rfl, by unfold maxLen; omega, .inl rfl⟩
  · cases hc'
    rw [if_pos rfl] at hmm
    obtain ⟨V, hV⟩ := Go.Deep.choose_lt (α := List Value) (p := fun i cs => LeafAll ks cs ∧ ∀ j, j < ks.length → W.cell? (A.add (i * ks.length + j)) = cs[j]?) (n := len) (fun i hi => by
      obtain ⟨cs, h1, h2⟩ := hall i (by omega)
      have hL := flat_trod n e ks hk _ _ _ h2
      obtain ⟨_, hlen, hcell⟩ := World.cells?_some h1
      refine ⟨cs, hL, fun j hj => ?_⟩
      have := hcell j (by omega)
      rw [Go.Deep.add_add, hc] at this
      exact this)
    refine ⟨_, len, cap, V, rfl, by omega, ?_⟩
    by_cases hz : len = 0
    · exact .inl hz
    · right
      have hsp : A.spot = none := by
        have g := hV 0 (by omega)
        have hl0 := g.1.length
        have h1 := g.2 0 h0
        rw [List.getElem?_eq_getElem (by omega)] at h1
        have := World.cell?_spot h1
        simpa [Addr.add] using this
      obtain ⟨b, off, sp⟩ := A
      simp only at hsp
      subst hsp
      have adds : ∀ i, (⟨b, off, none⟩ : Addr).add i = ⟨b, off + i, none⟩ := fun i => by
        unfold Addr.add; split
        · rename_i h; rw [h]; rfl
        · rfl
      refine ⟨b, off, rfl, fun i hi => ⟨(hV i hi).1, fun j hj => ?_⟩, ?_⟩
      · have := (hV i hi).2 j hj
        rw [adds, ← Nat.add_assoc] at this
        exact this
      · have g := hV 0 (by omega)
        have hl0 := g.1.length
        have h1 := g.2 0 h0
        rw [List.getElem?_eq_getElem (by omega)] at h1
        rw [adds] at h1
        exact World.block_lt_of_cell? W _ h1

end Go.Proofs.Sky
