/- Slices that came in, opened. -/
import Derived.Test.YtfdolgdfadipeaaBw
import Derived.Test.YtfdolgdfadipeaaMath01
import Derived.Test.YtfdolgdfadipeaaRecs
import Derived.Test.YtfdolgdfadipeaaProg
import Derived.ChangeSlices
import Derived.WideShapes
import Derived.DataReads
namespace Go.Proofs.Ytfdolgdfadipeaa
open Go.RowKit Go.Proofs.Sky
set_option linter.unusedVariables false

theorem bw_callp {P : Program} {f : FuncId} {args : Array Value} {v : Value} {wb : World} (h : ∀ p : BW wb, Calls P f args p.w fun e w' => e = .returned v ∧ Below p.w.heap.size p.w w') (p : BW wb) :
    Calls P f args p.w fun e w' => e = .returned v ∧ ∃ q : BW wb, w' = q.w :=
  (h p).mono fun e w' ⟨he, hb⟩ => ⟨he, p.next w' hb, rfl⟩

/-- A slice of ints that came in. -/
def IntSlice (w : World) (a : Option Addr) (n : Nat) (Z : Nat → Int) : Prop :=
  n = 0 ∨ ∃ b off, a = some ⟨b, off, none⟩ ∧ (∀ k, k < n → w.cell? ⟨b, off + k, none⟩ = some (.int .i64 (Z k)) ∧ I64 (Z k)) ∧ b < w.heap.size
set_option maxRecDepth 100000 in
theorem open_intslice {H : Type} {enc : TypeId × Value → H} {W : World} {r : Reach} {b0 : Nat} {v : Value} {d : DataW H} {p : List MemPlace} (hv : Value.okWide Try.prog W r b0 41 v)
    (h : DataW.Trod enc Try.prog W 0 (fun _ => true) true 41 v d p) : ∃ (a : Option Addr) (len cap : Nat) (Z : Nat → Int), v = .slice a len cap ∧ len ≤ maxLen ∧ IntSlice W a len Z := by
  obtain ⟨a, len, cap, rfl⟩ := Go.WideShapes.okWide_slice Try.underlying41 hv
  obtain ⟨fuel, hf⟩ := h
  rcases Go.ChangeShapes.open_ints Try.underlying41 Try.underlying3 (by kernel_rfl) hf with ⟨hc, hx⟩ | ⟨A, len', cap', zs, hc, _, hl, hm, hlen, hx, hall, hwf⟩
  · cases hc
    exact ⟨_, 0, 0, fun _ => 0, rfl, by unfold maxLen; omega, .inl rfl⟩
  · cases hc
    rw [if_pos rfl] at hlen
    refine ⟨_, len, cap, fun i => zs.getD i 0, rfl, by omega, ?_⟩
    by_cases h0 : len = 0
    · exact .inl h0
    · right
      have hsp : A.spot = none := by
        have := World.cell?_spot (hall 0 (by omega))
        simpa [Addr.add] using this
      obtain ⟨b, off, sp⟩ := A
      simp only at hsp
      subst hsp
      have adds : ∀ i, (⟨b, off, none⟩ : Addr).add i = ⟨b, off + i, none⟩ := fun i => by
        unfold Addr.add; split
        · rename_i h; rw [h]; rfl
        · rfl
      refine ⟨b, off, rfl, fun k hk => ⟨?_, ?_⟩, ?_⟩
      · have := hall k (by omega)
        rwa [adds] at this
      · refine I64.of_wf (hwf _ ?_)
        show zs.getD k 0 ∈ zs
        rw [List.getD_eq_getElem?_getD, List.getElem?_eq_getElem (by omega)]
        exact List.getElem_mem _
      · have := hall 0 (by omega)
        rw [adds] at this
        exact World.block_lt_of_cell? W _ this

end Go.Proofs.Ytfdolgdfadipeaa
