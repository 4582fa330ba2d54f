/- Slices of vectors that came in, opened. -/
import Derived.Test.YtppfemaolaigoaaOpen
import Derived.Test.YtppfemaolaigoaaMem08
namespace Go.Proofs.Ytppfemaolaigoaa
open Go.RowKit Go.Proofs.Sky
set_option linter.unusedVariables false

/-- A slice of vectors that came in. -/
def VcSlice (w : World) (a : Option Addr) (n : Nat) (V : Nat → T3) : Prop :=
  n = 0 ∨ ∃ b off, a = some ⟨b, off, none⟩ ∧ VcRow w b off n V ∧ (∀ k, k < n → I64 (V k).1 ∧ I64 (V k).2.1 ∧ I64 (V k).2.2) ∧ b < w.heap.size

set_option maxRecDepth 100000 in
theorem open_rgbs {H : Type} {enc : TypeId × Value → H} {W : World} {r : Reach} {b0 : Nat} {v : Value} {d : DataW H} {p : List MemPlace} (hv : Value.okWide Try.prog W r b0 26 v)
    (h : DataW.Trod enc Try.prog W 0 (fun _ => true) true 26 v d p) : ∃ (a : Option Addr) (len cap : Nat) (V : Nat → T3), v = .slice a len cap ∧ len ≤ maxLen ∧ VcSlice W a len V := by
  obtain ⟨a, len, cap, V, rfl, hm, hr⟩ := open_rows (n := 3) (ks := [.int .i64, .int .i64, .int .i64]) Try.underlying26 (by kernel_rfl) (by kernel_rfl) (by simp) hv h
  refine ⟨a, len, cap, fun i => (intOf ((V i).getD 0 (.bool false)), intOf ((V i).getD 1 (.bool false)), intOf ((V i).getD 2 (.bool false))), rfl, hm, ?_⟩
  rcases hr with rfl | ⟨b, off, rfl, hR, hb⟩
  · exact .inl rfl
  · have each : ∀ k, k < len → ∃ x y z, V k = [.int .i64 x, .int .i64 y, .int .i64 z] ∧ I64 x ∧ I64 y ∧ I64 z := fun k hk => by
      obtain ⟨_, _, e1, ⟨x, rfl, hx⟩, _, _, e2, ⟨y, rfl, hy⟩, _, _, e3, ⟨z, rfl, hz⟩, e4⟩ := (hR k hk).1
      have e4' : _ = [] := e4
      subst e4'; subst e3; subst e2
      exact ⟨x, y, z, e1, I64.of_wf hx, I64.of_wf hy, I64.of_wf hz⟩
    refine .inr ⟨b, off, rfl, fun k hk => ?_, fun k hk => ?_, hb⟩
    · obtain ⟨x, y, z, e, _⟩ := each k hk
      have c := (hR k hk).2
      rw [e] at c
      dsimp only
      rw [e]
      exact ⟨c 0 (by simp), c 1 (by simp), c 2 (by simp)⟩
    · obtain ⟨x, y, z, e, ix, iy, iz⟩ := each k hk
      dsimp only
      rw [e]
      exact ⟨ix, iy, iz⟩

end Go.Proofs.Ytppfemaolaigoaa
