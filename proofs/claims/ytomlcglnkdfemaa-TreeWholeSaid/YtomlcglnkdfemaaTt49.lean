/- A row of primitives among the arguments. -/
import Derived.Test.YtomlcglnkdfemaaTt48
import Derived.Deep.DeepCutAuto
namespace Go.Proofs.Ytomlcglnkdfemaa
open Go.RowKit Go.Proofs.Sky
set_option linter.unusedVariables false

def pOf16 (V : List Value) : Pr :=
  ⟨intOf (V.getD 0 (.bool false)), (intOf (V.getD 1 (.bool false)), intOf (V.getD 2 (.bool false)), intOf (V.getD 3 (.bool false))), (intOf (V.getD 4 (.bool false)), intOf (V.getD 5 (.bool false)), intOf (V.getD 6 (.bool false))), (intOf (V.getD 7 (.bool false)), intOf (V.getD 8 (.bool false)), intOf (V.getD 9 (.bool false))), intOf (V.getD 10 (.bool false)), intOf (V.getD 11 (.bool false))⟩

theorem pOf16_pcells (p : Pr) : pOf16 (pcells p) = p := rfl

theorem prim_row16 {V : List Value} (h : LeafAll [.int .i64, .int .i64, .int .i64, .int .i64, .int .i64, .int .i64, .int .i64, .int .i64, .int .i64, .int .i64, .int .i64, .int .i64] V) : ∃ p : Pr, V = pcells p ∧ p.I := by
  obtain ⟨_, _, rfl, ⟨x0, rfl, h0⟩, _, _, rfl, ⟨x1, rfl, h1⟩, _, _, rfl, ⟨x2, rfl, h2⟩, _, _, rfl, ⟨x3, rfl, h3⟩, _, _, rfl, ⟨x4, rfl, h4⟩, _, _, rfl, ⟨x5, rfl, h5⟩, _, _, rfl, ⟨x6, rfl, h6⟩, _, _, rfl, ⟨x7, rfl, h7⟩, _, _, rfl, ⟨x8, rfl, h8⟩, _, _, rfl, ⟨x9, rfl, h9⟩, _, _, rfl, ⟨x10, rfl, h10⟩, _, r, rfl, ⟨x11, rfl, h11⟩, he⟩ := h
  have he' : r = [] := he
  subst he'
  exact ⟨⟨x0, (x1, x2, x3), (x4, x5, x6), (x7, x8, x9), x10, x11⟩, rfl, ⟨I64.of_wf h0, ⟨I64.of_wf h1, I64.of_wf h2, I64.of_wf h3⟩, ⟨I64.of_wf h4, I64.of_wf h5, I64.of_wf h6⟩, ⟨I64.of_wf h7, I64.of_wf h8, I64.of_wf h9⟩, I64.of_wf h10, I64.of_wf h11⟩⟩

set_option maxRecDepth 100000 in
theorem open_prims16 {H : Type} {enc : TypeId × Value → H} {W : World} {r : Reach} {b0 : Nat} {v : Value} {d : DataW H} {p : List MemPlace} (hv : Value.okWide Try.prog W r b0 26 v)
    (h : DataW.Trod enc Try.prog W 0 (fun _ => true) true 26 v d p) : ∃ (a : Option Addr) (len cap : Nat) (P : Nat → Pr), v = .slice a len cap ∧ Prims W (.slice a len cap) len P := by
  obtain ⟨z0, z1, z2, rfl⟩ := Go.WideShapes.okWide_slice Try.underlying26 hv
  obtain ⟨fuel, hf⟩ := h
  obtain ⟨a, len, cap, V, ev, _, hm, hr⟩ := open_rows16 (n := 5) (ks := [.int .i64, .int .i64, .int .i64, .int .i64, .int .i64, .int .i64, .int .i64, .int .i64, .int .i64, .int .i64, .int .i64, .int .i64]) Try.underlying26 (by kernel_rfl) (by kernel_rfl) (by simp) hf
  rw [ev]
  clear ev hf hv
  refine ⟨a, len, cap, fun i => pOf16 (V i), rfl, ?_⟩
  rcases hr with rfl | ⟨b, off, rfl, hR, hb⟩
  · exact ⟨⟨a, cap, rfl, hm, .inl rfl⟩, fun i hi => absurd hi (by omega)⟩
  · refine ⟨⟨_, cap, rfl, hm, .inr ⟨b, off, rfl, hb, fun k hk j hj => ?_⟩⟩, fun k hk => ?_⟩
    · obtain ⟨p, e, _⟩ := prim_row16 (hR k hk).1
      have c : W.cell? ⟨b, off + k * 12 + j, none⟩ = (V k)[j]? := (hR k hk).2 j hj
      dsimp only
      rw [c, e, pOf16_pcells]
    · obtain ⟨p, e, hI⟩ := prim_row16 (hR k hk).1
      dsimp only
      rw [e, pOf16_pcells]
      exact hI

end Go.Proofs.Ytomlcglnkdfemaa
