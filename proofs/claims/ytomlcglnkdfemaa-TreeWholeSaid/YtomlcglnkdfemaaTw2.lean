/- What TreeWhole's arguments are. -/
import Derived.Test.YtomlcglnkdfemaaTw1
namespace Go.Proofs.Ytomlcglnkdfemaa
open Go.RowKit Go.Proofs.Sky
set_option linter.unusedVariables false

theorem u8_of_wf16 {a : Int} (h : (Lit.int .u8 a).wf = true) : 0 ≤ a ∧ a ≤ 255 := by
  simp [Lit.wf, IntKind.min, IntKind.max, IntKind.signed, IntKind.bits] at h
  omega

theorem law_TreeWholeI (lp : Option Addr) (n lc : Nat) (av kv o1 o2 o3 o4 o5 o6 o7 o8 o9 : Int) (P : Nat → Pr) (w : World) (hs : Prims w (.slice lp n lc) n P) (ha : (Lit.int .u8 av).wf = true) (hk : (Lit.int .u8 kv).wf = true) :
    Calls Try.prog 4 #[.slice lp n lc, .int .u8 av, .agg #[.int .i64 o1, .int .i64 o2, .int .i64 o3, .int .i64 o4, .int .i64 o5, .int .i64 o6, .int .i64 o7, .int .i64 o8, .int .i64 o9], .int .u8 kv] w fun en w' => en = .returned (.bool true) ∧ Below w.heap.size w w' := by
  obtain ⟨h1, h2⟩ := u8_of_wf16 ha
  obtain ⟨h3, h4⟩ := u8_of_wf16 hk
  obtain ⟨x, rfl⟩ := Int.eq_ofNat_of_zero_le h1
  obtain ⟨y, rfl⟩ := Int.eq_ofNat_of_zero_le h3
  exact law_TreeWhole lp n lc x y o1 o2 o3 o4 o5 o6 o7 o8 o9 P w hs (by omega) (by omega)

end Go.Proofs.Ytomlcglnkdfemaa
