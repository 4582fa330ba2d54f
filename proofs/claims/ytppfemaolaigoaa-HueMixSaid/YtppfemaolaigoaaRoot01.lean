/- The contract of num.Root. -/
import Derived.Test.YtppfemaolaigoaaNum01
import Derived.Lib.ItoaNum
import Derived.Lib.Hide
namespace Go.Proofs.Ytppfemaolaigoaa
open Go.RowKit Go.Proofs.Sky
set_option linter.unusedVariables false

theorem Len64 (x : Int) (w : World) (h : U64 x) :
    Calls Try.prog 57 #[.int .u64 x] w fun e w' => e = .returned (.int .i64 (Lib.bitLen x.toNat : Int)) ∧ w = w' :=
  (Try.bits_Len64 x w h.1 h.2).mono fun e w' ⟨h1, h2⟩ => ⟨h1, h2.symm⟩

theorem bitLen_lt (n : Nat) (h : n < 18446744073709551616) : Lib.bitLen n ≤ 64 ∧ n < 2 ^ Lib.bitLen n := by
  refine ⟨Lib.bitLen_le n 64 (Nat.le_refl _) h, ?_⟩
  by_cases h0 : n = 0
  · subst h0; decide
  · exact (Lib.bitLenAux_bounds 64 n h h0).2.2

end Go.Proofs.Ytppfemaolaigoaa
