/- From a row's list of laid variables to what the contracts ask: the library's table of powers of ten, and its two errors. -/
import Derived.Test.YtlhamgcmkodjeaaDoorConv18
import Derived.Test.YtlhamgcmkodjeaaDoorRows
import Derived.LaidMore
import Derived.LaidHandle
import Derived.MakeChecks
import Derived.Stop.LaidErr
import Derived.Lib.LaidTab
namespace Go.Proofs.YtlhamgcmkodjeaaDoor
open Go.RowKit Go.Proofs.Sky
set_option linter.unusedVariables false

theorem pow_data : (Rows.laid_internal_strconv_uint64pow10 : DataW Unit) = Lib.tabData .u64 Lib.pow10Tab := by kernel_rfl

/-- The list of the rows. -/
noncomputable def laidList : List (String × DataW Unit) := [("math/bits.deBruijn32tab", Rows.laid_math_bits_deBruijn32tab), ("math/bits.deBruijn64tab", Rows.laid_math_bits_deBruijn64tab), ("internal/strconv.uint64pow10", Rows.laid_internal_strconv_uint64pow10), ("strconv.ErrRange", Rows.laid_strconv_ErrRange), ("strconv.ErrSyntax", Rows.laid_strconv_ErrSyntax)]

theorem err_star : "*errors.errorString" = "*" ++ "errors.errorString" := by decide

set_option maxRecDepth 100000 in
theorem err_row : ∀ u, Tryd.prog.typeName? 3 u = some "*errors.errorString" → u = 106 := fun u hu =>
  typeName_ptr_named (nm := "errors.errorString") (by rw [← err_star]; kernel_rfl) (by kernel_rfl) (by decide) u (by rw [← err_star]; exact hu)

set_option maxRecDepth 100000 in
theorem laid18_of {W : World} (h : laidMetH Tryd.prog laidList W) : Laid18 W := by
  have h0 : laidMet Tryd.prog laidList W := by rw [Go.MakeChecks.laidMetH_plain _ _ _ (by kernel_rfl)] at h; exact h
  have h2 := h0.tail.tail
  rw [pow_data] at h2
  have h3 := h2.tail
  have h4 := h3.tail
  obtain ⟨a, s, e1, _⟩ := laid_sentinel h3 (g := 1) (by kernel_rfl) (by kernel_rfl) Tryd.underlying48 err_row Tryd.underlying106 Tryd.underlying108 rfl rfl Tryd.underlying9 (by kernel_rfl) (by kernel_rfl)
  obtain ⟨a2, s2, e2, _⟩ := laid_sentinel h4 (g := 0) (by kernel_rfl) (by kernel_rfl) Tryd.underlying48 err_row Tryd.underlying106 Tryd.underlying108 rfl rfl Tryd.underlying9 (by kernel_rfl) (by kernel_rfl)
  exact ⟨Lib.tabIs_of_head (g := 2) (by kernel_rfl) (by kernel_rfl) Tryd.underlying98 Tryd.underlying22 (by kernel_rfl) (by kernel_rfl) h2, ⟨_, _, e2⟩, ⟨_, _, e1⟩⟩

end Go.Proofs.YtlhamgcmkodjeaaDoor
