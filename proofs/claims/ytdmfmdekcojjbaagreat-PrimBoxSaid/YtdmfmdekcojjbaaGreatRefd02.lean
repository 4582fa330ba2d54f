/- Contract of the document's order (skylightref02). -/
import Derived.Test.YtdmfmdekcojjbaaGreatRef02
namespace Go.Proofs.YtdmfmdekcojjbaaGreat
open Go.RowKit Go.Proofs.Sky
set_option linter.unusedVariables false
set_option linter.unusedSimpArgs false
attribute [local go_sem ↓] Go.wp_at_zero Go.wp_at_succ

theorem dg_up (x : Int) : ∀ j, j < 8 → (j ≠ 7 → dg x j = dg (x + 170141183460469231731687303715884105728) j) ∧ (j = 7 → (dg x 7 + 32768) % 65536 = dg (x + 170141183460469231731687303715884105728) 7) := by
  intro j hj
  refine cases8 (P := fun j => (j ≠ 7 → dg x j = dg (x + 170141183460469231731687303715884105728) j) ∧ (j = 7 → (dg x 7 + 32768) % 65536 = dg (x + 170141183460469231731687303715884105728) 7)) hj ?_ ?_ ?_ ?_ ?_ ?_ ?_ ?_
  · exact ⟨fun _ => by rw [dg0, dg0]; omega, fun h => by omega⟩
  · exact ⟨fun _ => by rw [dg1, dg1]; omega, fun h => by omega⟩
  · exact ⟨fun _ => by rw [dg2, dg2]; omega, fun h => by omega⟩
  · exact ⟨fun _ => by rw [dg3, dg3]; omega, fun h => by omega⟩
  · exact ⟨fun _ => by rw [dg4, dg4]; omega, fun h => by omega⟩
  · exact ⟨fun _ => by rw [dg5, dg5]; omega, fun h => by omega⟩
  · exact ⟨fun _ => by rw [dg6, dg6]; omega, fun h => by omega⟩
  · exact ⟨fun h => by omega, fun _ => by rw [dg7, dg7]; omega⟩

theorem dg_split (u : Int) (j : Nat) : u / 65536 ^ j = u / 65536 ^ (j + 1) * 65536 + dg u j := by
  have h : u / 65536 ^ (j + 1) = u / 65536 ^ j / 65536 := by
    rw [Int.pow_succ, Int.ediv_ediv_of_nonneg (Int.pow_nonneg (by omega))]
  rw [h]; unfold dg; omega

theorem dg_less {u v : Int} {j : Nat} (h : u / 65536 ^ (j + 1) = v / 65536 ^ (j + 1)) (hd : dg u j < dg v j) : u < v := by
  have h1 := dg_split u j
  have h2 := dg_split v j
  have h3 : u / 65536 ^ j < v / 65536 ^ j := by omega
  rcases Int.lt_or_le u v with h4 | h4
  · exact h4
  · have := Int.ediv_le_ediv (show (0 : Int) < 65536 ^ j from Int.pow_pos (by omega)) h4
    omega

end Go.Proofs.YtdmfmdekcojjbaaGreat
