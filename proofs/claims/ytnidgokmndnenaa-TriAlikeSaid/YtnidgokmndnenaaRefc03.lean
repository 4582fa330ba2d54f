/- The document's own Less, Same, Least, At (layer 3). -/
import Derived.Test.YtnidgokmndnenaaRefb03
namespace Go.Proofs.Ytnidgokmndnenaa
open Go.RowKit Go.Proofs.Sky
set_option linter.unusedVariables false

theorem lst_valid (N D : Nat → Int) : ∀ k, lst N D k = -1 ∨ ∃ j : Nat, lst N D k = (j : Int) ∧ j < k ∧ 1 ≤ D j
  | 0 => .inl rfl
  | k + 1 => by
    unfold lst
    split
    · rename_i h; exact .inr ⟨k, rfl, by omega, h.1⟩
    · rcases lst_valid N D k with h | ⟨j, h1, h2, h3⟩
      · exact .inl h
      · exact .inr ⟨j, h1, by omega, h3⟩

theorem lst_hit0 {N D : Nat → Int} {k : Nat} (hd : 1 ≤ D k) (h : lst N D k = -1) : lst N D (k + 1) = (k : Int) := by
  unfold lst; rw [if_pos ⟨hd, .inl (by omega)⟩]
theorem lst_hit1 {N D : Nat → Int} {k j : Nat} (hd : 1 ≤ D k) (h : lst N D k = (j : Int)) (hc : N k * D j < N j * D k) : lst N D (k + 1) = (k : Int) := by
  unfold lst; rw [h, Int.toNat_natCast, if_pos ⟨hd, .inr hc⟩]
theorem lst_no {N D : Nat → Int} {k j : Nat} (h : lst N D k = (j : Int)) (hc : ¬ N k * D j < N j * D k) : lst N D (k + 1) = (j : Int) := by
  unfold lst
  rw [h, Int.toNat_natCast, if_neg (fun g => by
    rcases g.2 with g | g
    · omega
    · exact hc g)]
theorem lst_skip {N D : Nat → Int} {k : Nat} (hd : ¬ 1 ≤ D k) : lst N D (k + 1) = lst N D k := by
  show (if _ then _ else _) = _
  rw [if_neg (fun h => hd h.1)]

end Go.Proofs.Ytnidgokmndnenaa
