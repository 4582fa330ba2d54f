/- Plain mathematics of layer 3: the least one of a row of fractions. -/
import Derived.Test.YtfdolgdfadipeaaMath03
namespace Go.Proofs.Sky
open Go.RowKit
set_option linter.unusedVariables false

/-- The better of two places of a row. -/
def pk (N D : Nat → Int) (m x : Nat) : Nat := if N x * D m < N m * D x then x else m
/-- The best of places f 0 to f k, the first of equals. -/
def mnf (N D : Nat → Int) (f : Nat → Nat) : Nat → Nat
  | 0 => f 0
  | k + 1 => pk N D (mnf N D f k) (f (k + 1))
/-- The first of the least fractions that may be, among the places below k; -1: none may be. -/
def lst (N D : Nat → Int) : Nat → Int
  | 0 => -1
  | k + 1 => if 1 ≤ D k ∧ (lst N D k < 0 ∨ N k * D (lst N D k).toNat < N (lst N D k).toNat * D k) then (k : Int) else lst N D k

theorem mnf_congr {N D : Nat → Int} {f g : Nat → Nat} : ∀ k, (∀ i, i ≤ k → f i = g i) → mnf N D f k = mnf N D g k
  | 0, h => h 0 (Nat.le_refl _)
  | k + 1, h => by
    unfold mnf
    rw [mnf_congr k (fun i hi => h i (by omega)), h (k + 1) (Nat.le_refl _)]
theorem mnf_mem {N D : Nat → Int} {f : Nat → Nat} {P : Nat → Prop} : ∀ k, (∀ i, i ≤ k → P (f i)) → P (mnf N D f k)
  | 0, h => h 0 (Nat.le_refl _)
  | k + 1, h => by
    unfold mnf pk
    split
    · exact h (k + 1) (Nat.le_refl _)
    · exact mnf_mem k (fun i hi => h i (by omega))

/-- The places, as they come. -/
def vpN (D : Nat → Int) (k : Nat) : List Nat := (List.range k).filter (fun i : Nat => decide (1 ≤ D i))
theorem vp_eq (D : Nat → Int) (k : Nat) : vp D k = (vpN D k).map (fun i : Nat => (i : Int)) := rfl
theorem vpN_hit {D : Nat → Int} {k : Nat} (h : 1 ≤ D k) : vpN D (k + 1) = vpN D k ++ [k] := by simp [vpN, List.range_succ, h]
theorem vpN_miss {D : Nat → Int} {k : Nat} (h : ¬ 1 ≤ D k) : vpN D (k + 1) = vpN D k := by simp [vpN, List.range_succ, h]
theorem vpN_mem {D : Nat → Int} {n x : Nat} (h : x ∈ vpN D n) : x < n ∧ 1 ≤ D x := by
  simpa [vpN] using h
theorem vpN_getD {D : Nat → Int} {n i : Nat} (h : i < (vpN D n).length) : (vpN D n).getD i 0 < n ∧ 1 ≤ D ((vpN D n).getD i 0) := by
  refine vpN_mem (D := D) ?_
  rw [List.getD_eq_getElem?_getD, List.getElem?_eq_getElem h]
  exact List.getElem_mem _

theorem lst_spec (N D : Nat → Int) : ∀ n, ((vpN D n).length = 0 → lst N D n = -1) ∧ (0 < (vpN D n).length → lst N D n = (mnf N D (fun i => (vpN D n).getD i 0) ((vpN D n).length - 1) : Nat))
  | 0 => ⟨fun _ => rfl, fun h => by simp [vpN] at h⟩
  | n + 1 => by
    obtain ⟨i0, i1⟩ := lst_spec N D n
    by_cases hd : 1 ≤ D n
    · rw [vpN_hit hd]
      refine ⟨fun h => by simp at h, fun _ => ?_⟩
      rw [List.length_append, List.length_singleton, Nat.add_sub_cancel]
      unfold lst
      by_cases h0 : (vpN D n).length = 0
      · rw [i0 h0]
        have e : vpN D n = [] := List.eq_nil_of_length_eq_zero h0
        rw [e]
        simp [mnf, hd]
      · have h1 : 0 < (vpN D n).length := by omega
        rw [i1 h1]
        obtain ⟨m, hm⟩ : ∃ m, (vpN D n).length = m + 1 := ⟨(vpN D n).length - 1, by omega⟩
        rw [hm, Nat.add_sub_cancel]
        have e1 : mnf N D (fun i => (vpN D n ++ [n]).getD i 0) (m + 1) = pk N D (mnf N D (fun i => (vpN D n).getD i 0) m) n := by
          show pk N D (mnf N D (fun i => (vpN D n ++ [n]).getD i 0) m) ((vpN D n ++ [n]).getD (m + 1) 0) = _
          have e3 : (vpN D n ++ [n]).getD (m + 1) 0 = n := by
            rw [List.getD_eq_getElem?_getD, List.getElem?_append_right (by omega), hm]; simp
          have e2 : mnf N D (fun i => (vpN D n ++ [n]).getD i 0) m = mnf N D (fun i => (vpN D n).getD i 0) m :=
            mnf_congr m (fun i hi => by
              show (vpN D n ++ [n]).getD i 0 = (vpN D n).getD i 0
              rw [List.getD_eq_getElem?_getD, List.getD_eq_getElem?_getD, List.getElem?_append_left (by omega)])
          rw [e2, e3]
        rw [e1]
        unfold pk
        rw [Int.toNat_natCast]
        by_cases hc : N n * D (mnf N D (fun i => (vpN D n).getD i 0) m) < N (mnf N D (fun i => (vpN D n).getD i 0) m) * D n
        · rw [if_pos ⟨hd, .inr hc⟩, if_pos hc]
        · rw [if_neg (by intro ⟨_, h⟩; rcases h with h | h; · omega
                         · exact hc h), if_neg hc]
    · rw [vpN_miss hd]
      unfold lst
      rw [if_neg (fun h => hd h.1)]
      exact ⟨i0, i1⟩

theorem lst_range (N D : Nat → Int) : ∀ n, -1 ≤ lst N D n ∧ lst N D n < n
  | 0 => by unfold lst; omega
  | n + 1 => by
    have := lst_range N D n
    unfold lst; split <;> omega

end Go.Proofs.Sky
