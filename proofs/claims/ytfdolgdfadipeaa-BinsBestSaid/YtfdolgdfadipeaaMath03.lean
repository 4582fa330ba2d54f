/- Plain mathematics of layer 3: fractions. -/
import Derived.Test.YtfdolgdfadipeaaMath02
namespace Go.Proofs.Sky
open Go.RowKit
set_option linter.unusedVariables false

/-- n/d against m/e. -/
def fless (n d m e : Int) : Bool := decide (1 ≤ d) && (decide (1 ≤ e) && decide (n * e < m * d))
def fsame (n d m e : Int) : Bool := decide (1 ≤ d) && (decide (1 ≤ e) && decide (n * e = m * d))
def fat (v n d : Int) : Int := if d < 1 then 0 else sat (v * n / d)
def fsmall (n d : Int) : Bool := decide (1 ≤ d) && (decide (d ≤ 2147483648) && (decide (-2147483648 ≤ n) && decide (n ≤ 2147483648)))
def fmid (n d m e : Int) : Int × Int := if fsmall n d = true ∧ fsmall m e = true then (n + m, d + e) else (0, 0)
def fmakeOk (n d : Int) : Bool := decide (d ≠ 0 ∧ n ≠ -9223372036854775808 ∧ d ≠ -9223372036854775808)
def fmake (n d : Int) : Int × Int := if fmakeOk n d = true then (if d < 0 then (-n, -d) else (n, d)) else (0, 0)

theorem mul_W128 {a b : Int} (ha : I64 a) (hb : I64 b) : W128 (a * b) := by
  unfold I64 at ha hb; unfold W128
  have h : (a * b).natAbs ≤ 9223372036854775808 * 9223372036854775808 := by
    rw [Int.natAbs_mul]; exact Nat.mul_le_mul (by omega) (by omega)
  omega

theorem cmpI_lt (x y : Int) : decide (cmpI x y < 0) = decide (x < y) := by
  unfold cmpI; split <;> (try split) <;> simp <;> omega
theorem cmpI_eq (x y : Int) : decide (cmpI x y = 0) = decide (x = y) := by
  unfold cmpI; split <;> (try split) <;> simp <;> omega
theorem cmpI_beq (x y : Int) : (cmpI x y == 0) = decide (x = y) := by
  rw [← cmpI_eq]; by_cases h : cmpI x y = 0 <;> simp [h]

theorem fsmall_iff {n d : Int} : fsmall n d = true ↔ 1 ≤ d ∧ d ≤ 2147483648 ∧ -2147483648 ≤ n ∧ n ≤ 2147483648 := by
  unfold fsmall; simp only [Bool.and_eq_true, decide_eq_true_eq]
theorem fat_over (v n d : Int) (h : 1 ≤ d) : (overOk (v * n) d = true → overQ (v * n) d = fat v n d) ∧
    (overOk (v * n) d = false → (v * n < 0 → -9223372036854775808 = fat v n d) ∧ (0 ≤ v * n → 9223372036854775807 = fat v n d)) := by
  have q := @ediv_le_pos (v * n) d h
  have e : fat v n d = sat (v * n / d) := by unfold fat; rw [if_neg (by omega)]
  rw [e]
  refine ⟨fun g => ?_, fun g => ?_⟩
  · have g' := of_decide_eq_true g
    unfold overQ sat
    rw [g, if_pos rfl, if_neg (by omega), if_neg (by omega)]
  · have g' := of_decide_eq_false g
    unfold sat
    refine ⟨fun l => ?_, fun l => ?_⟩
    · have := q.2 l
      rw [if_pos (by omega)]
    · have := q.1 l
      rw [if_neg (by omega), if_pos (by omega)]

/-- The places below k of the fractions that may be (divisors: D), in their order. -/
def vp (D : Nat → Int) (k : Nat) : List Int := ((List.range k).filter (fun i => decide (1 ≤ D i))).map (fun i : Nat => (i : Int))
theorem vp_zero (D : Nat → Int) : vp D 0 = [] := rfl
theorem vp_hit {D : Nat → Int} {k : Nat} (h : 1 ≤ D k) : vp D (k + 1) = vp D k ++ [(k : Int)] := by
  simp [vp, List.range_succ, h]
theorem vp_miss {D : Nat → Int} {k : Nat} (h : ¬ 1 ≤ D k) : vp D (k + 1) = vp D k := by
  simp [vp, List.range_succ, h]
theorem vp_prefix (D : Nat → Int) (k n : Nat) (h : k ≤ n) : ∃ rest, vp D n = vp D k ++ rest := by
  induction n with
  | zero => obtain rfl : k = 0 := by omega
            exact ⟨[], by simp⟩
  | succ n ih =>
    by_cases hk : k = n + 1
    · exact ⟨[], by rw [hk]; simp⟩
    · obtain ⟨rest, hr⟩ := ih (by omega)
      by_cases hd : 1 ≤ D n
      · exact ⟨rest ++ [(n : Int)], by rw [vp_hit hd, hr, List.append_assoc]⟩
      · exact ⟨rest, by rw [vp_miss hd, hr]⟩
theorem vp_split {D : Nat → Int} {k n : Nat} (hk : k < n) (h : 1 ≤ D k) : ∃ rest, vp D n = vp D k ++ (k : Int) :: rest := by
  obtain ⟨rest, hr⟩ := vp_prefix D (k + 1) n (by omega)
  exact ⟨rest, by rw [hr, vp_hit h, List.append_assoc]; rfl⟩
theorem vp_len (D : Nat → Int) (n : Nat) : (vp D n).length ≤ n := by
  have := List.length_filter_le (fun i => decide (1 ≤ D i)) (List.range n)
  simpa [vp] using this

/-- Fractions in a row, from place off of block b on: n of them. -/
def FrRow (w : World) (b off n : Nat) (N D : Nat → Int) : Prop := ∀ k, k < n → w.cell? ⟨b, off + k * 2, none⟩ = some (.int .i64 (N k)) ∧ w.cell? ⟨b, off + k * 2 + 1, none⟩ = some (.int .i64 (D k))
theorem FrRow.below {w w' : World} {b off n : Nat} {N D : Nat → Int} {B : Nat} (h : FrRow w b off n N D) (hb : Below B w w') (hlt : b < B) : FrRow w' b off n N D :=
  fun k hk => ⟨(hb.cell (p := ⟨b, off + k * 2, none⟩) hlt).trans (h k hk).1, (hb.cell (p := ⟨b, off + k * 2 + 1, none⟩) hlt).trans (h k hk).2⟩

end Go.Proofs.Sky
