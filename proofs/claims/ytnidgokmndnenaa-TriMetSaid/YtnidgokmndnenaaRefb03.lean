/- The document's own comparison of fractions (layer 3): whole parts, then what is left, upside down. -/
import Derived.Test.YtnidgokmndnenaaRef03
namespace Go.Proofs.Ytnidgokmndnenaa
open Go.RowKit Go.Proofs.Sky
set_option linter.unusedVariables false

/-- One round: whole parts p, q, what is left x, y. -/
structure CmpStep (n d m e p q x y : Int) : Prop where
  p_ : dv n d = p
  q_ : dv m e = q
  x_ : md n d = x
  y_ : md m e = y
  x0 : 0 ≤ x
  xd : x < d
  y0 : 0 ≤ y
  ye : y < e
  lt : p < q → cmpI (n * e) (m * d) = -1
  gt : q < p → cmpI (n * e) (m * d) = 1
  zz : p = q → x = 0 → y = 0 → cmpI (n * e) (m * d) = 0
  zx : p = q → x = 0 → 1 ≤ y → cmpI (n * e) (m * d) = -1
  zy : p = q → 1 ≤ x → y = 0 → cmpI (n * e) (m * d) = 1
  on : p = q → cmpI (e * x) (d * y) = cmpI (n * e) (m * d)
theorem cmp_core {n d m e p q x y : Int} (hd : 1 ≤ d) (he : 1 ≤ e) (e1 : d * p + x = n) (e2 : e * q + y = m) (a1 : 0 ≤ x) (a2 : x < d) (a3 : 0 ≤ y) (a4 : y < e) :
    (p < q → cmpI (n * e) (m * d) = -1) ∧ (q < p → cmpI (n * e) (m * d) = 1) ∧ (p = q → x = 0 → y = 0 → cmpI (n * e) (m * d) = 0) ∧ (p = q → x = 0 → 1 ≤ y → cmpI (n * e) (m * d) = -1) ∧
    (p = q → 1 ≤ x → y = 0 → cmpI (n * e) (m * d) = 1) ∧ (p = q → cmpI (e * x) (d * y) = cmpI (n * e) (m * d)) := by
  have k1 : n * e = d * e * p + x * e := by
    rw [← e1, Int.add_mul, Int.mul_assoc, Int.mul_comm p e, ← Int.mul_assoc]
  have k2 : m * d = d * e * q + y * d := by
    rw [← e2, Int.add_mul, Int.mul_comm (e * q) d, ← Int.mul_assoc]
  have b1 : 0 ≤ x * e := Int.mul_nonneg a1 (by omega)
  have b2 : x * e < d * e := Int.mul_lt_mul_of_pos_right a2 (by omega)
  have b3 : 0 ≤ y * d := Int.mul_nonneg a3 (by omega)
  have b4 : y * d < d * e := by rw [Int.mul_comm d e]; exact Int.mul_lt_mul_of_pos_right a4 (by omega)
  have c1 : p < q → d * e * p + d * e ≤ d * e * q := fun h => by
    have := Int.mul_le_mul_of_nonneg_left (show p + 1 ≤ q by omega) (show 0 ≤ d * e by omega)
    rwa [Int.mul_add, Int.mul_one] at this
  have c2 : q < p → d * e * q + d * e ≤ d * e * p := fun h => by
    have := Int.mul_le_mul_of_nonneg_left (show q + 1 ≤ p by omega) (show 0 ≤ d * e by omega)
    rwa [Int.mul_add, Int.mul_one] at this
  have z1 : x = 0 → x * e = 0 := fun h => by rw [h, Int.zero_mul]
  have z2 : y = 0 → y * d = 0 := fun h => by rw [h, Int.zero_mul]
  have z3 : 1 ≤ x → 0 < x * e := fun h => Int.mul_pos (by omega) (by omega)
  have z4 : 1 ≤ y → 0 < y * d := fun h => Int.mul_pos (by omega) (by omega)
  have z5 : p = q → d * e * p = d * e * q := fun h => by rw [h]
  rw [k1, k2, Int.mul_comm e x, Int.mul_comm d y]
  clear k1 k2 e1 e2
  generalize d * e * p = A at *
  generalize d * e * q = B at *
  generalize d * e = C at *
  generalize x * e = X at *
  generalize y * d = Y at *
  unfold cmpI
  refine ⟨fun h => ?_, fun h => ?_, fun h h1 h2 => ?_, fun h h1 h2 => ?_, fun h h1 h2 => ?_, fun h => ?_⟩
  · have := c1 h; rw [if_pos (by omega)]
  · have := c2 h; rw [if_neg (by omega), if_pos (by omega)]
  · have := z1 h1; have := z2 h2; have := z5 h; rw [if_neg (by omega), if_neg (by omega)]
  · have := z1 h1; have := z4 h2; have := z5 h; rw [if_pos (by omega)]
  · have := z3 h1; have := z2 h2; have := z5 h; rw [if_neg (by omega), if_pos (by omega)]
  · have := z5 h; (repeat' split) <;> omega
theorem CmpStep.make (n d m e : Int) (hd : 1 ≤ d) (he : 1 ≤ e) : CmpStep n d m e (n / d) (m / e) (n % d) (m % e) := by
  have a1 := Int.emod_nonneg n (show d ≠ 0 by omega)
  have a2 := Int.emod_lt_of_pos n (show 0 < d by omega)
  have a3 := Int.emod_nonneg m (show e ≠ 0 by omega)
  have a4 := Int.emod_lt_of_pos m (show 0 < e by omega)
  obtain ⟨h1, h2, h3, h4, h5, h6⟩ := cmp_core hd he (Int.mul_ediv_add_emod n d) (Int.mul_ediv_add_emod m e) a1 a2 a3 a4
  exact ⟨by unfold dv; rw [if_neg (by omega)], by unfold dv; rw [if_neg (by omega)], by unfold md; rw [if_neg (by omega)], by unfold md; rw [if_neg (by omega)], a1, a2, a3, a4, h1, h2, h3, h4, h5, h6⟩

/-- Two boxes of two cells each, and nothing that lay in w turned. -/
structure Two (w W : World) (g0 g1 : Nat) (t : TypeId) (n d m e : Int) : Prop where
  h : Below w.heap.size w W
  b0 : Bk W g0 t #[.int .i64 n, .int .i64 d]
  b1 : Bk W g1 t #[.int .i64 m, .int .i64 e]
def cellN (W : World) (b i : Nat) : Nat := ((W.cell? ⟨b, i, none⟩).map (fun v => (intOf v).toNat)).getD 0

theorem cellN_of {W : World} {g : Nat} {t : TypeId} {a b : Int} (h : Bk W g t #[.int .i64 a, .int .i64 b]) : cellN W g 1 = b.toNat := by
  unfold cellN
  rw [h.cell (i := 1) rfl]
  rfl
theorem two_next {w W : World} {g0 g1 : Nat} {t : TypeId} {n d m e n' d' m' e' : Int} (q : BW W) (s : Two w W g0 g1 t n d m e) (h0 : w.heap.size ≤ g0 := by omega) (h1 : g0 < g1 := by omega) :
    Two w ((((q.w.setCell ⟨g0, 0, none⟩ (.int .i64 n')).setCell ⟨g0, 1, none⟩ (.int .i64 d')).setCell ⟨g1, 0, none⟩ (.int .i64 m')).setCell ⟨g1, 1, none⟩ (.int .i64 e')) g0 g1 t n' d' m' e' :=
  ⟨((((bw_below s.h q).setCell (p := ⟨g0, 0, none⟩) h0 _).setCell (p := ⟨g0, 1, none⟩) h0 _).setCell (p := ⟨g1, 0, none⟩) (by show _ ≤ g1; omega) _).setCell (p := ⟨g1, 1, none⟩) (by show _ ≤ g1; omega) _,
   (((((s.b0.below q.h).set 0 (.int .i64 n')).set 1 (.int .i64 d')).other (a := ⟨g1, 0, none⟩) (by show g0 ≠ g1; omega) _).other (a := ⟨g1, 1, none⟩) (by show g0 ≠ g1; omega) _).cast (by simp),
   (((((s.b1.below q.h).other (a := ⟨g0, 0, none⟩) (by show g1 ≠ g0; omega) (.int .i64 n')).other (a := ⟨g0, 1, none⟩) (by show g1 ≠ g0; omega) (.int .i64 d')).set 0 (.int .i64 m')).set 1 (.int .i64 e')).cast (by simp)⟩

end Go.Proofs.Ytnidgokmndnenaa
