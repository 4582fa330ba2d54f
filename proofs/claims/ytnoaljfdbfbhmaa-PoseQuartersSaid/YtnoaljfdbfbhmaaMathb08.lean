/- Plain mathematics of layer 8: poses of quarter turns and moves. Imports nothing of the translation. -/
import Derived.Test.YtnoaljfdbfbhmaaMath08
namespace Go.Proofs.Sky
open Go.RowKit
set_option linter.unusedVariables false

/-- A row of a quarter turn: one coordinate is 1 or -1, the others are 0. -/
def rs (r : T3) : Prop := r = (1, 0, 0) ∨ r = (-1, 0, 0) ∨ r = (0, 1, 0) ∨ r = (0, -1, 0) ∨ r = (0, 0, 1) ∨ r = (0, 0, -1)
def in3 (B : Int) (v : T3) : Prop := (-B ≤ v.1 ∧ v.1 ≤ B) ∧ (-B ≤ v.2.1 ∧ v.2.1 ≤ B) ∧ (-B ≤ v.2.2 ∧ v.2.2 ≤ B)
def s3 (k : Int) (v : T3) : T3 := (k * v.1, k * v.2.1, k * v.2.2)
/-- A pose of quarter turns and moves, rows of ones. -/
def up (m : P4) : P4 := (s3 16384 m.1, s3 16384 m.2.1, s3 16384 m.2.2.1, m.2.2.2)
def ap (m : P4) (v : T3) : T3 := (dtT m.1 v + m.2.2.2.1, dtT m.2.1 v + m.2.2.2.2.1, dtT m.2.2.1 v + m.2.2.2.2.2)
def rowm (r : T3) (a : P4) : T3 := (dtT r (a.1.1, a.2.1.1, a.2.2.1.1), dtT r (a.1.2.1, a.2.1.2.1, a.2.2.1.2.1), dtT r (a.1.2.2, a.2.1.2.2, a.2.2.1.2.2))
def tn (a b : P4) : P4 := (rowm b.1 a, rowm b.2.1 a, rowm b.2.2.1 a, ap b a.2.2.2)
def qs (m : P4) (B : Int) : Prop := rs m.1 ∧ rs m.2.1 ∧ rs m.2.2.1 ∧ in3 B m.2.2.2

theorem nrT_in {v : T3} {B : Int} (h : in3 B v) (hB : B ≤ 1048576) : nrT v = true := by
  unfold nrT; rw [vnear_iff]; unfold in3 at h; omega
theorem s3_in {r : T3} (h : rs r) : in3 16384 (s3 16384 r) := by
  rcases h with rfl | rfl | rfl | rfl | rfl | rfl <;> simp [in3, s3]
theorem dtT_in {r v : T3} {B : Int} (h : rs r) (hv : in3 B v) : -B ≤ dtT r v ∧ dtT r v ≤ B := by
  unfold in3 at hv
  rcases h with rfl | rfl | rfl | rfl | rfl | rfl <;> simp [dtT] <;> omega
theorem pRow_q {r v : T3} (h : rs r) (hv : in3 1048576 v) : pRow (s3 16384 r) v = dtT r v := by
  have n1 := nrT_in (s3_in h) (by omega)
  have n2 := nrT_in hv (by omega)
  unfold nrT at n1 n2
  unfold pRow vdot
  rw [if_pos ⟨n1, n2⟩]
  clear n1 n2
  unfold in3 at hv
  rcases h with rfl | rfl | rfl | rfl | rfl | rfl <;> simp [dtT, s3] <;> omega
theorem pRow_k {k : Int} {v : T3} (hk : 1 ≤ k ∧ k ≤ 64) (hv : nrT v = true) : pRow (16384 * k, 0, 0) v = k * v.1 ∧ pRow (0, 16384 * k, 0) v = k * v.2.1 ∧ pRow (0, 0, 16384 * k) v = k * v.2.2 := by
  have n1 : vnear (16384 * k) 0 0 = true := by rw [vnear_iff]; omega
  have n2 : vnear 0 (16384 * k) 0 = true := by rw [vnear_iff]; omega
  have n3 : vnear 0 0 (16384 * k) = true := by rw [vnear_iff]; omega
  unfold nrT at hv
  unfold pRow vdot
  rw [if_pos ⟨n1, hv⟩, if_pos ⟨n2, hv⟩, if_pos ⟨n3, hv⟩]
  refine ⟨?_, ?_, ?_⟩
  · show (16384 * k * v.1 + 0 * v.2.1 + 0 * v.2.2) / 16384 = k * v.1
    rw [Int.mul_assoc]; omega
  · show (0 * v.1 + 16384 * k * v.2.1 + 0 * v.2.2) / 16384 = k * v.2.1
    rw [Int.mul_assoc]; omega
  · show (0 * v.1 + 0 * v.2.1 + 16384 * k * v.2.2) / 16384 = k * v.2.2
    rw [Int.mul_assoc]; omega
theorem pRight_up {m : P4} {B : Int} (h : qs m B) (hB : B ≤ 1048576) : pRight (up m) = true := by
  obtain ⟨h1, h2, h3, h4⟩ := h
  unfold pRight up
  show (nrT (s3 16384 m.1) && (nrT (s3 16384 m.2.1) && (nrT (s3 16384 m.2.2.1) && nrT m.2.2.2))) = true
  rw [nrT_in (s3_in h1) (by omega), nrT_in (s3_in h2) (by omega), nrT_in (s3_in h3) (by omega), nrT_in h4 hB]
  rfl
theorem pPut_q {m : P4} {v : T3} {B C : Int} (h : qs m B) (hB : B ≤ 1048576) (hv : in3 C v) (hC : C ≤ 1048576) : pPut (up m) v = ap m v := by
  have hr := pRight_up h hB
  have hn := nrT_in hv hC
  have hv' : in3 1048576 v := by unfold in3 at hv ⊢; omega
  obtain ⟨h1, h2, h3, h4⟩ := h
  unfold pPut
  rw [if_pos ⟨hr, hn⟩]
  show (pRow (s3 16384 m.1) v + _, pRow (s3 16384 m.2.1) v + _, pRow (s3 16384 m.2.2.1) v + _) = _
  rw [pRow_q h1 hv', pRow_q h2 hv', pRow_q h3 hv']
  rfl
theorem ap_in {m : P4} {v : T3} {B C : Int} (h : qs m B) (hv : in3 C v) : in3 (C + B) (ap m v) := by
  obtain ⟨h1, h2, h3, h4⟩ := h
  have d1 := dtT_in h1 hv
  have d2 := dtT_in h2 hv
  have d3 := dtT_in h3 hv
  unfold ap in3 at *
  dsimp only
  omega
theorem rs_neg {r : T3} (h : rs r) : rs (s3 (-1) r) := by
  rcases h with rfl | rfl | rfl | rfl | rfl | rfl <;> simp [rs, s3]
theorem rs_row {r : T3} {a : P4} (h : rs r) (h1 : rs a.1) (h2 : rs a.2.1) (h3 : rs a.2.2.1) : rs (rowm r a) := by
  rcases h with rfl | rfl | rfl | rfl | rfl | rfl
  · rw [show rowm (1, 0, 0) a = a.1 by simp [rowm, dtT]]; exact h1
  · rw [show rowm (-1, 0, 0) a = s3 (-1) a.1 by simp [rowm, dtT, s3]]; exact rs_neg h1
  · rw [show rowm (0, 1, 0) a = a.2.1 by simp [rowm, dtT]]; exact h2
  · rw [show rowm (0, -1, 0) a = s3 (-1) a.2.1 by simp [rowm, dtT, s3]]; exact rs_neg h2
  · rw [show rowm (0, 0, 1) a = a.2.2.1 by simp [rowm, dtT]]; exact h3
  · rw [show rowm (0, 0, -1) a = s3 (-1) a.2.2.1 by simp [rowm, dtT, s3]]; exact rs_neg h3
theorem col_in {a : P4} (h1 : rs a.1) (h2 : rs a.2.1) (h3 : rs a.2.2.1) : in3 16384 ((up a).1.1, (up a).2.1.1, (up a).2.2.1.1) ∧ in3 16384 ((up a).1.2.1, (up a).2.1.2.1, (up a).2.2.1.2.1) ∧ in3 16384 ((up a).1.2.2, (up a).2.1.2.2, (up a).2.2.1.2.2) := by
  have e1 := s3_in h1
  have e2 := s3_in h2
  have e3 := s3_in h3
  unfold in3 at *
  unfold up
  dsimp only at *
  omega
theorem dtT_s3 (r : T3) (a b c : Int) : dtT r (16384 * a, 16384 * b, 16384 * c) = 16384 * dtT r (a, b, c) := by
  unfold dtT; grind
theorem pRows_q {r : T3} {a : P4} (h : rs r) (h1 : rs a.1) (h2 : rs a.2.1) (h3 : rs a.2.2.1) : pRows (s3 16384 r) (up a) = s3 16384 (rowm r a) := by
  obtain ⟨c1, c2, c3⟩ := col_in h1 h2 h3
  have w : ∀ v, in3 16384 v → in3 1048576 v := fun v hv => by unfold in3 at *; omega
  unfold pRows
  rw [pRow_q h (w _ c1), pRow_q h (w _ c2), pRow_q h (w _ c3)]
  unfold up s3 rowm
  dsimp only
  rw [dtT_s3, dtT_s3, dtT_s3]
theorem tn_qs {a b : P4} {A B : Int} (ha : qs a A) (hb : qs b B) : qs (tn a b) (A + B) := by
  refine ⟨rs_row hb.1 ha.1 ha.2.1 ha.2.2.1, rs_row hb.2.1 ha.1 ha.2.1 ha.2.2.1, rs_row hb.2.2.1 ha.1 ha.2.1 ha.2.2.1, ap_in hb ha.2.2.2⟩
theorem pThen_q {a b : P4} {A B : Int} (ha : qs a A) (hb : qs b B) (hA : A ≤ 1048576) (hB : B ≤ 1048576) : pThen (up a) (up b) = up (tn a b) := by
  have r1 := pRight_up ha hA
  have r2 := pRight_up hb hB
  unfold pThen
  rw [if_pos ⟨r1, r2⟩]
  show (pRows (s3 16384 b.1) (up a), pRows (s3 16384 b.2.1) (up a), pRows (s3 16384 b.2.2.1) (up a), pPut (up b) a.2.2.2) = _
  rw [pRows_q hb.1 ha.1 ha.2.1 ha.2.2.1, pRows_q hb.2.1 ha.1 ha.2.1 ha.2.2.1, pRows_q hb.2.2.1 ha.1 ha.2.1 ha.2.2.1, pPut_q hb hB ha.2.2.2 hA]
  rfl
theorem dt_tn (r v : T3) (a : P4) : dtT r (ap a v) = dtT (rowm r a) v + dtT r a.2.2.2 := by
  unfold ap rowm dtT
  dsimp only
  grind
theorem ap_tn (a b : P4) (v : T3) : ap (tn a b) v = ap b (ap a v) := by
  unfold tn
  show (dtT (rowm b.1 a) v + (dtT b.1 a.2.2.2 + _), dtT (rowm b.2.1 a) v + (dtT b.2.1 a.2.2.2 + _), dtT (rowm b.2.2.1 a) v + (dtT b.2.2.1 a.2.2.2 + _)) = (dtT b.1 (ap a v) + _, dtT b.2.1 (ap a v) + _, dtT b.2.2.1 (ap a v) + _)
  rw [dt_tn, dt_tn, dt_tn, Int.add_assoc, Int.add_assoc, Int.add_assoc]
def qNone : P4 := ((1, 0, 0), (0, 1, 0), (0, 0, 1), (0, 0, 0))
theorem qNone_up : up qNone = pNone 16384 := by decide +kernel
theorem qNone_qs : qs qNone 0 := ⟨.inl rfl, .inr (.inr (.inl rfl)), .inr (.inr (.inr (.inr (.inl rfl)))), by simp [in3, qNone]⟩
theorem qNone_ap (v : T3) : ap qNone v = v := by
  obtain ⟨a, b, c⟩ := v
  unfold ap qNone dtT
  simp
def qMove (v : T3) : P4 := ((1, 0, 0), (0, 1, 0), (0, 0, 1), v)
theorem qMove_qs {v : T3} {B : Int} (h : in3 B v) : qs (qMove v) B := ⟨.inl rfl, .inr (.inr (.inl rfl)), .inr (.inr (.inr (.inr (.inl rfl)))), h⟩
theorem qMove_up {v : T3} {B : Int} (h : in3 B v) (hB : B ≤ 1048576) : pMoved v = up (qMove v) := by
  unfold pMoved; rw [if_pos (nrT_in h hB)]; rfl
theorem quarter (k : Int) : (cosI (16384 * k) = 16384 ∧ sinI (16384 * k) = 0) ∨ (cosI (16384 * k) = 0 ∧ sinI (16384 * k) = 16384) ∨ (cosI (16384 * k) = -16384 ∧ sinI (16384 * k) = 0) ∨ (cosI (16384 * k) = 0 ∧ sinI (16384 * k) = -16384) := by
  have h : k % 4 = 0 ∨ k % 4 = 1 ∨ k % 4 = 2 ∨ k % 4 = 3 := by omega
  rcases h with h | h | h | h
  · rw [cosI_congr (g := 16384 * k) (h := 0) (by omega), sinI_congr (g := 16384 * k) (h := 0) (by omega)]; decide +kernel
  · rw [cosI_congr (g := 16384 * k) (h := 16384) (by omega), sinI_congr (g := 16384 * k) (h := 16384) (by omega)]; decide +kernel
  · rw [cosI_congr (g := 16384 * k) (h := 32768) (by omega), sinI_congr (g := 16384 * k) (h := 32768) (by omega)]; decide +kernel
  · rw [cosI_congr (g := 16384 * k) (h := 49152) (by omega), sinI_congr (g := 16384 * k) (h := 49152) (by omega)]; decide +kernel
theorem turned_q {axis k : Int} (h0 : 0 ≤ axis) (h1 : axis < 3) : ∃ m, pTurned axis (16384 * k) = up m ∧ qs m 0 := by
  have z : in3 0 (0, 0, 0) := by simp [in3]
  have q := quarter k
  generalize 16384 * k = t at *
  obtain rfl | rfl | rfl : axis = 0 ∨ axis = 1 ∨ axis = 2 := by omega
  all_goals
    unfold pTurned
    rcases q with ⟨e1, e2⟩ | ⟨e1, e2⟩ | ⟨e1, e2⟩ | ⟨e1, e2⟩ <;> rw [e1, e2]
  · exact ⟨((1, 0, 0), (0, 1, 0), (0, 0, 1), (0, 0, 0)), by decide +kernel, by simp [rs], by simp [rs], by simp [rs], z⟩
  · exact ⟨((1, 0, 0), (0, 0, -1), (0, 1, 0), (0, 0, 0)), by decide +kernel, by simp [rs], by simp [rs], by simp [rs], z⟩
  · exact ⟨((1, 0, 0), (0, -1, 0), (0, 0, -1), (0, 0, 0)), by decide +kernel, by simp [rs], by simp [rs], by simp [rs], z⟩
  · exact ⟨((1, 0, 0), (0, 0, 1), (0, -1, 0), (0, 0, 0)), by decide +kernel, by simp [rs], by simp [rs], by simp [rs], z⟩
  · exact ⟨((1, 0, 0), (0, 1, 0), (0, 0, 1), (0, 0, 0)), by decide +kernel, by simp [rs], by simp [rs], by simp [rs], z⟩
  · exact ⟨((0, 0, 1), (0, 1, 0), (-1, 0, 0), (0, 0, 0)), by decide +kernel, by simp [rs], by simp [rs], by simp [rs], z⟩
  · exact ⟨((-1, 0, 0), (0, 1, 0), (0, 0, -1), (0, 0, 0)), by decide +kernel, by simp [rs], by simp [rs], by simp [rs], z⟩
  · exact ⟨((0, 0, -1), (0, 1, 0), (1, 0, 0), (0, 0, 0)), by decide +kernel, by simp [rs], by simp [rs], by simp [rs], z⟩
  · exact ⟨((1, 0, 0), (0, 1, 0), (0, 0, 1), (0, 0, 0)), by decide +kernel, by simp [rs], by simp [rs], by simp [rs], z⟩
  · exact ⟨((0, -1, 0), (1, 0, 0), (0, 0, 1), (0, 0, 0)), by decide +kernel, by simp [rs], by simp [rs], by simp [rs], z⟩
  · exact ⟨((-1, 0, 0), (0, -1, 0), (0, 0, 1), (0, 0, 0)), by decide +kernel, by simp [rs], by simp [rs], by simp [rs], z⟩
  · exact ⟨((0, 1, 0), (-1, 0, 0), (0, 0, 1), (0, 0, 0)), by decide +kernel, by simp [rs], by simp [rs], by simp [rs], z⟩
theorem pSized_k {k : Int} (h : 1 ≤ k ∧ k ≤ 8) : pSized k 1 = pNone (16384 * k) := by
  unfold pSized; rw [if_pos (by omega)]; congr 1; omega
theorem pRight_none {k : Int} (h : 0 ≤ k ∧ k ≤ 1048576) : pRight (pNone k) = true := by
  unfold pRight pNone nrT
  have n1 : vnear k 0 0 = true := by rw [vnear_iff]; omega
  have n2 : vnear 0 k 0 = true := by rw [vnear_iff]; omega
  have n3 : vnear 0 0 k = true := by rw [vnear_iff]; omega
  show (vnear k 0 0 && (vnear 0 k 0 && (vnear 0 0 k && vnear 0 0 0))) = true
  rw [n1, n2, n3]; decide +kernel
theorem pPut_none {k : Int} {v : T3} (hk : 1 ≤ k ∧ k ≤ 8) (hv : nrT v = true) : pPut (pNone (16384 * k)) v = (k * v.1, k * v.2.1, k * v.2.2) := by
  obtain ⟨r1, r2, r3⟩ := pRow_k (k := k) (by omega) hv
  have hr := pRight_none (k := 16384 * k) (by omega)
  unfold pPut
  rw [if_pos ⟨hr, hv⟩]
  show (pRow (16384 * k, 0, 0) v + 0, pRow (0, 16384 * k, 0) v + 0, pRow (0, 0, 16384 * k) v + 0) = _
  rw [r1, r2, r3]; simp
theorem pPut_far {p : P4} {v : T3} (hv : nrT v = false) : pPut p v = (0, 0, 0) := by
  unfold pPut; rw [if_neg (by rw [hv]; simp)]
theorem four_quarters {axis : Int} (h0 : 0 ≤ axis) (h1 : axis < 3) : pThen (pThen (pTurned axis 16384) (pTurned axis 16384)) (pThen (pTurned axis 16384) (pTurned axis 16384)) = pNone 16384 ∧ pThen (pTurned axis 32768) (pTurned axis 32768) = pNone 16384 ∧ pThen (pTurned axis 16384) (pTurned axis 16384) = pTurned axis 32768 := by
  obtain rfl | rfl | rfl : axis = 0 ∨ axis = 1 ∨ axis = 2 := by omega
  all_goals (refine ⟨?_, ?_, ?_⟩ <;> decide +kernel)

end Go.Proofs.Sky
