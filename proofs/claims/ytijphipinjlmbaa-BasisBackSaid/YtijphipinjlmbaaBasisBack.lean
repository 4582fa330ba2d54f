/- The walk of the statement BasisBack. -/
import Derived.Test.YtijphipinjlmbaaBasisLow
import Derived.Test.YtijphipinjlmbaaRefb07
import Derived.Test.YtijphipinjlmbaaEdge
namespace Go.Proofs.Ytijphipinjlmbaa
open Go.RowKit Go.Proofs.Sky
set_option linter.unusedVariables false

set_option maxRecDepth 100000 in
set_option maxHeartbeats 8000000 in
theorem law_BasisBack_no (x y z p q r : Int) (w : World) (hx : I64 x) (hy : I64 y) (hz : I64 z) (h : vuOk x y z = false) :
    Calls Try.prog 5 #[.agg #[.int .i64 x, .int .i64 y, .int .i64 z], .int .i64 p, .int .i64 q, .int .i64 r] w fun r w' => r = .returned (.bool true) ∧ Below w.heap.size w w' := by
  have HA := Lib.hid (fun w => awake07 w)
  have O1 := Lib.hid (fun w => basis_Of x y z w hx hy hz)
  rw [h] at O1
  have e : bas x y z = ((0, 0, 0), (0, 0, 0), (0, 0, 0)) := by unfold bas; rw [h]; rfl
  rw [e] at O1
  unfold bas9 at O1
  dsimp only at O1
  clear e h hx hy hz
  go_enter Try.func5, Try.ntmps5
  go_upto_region 1 with (fail)
  obtain ⟨W1, hW1⟩ : ∃ W, W = w.alloc (.cells #[.int .i64 x, .int .i64 y, .int .i64 z] 23) := ⟨_, rfl⟩
  have B1 : Below w.heap.size w W1 := by rw [hW1]; go_grown
  have k_n : Bk W1 (w.heap.size) 23 #[.int .i64 x, .int .i64 y, .int .i64 z] := by rw [hW1]; exact Bk.new _ _ _
  rw [← hW1]
  clear hW1
  have c_n_0 : ∀ p : BW W1, p.w.cell? ⟨w.heap.size, 0, none⟩ = some (.int .i64 x) := bw_cell (k_n.cell rfl)
  have c_n_1 : ∀ p : BW W1, p.w.cell? ⟨w.heap.size, 1, none⟩ = some (.int .i64 y) := bw_cell (k_n.cell rfl)
  have c_n_2 : ∀ p : BW W1, p.w.cell? ⟨w.heap.size, 2, none⟩ = some (.int .i64 z) := bw_cell (k_n.cell rfl)
  obtain ⟨p1, hp1⟩ : ∃ p : BW W1, p.w = W1 := ⟨BW.start W1, rfl⟩
  rw [← hp1]
  clear hp1
  go_upto_region 2 with (first
    | (go_at_call 6; (first | (with_reducible refine (bw_call O1.out _).mono ?_)); rintro e w' ⟨rfl, q, rfl⟩))
  obtain ⟨W2, hW2⟩ : ∃ W, W = q.w.alloc (.cells #[.int .i64 0, .int .i64 0, .int .i64 0, .int .i64 0, .int .i64 0, .int .i64 0, .int .i64 0, .int .i64 0, .int .i64 0] 26) := ⟨_, rfl⟩
  have B2 : Below w.heap.size w W2 := by rw [hW2]; exact (bw_below B1 q).alloc (bw_below B1 q).size _
  have l_b : w.heap.size < q.w.heap.size := (k_n.below q.h).lt
  have k_n := (k_n.below q.h).alloc (.cells #[.int .i64 0, .int .i64 0, .int .i64 0, .int .i64 0, .int .i64 0, .int .i64 0, .int .i64 0, .int .i64 0, .int .i64 0] 26)
  rw [← hW2] at k_n
  have k_b : Bk W2 q.w.heap.size 26 #[.int .i64 0, .int .i64 0, .int .i64 0, .int .i64 0, .int .i64 0, .int .i64 0, .int .i64 0, .int .i64 0, .int .i64 0] := by rw [hW2]; exact Bk.new _ _ _
  rw [← hW2]
  clear hW2
  clear B1
  clear c_n_0 c_n_1 c_n_2
  generalize q.w.heap.size = g_b at *
  have c_n_0 : ∀ p : BW W2, p.w.cell? ⟨w.heap.size, 0, none⟩ = some (.int .i64 x) := bw_cell (k_n.cell rfl)
  have c_n_1 : ∀ p : BW W2, p.w.cell? ⟨w.heap.size, 1, none⟩ = some (.int .i64 y) := bw_cell (k_n.cell rfl)
  have c_n_2 : ∀ p : BW W2, p.w.cell? ⟨w.heap.size, 2, none⟩ = some (.int .i64 z) := bw_cell (k_n.cell rfl)
  have c_b_0 : ∀ p : BW W2, p.w.cell? ⟨g_b, 0, none⟩ = some (.int .i64 0) := bw_cell (k_b.cell rfl)
  have c_b_1 : ∀ p : BW W2, p.w.cell? ⟨g_b, 1, none⟩ = some (.int .i64 0) := bw_cell (k_b.cell rfl)
  have c_b_2 : ∀ p : BW W2, p.w.cell? ⟨g_b, 2, none⟩ = some (.int .i64 0) := bw_cell (k_b.cell rfl)
  have c_b_3 : ∀ p : BW W2, p.w.cell? ⟨g_b, 3, none⟩ = some (.int .i64 0) := bw_cell (k_b.cell rfl)
  have c_b_4 : ∀ p : BW W2, p.w.cell? ⟨g_b, 4, none⟩ = some (.int .i64 0) := bw_cell (k_b.cell rfl)
  have c_b_5 : ∀ p : BW W2, p.w.cell? ⟨g_b, 5, none⟩ = some (.int .i64 0) := bw_cell (k_b.cell rfl)
  have c_b_6 : ∀ p : BW W2, p.w.cell? ⟨g_b, 6, none⟩ = some (.int .i64 0) := bw_cell (k_b.cell rfl)
  have c_b_7 : ∀ p : BW W2, p.w.cell? ⟨g_b, 7, none⟩ = some (.int .i64 0) := bw_cell (k_b.cell rfl)
  have c_b_8 : ∀ p : BW W2, p.w.cell? ⟨g_b, 8, none⟩ = some (.int .i64 0) := bw_cell (k_b.cell rfl)
  obtain ⟨p2, hp2⟩ : ∃ p : BW W2, p.w = W2 := ⟨BW.start W2, rfl⟩
  rw [← hp2]
  clear hp2
  go_wp2_with (first
    | (go_at_call 17; (first | (with_reducible refine (bw_call HA.out _).mono ?_)); rintro e w' ⟨rfl, q, rfl⟩))
  go_ret
  exact ⟨rfl, bw_below B2 _⟩

set_option maxRecDepth 100000 in
set_option maxHeartbeats 8000000 in
theorem law_BasisBack_yes (x y z p q r : Int) (w : World) (hx : I64 x) (hy : I64 y) (hz : I64 z) (h : vuOk x y z = true) :
    Calls Try.prog 5 #[.agg #[.int .i64 x, .int .i64 y, .int .i64 z], .int .i64 p, .int .i64 q, .int .i64 r] w fun r w' => r = .returned (.bool true) ∧ Below w.heap.size w w' := by
  have HA := Lib.hid (fun w => awake07 w)
  have O1 := Lib.hid (fun w => basis_Of x y z w hx hy hz)
  rw [h] at O1
  have e : bas x y z = (bU (vunit x y z), bV (vunit x y z), vunit x y z) := by unfold bas; rw [h]; rfl
  rw [e] at O1
  unfold bas9 at O1
  clear e
  have hD : Dir (vunit x y z) := Dir.of h
  generalize vunit x y z = N at *
  have hv : unitT (p.tmod 16385, q.tmod 16385, r.tmod 16385) := by
    have t : ∀ u : Int, -16384 ≤ u.tmod 16385 ∧ u.tmod 16385 ≤ 16384 := fun u => by
      have a := Int.tmod_lt_of_pos u (show (0 : Int) < 16385 by omega)
      have b := Int.lt_tmod_of_pos u (show (0 : Int) < 16385 by omega)
      omega
    exact ⟨t p, t q, t r⟩
  obtain ⟨p', hp⟩ : ∃ t, t = p.tmod 16385 := ⟨_, rfl⟩
  obtain ⟨q', hq⟩ : ∃ t, t = q.tmod 16385 := ⟨_, rfl⟩
  obtain ⟨r', hr⟩ : ∃ t, t = r.tmod 16385 := ⟨_, rfl⟩
  have j1 : p.tmod 16385 = p' := hp.symm
  have j2 : q.tmod 16385 = q' := hq.symm
  have j3 : r.tmod 16385 = r' := hr.symm
  rw [← hp, ← hq, ← hr] at hv
  clear hp hq hr
  have BB := basis_back hD hv
  have MM := mir_twice hD hv
  obtain ⟨F1, F2⟩ := fac_spec hD.near hv.near
  obtain ⟨U, hU⟩ : ∃ U, U = bU N := ⟨_, rfl⟩
  obtain ⟨V, hV⟩ : ∃ V, V = bV N := ⟨_, rfl⟩
  rw [← hU, ← hV] at O1 BB
  have hn := hD.near
  have hns := hD.small.1
  clear hU hV hD
  obtain ⟨u1, u2, u3⟩ := U
  obtain ⟨v1, v2, v3⟩ := V
  obtain ⟨n1, n2, n3⟩ := N
  have P1 := Lib.hid (fun w => basis_Out u1 u2 u3 v1 v2 v3 n1 n2 n3 p' q' r' w)
  generalize bout (u1, u2, u3) (v1, v2, v3) (n1, n2, n3) (p', q', r') = c at *
  obtain ⟨c1, c2, c3⟩ := c
  have P2 := Lib.hid (fun w => basis_In u1 u2 u3 v1 v2 v3 n1 n2 n3 c1 c2 c3 w)
  generalize bin (u1, u2, u3) (v1, v2, v3) (n1, n2, n3) (c1, c2, c3) = d at *
  obtain ⟨d1, d2, d3⟩ := d
  have M1 := Lib.hid (fun w => basis_Mirror p' q' r' n1 n2 n3 w)
  generalize mir (p', q', r') (n1, n2, n3) = e at *
  obtain ⟨e1, e2, e3⟩ := e
  have M2 := Lib.hid (fun w => basis_Mirror e1 e2 e3 n1 n2 n3 w)
  generalize mir (e1, e2, e3) (n1, n2, n3) = f at *
  obtain ⟨f1, f2, f3⟩ := f
  have FF := Lib.hid (fun w => basis_Facing n1 n2 n3 p' q' r' w)
  generalize fac (n1, n2, n3) (p', q', r') = k at *
  obtain ⟨k1, k2, k3⟩ := k
  have hkn : vnear k1 k2 k3 = true := by
    rcases F2 with g | ⟨g, _⟩
    · rw [g.symm] at hn; exact hn
    · have := vnear_neg n1 n2 n3
      obtain ⟨g1, g2, g3⟩ : k1 = -n1 ∧ k2 = -n2 ∧ k3 = -n3 := by
        simp only [Prod.mk.injEq] at g; exact g
      rw [g1, g2, g3, this]; exact hn
  have DD := Lib.hid (fun w => ref6_Dot k1 k2 k3 p' q' r' w)
  rw [vdot_near hkn hv.near] at DD
  unfold dtT at F1
  unfold smT at hns
  unfold unitT at hv
  dsimp only at *
  generalize k1 * p' + k2 * q' + k3 * r' = s at *
  have t0 : decide (0 < s) = false := decide_eq_false (by omega)
  obtain ⟨z0, hz0⟩ : ∃ z, z = d1 - p' := ⟨_, rfl⟩
  have y0 : d1 - p' = z0 := hz0.symm
  have s0 : wrap64 z0 = z0 := by unfold wrap64; omega
  have L0 : Hid (∀ w, Calls Try.prog 20 #[.int .i64 z0, .int .i64 16] w fun e w' => e = .returned (.bool true) ∧ Below w.heap.size w w') := Lib.hid (fun w => law7_low_in z0 16 w (by omega) (by omega))
  clear hz0
  obtain ⟨z1, hz1⟩ : ∃ z, z = d2 - q' := ⟨_, rfl⟩
  have y1 : d2 - q' = z1 := hz1.symm
  have s1 : wrap64 z1 = z1 := by unfold wrap64; omega
  have L1 : Hid (∀ w, Calls Try.prog 20 #[.int .i64 z1, .int .i64 16] w fun e w' => e = .returned (.bool true) ∧ Below w.heap.size w w') := Lib.hid (fun w => law7_low_in z1 16 w (by omega) (by omega))
  clear hz1
  obtain ⟨z2, hz2⟩ : ∃ z, z = d3 - r' := ⟨_, rfl⟩
  have y2 : d3 - r' = z2 := hz2.symm
  have s2 : wrap64 z2 = z2 := by unfold wrap64; omega
  have L2 : Hid (∀ w, Calls Try.prog 20 #[.int .i64 z2, .int .i64 16] w fun e w' => e = .returned (.bool true) ∧ Below w.heap.size w w') := Lib.hid (fun w => law7_low_in z2 16 w (by omega) (by omega))
  clear hz2
  obtain ⟨z3, hz3⟩ : ∃ z, z = f1 - p' := ⟨_, rfl⟩
  have y3 : f1 - p' = z3 := hz3.symm
  have s3 : wrap64 z3 = z3 := by unfold wrap64; omega
  have L3 : Hid (∀ w, Calls Try.prog 20 #[.int .i64 z3, .int .i64 48] w fun e w' => e = .returned (.bool true) ∧ Below w.heap.size w w') := Lib.hid (fun w => law7_low_in z3 48 w (by omega) (by omega))
  clear hz3
  obtain ⟨z4, hz4⟩ : ∃ z, z = f2 - q' := ⟨_, rfl⟩
  have y4 : f2 - q' = z4 := hz4.symm
  have s4 : wrap64 z4 = z4 := by unfold wrap64; omega
  have L4 : Hid (∀ w, Calls Try.prog 20 #[.int .i64 z4, .int .i64 48] w fun e w' => e = .returned (.bool true) ∧ Below w.heap.size w w') := Lib.hid (fun w => law7_low_in z4 48 w (by omega) (by omega))
  clear hz4
  obtain ⟨z5, hz5⟩ : ∃ z, z = f3 - r' := ⟨_, rfl⟩
  have y5 : f3 - r' = z5 := hz5.symm
  have s5 : wrap64 z5 = z5 := by unfold wrap64; omega
  have L5 : Hid (∀ w, Calls Try.prog 20 #[.int .i64 z5, .int .i64 48] w fun e w' => e = .returned (.bool true) ∧ Below w.heap.size w w') := Lib.hid (fun w => law7_low_in z5 48 w (by omega) (by omega))
  clear hz5
  have A0 : Hid (∀ w, Calls Try.prog 22 #[.agg #[.int .i64 (-n1), .int .i64 (-n2), .int .i64 (-n3)], .agg #[.int .i64 n1, .int .i64 n2, .int .i64 n3]] w fun e w' => e = .returned (.agg #[.int .i64 0, .int .i64 0, .int .i64 0]) ∧ Below w.heap.size w w') := Lib.hid (fun w => by
    have h := ref6_Add (-n1) (-n2) (-n3) n1 n2 n3 w (by unfold I64; omega) (by unfold I64; omega) (by unfold I64; omega) (by unfold I64; omega) (by unfold I64; omega) (by unfold I64; omega)
    rw [show sat (-n1 + n1) = 0 by (rw [show -n1 + n1 = 0 by omega]; decide), show sat (-n2 + n2) = 0 by (rw [show -n2 + n2 = 0 by omega]; decide), show sat (-n3 + n3) = 0 by (rw [show -n3 + n3 = 0 by omega]; decide)] at h
    exact h)
  have A1 : Hid (∀ w, Calls Try.prog 22 #[.agg #[.int .i64 0, .int .i64 (-n2), .int .i64 (-n3)], .agg #[.int .i64 0, .int .i64 n2, .int .i64 n3]] w fun e w' => e = .returned (.agg #[.int .i64 0, .int .i64 0, .int .i64 0]) ∧ Below w.heap.size w w') := Lib.hid (fun w => by
    have h := ref6_Add 0 (-n2) (-n3) 0 n2 n3 w (by unfold I64; omega) (by unfold I64; omega) (by unfold I64; omega) (by unfold I64; omega) (by unfold I64; omega) (by unfold I64; omega)
    rw [show sat (0 + 0) = 0 by decide, show sat (-n2 + n2) = 0 by (rw [show -n2 + n2 = 0 by omega]; decide), show sat (-n3 + n3) = 0 by (rw [show -n3 + n3 = 0 by omega]; decide)] at h
    exact h)
  have A2 : Hid (∀ w, Calls Try.prog 22 #[.agg #[.int .i64 0, .int .i64 0, .int .i64 (-n3)], .agg #[.int .i64 0, .int .i64 0, .int .i64 n3]] w fun e w' => e = .returned (.agg #[.int .i64 0, .int .i64 0, .int .i64 0]) ∧ Below w.heap.size w w') := Lib.hid (fun w => by
    have h := ref6_Add 0 0 (-n3) 0 0 n3 w (by unfold I64; omega) (by unfold I64; omega) (by unfold I64; omega) (by unfold I64; omega) (by unfold I64; omega) (by unfold I64; omega)
    rw [show sat (0 + 0) = 0 by decide, show sat (-n3 + n3) = 0 by (rw [show -n3 + n3 = 0 by omega]; decide)] at h
    exact h)
  have hk : (k1 = n1 ∧ k2 = n2 ∧ k3 = n3) ∨ ((k1 = -n1 ∧ k2 = -n2 ∧ k3 = -n3) ∧ ¬ -n1 = n1) ∨ ((n1 = 0 ∧ k1 = 0 ∧ k2 = -n2 ∧ k3 = -n3) ∧ ¬ -n2 = n2) ∨ ((n1 = 0 ∧ n2 = 0 ∧ k1 = 0 ∧ k2 = 0 ∧ k3 = -n3) ∧ ¬ -n3 = n3) := by
    rcases F2 with g | ⟨g, _⟩
    · left; simp only [Prod.mk.injEq] at g; exact g
    · simp only [Prod.mk.injEq] at g; omega
  clear BB MM F1 F2 hn hns hkn hv h hx hy hz
  go_enter Try.func5, Try.ntmps5
  go_upto_region 1 with (fail)
  obtain ⟨W1, hW1⟩ : ∃ W, W = w.alloc (.cells #[.int .i64 x, .int .i64 y, .int .i64 z] 23) := ⟨_, rfl⟩
  have B1 : Below w.heap.size w W1 := by rw [hW1]; go_grown
  have k_n : Bk W1 (w.heap.size) 23 #[.int .i64 x, .int .i64 y, .int .i64 z] := by rw [hW1]; exact Bk.new _ _ _
  rw [← hW1]
  clear hW1
  have c_n_0 : ∀ p : BW W1, p.w.cell? ⟨w.heap.size, 0, none⟩ = some (.int .i64 x) := bw_cell (k_n.cell rfl)
  have c_n_1 : ∀ p : BW W1, p.w.cell? ⟨w.heap.size, 1, none⟩ = some (.int .i64 y) := bw_cell (k_n.cell rfl)
  have c_n_2 : ∀ p : BW W1, p.w.cell? ⟨w.heap.size, 2, none⟩ = some (.int .i64 z) := bw_cell (k_n.cell rfl)
  obtain ⟨p1, hp1⟩ : ∃ p : BW W1, p.w = W1 := ⟨BW.start W1, rfl⟩
  rw [← hp1]
  clear hp1
  go_upto_region 2 with (first
    | (go_at_call 6; (first | (with_reducible refine (bw_call O1.out _).mono ?_)); rintro e w' ⟨rfl, q, rfl⟩))
  obtain ⟨W2, hW2⟩ : ∃ W, W = q.w.alloc (.cells #[.int .i64 u1, .int .i64 u2, .int .i64 u3, .int .i64 v1, .int .i64 v2, .int .i64 v3, .int .i64 n1, .int .i64 n2, .int .i64 n3] 26) := ⟨_, rfl⟩
  have B2 : Below w.heap.size w W2 := by rw [hW2]; exact (bw_below B1 q).alloc (bw_below B1 q).size _
  have l_b : w.heap.size < q.w.heap.size := (k_n.below q.h).lt
  have k_n := (k_n.below q.h).alloc (.cells #[.int .i64 u1, .int .i64 u2, .int .i64 u3, .int .i64 v1, .int .i64 v2, .int .i64 v3, .int .i64 n1, .int .i64 n2, .int .i64 n3] 26)
  rw [← hW2] at k_n
  have k_b : Bk W2 q.w.heap.size 26 #[.int .i64 u1, .int .i64 u2, .int .i64 u3, .int .i64 v1, .int .i64 v2, .int .i64 v3, .int .i64 n1, .int .i64 n2, .int .i64 n3] := by rw [hW2]; exact Bk.new _ _ _
  rw [← hW2]
  clear hW2
  clear B1
  clear c_n_0 c_n_1 c_n_2
  generalize q.w.heap.size = g_b at *
  have c_n_0 : ∀ p : BW W2, p.w.cell? ⟨w.heap.size, 0, none⟩ = some (.int .i64 x) := bw_cell (k_n.cell rfl)
  have c_n_1 : ∀ p : BW W2, p.w.cell? ⟨w.heap.size, 1, none⟩ = some (.int .i64 y) := bw_cell (k_n.cell rfl)
  have c_n_2 : ∀ p : BW W2, p.w.cell? ⟨w.heap.size, 2, none⟩ = some (.int .i64 z) := bw_cell (k_n.cell rfl)
  have c_b_0 : ∀ p : BW W2, p.w.cell? ⟨g_b, 0, none⟩ = some (.int .i64 u1) := bw_cell (k_b.cell rfl)
  have c_b_1 : ∀ p : BW W2, p.w.cell? ⟨g_b, 1, none⟩ = some (.int .i64 u2) := bw_cell (k_b.cell rfl)
  have c_b_2 : ∀ p : BW W2, p.w.cell? ⟨g_b, 2, none⟩ = some (.int .i64 u3) := bw_cell (k_b.cell rfl)
  have c_b_3 : ∀ p : BW W2, p.w.cell? ⟨g_b, 3, none⟩ = some (.int .i64 v1) := bw_cell (k_b.cell rfl)
  have c_b_4 : ∀ p : BW W2, p.w.cell? ⟨g_b, 4, none⟩ = some (.int .i64 v2) := bw_cell (k_b.cell rfl)
  have c_b_5 : ∀ p : BW W2, p.w.cell? ⟨g_b, 5, none⟩ = some (.int .i64 v3) := bw_cell (k_b.cell rfl)
  have c_b_6 : ∀ p : BW W2, p.w.cell? ⟨g_b, 6, none⟩ = some (.int .i64 n1) := bw_cell (k_b.cell rfl)
  have c_b_7 : ∀ p : BW W2, p.w.cell? ⟨g_b, 7, none⟩ = some (.int .i64 n2) := bw_cell (k_b.cell rfl)
  have c_b_8 : ∀ p : BW W2, p.w.cell? ⟨g_b, 8, none⟩ = some (.int .i64 n3) := bw_cell (k_b.cell rfl)
  obtain ⟨p2, hp2⟩ : ∃ p : BW W2, p.w = W2 := ⟨BW.start W2, rfl⟩
  rw [← hp2]
  clear hp2
  go_upto_region 5 with (fail)
  obtain ⟨W3, hW3⟩ : ∃ W, W = p2.w.alloc (.cells #[.int .i64 p', .int .i64 q', .int .i64 r'] 23) := ⟨_, rfl⟩
  have B3 : Below w.heap.size w W3 := by rw [hW3]; exact (bw_below B2 p2).alloc (bw_below B2 p2).size _
  have l_v : g_b < p2.w.heap.size := (k_b.below p2.h).lt
  have k_n := (k_n.below p2.h).alloc (.cells #[.int .i64 p', .int .i64 q', .int .i64 r'] 23)
  rw [← hW3] at k_n
  have k_b := (k_b.below p2.h).alloc (.cells #[.int .i64 p', .int .i64 q', .int .i64 r'] 23)
  rw [← hW3] at k_b
  have k_v : Bk W3 p2.w.heap.size 23 #[.int .i64 p', .int .i64 q', .int .i64 r'] := by rw [hW3]; exact Bk.new _ _ _
  rw [← hW3]
  clear hW3
  clear B2
  clear c_n_0 c_n_1 c_n_2 c_b_0 c_b_1 c_b_2 c_b_3 c_b_4 c_b_5 c_b_6 c_b_7 c_b_8
  generalize p2.w.heap.size = g_v at *
  have c_b_0 : ∀ p : BW W3, p.w.cell? ⟨g_b, 0, none⟩ = some (.int .i64 u1) := bw_cell (k_b.cell rfl)
  have c_b_1 : ∀ p : BW W3, p.w.cell? ⟨g_b, 1, none⟩ = some (.int .i64 u2) := bw_cell (k_b.cell rfl)
  have c_b_2 : ∀ p : BW W3, p.w.cell? ⟨g_b, 2, none⟩ = some (.int .i64 u3) := bw_cell (k_b.cell rfl)
  have c_b_3 : ∀ p : BW W3, p.w.cell? ⟨g_b, 3, none⟩ = some (.int .i64 v1) := bw_cell (k_b.cell rfl)
  have c_b_4 : ∀ p : BW W3, p.w.cell? ⟨g_b, 4, none⟩ = some (.int .i64 v2) := bw_cell (k_b.cell rfl)
  have c_b_5 : ∀ p : BW W3, p.w.cell? ⟨g_b, 5, none⟩ = some (.int .i64 v3) := bw_cell (k_b.cell rfl)
  have c_b_6 : ∀ p : BW W3, p.w.cell? ⟨g_b, 6, none⟩ = some (.int .i64 n1) := bw_cell (k_b.cell rfl)
  have c_b_7 : ∀ p : BW W3, p.w.cell? ⟨g_b, 7, none⟩ = some (.int .i64 n2) := bw_cell (k_b.cell rfl)
  have c_b_8 : ∀ p : BW W3, p.w.cell? ⟨g_b, 8, none⟩ = some (.int .i64 n3) := bw_cell (k_b.cell rfl)
  have c_v_0 : ∀ p : BW W3, p.w.cell? ⟨g_v, 0, none⟩ = some (.int .i64 p') := bw_cell (k_v.cell rfl)
  have c_v_1 : ∀ p : BW W3, p.w.cell? ⟨g_v, 1, none⟩ = some (.int .i64 q') := bw_cell (k_v.cell rfl)
  have c_v_2 : ∀ p : BW W3, p.w.cell? ⟨g_v, 2, none⟩ = some (.int .i64 r') := bw_cell (k_v.cell rfl)
  obtain ⟨p3, hp3⟩ : ∃ p : BW W3, p.w = W3 := ⟨BW.start W3, rfl⟩
  rw [← hp3]
  clear hp3
  refine wp_region_float (t := 23) (zs := #[.int .i64 0, .int .i64 0, .int .i64 0]) 6 5 12 113 (by kernel_rfl) (by kernel_rfl) (by kernel_rfl) (by kernel_rfl) (by kernel_rfl) rfl ?_ ?_
  · intro ev wx
    simp [execOp, go_sem]
  apply Exists.intro
  refine ⟨?_, ?_⟩
  · intro wb' hwb'
    have d_b_0 : ∀ q : BW wb', q.w.cell? ⟨g_b, 0, none⟩ = some (.int .i64 u1) := bw_cell ((k_b.below hwb').cell rfl)
    have d_b_1 : ∀ q : BW wb', q.w.cell? ⟨g_b, 1, none⟩ = some (.int .i64 u2) := bw_cell ((k_b.below hwb').cell rfl)
    have d_b_2 : ∀ q : BW wb', q.w.cell? ⟨g_b, 2, none⟩ = some (.int .i64 u3) := bw_cell ((k_b.below hwb').cell rfl)
    have d_b_3 : ∀ q : BW wb', q.w.cell? ⟨g_b, 3, none⟩ = some (.int .i64 v1) := bw_cell ((k_b.below hwb').cell rfl)
    have d_b_4 : ∀ q : BW wb', q.w.cell? ⟨g_b, 4, none⟩ = some (.int .i64 v2) := bw_cell ((k_b.below hwb').cell rfl)
    have d_b_5 : ∀ q : BW wb', q.w.cell? ⟨g_b, 5, none⟩ = some (.int .i64 v3) := bw_cell ((k_b.below hwb').cell rfl)
    have d_b_6 : ∀ q : BW wb', q.w.cell? ⟨g_b, 6, none⟩ = some (.int .i64 n1) := bw_cell ((k_b.below hwb').cell rfl)
    have d_b_7 : ∀ q : BW wb', q.w.cell? ⟨g_b, 7, none⟩ = some (.int .i64 n2) := bw_cell ((k_b.below hwb').cell rfl)
    have d_b_8 : ∀ q : BW wb', q.w.cell? ⟨g_b, 8, none⟩ = some (.int .i64 n3) := bw_cell ((k_b.below hwb').cell rfl)
    have d_v_0 : ∀ q : BW wb', q.w.cell? ⟨g_v, 0, none⟩ = some (.int .i64 p') := bw_cell ((k_v.below hwb').cell rfl)
    have d_v_1 : ∀ q : BW wb', q.w.cell? ⟨g_v, 1, none⟩ = some (.int .i64 q') := bw_cell ((k_v.below hwb').cell rfl)
    have d_v_2 : ∀ q : BW wb', q.w.cell? ⟨g_v, 2, none⟩ = some (.int .i64 r') := bw_cell ((k_v.below hwb').cell rfl)
    simp only [maskAt, List.take_succ_cons, List.take_zero]
    repeat (go_big_quiet_step (first
      | (go_at_call 9; (first | (with_reducible exact bw_call P1.out _)))
      | (go_at_call 11; (first | (with_reducible exact bw_call P2.out _)))))
    refine wpQuiet_nil ?_
    exact rfl
  intro W4 g_o hW hg k_o
  have B4 : Below w.heap.size w W4 := B3.trans (hW.mono B3.size)
  have l_o : g_v < g_o := Nat.lt_of_lt_of_le k_v.lt hg
  have k_b := k_b.below hW
  have k_v := k_v.below hW
  clear hW hg B3
  clear c_b_0 c_b_1 c_b_2 c_b_3 c_b_4 c_b_5 c_b_6 c_b_7 c_b_8 c_v_0 c_v_1 c_v_2
  simp only [List.drop_succ_cons, List.drop_zero, Act.put, List.setIfInBounds_toArray, List.set_cons_zero, List.set_cons_succ]
  have c_b_0 : ∀ p : BW W4, p.w.cell? ⟨g_b, 0, none⟩ = some (.int .i64 u1) := bw_cell (k_b.cell rfl)
  have c_b_1 : ∀ p : BW W4, p.w.cell? ⟨g_b, 1, none⟩ = some (.int .i64 u2) := bw_cell (k_b.cell rfl)
  have c_b_2 : ∀ p : BW W4, p.w.cell? ⟨g_b, 2, none⟩ = some (.int .i64 u3) := bw_cell (k_b.cell rfl)
  have c_b_3 : ∀ p : BW W4, p.w.cell? ⟨g_b, 3, none⟩ = some (.int .i64 v1) := bw_cell (k_b.cell rfl)
  have c_b_4 : ∀ p : BW W4, p.w.cell? ⟨g_b, 4, none⟩ = some (.int .i64 v2) := bw_cell (k_b.cell rfl)
  have c_b_5 : ∀ p : BW W4, p.w.cell? ⟨g_b, 5, none⟩ = some (.int .i64 v3) := bw_cell (k_b.cell rfl)
  have c_b_6 : ∀ p : BW W4, p.w.cell? ⟨g_b, 6, none⟩ = some (.int .i64 n1) := bw_cell (k_b.cell rfl)
  have c_b_7 : ∀ p : BW W4, p.w.cell? ⟨g_b, 7, none⟩ = some (.int .i64 n2) := bw_cell (k_b.cell rfl)
  have c_b_8 : ∀ p : BW W4, p.w.cell? ⟨g_b, 8, none⟩ = some (.int .i64 n3) := bw_cell (k_b.cell rfl)
  have c_v_0 : ∀ p : BW W4, p.w.cell? ⟨g_v, 0, none⟩ = some (.int .i64 p') := bw_cell (k_v.cell rfl)
  have c_v_1 : ∀ p : BW W4, p.w.cell? ⟨g_v, 1, none⟩ = some (.int .i64 q') := bw_cell (k_v.cell rfl)
  have c_v_2 : ∀ p : BW W4, p.w.cell? ⟨g_v, 2, none⟩ = some (.int .i64 r') := bw_cell (k_v.cell rfl)
  have c_o_0 : ∀ p : BW W4, p.w.cell? ⟨g_o, 0, none⟩ = some (.int .i64 0) := bw_cell (k_o.cell rfl)
  have f_o_0 : ∀ p : BW W4, p.w.frozen? ⟨g_o, 0, none⟩ = false := fun p => (k_o.below p.h).frozen 0
  have c_o_1 : ∀ p : BW W4, p.w.cell? ⟨g_o, 1, none⟩ = some (.int .i64 0) := bw_cell (k_o.cell rfl)
  have f_o_1 : ∀ p : BW W4, p.w.frozen? ⟨g_o, 1, none⟩ = false := fun p => (k_o.below p.h).frozen 1
  have c_o_2 : ∀ p : BW W4, p.w.cell? ⟨g_o, 2, none⟩ = some (.int .i64 0) := bw_cell (k_o.cell rfl)
  have f_o_2 : ∀ p : BW W4, p.w.frozen? ⟨g_o, 2, none⟩ = false := fun p => (k_o.below p.h).frozen 2
  obtain ⟨p4, hp4⟩ : ∃ p : BW W4, p.w = W4 := ⟨BW.start W4, rfl⟩
  rw [← hp4]
  clear hp4
  go_upto_region 6 with (fail)
  obtain ⟨W5, hW5⟩ : ∃ W, W = ((p4.w.setCell ⟨g_o, 0, none⟩ (.int .i64 d1)).setCell ⟨g_o, 1, none⟩ (.int .i64 d2)).setCell ⟨g_o, 2, none⟩ (.int .i64 d3) := ⟨_, rfl⟩
  have B5 : Below w.heap.size w W5 := by rw [hW5]; exact ((((bw_below B4 p4).setCell (p := ⟨g_o, 0, none⟩) (by show w.heap.size ≤ g_o; omega) _).setCell (p := ⟨g_o, 1, none⟩) (by show w.heap.size ≤ g_o; omega) _).setCell (p := ⟨g_o, 2, none⟩) (by show w.heap.size ≤ g_o; omega) _)
  have k_b : Bk W5 (g_b) 26 #[.int .i64 u1, .int .i64 u2, .int .i64 u3, .int .i64 v1, .int .i64 v2, .int .i64 v3, .int .i64 n1, .int .i64 n2, .int .i64 n3] := by rw [hW5]; exact ((((k_b.below p4.h).other (a := ⟨g_o, 0, none⟩) (by show ¬ g_b = g_o; omega) (.int .i64 d1)).other (a := ⟨g_o, 1, none⟩) (by show ¬ g_b = g_o; omega) (.int .i64 d2)).other (a := ⟨g_o, 2, none⟩) (by show ¬ g_b = g_o; omega) (.int .i64 d3))
  have k_v : Bk W5 (g_v) 23 #[.int .i64 p', .int .i64 q', .int .i64 r'] := by rw [hW5]; exact ((((k_v.below p4.h).other (a := ⟨g_o, 0, none⟩) (by show ¬ g_v = g_o; omega) (.int .i64 d1)).other (a := ⟨g_o, 1, none⟩) (by show ¬ g_v = g_o; omega) (.int .i64 d2)).other (a := ⟨g_o, 2, none⟩) (by show ¬ g_v = g_o; omega) (.int .i64 d3))
  have k_o : Bk W5 (g_o) 23 #[.int .i64 d1, .int .i64 d2, .int .i64 d3] := by rw [hW5]; exact ((((k_o.below p4.h).set 0 (.int .i64 d1)).set 1 (.int .i64 d2)).set 2 (.int .i64 d3))
  rw [← hW5]
  clear hW5
  clear B4
  clear c_b_0 c_b_1 c_b_2 c_b_3 c_b_4 c_b_5 c_b_6 c_b_7 c_b_8 c_v_0 c_v_1 c_v_2 c_o_0 f_o_0 c_o_1 f_o_1 c_o_2 f_o_2
  have c_b_0 : ∀ p : BW W5, p.w.cell? ⟨g_b, 0, none⟩ = some (.int .i64 u1) := bw_cell (k_b.cell rfl)
  have c_b_1 : ∀ p : BW W5, p.w.cell? ⟨g_b, 1, none⟩ = some (.int .i64 u2) := bw_cell (k_b.cell rfl)
  have c_b_2 : ∀ p : BW W5, p.w.cell? ⟨g_b, 2, none⟩ = some (.int .i64 u3) := bw_cell (k_b.cell rfl)
  have c_b_3 : ∀ p : BW W5, p.w.cell? ⟨g_b, 3, none⟩ = some (.int .i64 v1) := bw_cell (k_b.cell rfl)
  have c_b_4 : ∀ p : BW W5, p.w.cell? ⟨g_b, 4, none⟩ = some (.int .i64 v2) := bw_cell (k_b.cell rfl)
  have c_b_5 : ∀ p : BW W5, p.w.cell? ⟨g_b, 5, none⟩ = some (.int .i64 v3) := bw_cell (k_b.cell rfl)
  have c_b_6 : ∀ p : BW W5, p.w.cell? ⟨g_b, 6, none⟩ = some (.int .i64 n1) := bw_cell (k_b.cell rfl)
  have c_b_7 : ∀ p : BW W5, p.w.cell? ⟨g_b, 7, none⟩ = some (.int .i64 n2) := bw_cell (k_b.cell rfl)
  have c_b_8 : ∀ p : BW W5, p.w.cell? ⟨g_b, 8, none⟩ = some (.int .i64 n3) := bw_cell (k_b.cell rfl)
  have c_v_0 : ∀ p : BW W5, p.w.cell? ⟨g_v, 0, none⟩ = some (.int .i64 p') := bw_cell (k_v.cell rfl)
  have c_v_1 : ∀ p : BW W5, p.w.cell? ⟨g_v, 1, none⟩ = some (.int .i64 q') := bw_cell (k_v.cell rfl)
  have c_v_2 : ∀ p : BW W5, p.w.cell? ⟨g_v, 2, none⟩ = some (.int .i64 r') := bw_cell (k_v.cell rfl)
  have c_o_0 : ∀ p : BW W5, p.w.cell? ⟨g_o, 0, none⟩ = some (.int .i64 d1) := bw_cell (k_o.cell rfl)
  have c_o_1 : ∀ p : BW W5, p.w.cell? ⟨g_o, 1, none⟩ = some (.int .i64 d2) := bw_cell (k_o.cell rfl)
  have c_o_2 : ∀ p : BW W5, p.w.cell? ⟨g_o, 2, none⟩ = some (.int .i64 d3) := bw_cell (k_o.cell rfl)
  obtain ⟨p5, hp5⟩ : ∃ p : BW W5, p.w = W5 := ⟨BW.start W5, rfl⟩
  rw [← hp5]
  clear hp5
  refine wp_region_float (t := 23) (zs := #[.int .i64 0, .int .i64 0, .int .i64 0]) 8 7 13 113 (by kernel_rfl) (by kernel_rfl) (by kernel_rfl) (by kernel_rfl) (by kernel_rfl) rfl ?_ ?_
  · intro ev wx
    simp [execOp, go_sem]
  apply Exists.intro
  refine ⟨?_, ?_⟩
  · intro wb' hwb'
    have d_b_0 : ∀ q : BW wb', q.w.cell? ⟨g_b, 0, none⟩ = some (.int .i64 u1) := bw_cell ((k_b.below hwb').cell rfl)
    have d_b_1 : ∀ q : BW wb', q.w.cell? ⟨g_b, 1, none⟩ = some (.int .i64 u2) := bw_cell ((k_b.below hwb').cell rfl)
    have d_b_2 : ∀ q : BW wb', q.w.cell? ⟨g_b, 2, none⟩ = some (.int .i64 u3) := bw_cell ((k_b.below hwb').cell rfl)
    have d_b_3 : ∀ q : BW wb', q.w.cell? ⟨g_b, 3, none⟩ = some (.int .i64 v1) := bw_cell ((k_b.below hwb').cell rfl)
    have d_b_4 : ∀ q : BW wb', q.w.cell? ⟨g_b, 4, none⟩ = some (.int .i64 v2) := bw_cell ((k_b.below hwb').cell rfl)
    have d_b_5 : ∀ q : BW wb', q.w.cell? ⟨g_b, 5, none⟩ = some (.int .i64 v3) := bw_cell ((k_b.below hwb').cell rfl)
    have d_b_6 : ∀ q : BW wb', q.w.cell? ⟨g_b, 6, none⟩ = some (.int .i64 n1) := bw_cell ((k_b.below hwb').cell rfl)
    have d_b_7 : ∀ q : BW wb', q.w.cell? ⟨g_b, 7, none⟩ = some (.int .i64 n2) := bw_cell ((k_b.below hwb').cell rfl)
    have d_b_8 : ∀ q : BW wb', q.w.cell? ⟨g_b, 8, none⟩ = some (.int .i64 n3) := bw_cell ((k_b.below hwb').cell rfl)
    have d_v_0 : ∀ q : BW wb', q.w.cell? ⟨g_v, 0, none⟩ = some (.int .i64 p') := bw_cell ((k_v.below hwb').cell rfl)
    have d_v_1 : ∀ q : BW wb', q.w.cell? ⟨g_v, 1, none⟩ = some (.int .i64 q') := bw_cell ((k_v.below hwb').cell rfl)
    have d_v_2 : ∀ q : BW wb', q.w.cell? ⟨g_v, 2, none⟩ = some (.int .i64 r') := bw_cell ((k_v.below hwb').cell rfl)
    have d_o_0 : ∀ q : BW wb', q.w.cell? ⟨g_o, 0, none⟩ = some (.int .i64 d1) := bw_cell ((k_o.below hwb').cell rfl)
    have d_o_1 : ∀ q : BW wb', q.w.cell? ⟨g_o, 1, none⟩ = some (.int .i64 d2) := bw_cell ((k_o.below hwb').cell rfl)
    have d_o_2 : ∀ q : BW wb', q.w.cell? ⟨g_o, 2, none⟩ = some (.int .i64 d3) := bw_cell ((k_o.below hwb').cell rfl)
    simp only [maskAt, List.take_succ_cons, List.take_zero]
    repeat (go_big_quiet_step (first
      | (go_at_call 13; (first | (with_reducible exact bw_call M1.out _) | (with_reducible exact bw_call M2.out _)))))
    refine wpQuiet_nil ?_
    exact rfl
  intro W6 g_m hW hg k_m
  have B6 : Below w.heap.size w W6 := B5.trans (hW.mono B5.size)
  have l_m : g_o < g_m := Nat.lt_of_lt_of_le k_o.lt hg
  have k_b := k_b.below hW
  have k_v := k_v.below hW
  have k_o := k_o.below hW
  clear hW hg B5
  clear c_b_0 c_b_1 c_b_2 c_b_3 c_b_4 c_b_5 c_b_6 c_b_7 c_b_8 c_v_0 c_v_1 c_v_2 c_o_0 c_o_1 c_o_2
  simp only [List.drop_succ_cons, List.drop_zero, Act.put, List.setIfInBounds_toArray, List.set_cons_zero, List.set_cons_succ]
  have c_b_0 : ∀ p : BW W6, p.w.cell? ⟨g_b, 0, none⟩ = some (.int .i64 u1) := bw_cell (k_b.cell rfl)
  have c_b_1 : ∀ p : BW W6, p.w.cell? ⟨g_b, 1, none⟩ = some (.int .i64 u2) := bw_cell (k_b.cell rfl)
  have c_b_2 : ∀ p : BW W6, p.w.cell? ⟨g_b, 2, none⟩ = some (.int .i64 u3) := bw_cell (k_b.cell rfl)
  have c_b_3 : ∀ p : BW W6, p.w.cell? ⟨g_b, 3, none⟩ = some (.int .i64 v1) := bw_cell (k_b.cell rfl)
  have c_b_4 : ∀ p : BW W6, p.w.cell? ⟨g_b, 4, none⟩ = some (.int .i64 v2) := bw_cell (k_b.cell rfl)
  have c_b_5 : ∀ p : BW W6, p.w.cell? ⟨g_b, 5, none⟩ = some (.int .i64 v3) := bw_cell (k_b.cell rfl)
  have c_b_6 : ∀ p : BW W6, p.w.cell? ⟨g_b, 6, none⟩ = some (.int .i64 n1) := bw_cell (k_b.cell rfl)
  have c_b_7 : ∀ p : BW W6, p.w.cell? ⟨g_b, 7, none⟩ = some (.int .i64 n2) := bw_cell (k_b.cell rfl)
  have c_b_8 : ∀ p : BW W6, p.w.cell? ⟨g_b, 8, none⟩ = some (.int .i64 n3) := bw_cell (k_b.cell rfl)
  have c_v_0 : ∀ p : BW W6, p.w.cell? ⟨g_v, 0, none⟩ = some (.int .i64 p') := bw_cell (k_v.cell rfl)
  have c_v_1 : ∀ p : BW W6, p.w.cell? ⟨g_v, 1, none⟩ = some (.int .i64 q') := bw_cell (k_v.cell rfl)
  have c_v_2 : ∀ p : BW W6, p.w.cell? ⟨g_v, 2, none⟩ = some (.int .i64 r') := bw_cell (k_v.cell rfl)
  have c_o_0 : ∀ p : BW W6, p.w.cell? ⟨g_o, 0, none⟩ = some (.int .i64 d1) := bw_cell (k_o.cell rfl)
  have c_o_1 : ∀ p : BW W6, p.w.cell? ⟨g_o, 1, none⟩ = some (.int .i64 d2) := bw_cell (k_o.cell rfl)
  have c_o_2 : ∀ p : BW W6, p.w.cell? ⟨g_o, 2, none⟩ = some (.int .i64 d3) := bw_cell (k_o.cell rfl)
  have c_m_0 : ∀ p : BW W6, p.w.cell? ⟨g_m, 0, none⟩ = some (.int .i64 0) := bw_cell (k_m.cell rfl)
  have f_m_0 : ∀ p : BW W6, p.w.frozen? ⟨g_m, 0, none⟩ = false := fun p => (k_m.below p.h).frozen 0
  have c_m_1 : ∀ p : BW W6, p.w.cell? ⟨g_m, 1, none⟩ = some (.int .i64 0) := bw_cell (k_m.cell rfl)
  have f_m_1 : ∀ p : BW W6, p.w.frozen? ⟨g_m, 1, none⟩ = false := fun p => (k_m.below p.h).frozen 1
  have c_m_2 : ∀ p : BW W6, p.w.cell? ⟨g_m, 2, none⟩ = some (.int .i64 0) := bw_cell (k_m.cell rfl)
  have f_m_2 : ∀ p : BW W6, p.w.frozen? ⟨g_m, 2, none⟩ = false := fun p => (k_m.below p.h).frozen 2
  obtain ⟨p6, hp6⟩ : ∃ p : BW W6, p.w = W6 := ⟨BW.start W6, rfl⟩
  rw [← hp6]
  clear hp6
  go_upto_region 7 with (fail)
  obtain ⟨W7, hW7⟩ : ∃ W, W = ((p6.w.setCell ⟨g_m, 0, none⟩ (.int .i64 f1)).setCell ⟨g_m, 1, none⟩ (.int .i64 f2)).setCell ⟨g_m, 2, none⟩ (.int .i64 f3) := ⟨_, rfl⟩
  have B7 : Below w.heap.size w W7 := by rw [hW7]; exact ((((bw_below B6 p6).setCell (p := ⟨g_m, 0, none⟩) (by show w.heap.size ≤ g_m; omega) _).setCell (p := ⟨g_m, 1, none⟩) (by show w.heap.size ≤ g_m; omega) _).setCell (p := ⟨g_m, 2, none⟩) (by show w.heap.size ≤ g_m; omega) _)
  have k_b : Bk W7 (g_b) 26 #[.int .i64 u1, .int .i64 u2, .int .i64 u3, .int .i64 v1, .int .i64 v2, .int .i64 v3, .int .i64 n1, .int .i64 n2, .int .i64 n3] := by rw [hW7]; exact ((((k_b.below p6.h).other (a := ⟨g_m, 0, none⟩) (by show ¬ g_b = g_m; omega) (.int .i64 f1)).other (a := ⟨g_m, 1, none⟩) (by show ¬ g_b = g_m; omega) (.int .i64 f2)).other (a := ⟨g_m, 2, none⟩) (by show ¬ g_b = g_m; omega) (.int .i64 f3))
  have k_v : Bk W7 (g_v) 23 #[.int .i64 p', .int .i64 q', .int .i64 r'] := by rw [hW7]; exact ((((k_v.below p6.h).other (a := ⟨g_m, 0, none⟩) (by show ¬ g_v = g_m; omega) (.int .i64 f1)).other (a := ⟨g_m, 1, none⟩) (by show ¬ g_v = g_m; omega) (.int .i64 f2)).other (a := ⟨g_m, 2, none⟩) (by show ¬ g_v = g_m; omega) (.int .i64 f3))
  have k_o : Bk W7 (g_o) 23 #[.int .i64 d1, .int .i64 d2, .int .i64 d3] := by rw [hW7]; exact ((((k_o.below p6.h).other (a := ⟨g_m, 0, none⟩) (by show ¬ g_o = g_m; omega) (.int .i64 f1)).other (a := ⟨g_m, 1, none⟩) (by show ¬ g_o = g_m; omega) (.int .i64 f2)).other (a := ⟨g_m, 2, none⟩) (by show ¬ g_o = g_m; omega) (.int .i64 f3))
  have k_m : Bk W7 (g_m) 23 #[.int .i64 f1, .int .i64 f2, .int .i64 f3] := by rw [hW7]; exact ((((k_m.below p6.h).set 0 (.int .i64 f1)).set 1 (.int .i64 f2)).set 2 (.int .i64 f3))
  rw [← hW7]
  clear hW7
  clear B6
  clear c_b_0 c_b_1 c_b_2 c_b_3 c_b_4 c_b_5 c_b_6 c_b_7 c_b_8 c_v_0 c_v_1 c_v_2 c_o_0 c_o_1 c_o_2 c_m_0 f_m_0 c_m_1 f_m_1 c_m_2 f_m_2
  have c_b_0 : ∀ p : BW W7, p.w.cell? ⟨g_b, 0, none⟩ = some (.int .i64 u1) := bw_cell (k_b.cell rfl)
  have c_b_1 : ∀ p : BW W7, p.w.cell? ⟨g_b, 1, none⟩ = some (.int .i64 u2) := bw_cell (k_b.cell rfl)
  have c_b_2 : ∀ p : BW W7, p.w.cell? ⟨g_b, 2, none⟩ = some (.int .i64 u3) := bw_cell (k_b.cell rfl)
  have c_b_3 : ∀ p : BW W7, p.w.cell? ⟨g_b, 3, none⟩ = some (.int .i64 v1) := bw_cell (k_b.cell rfl)
  have c_b_4 : ∀ p : BW W7, p.w.cell? ⟨g_b, 4, none⟩ = some (.int .i64 v2) := bw_cell (k_b.cell rfl)
  have c_b_5 : ∀ p : BW W7, p.w.cell? ⟨g_b, 5, none⟩ = some (.int .i64 v3) := bw_cell (k_b.cell rfl)
  have c_b_6 : ∀ p : BW W7, p.w.cell? ⟨g_b, 6, none⟩ = some (.int .i64 n1) := bw_cell (k_b.cell rfl)
  have c_b_7 : ∀ p : BW W7, p.w.cell? ⟨g_b, 7, none⟩ = some (.int .i64 n2) := bw_cell (k_b.cell rfl)
  have c_b_8 : ∀ p : BW W7, p.w.cell? ⟨g_b, 8, none⟩ = some (.int .i64 n3) := bw_cell (k_b.cell rfl)
  have c_v_0 : ∀ p : BW W7, p.w.cell? ⟨g_v, 0, none⟩ = some (.int .i64 p') := bw_cell (k_v.cell rfl)
  have c_v_1 : ∀ p : BW W7, p.w.cell? ⟨g_v, 1, none⟩ = some (.int .i64 q') := bw_cell (k_v.cell rfl)
  have c_v_2 : ∀ p : BW W7, p.w.cell? ⟨g_v, 2, none⟩ = some (.int .i64 r') := bw_cell (k_v.cell rfl)
  have c_o_0 : ∀ p : BW W7, p.w.cell? ⟨g_o, 0, none⟩ = some (.int .i64 d1) := bw_cell (k_o.cell rfl)
  have c_o_1 : ∀ p : BW W7, p.w.cell? ⟨g_o, 1, none⟩ = some (.int .i64 d2) := bw_cell (k_o.cell rfl)
  have c_o_2 : ∀ p : BW W7, p.w.cell? ⟨g_o, 2, none⟩ = some (.int .i64 d3) := bw_cell (k_o.cell rfl)
  have c_m_0 : ∀ p : BW W7, p.w.cell? ⟨g_m, 0, none⟩ = some (.int .i64 f1) := bw_cell (k_m.cell rfl)
  have c_m_1 : ∀ p : BW W7, p.w.cell? ⟨g_m, 1, none⟩ = some (.int .i64 f2) := bw_cell (k_m.cell rfl)
  have c_m_2 : ∀ p : BW W7, p.w.cell? ⟨g_m, 2, none⟩ = some (.int .i64 f3) := bw_cell (k_m.cell rfl)
  obtain ⟨p7, hp7⟩ : ∃ p : BW W7, p.w = W7 := ⟨BW.start W7, rfl⟩
  rw [← hp7]
  clear hp7
  go_upto_region 8 with (first
    | (go_at_call 15; (first | (with_reducible refine (bw_call FF.out _).mono ?_)); rintro e w' ⟨rfl, q, rfl⟩))
  obtain ⟨W8, hW8⟩ : ∃ W, W = q.w.alloc (.cells #[.int .i64 k1, .int .i64 k2, .int .i64 k3] 23) := ⟨_, rfl⟩
  have B8 : Below w.heap.size w W8 := by rw [hW8]; exact (bw_below B7 q).alloc (bw_below B7 q).size _
  have l_f : g_m < q.w.heap.size := (k_m.below q.h).lt
  have k_b := (k_b.below q.h).alloc (.cells #[.int .i64 k1, .int .i64 k2, .int .i64 k3] 23)
  rw [← hW8] at k_b
  have k_v := (k_v.below q.h).alloc (.cells #[.int .i64 k1, .int .i64 k2, .int .i64 k3] 23)
  rw [← hW8] at k_v
  have k_o := (k_o.below q.h).alloc (.cells #[.int .i64 k1, .int .i64 k2, .int .i64 k3] 23)
  rw [← hW8] at k_o
  have k_m := (k_m.below q.h).alloc (.cells #[.int .i64 k1, .int .i64 k2, .int .i64 k3] 23)
  rw [← hW8] at k_m
  have k_f : Bk W8 q.w.heap.size 23 #[.int .i64 k1, .int .i64 k2, .int .i64 k3] := by rw [hW8]; exact Bk.new _ _ _
  rw [← hW8]
  clear hW8
  clear B7
  clear c_b_0 c_b_1 c_b_2 c_b_3 c_b_4 c_b_5 c_b_6 c_b_7 c_b_8 c_v_0 c_v_1 c_v_2 c_o_0 c_o_1 c_o_2 c_m_0 c_m_1 c_m_2
  generalize q.w.heap.size = g_f at *
  have c_b_0 : ∀ p : BW W8, p.w.cell? ⟨g_b, 0, none⟩ = some (.int .i64 u1) := bw_cell (k_b.cell rfl)
  have c_b_1 : ∀ p : BW W8, p.w.cell? ⟨g_b, 1, none⟩ = some (.int .i64 u2) := bw_cell (k_b.cell rfl)
  have c_b_2 : ∀ p : BW W8, p.w.cell? ⟨g_b, 2, none⟩ = some (.int .i64 u3) := bw_cell (k_b.cell rfl)
  have c_b_3 : ∀ p : BW W8, p.w.cell? ⟨g_b, 3, none⟩ = some (.int .i64 v1) := bw_cell (k_b.cell rfl)
  have c_b_4 : ∀ p : BW W8, p.w.cell? ⟨g_b, 4, none⟩ = some (.int .i64 v2) := bw_cell (k_b.cell rfl)
  have c_b_5 : ∀ p : BW W8, p.w.cell? ⟨g_b, 5, none⟩ = some (.int .i64 v3) := bw_cell (k_b.cell rfl)
  have c_b_6 : ∀ p : BW W8, p.w.cell? ⟨g_b, 6, none⟩ = some (.int .i64 n1) := bw_cell (k_b.cell rfl)
  have c_b_7 : ∀ p : BW W8, p.w.cell? ⟨g_b, 7, none⟩ = some (.int .i64 n2) := bw_cell (k_b.cell rfl)
  have c_b_8 : ∀ p : BW W8, p.w.cell? ⟨g_b, 8, none⟩ = some (.int .i64 n3) := bw_cell (k_b.cell rfl)
  have c_v_0 : ∀ p : BW W8, p.w.cell? ⟨g_v, 0, none⟩ = some (.int .i64 p') := bw_cell (k_v.cell rfl)
  have c_v_1 : ∀ p : BW W8, p.w.cell? ⟨g_v, 1, none⟩ = some (.int .i64 q') := bw_cell (k_v.cell rfl)
  have c_v_2 : ∀ p : BW W8, p.w.cell? ⟨g_v, 2, none⟩ = some (.int .i64 r') := bw_cell (k_v.cell rfl)
  have c_o_0 : ∀ p : BW W8, p.w.cell? ⟨g_o, 0, none⟩ = some (.int .i64 d1) := bw_cell (k_o.cell rfl)
  have c_o_1 : ∀ p : BW W8, p.w.cell? ⟨g_o, 1, none⟩ = some (.int .i64 d2) := bw_cell (k_o.cell rfl)
  have c_o_2 : ∀ p : BW W8, p.w.cell? ⟨g_o, 2, none⟩ = some (.int .i64 d3) := bw_cell (k_o.cell rfl)
  have c_m_0 : ∀ p : BW W8, p.w.cell? ⟨g_m, 0, none⟩ = some (.int .i64 f1) := bw_cell (k_m.cell rfl)
  have c_m_1 : ∀ p : BW W8, p.w.cell? ⟨g_m, 1, none⟩ = some (.int .i64 f2) := bw_cell (k_m.cell rfl)
  have c_m_2 : ∀ p : BW W8, p.w.cell? ⟨g_m, 2, none⟩ = some (.int .i64 f3) := bw_cell (k_m.cell rfl)
  have c_f_0 : ∀ p : BW W8, p.w.cell? ⟨g_f, 0, none⟩ = some (.int .i64 k1) := bw_cell (k_f.cell rfl)
  have c_f_1 : ∀ p : BW W8, p.w.cell? ⟨g_f, 1, none⟩ = some (.int .i64 k2) := bw_cell (k_f.cell rfl)
  have c_f_2 : ∀ p : BW W8, p.w.cell? ⟨g_f, 2, none⟩ = some (.int .i64 k3) := bw_cell (k_f.cell rfl)
  obtain ⟨p8, hp8⟩ : ∃ p : BW W8, p.w = W8 := ⟨BW.start W8, rfl⟩
  rw [← hp8]
  clear hp8
  rcases hk with ⟨rfl, rfl, rfl⟩ | ⟨⟨rfl, rfl, rfl⟩, hne⟩ | ⟨⟨rfl, rfl, rfl, rfl⟩, hne⟩ | ⟨⟨rfl, rfl, rfl, rfl, rfl⟩, hne⟩
  all_goals
    have HB := Lib.hid B8
    go_wp2_with (first
      | (go_at_call 21; (first | (with_reducible refine (bw_call DD.out _).mono ?_)); rintro e w' ⟨rfl, q, rfl⟩)
      | (go_at_call 22; (first | (with_reducible refine (bw_call A0.out _).mono ?_) | (with_reducible refine (bw_call A1.out _).mono ?_) | (with_reducible refine (bw_call A2.out _).mono ?_)); rintro e w' ⟨rfl, q, rfl⟩)
      | (go_at_call 20; (first | (with_reducible refine (bw_call L0.out _).mono ?_) | (with_reducible refine (bw_call L1.out _).mono ?_) | (with_reducible refine (bw_call L2.out _).mono ?_) | (with_reducible refine (bw_call L3.out _).mono ?_) | (with_reducible refine (bw_call L4.out _).mono ?_) | (with_reducible refine (bw_call L5.out _).mono ?_)); rintro e w' ⟨rfl, q, rfl⟩)
      | (go_at_call 17; (first | (with_reducible refine (bw_call HA.out _).mono ?_)); rintro e w' ⟨rfl, q, rfl⟩))
    all_goals (go_ret; exact ⟨rfl, bw_below HB.out _⟩)

theorem law_BasisBack (x y z p q r : Int) (w : World) (hx : I64 x) (hy : I64 y) (hz : I64 z) :
    Calls Try.prog 5 #[.agg #[.int .i64 x, .int .i64 y, .int .i64 z], .int .i64 p, .int .i64 q, .int .i64 r] w fun r w' => r = .returned (.bool true) ∧ Below w.heap.size w w' := by
  cases h : vuOk x y z with
  | true => exact law_BasisBack_yes x y z p q r w hx hy hz h
  | false => exact law_BasisBack_no x y z p q r w hx hy hz h

end Go.Proofs.Ytijphipinjlmbaa
