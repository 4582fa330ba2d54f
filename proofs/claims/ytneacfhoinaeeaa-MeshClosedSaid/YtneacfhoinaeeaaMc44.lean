/- The statements' own helpers, layer 19: of, same, awake. -/
import Derived.Test.YtneacfhoinaeeaaMc43
import Derived.Test.YtneacfhoinaeeaaMc32


namespace Go.Proofs.Ytneacfhoinaeeaa
section

open Go.RowKit Go.Proofs.Sky

set_option linter.unusedVariables false

set_option linter.unusedSimpArgs false

theorem prow_sll {w : World} {B : Nat} {v : Value} {l : List Pr} (h : PRow w B v l) (hn : l.length ≤ 1000000) : Sll w v 12 pcells l :=
  owns_sll (f := pcells) (l := l) (fun _ => rfl) (by decide) rfl (by unfold maxLen; omega) h

def pints (p : Pr) : List Int := [p.k, p.a.1, p.a.2.1, p.a.2.2, p.b.1, p.b.2.1, p.b.2.2, p.c.1, p.c.2.1, p.c.2.2, p.r, p.m]

theorem cube_wake : (mCube ((16384, 0, 0), (0, 16384, 0), (0, 0, 16384), (0, 0, 0)) 2).2 = 0 ∧ (mCube ((16384, 0, 0), (0, 16384, 0), (0, 0, 16384), (0, 0, 0)) 2).1.length = 12 ∧ ((mCube ((16384, 0, 0), (0, 16384, 0), (0, 0, 16384), (0, 0, 0)) 2).1.map pints)[0]? = some [1, -64, -64, -64, -64, 64, -64, 64, 64, -64, 0, 2] := ⟨by decide +kernel, by decide +kernel, by decide +kernel⟩

set_option maxRecDepth 100000 in
set_option maxHeartbeats 8000000 in
theorem law19_of (a1 a2 a3 a4 a5 a6 a7 a8 a9 a10 a11 a12 : Int) (w : World) :
    Calls Try.prog 7 #[.agg #[.int .i64 a1, .int .i64 a2, .int .i64 a3, .int .i64 a4, .int .i64 a5, .int .i64 a6, .int .i64 a7, .int .i64 a8, .int .i64 a9, .int .i64 a10, .int .i64 a11, .int .i64 a12]] w fun en w' => en = .returned (.agg #[.int .i64 a1, .int .i64 a2, .int .i64 a3, .int .i64 a4, .int .i64 a5, .int .i64 a6, .int .i64 a7, .int .i64 a8, .int .i64 a9, .int .i64 a10, .int .i64 a11, .int .i64 a12]) ∧ Below w.heap.size w w' := by
  go_enter Try.func7, Try.ntmps7
  go_upto_region 1 with (fail)
  obtain ⟨W1, hW1⟩ : ∃ W, W = (w.alloc (.cells #[.int .i64 a1, .int .i64 a2, .int .i64 a3, .int .i64 a4, .int .i64 a5, .int .i64 a6, .int .i64 a7, .int .i64 a8, .int .i64 a9, .int .i64 a10, .int .i64 a11, .int .i64 a12] 25)).alloc (.cells #[.int .i64 0, .int .i64 0, .int .i64 0, .int .i64 0, .int .i64 0, .int .i64 0, .int .i64 0, .int .i64 0, .int .i64 0, .int .i64 0, .int .i64 0, .int .i64 0] 31) := ⟨_, rfl⟩
  obtain ⟨k_p, k_r, B1⟩ := st2 hW1
  rw [← hW1]
  clear hW1
  have l_r : w.heap.size < w.heap.size + 1 := by omega
  generalize w.heap.size + 1 = g_r at *
  obtain ⟨c_p_0, c_p_1, c_p_2, c_p_3, c_p_4, c_p_5, c_p_6, c_p_7, c_p_8, c_p_9, c_p_10, c_p_11⟩ := bwc12 (k_p)
  obtain ⟨c_r_0, c_r_1, c_r_2, c_r_3, c_r_4, c_r_5, c_r_6, c_r_7, c_r_8, c_r_9, c_r_10, c_r_11⟩ := bwc12 (k_r)
  obtain ⟨f_r_0, f_r_1, f_r_2, f_r_3, f_r_4, f_r_5, f_r_6, f_r_7, f_r_8, f_r_9, f_r_10, f_r_11⟩ := bwf12 (k_r)
  obtain ⟨p1, hp1⟩ : ∃ p : BW W1, p.w = W1 := ⟨BW.start W1, rfl⟩
  rw [← hp1]
  clear hp1
  go_wp2
  have kr := bkp12 (k_r.below p1.h) (.int .i64 a1) (.int .i64 a2) (.int .i64 a3) (.int .i64 a4) (.int .i64 a5) (.int .i64 a6) (.int .i64 a7) (.int .i64 a8) (.int .i64 a9) (.int .i64 a10) (.int .i64 a11) (.int .i64 a12)
  obtain ⟨rc0, rc1, rc2, rc3, rc4, rc5, rc6, rc7, rc8, rc9, rc10, rc11⟩ := rwc12 kr
  exact bodyPost_ret (v := .agg #[.int .i64 a1, .int .i64 a2, .int .i64 a3, .int .i64 a4, .int .i64 a5, .int .i64 a6, .int .i64 a7, .int .i64 a8, .int .i64 a9, .int .i64 a10, .int .i64 a11, .int .i64 a12]) (by simp [results, Try.results7, go_sem, rc0, rc1, rc2, rc3, rc4, rc5, rc6, rc7, rc8, rc9, rc10, rc11]) rfl ⟨rfl, blp12 (bw_below B1 p1) (by omega)⟩

set_option maxRecDepth 100000 in
set_option maxHeartbeats 8000000 in
theorem awake19 (w : World) :
    Calls Try.prog 5 #[] w fun en w' => en = .returned (.bool true) ∧ Below w.heap.size w w' := by
  obtain ⟨w1, w2, w3⟩ := cube_wake
  have KN := Lib.hid (fun w => pose_None w)
  have KC : Hid (∀ X, Calls Try.prog 6 #[.agg #[.int .i64 16384, .int .i64 0, .int .i64 0, .int .i64 0, .int .i64 16384, .int .i64 0, .int .i64 0, .int .i64 0, .int .i64 16384, .int .i64 0, .int .i64 0, .int .i64 0], .int .i64 2] X fun e w' => ∃ v, e = .returned (.tuple #[v, .int .i64 0]) ∧ PRow w' X.heap.size v (mCube ((16384, 0, 0), (0, 16384, 0), (0, 0, 16384), (0, 0, 0)) 2).1 ∧ Below X.heap.size X w') := Lib.hid (fun X => by
    have h := mesh_Cube 16384 0 0 0 16384 0 0 0 16384 0 0 0 2 X ⟨by omega, by omega⟩
    rw [w1] at h
    exact h)
  have KO : Hid (∀ X, Calls Try.prog 11 #[.int .i64 2, .agg #[.int .i64 16384, .int .i64 0, .int .i64 0, .int .i64 0, .int .i64 16384, .int .i64 0, .int .i64 0, .int .i64 0, .int .i64 16384, .int .i64 0, .int .i64 0, .int .i64 0], .int .i64 2] X fun e w' => ∃ v, e = .returned (.tuple #[v, .int .i64 1]) ∧ Below X.heap.size X w') := Lib.hid (fun X => (mesh_Cone 2 16384 0 0 0 16384 0 0 0 16384 0 0 0 2 X ⟨by omega, by omega⟩).mono (by
    rintro e w' ⟨v, rfl, _, hb⟩
    exact ⟨v, rfl, hb⟩))
  have KL := Lib.hid (fun X => mesh_Closed (.slice none 0 0) [] X ⟨none, 0, rfl, by simp, .inl rfl⟩ (fun p hp => by simp at hp) (by simp))
  obtain ⟨L, hL⟩ : ∃ L, L = (mCube ((16384, 0, 0), (0, 16384, 0), (0, 0, 16384), (0, 0, 0)) 2).1 := ⟨_, rfl⟩
  rw [← hL] at KC w2 w3
  clear w1 hL
  have HW3 := Lib.hid w3
  have HW2 := Lib.hid w2
  clear w2 w3
  go_enter Try.func5, Try.ntmps5
  go_upto_region 2 with (first
    | (go_at_call 19; (with_reducible refine (KN.out _).mono ?_); rintro e w' ⟨rfl, hbn⟩; obtain ⟨q, rfl⟩ : ∃ q : BW w, w' = q.w := ⟨⟨w', hbn⟩, rfl⟩)
    | (go_at_call 6; (with_reducible refine (KC.out _).mono ?_); rintro e w' ⟨v, rfl, hv, hb⟩; obtain ⟨q1, rfl⟩ := bw_take hb))
  have hv := owns_mono hv q.h.size
  have B1 : Below w.heap.size w q1.w := q1.h
  have hl := HW2.out
  obtain ⟨av, cv, rfl⟩ := owns_val19 hv
  obtain ⟨a', c', e', _, hS⟩ := prow_sll hv (by omega)
  cases e'
  obtain ⟨gv, fv, rfl, hgv, hc⟩ := hS.resolve_left (by omega)
  have h0 : 0 < L.length := by omega
  have hx := hc 0 h0
  have hp : pints L[0] = [1, -64, -64, -64, -64, 64, -64, 64, 64, -64, 0, 2] := by
    have h := HW3.out
    rw [List.getElem?_map, List.getElem?_eq_getElem h0] at h
    exact Option.some.inj h
  generalize L[0] = pk at *
  obtain ⟨kk, ⟨a1, a2, a3⟩, ⟨b1, b2, b3⟩, ⟨c1, c2, c3⟩, r, m⟩ := pk
  simp only [pints, List.cons.injEq, and_true] at hp
  obtain ⟨rfl, rfl, rfl, rfl, rfl, rfl, rfl, rfl, rfl, rfl, rfl, rfl⟩ := hp
  have x0 : q1.w.cell? ⟨gv, fv + 0 * 12, none⟩ = some (.int .i64 1) := hx 0 (by omega)
  have x1 : q1.w.cell? ⟨gv, fv + 0 * 12 + 1, none⟩ = some (.int .i64 (-64)) := hx 1 (by omega)
  have x2 : q1.w.cell? ⟨gv, fv + 0 * 12 + 2, none⟩ = some (.int .i64 (-64)) := hx 2 (by omega)
  have x3 : q1.w.cell? ⟨gv, fv + 0 * 12 + 3, none⟩ = some (.int .i64 (-64)) := hx 3 (by omega)
  have x4 : q1.w.cell? ⟨gv, fv + 0 * 12 + 4, none⟩ = some (.int .i64 (-64)) := hx 4 (by omega)
  have x5 : q1.w.cell? ⟨gv, fv + 0 * 12 + 5, none⟩ = some (.int .i64 64) := hx 5 (by omega)
  have x6 : q1.w.cell? ⟨gv, fv + 0 * 12 + 6, none⟩ = some (.int .i64 (-64)) := hx 6 (by omega)
  have x7 : q1.w.cell? ⟨gv, fv + 0 * 12 + 7, none⟩ = some (.int .i64 64) := hx 7 (by omega)
  have x8 : q1.w.cell? ⟨gv, fv + 0 * 12 + 8, none⟩ = some (.int .i64 64) := hx 8 (by omega)
  have x9 : q1.w.cell? ⟨gv, fv + 0 * 12 + 9, none⟩ = some (.int .i64 (-64)) := hx 9 (by omega)
  have x10 : q1.w.cell? ⟨gv, fv + 0 * 12 + 10, none⟩ = some (.int .i64 0) := hx 10 (by omega)
  have x11 : q1.w.cell? ⟨gv, fv + 0 * 12 + 11, none⟩ = some (.int .i64 2) := hx 11 (by omega)
  simp only [Nat.zero_mul, Nat.add_zero] at x0 x1 x2 x3 x4 x5 x6 x7 x8 x9 x10 x11
  rw [hl]
  clear hx hc hS hv HW3 HW2 hl h0
  generalize q1.w = W2 at *
  have c_v0 : ∀ p : BW W2, p.w.cell? ⟨gv, fv, none⟩ = some (.int .i64 1) := bw_cell x0
  have c_v1 : ∀ p : BW W2, p.w.cell? ⟨gv, fv + 1, none⟩ = some (.int .i64 (-64)) := bw_cell x1
  have c_v2 : ∀ p : BW W2, p.w.cell? ⟨gv, fv + 2, none⟩ = some (.int .i64 (-64)) := bw_cell x2
  have c_v3 : ∀ p : BW W2, p.w.cell? ⟨gv, fv + 3, none⟩ = some (.int .i64 (-64)) := bw_cell x3
  have c_v4 : ∀ p : BW W2, p.w.cell? ⟨gv, fv + 4, none⟩ = some (.int .i64 (-64)) := bw_cell x4
  have c_v5 : ∀ p : BW W2, p.w.cell? ⟨gv, fv + 5, none⟩ = some (.int .i64 64) := bw_cell x5
  have c_v6 : ∀ p : BW W2, p.w.cell? ⟨gv, fv + 6, none⟩ = some (.int .i64 (-64)) := bw_cell x6
  have c_v7 : ∀ p : BW W2, p.w.cell? ⟨gv, fv + 7, none⟩ = some (.int .i64 64) := bw_cell x7
  have c_v8 : ∀ p : BW W2, p.w.cell? ⟨gv, fv + 8, none⟩ = some (.int .i64 64) := bw_cell x8
  have c_v9 : ∀ p : BW W2, p.w.cell? ⟨gv, fv + 9, none⟩ = some (.int .i64 (-64)) := bw_cell x9
  have c_v10 : ∀ p : BW W2, p.w.cell? ⟨gv, fv + 10, none⟩ = some (.int .i64 0) := bw_cell x10
  have c_v11 : ∀ p : BW W2, p.w.cell? ⟨gv, fv + 11, none⟩ = some (.int .i64 2) := bw_cell x11
  clear x0 x1 x2 x3 x4 x5 x6 x7 x8 x9 x10 x11
  obtain ⟨p2, hp2⟩ : ∃ p : BW W2, p.w = W2 := ⟨BW.start W2, rfl⟩
  rw [← hp2]
  clear hp2
  go_wp2_with (first
    | (go_at_call 19; (with_reducible refine (bw_call KN.out _).mono ?_); rintro e w' ⟨rfl, q, rfl⟩)
    | (go_at_call 11; (with_reducible refine (KO.out _).mono ?_); rintro e w' ⟨v2, rfl, hb2⟩; obtain ⟨q2, rfl⟩ := bw_take hb2)
    | (go_at_call 14; (with_reducible refine (KL.out _).mono ?_); rintro e w' ⟨rfl, hb3⟩; obtain ⟨q3, rfl⟩ := bw_take hb3))
  go_ret
  exact ⟨rfl, bw_below B1 _⟩

end
end Go.Proofs.Ytneacfhoinaeeaa
