/- The walk of the statement VecUnit. -/
import Derived.Test.YtegflpokeepndaaAwake06
import Derived.Test.YtegflpokeepndaaMathb06
import Derived.Deep.DeepCutAuto
namespace Go.Proofs.Ytegflpokeepndaa
open Go.RowKit Go.Proofs.Sky
set_option linter.unusedVariables false

theorem quarter {x : Int} (h : I64 x) : -2305843009213693952 ≤ x.tdiv 4 ∧ x.tdiv 4 ≤ 2305843009213693952 := by
  have e := Int.mul_tdiv_add_tmod x 4
  have a := Int.tmod_lt_of_pos x (show (0 : Int) < 4 by omega)
  have b := Int.lt_tmod_of_pos x (show (0 : Int) < 4 by omega)
  unfold I64 at h
  omega

/-- All that the statement on directions asks of a vector that is not 0. -/
structure UnitAll (x y z p q r s t a b c l a' b' c' d e f p' q' r' n : Int) : Prop where
  u : vunit x y z = (p, q, r)
  ok : vuOk x y z = true
  nx : wrap64 (-x) = a
  ny : wrap64 (-y) = b
  nz : wrap64 (-z) = c
  no : vuOk a b c = true
  nu : vunit a b c = (p', q', r')
  dx : wrap64 (2 * x) = d
  dy : wrap64 (2 * y) = e
  dz : wrap64 (2 * z) = f
  do_ : vuOk d e f = true
  du : vunit d e f = (p, q, r)
  np : wrap64 (-p) = p'
  nq : wrap64 (-q) = q'
  nr : wrap64 (-r) = r'
  s1 : wrap64 (p * p) = a'
  s2 : wrap64 (q * q) = b'
  s3 : wrap64 (r * r) = c'
  s4 : wrap64 (a' + b') = s
  s5 : wrap64 (s + c') = n
  n1 : 268369924 ≤ n
  n2 : n ≤ 268468225
  l_ : vlen p q r = l
  l1 : 16382 ≤ l
  i : I64 a ∧ I64 b ∧ I64 c ∧ I64 d ∧ I64 e ∧ I64 f
theorem UnitAll.make {x y z : Int} (h : wi 2305843009213693952 x y z = true) (h0 : wi 0 x y z = false) :
    ∃ p q r s a b c l a' b' c' d e f p' q' r' n, UnitAll x y z p q r s s a b c l a' b' c' d e f p' q' r' n := by
  have hb := wi_iff.1 h
  obtain ⟨k1, k2⟩ := vuOk_of h h0
  have L := vunit_len k1
  have S := vunit_small x y z
  have N := vunit_neg x y z
  have D := vunit_dbl h h0
  have LL := vlen_unit L
  obtain ⟨u, hu⟩ : ∃ u, u = vunit x y z := ⟨_, rfl⟩
  rw [← hu] at L S N D LL
  obtain ⟨p, q, r⟩ := u
  dsimp only at L S LL
  have q1 := sq_nonneg p; have q2 := sq_nonneg q; have q3 := sq_nonneg r
  have w : ∀ v : Int, -9223372036854775808 ≤ v ∧ v ≤ 9223372036854775807 → wrap64 v = v := fun v hv => by unfold wrap64; omega
  refine ⟨p, q, r, p * p + q * q, -x, -y, -z, vlen p q r, p * p, q * q, r * r, 2 * x, 2 * y, 2 * z, -p, -q, -r, p * p + q * q + r * r,
    ⟨hu.symm, k1, w _ (by omega), w _ (by omega), w _ (by omega), ?_, N, w _ (by omega), w _ (by omega), w _ (by omega), k2, D, w _ (by omega), w _ (by omega), w _ (by omega), w _ (by omega), w _ (by omega), w _ (by omega), w _ (by omega), w _ (by omega), L.1, L.2, rfl, LL.1, ?_⟩⟩
  · rw [vuOk_neg]; exact k1
  · unfold I64; omega

set_option maxRecDepth 100000 in
set_option maxHeartbeats 8000000 in
theorem law_VecUnit_yes (x y z X Y Z : Int) (w : World) (ix : I64 x) (iy : I64 y) (iz : I64 z) (hx : x.tdiv 4 = X) (hy : y.tdiv 4 = Y) (hz : z.tdiv 4 = Z) (h : wi 2305843009213693952 X Y Z = true) (h0 : wi 0 X Y Z = false) :
    Calls Try.prog 4 #[.agg #[.int .i64 x, .int .i64 y, .int .i64 z]] w fun r w' => r = .returned (.bool true) ∧ Below w.heap.size w w' := by
  have HA := Lib.hid (fun w => awake06 w)
  have hb := wi_iff.1 h
  have v1 : wrap64 X = X := by unfold wrap64; omega
  have v2 : wrap64 Y = Y := by unfold wrap64; omega
  have v3 : wrap64 Z = Z := by unfold wrap64; omega
  have hne : ¬ (X = 0 ∧ Y = 0 ∧ Z = 0) := by rw [wi_no] at h0; omega
  obtain ⟨p, q, r, s, a, b, c, l, a', b', c', d, e, f, p', q', r', n, S⟩ := UnitAll.make h h0
  have U0 := Lib.hid (fun w => vec_Unit X Y Z w (by unfold I64; omega) (by unfold I64; omega) (by unfold I64; omega))
  rw [S.u, S.ok] at U0
  have U1 := Lib.hid (fun w => vec_Unit a b c w S.i.1 S.i.2.1 S.i.2.2.1)
  rw [S.nu, S.no] at U1
  have U2 := Lib.hid (fun w => vec_Unit d e f w S.i.2.2.2.1 S.i.2.2.2.2.1 S.i.2.2.2.2.2)
  rw [S.du, S.do_] at U2
  have L := Lib.hid (fun w => vec_Len p q r w)
  rw [S.l_] at L
  have t1 := decide_eq_true S.n1
  have t2 := decide_eq_true S.n2
  have t3 := decide_eq_true S.l1
  obtain ⟨_, _, e1, e2, e3, _, _, e4, e5, e6, _, _, e7, e8, e9, e10, e11, e12, e13, e14, _, _, _, _, _⟩ := S
  have hcase : (¬ X = 0) ∨ ((X = 0 ∧ a = 0 ∧ d = 0) ∧ ¬ Y = 0) ∨ ((X = 0 ∧ a = 0 ∧ d = 0) ∧ (Y = 0 ∧ b = 0 ∧ e = 0) ∧ ¬ Z = 0) := by
    have z : ∀ {u v r : Int}, u = 0 → wrap64 (-u) = v → wrap64 (2 * u) = r → u = 0 ∧ v = 0 ∧ r = 0 := fun h1 h2 h3 => by
      subst h1
      refine ⟨rfl, ?_, ?_⟩
      · rw [← h2]; unfold wrap64; omega
      · rw [← h3]; unfold wrap64; omega
    by_cases x0 : X = 0
    · by_cases y0 : Y = 0
      · exact .inr (.inr ⟨z x0 e1 e4, z y0 e2 e5, fun z0 => hne ⟨x0, y0, z0⟩⟩)
      · exact .inr (.inl ⟨z x0 e1 e4, y0⟩)
    · exact .inl x0
  clear hne
  clear h h0 hb ix iy iz
  rcases hcase with hX | ⟨⟨rfl, rfl, rfl⟩, hY⟩ | ⟨⟨rfl, rfl, rfl⟩, ⟨rfl, rfl, rfl⟩, hZ⟩
  · go_enter Try.func4, Try.ntmps4
    go_upto_region 3 with (go_at_call 6; (with_reducible refine (U0.out _).mono ?_); rintro e w1 ⟨rfl, hb1⟩)
    obtain ⟨W1, hW1⟩ : ∃ W, W = w1.alloc (.cells #[.int .i64 p, .int .i64 q, .int .i64 r] 23) := ⟨_, rfl⟩
    have B1 : Below w.heap.size w W1 := by
      rw [hW1]
      have h0 : Below w.heap.size w (w.alloc (.cells #[.int .i64 X, .int .i64 Y, .int .i64 Z] 23)) := by go_grown
      exact (h0.trans (hb1.mono h0.size)).alloc (Nat.le_trans h0.size hb1.size) _
    have k0 : Bk W1 w.heap.size 23 #[.int .i64 X, .int .i64 Y, .int .i64 Z] := by rw [hW1]; exact (Bk.below (Bk.new _ _ _) hb1).alloc _
    have k1 : Bk W1 w1.heap.size 23 #[.int .i64 p, .int .i64 q, .int .i64 r] := by rw [hW1]; exact Bk.new _ _ _
    rw [← hW1]
    clear hW1 hb1
    generalize w1.heap.size = g1 at *
    obtain ⟨c00, c01, c02⟩ := bw_bk3 k0
    obtain ⟨c10, c11, c12⟩ := bw_bk3 k1
    obtain ⟨p0, hp0⟩ : ∃ p : BW W1, p.w = W1 := ⟨BW.start W1, rfl⟩
    rw [← hp0]
    clear hp0
    go_upto_region 6 with (go_at_call 6; (with_reducible refine (bw_call U1.out _).mono ?_); rintro e w' ⟨rfl, q0, rfl⟩)
    obtain ⟨W2, hW2⟩ : ∃ W, W = q0.w.alloc (.cells #[.int .i64 p', .int .i64 q', .int .i64 r'] 23) := ⟨_, rfl⟩
    have B2 : Below w.heap.size w W2 := by rw [hW2]; exact (bw_below B1 q0).alloc (bw_below B1 q0).size _
    have k2 : Bk W2 q0.w.heap.size 23 #[.int .i64 p', .int .i64 q', .int .i64 r'] := by rw [hW2]; exact Bk.new _ _ _
    have k0 := (k0.below q0.h).alloc (.cells #[.int .i64 p', .int .i64 q', .int .i64 r'] 23)
    rw [← hW2] at k0
    have k1 := (k1.below q0.h).alloc (.cells #[.int .i64 p', .int .i64 q', .int .i64 r'] 23)
    rw [← hW2] at k1
    rw [← hW2]
    clear hW2 c00 c01 c02 c10 c11 c12
    generalize q0.w.heap.size = g2 at *
    clear q0 p0
    obtain ⟨c00, c01, c02⟩ := bw_bk3 k0
    obtain ⟨c10, c11, c12⟩ := bw_bk3 k1
    obtain ⟨c20, c21, c22⟩ := bw_bk3 k2
    obtain ⟨p0, hp0⟩ : ∃ p : BW W2, p.w = W2 := ⟨BW.start W2, rfl⟩
    rw [← hp0]
    clear hp0
    go_upto_region 7 with (go_at_call 6; (with_reducible refine (bw_call U2.out _).mono ?_); rintro e w' ⟨rfl, q0, rfl⟩)
    obtain ⟨W3, hW3⟩ : ∃ W, W = q0.w.alloc (.cells #[.int .i64 p, .int .i64 q, .int .i64 r] 23) := ⟨_, rfl⟩
    have B3 : Below w.heap.size w W3 := by rw [hW3]; exact (bw_below B2 q0).alloc (bw_below B2 q0).size _
    have k3 : Bk W3 q0.w.heap.size 23 #[.int .i64 p, .int .i64 q, .int .i64 r] := by rw [hW3]; exact Bk.new _ _ _
    have k1 := (k1.below q0.h).alloc (.cells #[.int .i64 p, .int .i64 q, .int .i64 r] 23)
    rw [← hW3] at k1
    have k2 := (k2.below q0.h).alloc (.cells #[.int .i64 p, .int .i64 q, .int .i64 r] 23)
    rw [← hW3] at k2
    rw [← hW3]
    clear hW3 c00 c01 c02 c10 c11 c12 c20 c21 c22
    generalize q0.w.heap.size = g3 at *
    clear q0 p0
    obtain ⟨c10, c11, c12⟩ := bw_bk3 k1
    obtain ⟨c20, c21, c22⟩ := bw_bk3 k2
    obtain ⟨c30, c31, c32⟩ := bw_bk3 k3
    obtain ⟨p0, hp0⟩ : ∃ p : BW W3, p.w = W3 := ⟨BW.start W3, rfl⟩
    rw [← hp0]
    have HB := Lib.hid B3
    clear hp0 k0 k1 k2 k3 B1 B2 B3
    go_wp2_with (first
      | (go_at_call 20; (with_reducible refine (bw_call L.out _).mono ?_); rintro e w' ⟨rfl, q0, rfl⟩)
      | (go_at_call 26; (with_reducible refine (bw_call HA.out _).mono ?_); rintro e w' ⟨rfl, q0, rfl⟩))
    go_ret
    exact ⟨rfl, bw_below HB.out _⟩
  · go_enter Try.func4, Try.ntmps4
    go_upto_region 3 with (go_at_call 6; (with_reducible refine (U0.out _).mono ?_); rintro e w1 ⟨rfl, hb1⟩)
    obtain ⟨W1, hW1⟩ : ∃ W, W = w1.alloc (.cells #[.int .i64 p, .int .i64 q, .int .i64 r] 23) := ⟨_, rfl⟩
    have B1 : Below w.heap.size w W1 := by
      rw [hW1]
      have h0 : Below w.heap.size w (w.alloc (.cells #[.int .i64 0, .int .i64 Y, .int .i64 Z] 23)) := by go_grown
      exact (h0.trans (hb1.mono h0.size)).alloc (Nat.le_trans h0.size hb1.size) _
    have k0 : Bk W1 w.heap.size 23 #[.int .i64 0, .int .i64 Y, .int .i64 Z] := by rw [hW1]; exact (Bk.below (Bk.new _ _ _) hb1).alloc _
    have k1 : Bk W1 w1.heap.size 23 #[.int .i64 p, .int .i64 q, .int .i64 r] := by rw [hW1]; exact Bk.new _ _ _
    rw [← hW1]
    clear hW1 hb1
    generalize w1.heap.size = g1 at *
    obtain ⟨c00, c01, c02⟩ := bw_bk3 k0
    obtain ⟨c10, c11, c12⟩ := bw_bk3 k1
    obtain ⟨p0, hp0⟩ : ∃ p : BW W1, p.w = W1 := ⟨BW.start W1, rfl⟩
    rw [← hp0]
    clear hp0
    go_upto_region 6 with (go_at_call 6; (with_reducible refine (bw_call U1.out _).mono ?_); rintro e w' ⟨rfl, q0, rfl⟩)
    obtain ⟨W2, hW2⟩ : ∃ W, W = q0.w.alloc (.cells #[.int .i64 p', .int .i64 q', .int .i64 r'] 23) := ⟨_, rfl⟩
    have B2 : Below w.heap.size w W2 := by rw [hW2]; exact (bw_below B1 q0).alloc (bw_below B1 q0).size _
    have k2 : Bk W2 q0.w.heap.size 23 #[.int .i64 p', .int .i64 q', .int .i64 r'] := by rw [hW2]; exact Bk.new _ _ _
    have k0 := (k0.below q0.h).alloc (.cells #[.int .i64 p', .int .i64 q', .int .i64 r'] 23)
    rw [← hW2] at k0
    have k1 := (k1.below q0.h).alloc (.cells #[.int .i64 p', .int .i64 q', .int .i64 r'] 23)
    rw [← hW2] at k1
    rw [← hW2]
    clear hW2 c00 c01 c02 c10 c11 c12
    generalize q0.w.heap.size = g2 at *
    clear q0 p0
    obtain ⟨c00, c01, c02⟩ := bw_bk3 k0
    obtain ⟨c10, c11, c12⟩ := bw_bk3 k1
    obtain ⟨c20, c21, c22⟩ := bw_bk3 k2
    obtain ⟨p0, hp0⟩ : ∃ p : BW W2, p.w = W2 := ⟨BW.start W2, rfl⟩
    rw [← hp0]
    clear hp0
    go_upto_region 7 with (go_at_call 6; (with_reducible refine (bw_call U2.out _).mono ?_); rintro e w' ⟨rfl, q0, rfl⟩)
    obtain ⟨W3, hW3⟩ : ∃ W, W = q0.w.alloc (.cells #[.int .i64 p, .int .i64 q, .int .i64 r] 23) := ⟨_, rfl⟩
    have B3 : Below w.heap.size w W3 := by rw [hW3]; exact (bw_below B2 q0).alloc (bw_below B2 q0).size _
    have k3 : Bk W3 q0.w.heap.size 23 #[.int .i64 p, .int .i64 q, .int .i64 r] := by rw [hW3]; exact Bk.new _ _ _
    have k1 := (k1.below q0.h).alloc (.cells #[.int .i64 p, .int .i64 q, .int .i64 r] 23)
    rw [← hW3] at k1
    have k2 := (k2.below q0.h).alloc (.cells #[.int .i64 p, .int .i64 q, .int .i64 r] 23)
    rw [← hW3] at k2
    rw [← hW3]
    clear hW3 c00 c01 c02 c10 c11 c12 c20 c21 c22
    generalize q0.w.heap.size = g3 at *
    clear q0 p0
    obtain ⟨c10, c11, c12⟩ := bw_bk3 k1
    obtain ⟨c20, c21, c22⟩ := bw_bk3 k2
    obtain ⟨c30, c31, c32⟩ := bw_bk3 k3
    obtain ⟨p0, hp0⟩ : ∃ p : BW W3, p.w = W3 := ⟨BW.start W3, rfl⟩
    rw [← hp0]
    have HB := Lib.hid B3
    clear hp0 k0 k1 k2 k3 B1 B2 B3
    go_wp2_with (first
      | (go_at_call 20; (with_reducible refine (bw_call L.out _).mono ?_); rintro e w' ⟨rfl, q0, rfl⟩)
      | (go_at_call 26; (with_reducible refine (bw_call HA.out _).mono ?_); rintro e w' ⟨rfl, q0, rfl⟩))
    go_ret
    exact ⟨rfl, bw_below HB.out _⟩
  · go_enter Try.func4, Try.ntmps4
    go_upto_region 3 with (go_at_call 6; (with_reducible refine (U0.out _).mono ?_); rintro e w1 ⟨rfl, hb1⟩)
    obtain ⟨W1, hW1⟩ : ∃ W, W = w1.alloc (.cells #[.int .i64 p, .int .i64 q, .int .i64 r] 23) := ⟨_, rfl⟩
    have B1 : Below w.heap.size w W1 := by
      rw [hW1]
      have h0 : Below w.heap.size w (w.alloc (.cells #[.int .i64 0, .int .i64 0, .int .i64 Z] 23)) := by go_grown
      exact (h0.trans (hb1.mono h0.size)).alloc (Nat.le_trans h0.size hb1.size) _
    have k0 : Bk W1 w.heap.size 23 #[.int .i64 0, .int .i64 0, .int .i64 Z] := by rw [hW1]; exact (Bk.below (Bk.new _ _ _) hb1).alloc _
    have k1 : Bk W1 w1.heap.size 23 #[.int .i64 p, .int .i64 q, .int .i64 r] := by rw [hW1]; exact Bk.new _ _ _
    rw [← hW1]
    clear hW1 hb1
    generalize w1.heap.size = g1 at *
    obtain ⟨c00, c01, c02⟩ := bw_bk3 k0
    obtain ⟨c10, c11, c12⟩ := bw_bk3 k1
    obtain ⟨p0, hp0⟩ : ∃ p : BW W1, p.w = W1 := ⟨BW.start W1, rfl⟩
    rw [← hp0]
    clear hp0
    go_upto_region 6 with (go_at_call 6; (with_reducible refine (bw_call U1.out _).mono ?_); rintro e w' ⟨rfl, q0, rfl⟩)
    obtain ⟨W2, hW2⟩ : ∃ W, W = q0.w.alloc (.cells #[.int .i64 p', .int .i64 q', .int .i64 r'] 23) := ⟨_, rfl⟩
    have B2 : Below w.heap.size w W2 := by rw [hW2]; exact (bw_below B1 q0).alloc (bw_below B1 q0).size _
    have k2 : Bk W2 q0.w.heap.size 23 #[.int .i64 p', .int .i64 q', .int .i64 r'] := by rw [hW2]; exact Bk.new _ _ _
    have k0 := (k0.below q0.h).alloc (.cells #[.int .i64 p', .int .i64 q', .int .i64 r'] 23)
    rw [← hW2] at k0
    have k1 := (k1.below q0.h).alloc (.cells #[.int .i64 p', .int .i64 q', .int .i64 r'] 23)
    rw [← hW2] at k1
    rw [← hW2]
    clear hW2 c00 c01 c02 c10 c11 c12
    generalize q0.w.heap.size = g2 at *
    clear q0 p0
    obtain ⟨c00, c01, c02⟩ := bw_bk3 k0
    obtain ⟨c10, c11, c12⟩ := bw_bk3 k1
    obtain ⟨c20, c21, c22⟩ := bw_bk3 k2
    obtain ⟨p0, hp0⟩ : ∃ p : BW W2, p.w = W2 := ⟨BW.start W2, rfl⟩
    rw [← hp0]
    clear hp0
    go_upto_region 7 with (go_at_call 6; (with_reducible refine (bw_call U2.out _).mono ?_); rintro e w' ⟨rfl, q0, rfl⟩)
    obtain ⟨W3, hW3⟩ : ∃ W, W = q0.w.alloc (.cells #[.int .i64 p, .int .i64 q, .int .i64 r] 23) := ⟨_, rfl⟩
    have B3 : Below w.heap.size w W3 := by rw [hW3]; exact (bw_below B2 q0).alloc (bw_below B2 q0).size _
    have k3 : Bk W3 q0.w.heap.size 23 #[.int .i64 p, .int .i64 q, .int .i64 r] := by rw [hW3]; exact Bk.new _ _ _
    have k1 := (k1.below q0.h).alloc (.cells #[.int .i64 p, .int .i64 q, .int .i64 r] 23)
    rw [← hW3] at k1
    have k2 := (k2.below q0.h).alloc (.cells #[.int .i64 p, .int .i64 q, .int .i64 r] 23)
    rw [← hW3] at k2
    rw [← hW3]
    clear hW3 c00 c01 c02 c10 c11 c12 c20 c21 c22
    generalize q0.w.heap.size = g3 at *
    clear q0 p0
    obtain ⟨c10, c11, c12⟩ := bw_bk3 k1
    obtain ⟨c20, c21, c22⟩ := bw_bk3 k2
    obtain ⟨c30, c31, c32⟩ := bw_bk3 k3
    obtain ⟨p0, hp0⟩ : ∃ p : BW W3, p.w = W3 := ⟨BW.start W3, rfl⟩
    rw [← hp0]
    have HB := Lib.hid B3
    clear hp0 k0 k1 k2 k3 B1 B2 B3
    go_wp2_with (first
      | (go_at_call 20; (with_reducible refine (bw_call L.out _).mono ?_); rintro e w' ⟨rfl, q0, rfl⟩)
      | (go_at_call 26; (with_reducible refine (bw_call HA.out _).mono ?_); rintro e w' ⟨rfl, q0, rfl⟩))
    go_ret
    exact ⟨rfl, bw_below HB.out _⟩

set_option maxRecDepth 100000 in
set_option maxHeartbeats 4000000 in
theorem law_VecUnit_zero (x y z : Int) (w : World) (hx : x.tdiv 4 = 0) (hy : y.tdiv 4 = 0) (hz : z.tdiv 4 = 0) :
    Calls Try.prog 4 #[.agg #[.int .i64 x, .int .i64 y, .int .i64 z]] w fun r w' => r = .returned (.bool true) ∧ Below w.heap.size w w' := by
  have HA := Lib.hid (fun w => awake06 w)
  have U0 : Hid (∀ w, Calls Try.prog 6 #[.agg #[.int .i64 0, .int .i64 0, .int .i64 0]] w fun e w' => e = .returned (.tuple #[.agg #[.int .i64 0, .int .i64 0, .int .i64 0], .bool false]) ∧ Below w.heap.size w w') := Lib.hid (fun w => by
    have h := vec_Unit 0 0 0 w (by unfold I64; omega) (by unfold I64; omega) (by unfold I64; omega)
    rw [show vunit 0 0 0 = (0, 0, 0) by decide +kernel, show vuOk 0 0 0 = false by decide +kernel] at h
    exact h)
  go_enter Try.func4, Try.ntmps4
  go_upto_region 3 with (go_at_call 6; (with_reducible refine (U0.out _).mono ?_); rintro e w1 ⟨rfl, hb1⟩)
  obtain ⟨W1, hW1⟩ : ∃ W, W = w1.alloc (.cells #[.int .i64 0, .int .i64 0, .int .i64 0] 23) := ⟨_, rfl⟩
  have B1 : Below w.heap.size w W1 := by
    rw [hW1]
    have h0 : Below w.heap.size w (w.alloc (.cells #[.int .i64 0, .int .i64 0, .int .i64 0] 23)) := by go_grown
    exact (h0.trans (hb1.mono h0.size)).alloc (Nat.le_trans h0.size hb1.size) _
  have k0 : Bk W1 w.heap.size 23 #[.int .i64 0, .int .i64 0, .int .i64 0] := by rw [hW1]; exact (Bk.below (Bk.new _ _ _) hb1).alloc _
  have k1 : Bk W1 w1.heap.size 23 #[.int .i64 0, .int .i64 0, .int .i64 0] := by rw [hW1]; exact Bk.new _ _ _
  rw [← hW1]
  clear hW1 hb1
  generalize w1.heap.size = g1 at *
  obtain ⟨c00, c01, c02⟩ := bw_bk3 k0
  obtain ⟨c10, c11, c12⟩ := bw_bk3 k1
  obtain ⟨p0, hp0⟩ : ∃ p : BW W1, p.w = W1 := ⟨BW.start W1, rfl⟩
  rw [← hp0]
  have HB := Lib.hid B1
  clear hp0 k0 k1 B1
  go_wp2_with (go_at_call 26; (with_reducible refine (bw_call HA.out _).mono ?_); rintro e w' ⟨rfl, q0, rfl⟩)
  go_ret
  exact ⟨rfl, bw_below HB.out _⟩

theorem law_VecUnit (x y z : Int) (w : World) (ix : I64 x) (iy : I64 y) (iz : I64 z) :
    Calls Try.prog 4 #[.agg #[.int .i64 x, .int .i64 y, .int .i64 z]] w fun r w' => r = .returned (.bool true) ∧ Below w.heap.size w w' := by
  by_cases h : x.tdiv 4 = 0 ∧ y.tdiv 4 = 0 ∧ z.tdiv 4 = 0
  · exact law_VecUnit_zero x y z w h.1 h.2.1 h.2.2
  · have a := quarter ix
    have b := quarter iy
    have c := quarter iz
    exact law_VecUnit_yes x y z _ _ _ w ix iy iz rfl rfl rfl (by rw [wi_iff]; omega) (by rw [wi_no]; omega)

end Go.Proofs.Ytegflpokeepndaa
