/- The walk of the statement VecVolume. -/
import Derived.Test.YtegflpokeepndaaAwake06
import Derived.Test.YtegflpokeepndaaRef06
import Derived.Test.YtegflpokeepndaaMathc06
import Derived.Deep.DeepCutAuto
namespace Go.Proofs.Ytegflpokeepndaa
open Go.RowKit Go.Proofs.Sky
set_option linter.unusedVariables false

set_option maxRecDepth 100000 in
set_option maxHeartbeats 4000000 in
theorem law_VecVolume_no (x y z a b c d e f : Int) (w : World) (h : ¬ (vnear x y z = true ∧ vnear a b c = true ∧ vnear d e f = true)) :
    Calls Try.prog 5 #[.agg #[.int .i64 x, .int .i64 y, .int .i64 z], .agg #[.int .i64 a, .int .i64 b, .int .i64 c], .agg #[.int .i64 d, .int .i64 e, .int .i64 f]] w fun r w' => r = .returned (.bool true) ∧ Below w.heap.size w w' := by
  have HA := Lib.hid (fun w => awake06 w)
  have N1 := Lib.hid (fun w => ref6_Near x y z w)
  have N2 := Lib.hid (fun w => ref6_Near a b c w)
  have N3 := Lib.hid (fun w => ref6_Near d e f w)
  generalize vnear x y z = n1 at *
  generalize vnear a b c = n2 at *
  generalize vnear d e f = n3 at *
  have hc : (n1 = false) ∨ (n1 = true ∧ n2 = false) ∨ (n1 = true ∧ n2 = true ∧ n3 = false) := by
    cases n1 <;> cases n2 <;> cases n3 <;> simp at h ⊢
  clear h
  go_enter Try.func5, Try.ntmps5
  go_upto_region 1 with (fail)
  obtain ⟨W1, hW1⟩ : ∃ W, W = ((w.alloc (.cells #[.int .i64 x, .int .i64 y, .int .i64 z] 23)).alloc (.cells #[.int .i64 a, .int .i64 b, .int .i64 c] 23)).alloc (.cells #[.int .i64 d, .int .i64 e, .int .i64 f] 23) := ⟨_, rfl⟩
  have B1 : Below w.heap.size w W1 := by rw [hW1]; go_grown
  have k0 : Bk W1 w.heap.size 23 #[.int .i64 x, .int .i64 y, .int .i64 z] := by rw [hW1]; exact ((Bk.new _ _ _).alloc _).alloc _
  have k1 : Bk W1 (w.heap.size + 1) 23 #[.int .i64 a, .int .i64 b, .int .i64 c] := by rw [hW1]; exact (Bk.new_at _ _ _ _ (by simp)).alloc _
  have k2 : Bk W1 (w.heap.size + 1 + 1) 23 #[.int .i64 d, .int .i64 e, .int .i64 f] := by rw [hW1]; exact Bk.new_at _ _ _ _ (by simp)
  rw [← hW1]
  clear hW1
  generalize w.heap.size + 1 + 1 = g2 at *
  generalize w.heap.size + 1 = g1 at *
  have HB := Lib.hid B1
  obtain ⟨c00, c01, c02⟩ := bw_bk3 k0
  obtain ⟨c10, c11, c12⟩ := bw_bk3 k1
  obtain ⟨c20, c21, c22⟩ := bw_bk3 k2
  obtain ⟨p0, hp0⟩ : ∃ p : BW W1, p.w = W1 := ⟨BW.start W1, rfl⟩
  rw [← hp0]
  clear hp0
  clear k0 k1 k2 B1
  rcases hc with rfl | ⟨rfl, rfl⟩ | ⟨rfl, rfl, rfl⟩
  all_goals
    go_wp2_with (first
      | (go_at_call 9; (first | (with_reducible refine (bw_call N1.out _).mono ?_) | (with_reducible refine (bw_call N2.out _).mono ?_) | (with_reducible refine (bw_call N3.out _).mono ?_)); rintro e w' ⟨rfl, q, rfl⟩)
      | (go_at_call 26; (with_reducible refine (bw_call HA.out _).mono ?_); rintro e w' ⟨rfl, q, rfl⟩))
    go_ret
    exact ⟨rfl, bw_below HB.out _⟩

set_option maxRecDepth 100000 in
set_option maxHeartbeats 8000000 in
theorem law_VecVolume_yes (x y z a b c d e f : Int) (w : World) (h1 : vnear x y z = true) (h2 : vnear a b c = true) (h3 : vnear d e f = true) (ix : I64 x) (iy : I64 y) (iz : I64 z) :
    Calls Try.prog 5 #[.agg #[.int .i64 x, .int .i64 y, .int .i64 z], .agg #[.int .i64 a, .int .i64 b, .int .i64 c], .agg #[.int .i64 d, .int .i64 e, .int .i64 f]] w fun r w' => r = .returned (.bool true) ∧ Below w.heap.size w w' := by
  have HA := Lib.hid (fun w => awake06 w)
  have N1 := Lib.hid (fun w => ref6_Near x y z w)
  have N2 := Lib.hid (fun w => ref6_Near a b c w)
  have N3 := Lib.hid (fun w => ref6_Near d e f w)
  rw [h1] at N1
  rw [h2] at N2
  rw [h3] at N3
  obtain ⟨n, m, hx, hy, hz, kx, ky, kz, ox, oy, oz, n1, n2, t, t1, t2, p, q, r, p1, q1, r1, S⟩ := VolAll.make h1 h2 h3
  have I : Hid (I64 hx ∧ I64 hy ∧ I64 hz ∧ I64 kx ∧ I64 ky ∧ I64 kz ∧ I64 ox ∧ I64 oy ∧ I64 oz) := Lib.hid (by
    have := S.X.hn; have := S.Y.hn; have := S.Z.hn; have := S.X.kn; have := S.Y.kn; have := S.Z.kn; have := S.X.on; have := S.Y.on; have := S.Z.on
    unfold I64; omega)
  have V0 := Lib.hid (fun w => vec_Volume x y z a b c d e f w)
  rw [S.f1] at V0
  have V1 := Lib.hid (fun w => vec_Volume x y z x y z a b c w)
  rw [S.f2] at V1
  have V2 := Lib.hid (fun w => vec_Volume x y z a b c x y z w)
  rw [S.f3] at V2
  have V3 := Lib.hid (fun w => vec_Volume a b c x y z d e f w)
  rw [S.f4] at V3
  have V4 := Lib.hid (fun w => vec_Volume a b c d e f x y z w)
  rw [S.f5] at V4
  have V5 := Lib.hid (fun w => vec_Volume d e f a b c x y z w)
  rw [S.f6] at V5
  have V6 := Lib.hid (fun w => vec_Volume kx ky kz a b c d e f w)
  rw [S.v1] at V6
  have V7 := Lib.hid (fun w => vec_Volume ox oy oz a b c d e f w)
  rw [S.v2] at V7
  have D0 := Lib.hid (fun w => vec_Dot x y z a b c w)
  rw [S.d0] at D0
  have D1 := Lib.hid (fun w => vec_Dot a b c x y z w)
  rw [S.d1] at D1
  have D2 := Lib.hid (fun w => vec_Dot kx ky kz a b c w)
  rw [S.d2] at D2
  have D3 := Lib.hid (fun w => vec_Dot ox oy oz a b c w)
  rw [S.d3] at D3
  have C0 := Lib.hid (fun w => vec_Cross x y z a b c w)
  rw [S.c1] at C0
  have C1 := Lib.hid (fun w => vec_Cross a b c x y z w)
  rw [S.c2] at C1
  have A0 := Lib.hid (fun w => vec_Add hx hy hz hx hy hz w I.out.1 I.out.2.1 I.out.2.2.1 I.out.1 I.out.2.1 I.out.2.2.1)
  rw [S.X.k_, S.Y.k_, S.Z.k_] at A0
  have S0 := Lib.hid (fun w => vec_Sub x y z kx ky kz w ix iy iz I.out.2.2.2.1 I.out.2.2.2.2.1 I.out.2.2.2.2.2.1)
  rw [S.X.o_, S.Y.o_, S.Z.o_] at S0
  have A1 := Lib.hid (fun w => vec_Add kx ky kz ox oy oz w I.out.2.2.2.1 I.out.2.2.2.2.1 I.out.2.2.2.2.2.1 I.out.2.2.2.2.2.2.1 I.out.2.2.2.2.2.2.2.1 I.out.2.2.2.2.2.2.2.2)
  rw [S.X.a_, S.Y.a_, S.Z.a_] at A1
  have S1 := Lib.hid (fun w => vec_Sub 0 0 0 p1 q1 r1 w (by unfold I64; omega) (by unfold I64; omega) (by unfold I64; omega) S.i1 S.i2 S.i3)
  rw [S.s1, S.s2, S.s3] at S1
  have w1 := S.w1
  have w2 := S.w2
  have w3 := S.w3
  have w4 := S.w4
  have w5 := S.w5
  have w6 := S.w6
  have e1 := S.X.h_
  have e2 := S.Y.h_
  have e3 := S.Z.h_
  have u1 := S.X.wh
  have u2 := S.Y.wh
  have u3 := S.Z.wh
  clear S I h1 h2 h3 ix iy iz
  go_enter Try.func5, Try.ntmps5
  go_upto_region 1 with (fail)
  obtain ⟨W1, hW1⟩ : ∃ W, W = ((w.alloc (.cells #[.int .i64 x, .int .i64 y, .int .i64 z] 23)).alloc (.cells #[.int .i64 a, .int .i64 b, .int .i64 c] 23)).alloc (.cells #[.int .i64 d, .int .i64 e, .int .i64 f] 23) := ⟨_, rfl⟩
  have B1 : Below w.heap.size w W1 := by rw [hW1]; go_grown
  have k0 : Bk W1 w.heap.size 23 #[.int .i64 x, .int .i64 y, .int .i64 z] := by rw [hW1]; exact ((Bk.new _ _ _).alloc _).alloc _
  have k1 : Bk W1 (w.heap.size + 1) 23 #[.int .i64 a, .int .i64 b, .int .i64 c] := by rw [hW1]; exact (Bk.new_at _ _ _ _ (by simp)).alloc _
  have k2 : Bk W1 (w.heap.size + 1 + 1) 23 #[.int .i64 d, .int .i64 e, .int .i64 f] := by rw [hW1]; exact Bk.new_at _ _ _ _ (by simp)
  rw [← hW1]
  clear hW1
  generalize w.heap.size + 1 + 1 = g2 at *
  generalize w.heap.size + 1 = g1 at *
  obtain ⟨c00, c01, c02⟩ := bw_bk3 k0
  obtain ⟨c10, c11, c12⟩ := bw_bk3 k1
  obtain ⟨c20, c21, c22⟩ := bw_bk3 k2
  obtain ⟨p0, hp0⟩ : ∃ p : BW W1, p.w = W1 := ⟨BW.start W1, rfl⟩
  rw [← hp0]
  clear hp0
  go_upto_region 7 with (first
    | (go_at_call 9; (first | (with_reducible refine (bw_call N1.out _).mono ?_) | (with_reducible refine (bw_call N2.out _).mono ?_) | (with_reducible refine (bw_call N3.out _).mono ?_)); rintro e w' ⟨rfl, q, rfl⟩)
    | (go_at_call 18; (first | (with_reducible refine (bw_call V0.out _).mono ?_) | (with_reducible refine (bw_call V1.out _).mono ?_) | (with_reducible refine (bw_call V2.out _).mono ?_) | (with_reducible refine (bw_call V3.out _).mono ?_) | (with_reducible refine (bw_call V4.out _).mono ?_) | (with_reducible refine (bw_call V5.out _).mono ?_)); rintro e w' ⟨rfl, q, rfl⟩))
  obtain ⟨W2, hW2⟩ : ∃ W, W = q.w.alloc (.cells #[.int .i64 hx, .int .i64 hy, .int .i64 hz] 23) := ⟨_, rfl⟩
  have B2 : Below w.heap.size w W2 := by rw [hW2]; exact (bw_below B1 q).alloc (bw_below B1 q).size _
  have k3 : Bk W2 q.w.heap.size 23 #[.int .i64 hx, .int .i64 hy, .int .i64 hz] := by rw [hW2]; exact Bk.new _ _ _
  have k0 := (k0.below q.h).alloc (.cells #[.int .i64 hx, .int .i64 hy, .int .i64 hz] 23)
  rw [← hW2] at k0
  have k1 := (k1.below q.h).alloc (.cells #[.int .i64 hx, .int .i64 hy, .int .i64 hz] 23)
  rw [← hW2] at k1
  have k2 := (k2.below q.h).alloc (.cells #[.int .i64 hx, .int .i64 hy, .int .i64 hz] 23)
  rw [← hW2] at k2
  rw [← hW2]
  clear hW2
  generalize q.w.heap.size = g3 at *
  clear c00 c01 c02 c10 c11 c12 c20 c21 c22
  clear q p0
  obtain ⟨c00, c01, c02⟩ := bw_bk3 k0
  obtain ⟨c10, c11, c12⟩ := bw_bk3 k1
  obtain ⟨c20, c21, c22⟩ := bw_bk3 k2
  obtain ⟨c30, c31, c32⟩ := bw_bk3 k3
  obtain ⟨p2, hp2⟩ : ∃ p : BW W2, p.w = W2 := ⟨BW.start W2, rfl⟩
  rw [← hp2]
  clear hp2
  go_upto_region 8 with (go_at_call 10; (with_reducible refine (bw_call A0.out _).mono ?_); rintro e w' ⟨rfl, q, rfl⟩)
  obtain ⟨W3, hW3⟩ : ∃ W, W = q.w.alloc (.cells #[.int .i64 kx, .int .i64 ky, .int .i64 kz] 23) := ⟨_, rfl⟩
  have B3 : Below w.heap.size w W3 := by rw [hW3]; exact (bw_below B2 q).alloc (bw_below B2 q).size _
  have k4 : Bk W3 q.w.heap.size 23 #[.int .i64 kx, .int .i64 ky, .int .i64 kz] := by rw [hW3]; exact Bk.new _ _ _
  have k0 := (k0.below q.h).alloc (.cells #[.int .i64 kx, .int .i64 ky, .int .i64 kz] 23)
  rw [← hW3] at k0
  have k1 := (k1.below q.h).alloc (.cells #[.int .i64 kx, .int .i64 ky, .int .i64 kz] 23)
  rw [← hW3] at k1
  have k2 := (k2.below q.h).alloc (.cells #[.int .i64 kx, .int .i64 ky, .int .i64 kz] 23)
  rw [← hW3] at k2
  have k3 := (k3.below q.h).alloc (.cells #[.int .i64 kx, .int .i64 ky, .int .i64 kz] 23)
  rw [← hW3] at k3
  rw [← hW3]
  clear hW3
  generalize q.w.heap.size = g4 at *
  clear c00 c01 c02 c10 c11 c12 c20 c21 c22 c30 c31 c32
  clear q p2
  obtain ⟨c00, c01, c02⟩ := bw_bk3 k0
  obtain ⟨c10, c11, c12⟩ := bw_bk3 k1
  obtain ⟨c20, c21, c22⟩ := bw_bk3 k2
  obtain ⟨c30, c31, c32⟩ := bw_bk3 k3
  obtain ⟨c40, c41, c42⟩ := bw_bk3 k4
  obtain ⟨p3, hp3⟩ : ∃ p : BW W3, p.w = W3 := ⟨BW.start W3, rfl⟩
  rw [← hp3]
  clear hp3
  go_upto_region 9 with (go_at_call 12; (with_reducible refine (bw_call S0.out _).mono ?_); rintro e w' ⟨rfl, q, rfl⟩)
  obtain ⟨W4, hW4⟩ : ∃ W, W = q.w.alloc (.cells #[.int .i64 ox, .int .i64 oy, .int .i64 oz] 23) := ⟨_, rfl⟩
  have B4 : Below w.heap.size w W4 := by rw [hW4]; exact (bw_below B3 q).alloc (bw_below B3 q).size _
  have k5 : Bk W4 q.w.heap.size 23 #[.int .i64 ox, .int .i64 oy, .int .i64 oz] := by rw [hW4]; exact Bk.new _ _ _
  have k0 := (k0.below q.h).alloc (.cells #[.int .i64 ox, .int .i64 oy, .int .i64 oz] 23)
  rw [← hW4] at k0
  have k1 := (k1.below q.h).alloc (.cells #[.int .i64 ox, .int .i64 oy, .int .i64 oz] 23)
  rw [← hW4] at k1
  have k2 := (k2.below q.h).alloc (.cells #[.int .i64 ox, .int .i64 oy, .int .i64 oz] 23)
  rw [← hW4] at k2
  have k3 := (k3.below q.h).alloc (.cells #[.int .i64 ox, .int .i64 oy, .int .i64 oz] 23)
  rw [← hW4] at k3
  have k4 := (k4.below q.h).alloc (.cells #[.int .i64 ox, .int .i64 oy, .int .i64 oz] 23)
  rw [← hW4] at k4
  rw [← hW4]
  clear hW4
  generalize q.w.heap.size = g5 at *
  clear c00 c01 c02 c10 c11 c12 c20 c21 c22 c30 c31 c32 c40 c41 c42
  clear q p3
  have HB := Lib.hid B4
  clear B1 B2 B3 B4
  obtain ⟨c00, c01, c02⟩ := bw_bk3 k0
  obtain ⟨c10, c11, c12⟩ := bw_bk3 k1
  obtain ⟨c20, c21, c22⟩ := bw_bk3 k2
  obtain ⟨c30, c31, c32⟩ := bw_bk3 k3
  obtain ⟨c40, c41, c42⟩ := bw_bk3 k4
  obtain ⟨c50, c51, c52⟩ := bw_bk3 k5
  obtain ⟨p4, hp4⟩ : ∃ p : BW W4, p.w = W4 := ⟨BW.start W4, rfl⟩
  rw [← hp4]
  clear hp4
  clear k0 k1 k2 k3 k4 k5
  refine wp_region_bw (by kernel_rfl) (by kernel_rfl) ?_
  repeat (go_big_quiet_step (first
    | (go_at_call 10; (with_reducible exact bw_call A1.out _))
    | (go_at_call 18; (first | (with_reducible exact bw_call V6.out _) | (with_reducible exact bw_call V7.out _)))
    | (go_at_call 14; (first | (with_reducible exact bw_call D0.out _) | (with_reducible exact bw_call D1.out _) | (with_reducible exact bw_call D2.out _) | (with_reducible exact bw_call D3.out _)))
    | (go_at_call 16; (first | (with_reducible exact bw_call C0.out _) | (with_reducible exact bw_call C1.out _)))
    | (go_at_call 12; (with_reducible exact bw_call S1.out _))
    | (go_at_call 26; (with_reducible exact bw_call HA.out _))))
  refine wpQuiet_nil ?_
  intro _ hw'
  obtain ⟨q, rfl⟩ := hw'
  go_wp2
  go_ret
  exact ⟨rfl, bw_below HB.out _⟩

theorem law_VecVolume (x y z a b c d e f : Int) (w : World) (ix : I64 x) (iy : I64 y) (iz : I64 z) :
    Calls Try.prog 5 #[.agg #[.int .i64 x, .int .i64 y, .int .i64 z], .agg #[.int .i64 a, .int .i64 b, .int .i64 c], .agg #[.int .i64 d, .int .i64 e, .int .i64 f]] w fun r w' => r = .returned (.bool true) ∧ Below w.heap.size w w' := by
  by_cases h : vnear x y z = true ∧ vnear a b c = true ∧ vnear d e f = true
  · exact law_VecVolume_yes x y z a b c d e f w h.1 h.2.1 h.2.2 ix iy iz
  · exact law_VecVolume_no x y z a b c d e f w h

end Go.Proofs.Ytegflpokeepndaa
