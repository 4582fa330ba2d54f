/- Contracts of package tri: the exported functions. -/
import Derived.Test.YtbmpmjdlaahekaaGreatWs22
set_option maxRecDepth 100000
set_option maxHeartbeats 8000000
set_option linter.unusedVariables false
set_option linter.unusedSimpArgs false
open Go.Proofs.Tryz
namespace Go.Proofs.YtbmpmjdlaahekaaGreat
section
open Go.RowKit Go.Proofs.Sky
theorem tri_Flat_0 (a1 a2 a3 b1 b2 b3 c1 c2 c3 : Int) (w : World) (h : ¬ (uprT (a1, a2, a3) (b1, b2, b3) (c1, c2, c3)).1 = 0) :
  Rt prog 180 #[.agg #[a1, a2, a3], .agg #[b1, b2, b3], .agg #[c1, c2, c3]] w (.bool false) := by
 have K := zh (fun w => tri_upright a1 a2 a3 b1 b2 b3 c1 c2 c3 w)
 generalize uprT (a1, a2, a3) (b1, b2, b3) (c1, c2, c3) = U at *
 obtain ⟨u1, u2, u3⟩ := U
 dsimp only at K h
 go_enter func180, ntmps180
 go_upto_region 1 with (fail)
 refine wst3 fun W1 ka kb kc B1 => ?_
 have lb : w.heap.size < w.heap.size + 1 := by omega
 have lc : w.heap.size + 1 < w.heap.size + 1 + 1 := by omega
 generalize w.heap.size + 1 + 1 = gc at *
 generalize w.heap.size + 1 = gb at *
 have c_a := bwc3 ka
 have cb := bwc3 kb
 have cc := bwc3 kc
 refine bws fun p1 => ?_
 go_wp2_with ((go_at_call 181; (with_reducible refine (z02 K.out _).mono ?_); rintro e w' ⟨rfl, q, rfl⟩))
 go_ret
 exact ⟨rfl, z00 B1 _⟩
theorem tri_Flat_1 (a1 a2 a3 b1 b2 b3 c1 c2 c3 : Int) (w : World) (h : (uprT (a1, a2, a3) (b1, b2, b3) (c1, c2, c3)).1 = 0 ∧ ¬ (uprT (a1, a2, a3) (b1, b2, b3) (c1, c2, c3)).2.1 = 0) :
  Rt prog 180 #[.agg #[a1, a2, a3], .agg #[b1, b2, b3], .agg #[c1, c2, c3]] w (.bool false) := by
 have K := zh (fun w => tri_upright a1 a2 a3 b1 b2 b3 c1 c2 c3 w)
 generalize uprT (a1, a2, a3) (b1, b2, b3) (c1, c2, c3) = U at *
 obtain ⟨u1, u2, u3⟩ := U
 dsimp only at K h
 obtain ⟨rfl, h⟩ := h
 go_enter func180, ntmps180
 go_upto_region 1 with (fail)
 refine wst3 fun W1 ka kb kc B1 => ?_
 have lb : w.heap.size < w.heap.size + 1 := by omega
 have lc : w.heap.size + 1 < w.heap.size + 1 + 1 := by omega
 generalize w.heap.size + 1 + 1 = gc at *
 generalize w.heap.size + 1 = gb at *
 have c_a := bwc3 ka
 have cb := bwc3 kb
 have cc := bwc3 kc
 refine bws fun p1 => ?_
 go_wp2_with ((go_at_call 181; (with_reducible refine (z02 K.out _).mono ?_); rintro e w' ⟨rfl, q, rfl⟩))
 go_ret
 exact ⟨rfl, z00 B1 _⟩
theorem tri_Flat_2 (a1 a2 a3 b1 b2 b3 c1 c2 c3 : Int) (w : World) (h : (uprT (a1, a2, a3) (b1, b2, b3) (c1, c2, c3)).1 = 0 ∧ (uprT (a1, a2, a3) (b1, b2, b3) (c1, c2, c3)).2.1 = 0 ∧ ¬ (uprT (a1, a2, a3) (b1, b2, b3) (c1, c2, c3)).2.2 = 0) :
  Rt prog 180 #[.agg #[a1, a2, a3], .agg #[b1, b2, b3], .agg #[c1, c2, c3]] w (.bool false) := by
 have K := zh (fun w => tri_upright a1 a2 a3 b1 b2 b3 c1 c2 c3 w)
 generalize uprT (a1, a2, a3) (b1, b2, b3) (c1, c2, c3) = U at *
 obtain ⟨u1, u2, u3⟩ := U
 dsimp only at K h
 obtain ⟨rfl, rfl, h⟩ := h
 go_enter func180, ntmps180
 go_upto_region 1 with (fail)
 refine wst3 fun W1 ka kb kc B1 => ?_
 have lb : w.heap.size < w.heap.size + 1 := by omega
 have lc : w.heap.size + 1 < w.heap.size + 1 + 1 := by omega
 generalize w.heap.size + 1 + 1 = gc at *
 generalize w.heap.size + 1 = gb at *
 have c_a := bwc3 ka
 have cb := bwc3 kb
 have cc := bwc3 kc
 refine bws fun p1 => ?_
 go_wp2_with ((go_at_call 181; (with_reducible refine (z02 K.out _).mono ?_); rintro e w' ⟨rfl, q, rfl⟩))
 go_ret
 exact ⟨rfl, z00 B1 _⟩
theorem tri_Flat_3 (a1 a2 a3 b1 b2 b3 c1 c2 c3 : Int) (w : World) (h : (uprT (a1, a2, a3) (b1, b2, b3) (c1, c2, c3)).1 = 0 ∧ (uprT (a1, a2, a3) (b1, b2, b3) (c1, c2, c3)).2.1 = 0 ∧ (uprT (a1, a2, a3) (b1, b2, b3) (c1, c2, c3)).2.2 = 0) :
  Rt prog 180 #[.agg #[a1, a2, a3], .agg #[b1, b2, b3], .agg #[c1, c2, c3]] w (.bool true) := by
 have K := zh (fun w => tri_upright a1 a2 a3 b1 b2 b3 c1 c2 c3 w)
 generalize uprT (a1, a2, a3) (b1, b2, b3) (c1, c2, c3) = U at *
 obtain ⟨u1, u2, u3⟩ := U
 dsimp only at K h
 obtain ⟨rfl, rfl, rfl⟩ := h
 go_enter func180, ntmps180
 go_upto_region 1 with (fail)
 refine wst3 fun W1 ka kb kc B1 => ?_
 have lb : w.heap.size < w.heap.size + 1 := by omega
 have lc : w.heap.size + 1 < w.heap.size + 1 + 1 := by omega
 generalize w.heap.size + 1 + 1 = gc at *
 generalize w.heap.size + 1 = gb at *
 have c_a := bwc3 ka
 have cb := bwc3 kb
 have cc := bwc3 kc
 refine bws fun p1 => ?_
 go_wp2_with ((go_at_call 181; (with_reducible refine (z02 K.out _).mono ?_); rintro e w' ⟨rfl, q, rfl⟩))
 go_ret
 exact ⟨rfl, z00 B1 _⟩
theorem tri_Flat (a1 a2 a3 b1 b2 b3 c1 c2 c3 : Int) (w : World) (ha : I3 (a1, a2, a3)) (hb : I3 (b1, b2, b3)) (hc : I3 (c1, c2, c3)) :
  Rt prog 180 #[.agg #[a1, a2, a3], .agg #[b1, b2, b3], .agg #[c1, c2, c3]] w (.bool (tFlat (a1, a2, a3) (b1, b2, b3) (c1, c2, c3))) := by
 rw [flat_upr]
 unfold isZ
 by_cases e1 : (uprT (a1, a2, a3) (b1, b2, b3) (c1, c2, c3)).1 = 0
 · by_cases e2 : (uprT (a1, a2, a3) (b1, b2, b3) (c1, c2, c3)).2.1 = 0
   · by_cases e3 : (uprT (a1, a2, a3) (b1, b2, b3) (c1, c2, c3)).2.2 = 0
     · rw [zt ⟨e1, e2, e3⟩]; exact tri_Flat_3 a1 a2 a3 b1 b2 b3 c1 c2 c3 w ⟨e1, e2, e3⟩
     · rw [zf (fun e => e3 e.2.2)]; exact tri_Flat_2 a1 a2 a3 b1 b2 b3 c1 c2 c3 w ⟨e1, e2, e3⟩
   · rw [zf (fun e => e2 e.2.1)]; exact tri_Flat_1 a1 a2 a3 b1 b2 b3 c1 c2 c3 w ⟨e1, e2⟩
 · rw [zf (fun e => e1 e.1)]; exact tri_Flat_0 a1 a2 a3 b1 b2 b3 c1 c2 c3 w e1
theorem tri_Hit_no (a1 a2 a3 b1 b2 b3 c1 c2 c3 o1 o2 o3 d1 d2 d3 fr : Int) (w : World) (hp : (pl3 (a1, a2, a3) (b1, b2, b3) (c1, c2, c3) && plc (o1, o2, o3)) = false) :
  Rt prog 129 #[.agg #[a1, a2, a3], .agg #[b1, b2, b3], .agg #[c1, c2, c3], .agg #[o1, o2, o3, d1, d2, d3, fr]] w (.tuple #[.agg #[.int .i64 0, .int .i64 0], .bool false]) := by
 go_enter func129, ntmps129
 go_upto_region 1 with (fail)
 refine wst5 fun W1 ka kb kc ky k_r B1 => ?_
 have lb : w.heap.size < w.heap.size + 1 := by omega
 have lc : w.heap.size + 1 < w.heap.size + 1 + 1 := by omega
 have ly : w.heap.size + 1 + 1 < w.heap.size + 1 + 1 + 1 := by omega
 have lr : w.heap.size + 1 + 1 + 1 < w.heap.size + 1 + 1 + 1 + 1 := by omega
 generalize w.heap.size + 1 + 1 + 1 + 1 = gr at *
 generalize w.heap.size + 1 + 1 + 1 = gy at *
 generalize w.heap.size + 1 + 1 = gc at *
 generalize w.heap.size + 1 = gb at *
 have c_a := bwc3 ka
 have cb := bwc3 kb
 have cc := bwc3 kc
 have cy := bwc7 ky
 have cr := bwc2 k_r
 have f_r := bwf2 k_r
 refine bws fun p1 => ?_
 have KC : ∀ p : BW W1, Calls prog 141 #[.slice (some ⟨p.w.heap.size, 0, none⟩) 4 4] (p.w.alloc (.cells #[a1, a2, a3, b1, b2, b3, c1, c2, c3, o1, o2, o3] 24)) fun e w' => e = .returned (.bool false) ∧ ∃ q : BW W1, w' = q.w := fun p =>
  (tri_places4 4 a1 a2 a3 b1 b2 b3 c1 c2 c3 o1 o2 o3 W1 p.w _ rfl p.h).mono fun e w' h => ⟨by rw [hp] at h; exact h.1, ⟨w', h.2⟩, rfl⟩
 clear hp
 go_wp2_with (go_at_call 141; (with_reducible refine (KC _).mono ?_); rintro e w' ⟨rfl, q, rfl⟩)
 have kr := bkp2 (k_r.below q.h) (.int .i64 0) (.int .i64 0)
 have rc := rwc2 kr
 exact bodyPost_ret (v := .tuple #[.agg #[.int .i64 0, .int .i64 0], .bool false]) (by simp [results, results129, go_sem, rc]) rfl ⟨rfl, blp2 (z00 B1 q) (by omega)⟩
theorem tri_Hit_nok (a1 a2 a3 b1 b2 b3 c1 c2 c3 o1 o2 o3 d1 d2 d3 fr : Int) (w : World) (hp : (pl3 (a1, a2, a3) (b1, b2, b3) (c1, c2, c3) && plc (o1, o2, o3)) = true) (hk : fmakeOk (vvol (b1 - a1) (b2 - a2) (b3 - a3) (c1 - a1) (c2 - a2) (c3 - a3) (a1 - o1) (a2 - o2) (a3 - o3)) (vvol (b1 - a1) (b2 - a2) (b3 - a3) (c1 - a1) (c2 - a2) (c3 - a3) d1 d2 d3) = false) :
  Rt prog 129 #[.agg #[a1, a2, a3], .agg #[b1, b2, b3], .agg #[c1, c2, c3], .agg #[o1, o2, o3, d1, d2, d3, fr]] w (.tuple #[.agg #[.int .i64 0, .int .i64 0], .bool false]) := by
 obtain ⟨h0, h4⟩ := Bool.and_eq_true_iff.1 hp
 obtain ⟨h1, h2, h3⟩ := pl3_iff.1 h0
 have q1 := z0a.1 h1
 dsimp only at q1
 have q2 := z0a.1 h2
 dsimp only at q2
 have q3 := z0a.1 h3
 dsimp only at q3
 have q4 := z0a.1 h4
 dsimp only at q4
 have vb := @vvol_61
 have i1 := vb (b1 - a1) (b2 - a2) (b3 - a3) (c1 - a1) (c2 - a2) (c3 - a3) (a1 - o1) (a2 - o2) (a3 - o3)
 have i2 := vb (b1 - a1) (b2 - a2) (b3 - a3) (c1 - a1) (c2 - a2) (c3 - a3) d1 d2 d3
 have KM := zh (fun w => frac_Make (vvol (b1 - a1) (b2 - a2) (b3 - a3) (c1 - a1) (c2 - a2) (c3 - a3) (a1 - o1) (a2 - o2) (a3 - o3)) (vvol (b1 - a1) (b2 - a2) (b3 - a3) (c1 - a1) (c2 - a2) (c3 - a3) d1 d2 d3) w (by unfold I64; omega) (by unfold I64; omega))
 rw [hk] at KM
 clear vb i1 i2
 have KU := zh (fun w => z0u b1 b2 b3 a1 a2 a3 w (by unfold I64; omega) (by unfold I64; omega) (by unfold I64; omega) (by unfold I64; omega) (by unfold I64; omega) (by unfold I64; omega))
 rw [z05 (x := b1) (a := a1) (by omega) (by omega), z05 (x := b2) (a := a2) (by omega) (by omega), z05 (x := b3) (a := a3) (by omega) (by omega)] at KU
 obtain ⟨u1, hu1⟩ := nmd (b1 - a1)
 obtain ⟨u2, hu2⟩ := nmd (b2 - a2)
 obtain ⟨u3, hu3⟩ := nmd (b3 - a3)
 rw [← hu1, ← hu2, ← hu3] at KU
 have KV := zh (fun w => z0u c1 c2 c3 a1 a2 a3 w (by unfold I64; omega) (by unfold I64; omega) (by unfold I64; omega) (by unfold I64; omega) (by unfold I64; omega) (by unfold I64; omega))
 rw [z05 (x := c1) (a := a1) (by omega) (by omega), z05 (x := c2) (a := a2) (by omega) (by omega), z05 (x := c3) (a := a3) (by omega) (by omega)] at KV
 obtain ⟨v1, hv1⟩ := nmd (c1 - a1)
 obtain ⟨v2, hv2⟩ := nmd (c2 - a2)
 obtain ⟨v3, hv3⟩ := nmd (c3 - a3)
 rw [← hv1, ← hv2, ← hv3] at KV
 have KT := zh (fun w => z0u a1 a2 a3 o1 o2 o3 w (by unfold I64; omega) (by unfold I64; omega) (by unfold I64; omega) (by unfold I64; omega) (by unfold I64; omega) (by unfold I64; omega))
 rw [z05 (x := a1) (a := o1) (by omega) (by omega), z05 (x := a2) (a := o2) (by omega) (by omega), z05 (x := a3) (a := o3) (by omega) (by omega)] at KT
 obtain ⟨t1, ht1⟩ := nmd (a1 - o1)
 obtain ⟨t2, ht2⟩ := nmd (a2 - o2)
 obtain ⟨t3, ht3⟩ := nmd (a3 - o3)
 rw [← ht1, ← ht2, ← ht3] at KT
 rw [← hu1, ← hu2, ← hu3, ← hv1, ← hv2, ← hv3, ← ht1, ← ht2, ← ht3] at KM hk
 have KN := zh (fun w => z18 u1 u2 u3 v1 v2 v3 t1 t2 t3 w)
 have KD := zh (fun w => z18 u1 u2 u3 v1 v2 v3 d1 d2 d3 w)
 generalize vvol u1 u2 u3 v1 v2 v3 t1 t2 t3 = num at *
 generalize vvol u1 u2 u3 v1 v2 v3 d1 d2 d3 = den at *
 generalize fmake num den = X at *
 obtain ⟨f1, f2⟩ := X
 dsimp only at KM
 clear hk h0 h1 h2 h3 h4 q1 q2 q3 q4 hu1 hu2 hu3 hv1 hv2 hv3 ht1 ht2 ht3
 go_enter func129, ntmps129
 go_upto_region 1 with (fail)
 obtain ⟨W1, hW1⟩ : ∃ W, W = ((((w.alloc (.cells #[a1, a2, a3] 24)).alloc (.cells #[b1, b2, b3] 24)).alloc (.cells #[c1, c2, c3] 24)).alloc (.cells #[o1, o2, o3, d1, d2, d3, fr] 26)).alloc (.cells #[.int .i64 0, .int .i64 0] 28) := ⟨_, rfl⟩
 obtain ⟨ka, kb, kc, ky, k_r, B1⟩ := st5 hW1
 rw [← hW1]
 clear hW1
 have lb : w.heap.size < w.heap.size + 1 := by omega
 have lc : w.heap.size + 1 < w.heap.size + 1 + 1 := by omega
 have ly : w.heap.size + 1 + 1 < w.heap.size + 1 + 1 + 1 := by omega
 have lr : w.heap.size + 1 + 1 + 1 < w.heap.size + 1 + 1 + 1 + 1 := by omega
 generalize w.heap.size + 1 + 1 + 1 + 1 = gr at *
 generalize w.heap.size + 1 + 1 + 1 = gy at *
 generalize w.heap.size + 1 + 1 = gc at *
 generalize w.heap.size + 1 = gb at *
 have c_a := bwc3 ka
 have cb := bwc3 kb
 have cc := bwc3 kc
 have cy := bwc7 ky
 have cr := bwc2 k_r
 have f_r := bwf2 k_r
 obtain ⟨p1, hp1⟩ := bwx W1
 rw [← hp1]
 clear hp1
 have KC : ∀ p : BW W1, Calls prog 141 #[.slice (some ⟨p.w.heap.size, 0, none⟩) 4 4] (p.w.alloc (.cells #[a1, a2, a3, b1, b2, b3, c1, c2, c3, o1, o2, o3] 24)) fun e w' => e = .returned (.bool true) ∧ ∃ q : BW W1, w' = q.w := fun p =>
  (tri_places4 4 a1 a2 a3 b1 b2 b3 c1 c2 c3 o1 o2 o3 W1 p.w _ rfl p.h).mono fun e w' h => ⟨by rw [hp] at h; exact h.1, ⟨w', h.2⟩, rfl⟩
 clear hp
 go_upto_region 3 with (go_at_call 141; (with_reducible refine (KC _).mono ?_); rintro e w' ⟨rfl, q, rfl⟩)
 clear KC
 refine z1k 13 72 [⟨10, 10, 24, #[.int .i64 0, .int .i64 0, .int .i64 0]⟩, ⟨11, 11, 24, #[.int .i64 0, .int .i64 0, .int .i64 0]⟩, ⟨12, 12, 24, #[.int .i64 0, .int .i64 0, .int .i64 0]⟩] (by kernel_rfl) (by kernel_rfl) (by kernel_rfl) (by kernel_rfl) (by kernel_rfl) (by decide) (by kernel_rfl) ?_ ?_
 · exact ⟨⟨_, rfl, fun ev wx => by simp [execOp, go_sem]⟩, ⟨_, rfl, fun ev wx => by simp [execOp, go_sem]⟩, ⟨_, rfl, fun ev wx => by simp [execOp, go_sem]⟩, trivial⟩
 apply Exists.intro
 refine ⟨?_, ?_⟩
 · intro wb' hwb'
   obtain ⟨da0, da1, da2⟩ := bwc3 (ka.below hwb')
   obtain ⟨db0, db1, db2⟩ := bwc3 (kb.below hwb')
   obtain ⟨dc0, dc1, dc2⟩ := bwc3 (kc.below hwb')
   obtain ⟨dy0, dy1, dy2, dy3, dy4, dy5, dy6⟩ := bwc7 (ky.below hwb')
   obtain ⟨dr0, dr1⟩ := bwc2 (k_r.below hwb')
   simp only [List.map_cons, List.map_nil, maskL, List.foldr_cons, List.foldr_nil, maskAt, List.take_succ_cons, List.take_zero]
   repeat (go_big_quiet_step ((go_at_call 46; (first | (with_reducible exact z02 KU.out _) | (with_reducible exact z02 KV.out _) | (with_reducible exact z02 KT.out _)))))
   refine wpQuiet_nil ?_
   exact rfl
 intro W2 st hW hst hne
 obtain ⟨gu, e_u, hg_u, ku⟩ := hst 0 _ rfl
 obtain ⟨gv, e_v, hg_v, kv⟩ := hst 1 _ rfl
 obtain ⟨gt, e_t, hg_t, kt⟩ := hst 2 _ rfl
 have n_u_v : gu ≠ gv := fun e => hne 0 1 _ (by simp) (by simp) (by omega) e_u (by rw [e]; exact e_v)
 have n_u_t : gu ≠ gt := fun e => hne 0 2 _ (by simp) (by simp) (by omega) e_u (by rw [e]; exact e_t)
 have n_v_t : gv ≠ gt := fun e => hne 1 2 _ (by simp) (by simp) (by omega) e_v (by rw [e]; exact e_t)
 have B2 : Below w.heap.size w W2 := B1.trans (hW.mono B1.size)
 have lu : gr < gu := zl k_r.lt hg_u
 have lv : gr < gv := zl k_r.lt hg_v
 have l_t : gr < gt := zl k_r.lt hg_t
 have ka := ka.below hW
 have kb := kb.below hW
 have kc := kc.below hW
 have ky := ky.below hW
 have k_r := k_r.below hW
 simp only [List.drop_succ_cons, List.drop_zero, putAll, Nat.zero_add, Nat.reduceAdd, e_u, e_v, e_t, putO, Act.put, List.setIfInBounds_toArray, List.set_cons_zero, List.set_cons_succ]
 clear hW hst hne B1 hg_u e_u hg_v e_v hg_t e_t
 clear c_a cb cc cy cr f_r
 have c_a := bwc3 ka
 have cb := bwc3 kb
 have cc := bwc3 kc
 have cy := bwc7 ky
 have cr := bwc2 k_r
 have cu := bwc3 ku
 have fu := bwf3 ku
 have cv := bwc3 kv
 have fv := bwf3 kv
 have ct := bwc3 kt
 have ft := bwf3 kt
 obtain ⟨p2, hp2⟩ := bwx W2
 rw [← hp2]
 clear hp2
 go_upto_region 4 with (fail)
 obtain ⟨W3, hW3⟩ : ∃ W, W = ((p2.w.setCell ⟨gu, 0, none⟩ (.int .i64 u1)).setCell ⟨gu, 1, none⟩ (.int .i64 u2)).setCell ⟨gu, 2, none⟩ (.int .i64 u3) := ⟨_, rfl⟩
 have B3 : Below w.heap.size w W3 := by rw [hW3]; exact blp3 (z00 B2 p2) (by omega)
 have ka := bkoe3 hW3 (ka.below p2.h) (by omega)
 have kb := bkoe3 hW3 (kb.below p2.h) (by omega)
 have kc := bkoe3 hW3 (kc.below p2.h) (by omega)
 have ky := bkoe3 hW3 (ky.below p2.h) (by omega)
 have k_r := bkoe3 hW3 (k_r.below p2.h) (by omega)
 have ku := bkpe3 hW3 (ku.below p2.h)
 have kv := bkoe3 hW3 (kv.below p2.h) (by omega)
 have kt := bkoe3 hW3 (kt.below p2.h) (by omega)
 rw [← hW3]
 clear hW3
 clear B2
 clear c_a cb cc cy cr cu fu cv fv ct ft
 have c_a := bwc3 ka
 have cb := bwc3 kb
 have cc := bwc3 kc
 have cy := bwc7 ky
 have cr := bwc2 k_r
 have cu := bwc3 ku
 have fu := bwf3 ku
 have cv := bwc3 kv
 have fv := bwf3 kv
 have ct := bwc3 kt
 have ft := bwf3 kt
 obtain ⟨p3, hp3⟩ := bwx W3
 rw [← hp3]
 clear hp3
 obtain ⟨W4, hW4⟩ : ∃ W, W = ((p3.w.setCell ⟨gv, 0, none⟩ (.int .i64 v1)).setCell ⟨gv, 1, none⟩ (.int .i64 v2)).setCell ⟨gv, 2, none⟩ (.int .i64 v3) := ⟨_, rfl⟩
 have B4 : Below w.heap.size w W4 := by rw [hW4]; exact blp3 (z00 B3 p3) (by omega)
 have ka := bkoe3 hW4 (ka.below p3.h) (by omega)
 have kb := bkoe3 hW4 (kb.below p3.h) (by omega)
 have kc := bkoe3 hW4 (kc.below p3.h) (by omega)
 have ky := bkoe3 hW4 (ky.below p3.h) (by omega)
 have k_r := bkoe3 hW4 (k_r.below p3.h) (by omega)
 have ku := bkoe3 hW4 (ku.below p3.h) (by omega)
 have kv := bkpe3 hW4 (kv.below p3.h)
 have kt := bkoe3 hW4 (kt.below p3.h) (by omega)
 rw [← hW4]
 clear hW4
 clear B3
 clear c_a cb cc cy cr cu fu cv fv ct ft
 have c_a := bwc3 ka
 have cb := bwc3 kb
 have cc := bwc3 kc
 have cy := bwc7 ky
 have cr := bwc2 k_r
 have cu := bwc3 ku
 have fu := bwf3 ku
 have cv := bwc3 kv
 have fv := bwf3 kv
 have ct := bwc3 kt
 have ft := bwf3 kt
 obtain ⟨p4, hp4⟩ := bwx W4
 rw [← hp4]
 clear hp4
 obtain ⟨W5, hW5⟩ : ∃ W, W = ((p4.w.setCell ⟨gt, 0, none⟩ (.int .i64 t1)).setCell ⟨gt, 1, none⟩ (.int .i64 t2)).setCell ⟨gt, 2, none⟩ (.int .i64 t3) := ⟨_, rfl⟩
 have B5 : Below w.heap.size w W5 := by rw [hW5]; exact blp3 (z00 B4 p4) (by omega)
 have ka := bkoe3 hW5 (ka.below p4.h) (by omega)
 have kb := bkoe3 hW5 (kb.below p4.h) (by omega)
 have kc := bkoe3 hW5 (kc.below p4.h) (by omega)
 have ky := bkoe3 hW5 (ky.below p4.h) (by omega)
 have k_r := bkoe3 hW5 (k_r.below p4.h) (by omega)
 have ku := bkoe3 hW5 (ku.below p4.h) (by omega)
 have kv := bkoe3 hW5 (kv.below p4.h) (by omega)
 have kt := bkpe3 hW5 (kt.below p4.h)
 rw [← hW5]
 clear hW5
 clear B4
 clear c_a cb cc cy cr cu fu cv fv ct ft
 have c_a := bwc3 ka
 have cb := bwc3 kb
 have cc := bwc3 kc
 have cy := bwc7 ky
 have cr := bwc2 k_r
 have cu := bwc3 ku
 have cv := bwc3 kv
 have ct := bwc3 kt
 obtain ⟨p5, hp5⟩ := bwx W5
 rw [← hp5]
 clear hp5
 refine z1c 12 14 46 (by kernel_rfl) (by kernel_rfl) rfl rfl rfl (fun _ _ _ _ h => h) ?_
 refine z0w (t := 28) (zs := #[.int .i64 0, .int .i64 0]) 14 13 13 72 (by kernel_rfl) (by kernel_rfl) (by kernel_rfl) (by kernel_rfl) rfl ?_ ?_
 · intro ev wx
   simp [execOp, go_sem]
 apply Exists.intro
 refine ⟨?_, ?_⟩
 · intro wb' hwb'
   obtain ⟨da0, da1, da2⟩ := bwc3 (ka.below hwb')
   obtain ⟨db0, db1, db2⟩ := bwc3 (kb.below hwb')
   obtain ⟨dc0, dc1, dc2⟩ := bwc3 (kc.below hwb')
   obtain ⟨dy0, dy1, dy2, dy3, dy4, dy5, dy6⟩ := bwc7 (ky.below hwb')
   obtain ⟨dr0, dr1⟩ := bwc2 (k_r.below hwb')
   obtain ⟨du0, du1, du2⟩ := bwc3 (ku.below hwb')
   obtain ⟨dv0, dv1, dv2⟩ := bwc3 (kv.below hwb')
   obtain ⟨dt0, dt1, dt2⟩ := bwc3 (kt.below hwb')
   simp only [edgeAt, maskAt, List.take_succ_cons, List.take_zero]
   repeat (go_big_quiet_step (first
    | (go_at_call 142; (first | (with_reducible exact z02 KN.out _) | (with_reducible exact z02 KD.out _)))
    | (go_at_call 125; (with_reducible exact z02 KM.out _))))
   refine wpQuiet_nil ?_
   exact rfl
 intro W6 gf hW hg kf
 have B6 : Below w.heap.size w W6 := B5.trans (hW.mono B5.size)
 have of : w.heap.size ≤ gf := Nat.le_trans B5.size hg
 have lf : gt < gf := zl kt.lt hg
 have lfu : gu < gf := zl ku.lt hg
 have lfv : gv < gf := zl kv.lt hg
 have ka := ka.below hW
 have kb := kb.below hW
 have kc := kc.below hW
 have ky := ky.below hW
 have k_r := k_r.below hW
 have ku := ku.below hW
 have kv := kv.below hW
 have kt := kt.below hW
 clear hW hg B5
 clear c_a cb cc cy cr cu cv ct
 simp only [edgeAt, List.drop_succ_cons, List.drop_zero, Act.put, List.setIfInBounds_toArray, List.set_cons_zero, List.set_cons_succ]
 have c_a := bwc3 ka
 have cb := bwc3 kb
 have cc := bwc3 kc
 have cy := bwc7 ky
 have cr := bwc2 k_r
 have cu := bwc3 ku
 have cv := bwc3 kv
 have ct := bwc3 kt
 have cf := bwc2 kf
 have ff := bwf2 kf
 obtain ⟨p6, hp6⟩ := bwx W6
 rw [← hp6]
 clear hp6
 go_upto_region 5 with (fail)
 obtain ⟨W7, hW7⟩ : ∃ W, W = (p6.w.setCell ⟨gf, 0, none⟩ (.int .i64 f1)).setCell ⟨gf, 1, none⟩ (.int .i64 f2) := ⟨_, rfl⟩
 have B7 : Below w.heap.size w W7 := by rw [hW7]; exact blp2 (z00 B6 p6) (by omega)
 have ka := bkoe2 hW7 (ka.below p6.h) (by omega)
 have kb := bkoe2 hW7 (kb.below p6.h) (by omega)
 have kc := bkoe2 hW7 (kc.below p6.h) (by omega)
 have ky := bkoe2 hW7 (ky.below p6.h) (by omega)
 have k_r := bkoe2 hW7 (k_r.below p6.h) (by omega)
 have ku := bkoe2 hW7 (ku.below p6.h) (by omega)
 have kv := bkoe2 hW7 (kv.below p6.h) (by omega)
 have kt := bkoe2 hW7 (kt.below p6.h) (by omega)
 have kf := bkpe2 hW7 (kf.below p6.h)
 rw [← hW7]
 clear hW7
 clear B6
 clear c_a cb cc cy cr cu cv ct cf ff
 have c_a := bwc3 ka
 have cb := bwc3 kb
 have cc := bwc3 kc
 have cy := bwc7 ky
 have cr := bwc2 k_r
 have f_r := bwf2 k_r
 have cu := bwc3 ku
 have cv := bwc3 kv
 have ct := bwc3 kt
 have cf := bwc2 kf
 obtain ⟨p7, hp7⟩ := bwx W7
 rw [← hp7]
 clear hp7
 refine z03 (by kernel_rfl) (by kernel_rfl) ?_
 repeat (go_big_quiet_step (fail))
 refine wpQuiet_nil ?_
 intro _ hw'
 obtain ⟨q, rfl⟩ := hw'
 go_wp2
 have kr := bkp2 (k_r.below q.h) (.int .i64 0) (.int .i64 0)
 have rc := rwc2 kr
 exact bodyPost_ret (v := .tuple #[.agg #[.int .i64 0, .int .i64 0], .bool false]) (by simp [results, results129, go_sem, rc]) rfl ⟨rfl, blp2 (z00 B7 q) (by omega)⟩
theorem tri_Hit_neg (a1 a2 a3 b1 b2 b3 c1 c2 c3 o1 o2 o3 d1 d2 d3 fr : Int) (w : World) (hp : (pl3 (a1, a2, a3) (b1, b2, b3) (c1, c2, c3) && plc (o1, o2, o3)) = true) (hk : fmakeOk (vvol (b1 - a1) (b2 - a2) (b3 - a3) (c1 - a1) (c2 - a2) (c3 - a3) (a1 - o1) (a2 - o2) (a3 - o3)) (vvol (b1 - a1) (b2 - a2) (b3 - a3) (c1 - a1) (c2 - a2) (c3 - a3) d1 d2 d3) = true) (hg : decide ((fmake (vvol (b1 - a1) (b2 - a2) (b3 - a3) (c1 - a1) (c2 - a2) (c3 - a3) (a1 - o1) (a2 - o2) (a3 - o3)) (vvol (b1 - a1) (b2 - a2) (b3 - a3) (c1 - a1) (c2 - a2) (c3 - a3) d1 d2 d3)).1 ≤ 0) = true) :
  Rt prog 129 #[.agg #[a1, a2, a3], .agg #[b1, b2, b3], .agg #[c1, c2, c3], .agg #[o1, o2, o3, d1, d2, d3, fr]] w (.tuple #[.agg #[.int .i64 0, .int .i64 0], .bool false]) := by
 obtain ⟨h0, h4⟩ := Bool.and_eq_true_iff.1 hp
 obtain ⟨h1, h2, h3⟩ := pl3_iff.1 h0
 have q1 := z0a.1 h1
 dsimp only at q1
 have q2 := z0a.1 h2
 dsimp only at q2
 have q3 := z0a.1 h3
 dsimp only at q3
 have q4 := z0a.1 h4
 dsimp only at q4
 have vb := @vvol_61
 have i1 := vb (b1 - a1) (b2 - a2) (b3 - a3) (c1 - a1) (c2 - a2) (c3 - a3) (a1 - o1) (a2 - o2) (a3 - o3)
 have i2 := vb (b1 - a1) (b2 - a2) (b3 - a3) (c1 - a1) (c2 - a2) (c3 - a3) d1 d2 d3
 have KM := zh (fun w => frac_Make (vvol (b1 - a1) (b2 - a2) (b3 - a3) (c1 - a1) (c2 - a2) (c3 - a3) (a1 - o1) (a2 - o2) (a3 - o3)) (vvol (b1 - a1) (b2 - a2) (b3 - a3) (c1 - a1) (c2 - a2) (c3 - a3) d1 d2 d3) w (by unfold I64; omega) (by unfold I64; omega))
 rw [hk] at KM
 clear vb i1 i2
 have KU := zh (fun w => z0u b1 b2 b3 a1 a2 a3 w (by unfold I64; omega) (by unfold I64; omega) (by unfold I64; omega) (by unfold I64; omega) (by unfold I64; omega) (by unfold I64; omega))
 rw [z05 (x := b1) (a := a1) (by omega) (by omega), z05 (x := b2) (a := a2) (by omega) (by omega), z05 (x := b3) (a := a3) (by omega) (by omega)] at KU
 obtain ⟨u1, hu1⟩ := nmd (b1 - a1)
 obtain ⟨u2, hu2⟩ := nmd (b2 - a2)
 obtain ⟨u3, hu3⟩ := nmd (b3 - a3)
 rw [← hu1, ← hu2, ← hu3] at KU
 have KV := zh (fun w => z0u c1 c2 c3 a1 a2 a3 w (by unfold I64; omega) (by unfold I64; omega) (by unfold I64; omega) (by unfold I64; omega) (by unfold I64; omega) (by unfold I64; omega))
 rw [z05 (x := c1) (a := a1) (by omega) (by omega), z05 (x := c2) (a := a2) (by omega) (by omega), z05 (x := c3) (a := a3) (by omega) (by omega)] at KV
 obtain ⟨v1, hv1⟩ := nmd (c1 - a1)
 obtain ⟨v2, hv2⟩ := nmd (c2 - a2)
 obtain ⟨v3, hv3⟩ := nmd (c3 - a3)
 rw [← hv1, ← hv2, ← hv3] at KV
 have KT := zh (fun w => z0u a1 a2 a3 o1 o2 o3 w (by unfold I64; omega) (by unfold I64; omega) (by unfold I64; omega) (by unfold I64; omega) (by unfold I64; omega) (by unfold I64; omega))
 rw [z05 (x := a1) (a := o1) (by omega) (by omega), z05 (x := a2) (a := o2) (by omega) (by omega), z05 (x := a3) (a := o3) (by omega) (by omega)] at KT
 obtain ⟨t1, ht1⟩ := nmd (a1 - o1)
 obtain ⟨t2, ht2⟩ := nmd (a2 - o2)
 obtain ⟨t3, ht3⟩ := nmd (a3 - o3)
 rw [← ht1, ← ht2, ← ht3] at KT
 rw [← hu1, ← hu2, ← hu3, ← hv1, ← hv2, ← hv3, ← ht1, ← ht2, ← ht3] at KM hk hg
 have KN := zh (fun w => z18 u1 u2 u3 v1 v2 v3 t1 t2 t3 w)
 have KD := zh (fun w => z18 u1 u2 u3 v1 v2 v3 d1 d2 d3 w)
 generalize vvol u1 u2 u3 v1 v2 v3 t1 t2 t3 = num at *
 generalize vvol u1 u2 u3 v1 v2 v3 d1 d2 d3 = den at *
 generalize fmake num den = X at *
 obtain ⟨f1, f2⟩ := X
 dsimp only at KM hg
 clear hk h0 h1 h2 h3 h4 q1 q2 q3 q4 hu1 hu2 hu3 hv1 hv2 hv3 ht1 ht2 ht3
 go_enter func129, ntmps129
 go_upto_region 1 with (fail)
 obtain ⟨W1, hW1⟩ : ∃ W, W = ((((w.alloc (.cells #[a1, a2, a3] 24)).alloc (.cells #[b1, b2, b3] 24)).alloc (.cells #[c1, c2, c3] 24)).alloc (.cells #[o1, o2, o3, d1, d2, d3, fr] 26)).alloc (.cells #[.int .i64 0, .int .i64 0] 28) := ⟨_, rfl⟩
 obtain ⟨ka, kb, kc, ky, k_r, B1⟩ := st5 hW1
 rw [← hW1]
 clear hW1
 have lb : w.heap.size < w.heap.size + 1 := by omega
 have lc : w.heap.size + 1 < w.heap.size + 1 + 1 := by omega
 have ly : w.heap.size + 1 + 1 < w.heap.size + 1 + 1 + 1 := by omega
 have lr : w.heap.size + 1 + 1 + 1 < w.heap.size + 1 + 1 + 1 + 1 := by omega
 generalize w.heap.size + 1 + 1 + 1 + 1 = gr at *
 generalize w.heap.size + 1 + 1 + 1 = gy at *
 generalize w.heap.size + 1 + 1 = gc at *
 generalize w.heap.size + 1 = gb at *
 have c_a := bwc3 ka
 have cb := bwc3 kb
 have cc := bwc3 kc
 have cy := bwc7 ky
 have cr := bwc2 k_r
 have f_r := bwf2 k_r
 obtain ⟨p1, hp1⟩ := bwx W1
 rw [← hp1]
 clear hp1
 have KC : ∀ p : BW W1, Calls prog 141 #[.slice (some ⟨p.w.heap.size, 0, none⟩) 4 4] (p.w.alloc (.cells #[a1, a2, a3, b1, b2, b3, c1, c2, c3, o1, o2, o3] 24)) fun e w' => e = .returned (.bool true) ∧ ∃ q : BW W1, w' = q.w := fun p =>
  (tri_places4 4 a1 a2 a3 b1 b2 b3 c1 c2 c3 o1 o2 o3 W1 p.w _ rfl p.h).mono fun e w' h => ⟨by rw [hp] at h; exact h.1, ⟨w', h.2⟩, rfl⟩
 clear hp
 go_upto_region 3 with (go_at_call 141; (with_reducible refine (KC _).mono ?_); rintro e w' ⟨rfl, q, rfl⟩)
 clear KC
 refine z1k 13 72 [⟨10, 10, 24, #[.int .i64 0, .int .i64 0, .int .i64 0]⟩, ⟨11, 11, 24, #[.int .i64 0, .int .i64 0, .int .i64 0]⟩, ⟨12, 12, 24, #[.int .i64 0, .int .i64 0, .int .i64 0]⟩] (by kernel_rfl) (by kernel_rfl) (by kernel_rfl) (by kernel_rfl) (by kernel_rfl) (by decide) (by kernel_rfl) ?_ ?_
 · exact ⟨⟨_, rfl, fun ev wx => by simp [execOp, go_sem]⟩, ⟨_, rfl, fun ev wx => by simp [execOp, go_sem]⟩, ⟨_, rfl, fun ev wx => by simp [execOp, go_sem]⟩, trivial⟩
 apply Exists.intro
 refine ⟨?_, ?_⟩
 · intro wb' hwb'
   obtain ⟨da0, da1, da2⟩ := bwc3 (ka.below hwb')
   obtain ⟨db0, db1, db2⟩ := bwc3 (kb.below hwb')
   obtain ⟨dc0, dc1, dc2⟩ := bwc3 (kc.below hwb')
   obtain ⟨dy0, dy1, dy2, dy3, dy4, dy5, dy6⟩ := bwc7 (ky.below hwb')
   obtain ⟨dr0, dr1⟩ := bwc2 (k_r.below hwb')
   simp only [List.map_cons, List.map_nil, maskL, List.foldr_cons, List.foldr_nil, maskAt, List.take_succ_cons, List.take_zero]
   repeat (go_big_quiet_step ((go_at_call 46; (first | (with_reducible exact z02 KU.out _) | (with_reducible exact z02 KV.out _) | (with_reducible exact z02 KT.out _)))))
   refine wpQuiet_nil ?_
   exact rfl
 intro W2 st hW hst hne
 obtain ⟨gu, e_u, hg_u, ku⟩ := hst 0 _ rfl
 obtain ⟨gv, e_v, hg_v, kv⟩ := hst 1 _ rfl
 obtain ⟨gt, e_t, hg_t, kt⟩ := hst 2 _ rfl
 have n_u_v : gu ≠ gv := fun e => hne 0 1 _ (by simp) (by simp) (by omega) e_u (by rw [e]; exact e_v)
 have n_u_t : gu ≠ gt := fun e => hne 0 2 _ (by simp) (by simp) (by omega) e_u (by rw [e]; exact e_t)
 have n_v_t : gv ≠ gt := fun e => hne 1 2 _ (by simp) (by simp) (by omega) e_v (by rw [e]; exact e_t)
 have B2 : Below w.heap.size w W2 := B1.trans (hW.mono B1.size)
 have lu : gr < gu := zl k_r.lt hg_u
 have lv : gr < gv := zl k_r.lt hg_v
 have l_t : gr < gt := zl k_r.lt hg_t
 have ka := ka.below hW
 have kb := kb.below hW
 have kc := kc.below hW
 have ky := ky.below hW
 have k_r := k_r.below hW
 simp only [List.drop_succ_cons, List.drop_zero, putAll, Nat.zero_add, Nat.reduceAdd, e_u, e_v, e_t, putO, Act.put, List.setIfInBounds_toArray, List.set_cons_zero, List.set_cons_succ]
 clear hW hst hne B1 hg_u e_u hg_v e_v hg_t e_t
 clear c_a cb cc cy cr f_r
 have c_a := bwc3 ka
 have cb := bwc3 kb
 have cc := bwc3 kc
 have cy := bwc7 ky
 have cr := bwc2 k_r
 have cu := bwc3 ku
 have fu := bwf3 ku
 have cv := bwc3 kv
 have fv := bwf3 kv
 have ct := bwc3 kt
 have ft := bwf3 kt
 obtain ⟨p2, hp2⟩ := bwx W2
 rw [← hp2]
 clear hp2
 go_upto_region 4 with (fail)
 obtain ⟨W3, hW3⟩ : ∃ W, W = ((p2.w.setCell ⟨gu, 0, none⟩ (.int .i64 u1)).setCell ⟨gu, 1, none⟩ (.int .i64 u2)).setCell ⟨gu, 2, none⟩ (.int .i64 u3) := ⟨_, rfl⟩
 have B3 : Below w.heap.size w W3 := by rw [hW3]; exact blp3 (z00 B2 p2) (by omega)
 have ka := bkoe3 hW3 (ka.below p2.h) (by omega)
 have kb := bkoe3 hW3 (kb.below p2.h) (by omega)
 have kc := bkoe3 hW3 (kc.below p2.h) (by omega)
 have ky := bkoe3 hW3 (ky.below p2.h) (by omega)
 have k_r := bkoe3 hW3 (k_r.below p2.h) (by omega)
 have ku := bkpe3 hW3 (ku.below p2.h)
 have kv := bkoe3 hW3 (kv.below p2.h) (by omega)
 have kt := bkoe3 hW3 (kt.below p2.h) (by omega)
 rw [← hW3]
 clear hW3
 clear B2
 clear c_a cb cc cy cr cu fu cv fv ct ft
 have c_a := bwc3 ka
 have cb := bwc3 kb
 have cc := bwc3 kc
 have cy := bwc7 ky
 have cr := bwc2 k_r
 have cu := bwc3 ku
 have fu := bwf3 ku
 have cv := bwc3 kv
 have fv := bwf3 kv
 have ct := bwc3 kt
 have ft := bwf3 kt
 obtain ⟨p3, hp3⟩ := bwx W3
 rw [← hp3]
 clear hp3
 obtain ⟨W4, hW4⟩ : ∃ W, W = ((p3.w.setCell ⟨gv, 0, none⟩ (.int .i64 v1)).setCell ⟨gv, 1, none⟩ (.int .i64 v2)).setCell ⟨gv, 2, none⟩ (.int .i64 v3) := ⟨_, rfl⟩
 have B4 : Below w.heap.size w W4 := by rw [hW4]; exact blp3 (z00 B3 p3) (by omega)
 have ka := bkoe3 hW4 (ka.below p3.h) (by omega)
 have kb := bkoe3 hW4 (kb.below p3.h) (by omega)
 have kc := bkoe3 hW4 (kc.below p3.h) (by omega)
 have ky := bkoe3 hW4 (ky.below p3.h) (by omega)
 have k_r := bkoe3 hW4 (k_r.below p3.h) (by omega)
 have ku := bkoe3 hW4 (ku.below p3.h) (by omega)
 have kv := bkpe3 hW4 (kv.below p3.h)
 have kt := bkoe3 hW4 (kt.below p3.h) (by omega)
 rw [← hW4]
 clear hW4
 clear B3
 clear c_a cb cc cy cr cu fu cv fv ct ft
 have c_a := bwc3 ka
 have cb := bwc3 kb
 have cc := bwc3 kc
 have cy := bwc7 ky
 have cr := bwc2 k_r
 have cu := bwc3 ku
 have fu := bwf3 ku
 have cv := bwc3 kv
 have fv := bwf3 kv
 have ct := bwc3 kt
 have ft := bwf3 kt
 obtain ⟨p4, hp4⟩ := bwx W4
 rw [← hp4]
 clear hp4
 obtain ⟨W5, hW5⟩ : ∃ W, W = ((p4.w.setCell ⟨gt, 0, none⟩ (.int .i64 t1)).setCell ⟨gt, 1, none⟩ (.int .i64 t2)).setCell ⟨gt, 2, none⟩ (.int .i64 t3) := ⟨_, rfl⟩
 have B5 : Below w.heap.size w W5 := by rw [hW5]; exact blp3 (z00 B4 p4) (by omega)
 have ka := bkoe3 hW5 (ka.below p4.h) (by omega)
 have kb := bkoe3 hW5 (kb.below p4.h) (by omega)
 have kc := bkoe3 hW5 (kc.below p4.h) (by omega)
 have ky := bkoe3 hW5 (ky.below p4.h) (by omega)
 have k_r := bkoe3 hW5 (k_r.below p4.h) (by omega)
 have ku := bkoe3 hW5 (ku.below p4.h) (by omega)
 have kv := bkoe3 hW5 (kv.below p4.h) (by omega)
 have kt := bkpe3 hW5 (kt.below p4.h)
 rw [← hW5]
 clear hW5
 clear B4
 clear c_a cb cc cy cr cu fu cv fv ct ft
 have c_a := bwc3 ka
 have cb := bwc3 kb
 have cc := bwc3 kc
 have cy := bwc7 ky
 have cr := bwc2 k_r
 have cu := bwc3 ku
 have cv := bwc3 kv
 have ct := bwc3 kt
 obtain ⟨p5, hp5⟩ := bwx W5
 rw [← hp5]
 clear hp5
 refine z1c 12 14 46 (by kernel_rfl) (by kernel_rfl) rfl rfl rfl (fun _ _ _ _ h => h) ?_
 refine z0w (t := 28) (zs := #[.int .i64 0, .int .i64 0]) 14 13 13 72 (by kernel_rfl) (by kernel_rfl) (by kernel_rfl) (by kernel_rfl) rfl ?_ ?_
 · intro ev wx
   simp [execOp, go_sem]
 apply Exists.intro
 refine ⟨?_, ?_⟩
 · intro wb' hwb'
   obtain ⟨da0, da1, da2⟩ := bwc3 (ka.below hwb')
   obtain ⟨db0, db1, db2⟩ := bwc3 (kb.below hwb')
   obtain ⟨dc0, dc1, dc2⟩ := bwc3 (kc.below hwb')
   obtain ⟨dy0, dy1, dy2, dy3, dy4, dy5, dy6⟩ := bwc7 (ky.below hwb')
   obtain ⟨dr0, dr1⟩ := bwc2 (k_r.below hwb')
   obtain ⟨du0, du1, du2⟩ := bwc3 (ku.below hwb')
   obtain ⟨dv0, dv1, dv2⟩ := bwc3 (kv.below hwb')
   obtain ⟨dt0, dt1, dt2⟩ := bwc3 (kt.below hwb')
   simp only [edgeAt, maskAt, List.take_succ_cons, List.take_zero]
   repeat (go_big_quiet_step (first
    | (go_at_call 142; (first | (with_reducible exact z02 KN.out _) | (with_reducible exact z02 KD.out _)))
    | (go_at_call 125; (with_reducible exact z02 KM.out _))))
   refine wpQuiet_nil ?_
   exact rfl
 intro W6 gf hW hg kf
 have B6 : Below w.heap.size w W6 := B5.trans (hW.mono B5.size)
 have of : w.heap.size ≤ gf := Nat.le_trans B5.size hg
 have lf : gt < gf := zl kt.lt hg
 have lfu : gu < gf := zl ku.lt hg
 have lfv : gv < gf := zl kv.lt hg
 have ka := ka.below hW
 have kb := kb.below hW
 have kc := kc.below hW
 have ky := ky.below hW
 have k_r := k_r.below hW
 have ku := ku.below hW
 have kv := kv.below hW
 have kt := kt.below hW
 clear hW hg B5
 clear c_a cb cc cy cr cu cv ct
 simp only [edgeAt, List.drop_succ_cons, List.drop_zero, Act.put, List.setIfInBounds_toArray, List.set_cons_zero, List.set_cons_succ]
 have c_a := bwc3 ka
 have cb := bwc3 kb
 have cc := bwc3 kc
 have cy := bwc7 ky
 have cr := bwc2 k_r
 have cu := bwc3 ku
 have cv := bwc3 kv
 have ct := bwc3 kt
 have cf := bwc2 kf
 have ff := bwf2 kf
 obtain ⟨p6, hp6⟩ := bwx W6
 rw [← hp6]
 clear hp6
 go_upto_region 5 with (fail)
 obtain ⟨W7, hW7⟩ : ∃ W, W = (p6.w.setCell ⟨gf, 0, none⟩ (.int .i64 f1)).setCell ⟨gf, 1, none⟩ (.int .i64 f2) := ⟨_, rfl⟩
 have B7 : Below w.heap.size w W7 := by rw [hW7]; exact blp2 (z00 B6 p6) (by omega)
 have ka := bkoe2 hW7 (ka.below p6.h) (by omega)
 have kb := bkoe2 hW7 (kb.below p6.h) (by omega)
 have kc := bkoe2 hW7 (kc.below p6.h) (by omega)
 have ky := bkoe2 hW7 (ky.below p6.h) (by omega)
 have k_r := bkoe2 hW7 (k_r.below p6.h) (by omega)
 have ku := bkoe2 hW7 (ku.below p6.h) (by omega)
 have kv := bkoe2 hW7 (kv.below p6.h) (by omega)
 have kt := bkoe2 hW7 (kt.below p6.h) (by omega)
 have kf := bkpe2 hW7 (kf.below p6.h)
 rw [← hW7]
 clear hW7
 clear B6
 clear c_a cb cc cy cr cu cv ct cf ff
 have c_a := bwc3 ka
 have cb := bwc3 kb
 have cc := bwc3 kc
 have cy := bwc7 ky
 have cr := bwc2 k_r
 have f_r := bwf2 k_r
 have cu := bwc3 ku
 have cv := bwc3 kv
 have ct := bwc3 kt
 have cf := bwc2 kf
 obtain ⟨p7, hp7⟩ := bwx W7
 rw [← hp7]
 clear hp7
 refine z03 (by kernel_rfl) (by kernel_rfl) ?_
 repeat (go_big_quiet_step (fail))
 refine wpQuiet_nil ?_
 intro _ hw'
 obtain ⟨q, rfl⟩ := hw'
 go_wp2
 have kr := bkp2 (k_r.below q.h) (.int .i64 0) (.int .i64 0)
 have rc := rwc2 kr
 exact bodyPost_ret (v := .tuple #[.agg #[.int .i64 0, .int .i64 0], .bool false]) (by simp [results, results129, go_sem, rc]) rfl ⟨rfl, blp2 (z00 B7 q) (by omega)⟩
theorem tri_Hit_out (a1 a2 a3 b1 b2 b3 c1 c2 c3 o1 o2 o3 d1 d2 d3 fr : Int) (w : World) (hp : (pl3 (a1, a2, a3) (b1, b2, b3) (c1, c2, c3) && plc (o1, o2, o3)) = true) (hk : fmakeOk (vvol (b1 - a1) (b2 - a2) (b3 - a3) (c1 - a1) (c2 - a2) (c3 - a3) (a1 - o1) (a2 - o2) (a3 - o3)) (vvol (b1 - a1) (b2 - a2) (b3 - a3) (c1 - a1) (c2 - a2) (c3 - a3) d1 d2 d3) = true) (hg : decide ((fmake (vvol (b1 - a1) (b2 - a2) (b3 - a3) (c1 - a1) (c2 - a2) (c3 - a3) (a1 - o1) (a2 - o2) (a3 - o3)) (vvol (b1 - a1) (b2 - a2) (b3 - a3) (c1 - a1) (c2 - a2) (c3 - a3) d1 d2 d3)).1 ≤ 0) = false) (hs : srd (vvol d1 d2 d3 (a1 - o1) (a2 - o2) (a3 - o3) (b1 - o1) (b2 - o2) (b3 - o3)) (vvol d1 d2 d3 (b1 - o1) (b2 - o2) (b3 - o3) (c1 - o1) (c2 - o2) (c3 - o3)) (vvol d1 d2 d3 (c1 - o1) (c2 - o2) (c3 - o3) (a1 - o1) (a2 - o2) (a3 - o3)) = false) :
  Rt prog 129 #[.agg #[a1, a2, a3], .agg #[b1, b2, b3], .agg #[c1, c2, c3], .agg #[o1, o2, o3, d1, d2, d3, fr]] w (.tuple #[.agg #[.int .i64 0, .int .i64 0], .bool false]) := by
 obtain ⟨h0, h4⟩ := Bool.and_eq_true_iff.1 hp
 obtain ⟨h1, h2, h3⟩ := pl3_iff.1 h0
 have q1 := z0a.1 h1
 dsimp only at q1
 have q2 := z0a.1 h2
 dsimp only at q2
 have q3 := z0a.1 h3
 dsimp only at q3
 have q4 := z0a.1 h4
 dsimp only at q4
 have vb := @vvol_61
 have i1 := vb (b1 - a1) (b2 - a2) (b3 - a3) (c1 - a1) (c2 - a2) (c3 - a3) (a1 - o1) (a2 - o2) (a3 - o3)
 have i2 := vb (b1 - a1) (b2 - a2) (b3 - a3) (c1 - a1) (c2 - a2) (c3 - a3) d1 d2 d3
 have KM := zh (fun w => frac_Make (vvol (b1 - a1) (b2 - a2) (b3 - a3) (c1 - a1) (c2 - a2) (c3 - a3) (a1 - o1) (a2 - o2) (a3 - o3)) (vvol (b1 - a1) (b2 - a2) (b3 - a3) (c1 - a1) (c2 - a2) (c3 - a3) d1 d2 d3) w (by unfold I64; omega) (by unfold I64; omega))
 rw [hk] at KM
 clear vb i1 i2
 have KU := zh (fun w => z0u b1 b2 b3 a1 a2 a3 w (by unfold I64; omega) (by unfold I64; omega) (by unfold I64; omega) (by unfold I64; omega) (by unfold I64; omega) (by unfold I64; omega))
 rw [z05 (x := b1) (a := a1) (by omega) (by omega), z05 (x := b2) (a := a2) (by omega) (by omega), z05 (x := b3) (a := a3) (by omega) (by omega)] at KU
 obtain ⟨u1, hu1⟩ := nmd (b1 - a1)
 obtain ⟨u2, hu2⟩ := nmd (b2 - a2)
 obtain ⟨u3, hu3⟩ := nmd (b3 - a3)
 rw [← hu1, ← hu2, ← hu3] at KU
 have KV := zh (fun w => z0u c1 c2 c3 a1 a2 a3 w (by unfold I64; omega) (by unfold I64; omega) (by unfold I64; omega) (by unfold I64; omega) (by unfold I64; omega) (by unfold I64; omega))
 rw [z05 (x := c1) (a := a1) (by omega) (by omega), z05 (x := c2) (a := a2) (by omega) (by omega), z05 (x := c3) (a := a3) (by omega) (by omega)] at KV
 obtain ⟨v1, hv1⟩ := nmd (c1 - a1)
 obtain ⟨v2, hv2⟩ := nmd (c2 - a2)
 obtain ⟨v3, hv3⟩ := nmd (c3 - a3)
 rw [← hv1, ← hv2, ← hv3] at KV
 have KT := zh (fun w => z0u a1 a2 a3 o1 o2 o3 w (by unfold I64; omega) (by unfold I64; omega) (by unfold I64; omega) (by unfold I64; omega) (by unfold I64; omega) (by unfold I64; omega))
 rw [z05 (x := a1) (a := o1) (by omega) (by omega), z05 (x := a2) (a := o2) (by omega) (by omega), z05 (x := a3) (a := o3) (by omega) (by omega)] at KT
 obtain ⟨t1, ht1⟩ := nmd (a1 - o1)
 obtain ⟨t2, ht2⟩ := nmd (a2 - o2)
 obtain ⟨t3, ht3⟩ := nmd (a3 - o3)
 rw [← ht1, ← ht2, ← ht3] at KT
 rw [← hu1, ← hu2, ← hu3, ← hv1, ← hv2, ← hv3, ← ht1, ← ht2, ← ht3] at KM hk hg
 have KE := zh (fun w => z0u b1 b2 b3 o1 o2 o3 w (by unfold I64; omega) (by unfold I64; omega) (by unfold I64; omega) (by unfold I64; omega) (by unfold I64; omega) (by unfold I64; omega))
 rw [z05 (x := b1) (a := o1) (by omega) (by omega), z05 (x := b2) (a := o2) (by omega) (by omega), z05 (x := b3) (a := o3) (by omega) (by omega)] at KE
 obtain ⟨e1, he1⟩ := nmd (b1 - o1)
 obtain ⟨e2, he2⟩ := nmd (b2 - o2)
 obtain ⟨e3, he3⟩ := nmd (b3 - o3)
 rw [← he1, ← he2, ← he3] at KE
 have KF := zh (fun w => z0u c1 c2 c3 o1 o2 o3 w (by unfold I64; omega) (by unfold I64; omega) (by unfold I64; omega) (by unfold I64; omega) (by unfold I64; omega) (by unfold I64; omega))
 rw [z05 (x := c1) (a := o1) (by omega) (by omega), z05 (x := c2) (a := o2) (by omega) (by omega), z05 (x := c3) (a := o3) (by omega) (by omega)] at KF
 obtain ⟨m1, hm1⟩ := nmd (c1 - o1)
 obtain ⟨m2, hm2⟩ := nmd (c2 - o2)
 obtain ⟨m3, hm3⟩ := nmd (c3 - o3)
 rw [← hm1, ← hm2, ← hm3] at KF
 rw [← ht1, ← ht2, ← ht3, ← he1, ← he2, ← he3, ← hm1, ← hm2, ← hm3] at hs
 have KS := zh (fun (b : Nat) (w : World) kb => tri_surround d1 d2 d3 t1 t2 t3 e1 e2 e3 m1 m2 m3 w b 3 kb)
 rw [hs] at KS
 clear hs
 have KN := zh (fun w => z18 u1 u2 u3 v1 v2 v3 t1 t2 t3 w)
 have KD := zh (fun w => z18 u1 u2 u3 v1 v2 v3 d1 d2 d3 w)
 generalize vvol u1 u2 u3 v1 v2 v3 t1 t2 t3 = num at *
 generalize vvol u1 u2 u3 v1 v2 v3 d1 d2 d3 = den at *
 generalize fmake num den = X at *
 obtain ⟨f1, f2⟩ := X
 dsimp only at KM hg
 clear hk h0 h1 h2 h3 h4 q1 q2 q3 q4 hu1 hu2 hu3 hv1 hv2 hv3 ht1 ht2 ht3 he1 he2 he3 hm1 hm2 hm3
 go_enter func129, ntmps129
 go_upto_region 1 with (fail)
 obtain ⟨W1, hW1⟩ : ∃ W, W = ((((w.alloc (.cells #[a1, a2, a3] 24)).alloc (.cells #[b1, b2, b3] 24)).alloc (.cells #[c1, c2, c3] 24)).alloc (.cells #[o1, o2, o3, d1, d2, d3, fr] 26)).alloc (.cells #[.int .i64 0, .int .i64 0] 28) := ⟨_, rfl⟩
 obtain ⟨ka, k_b, kc, ky, k_r, B1⟩ := st5 hW1
 rw [← hW1]
 clear hW1
 have lb : w.heap.size < w.heap.size + 1 := by omega
 have lc : w.heap.size + 1 < w.heap.size + 1 + 1 := by omega
 have ly : w.heap.size + 1 + 1 < w.heap.size + 1 + 1 + 1 := by omega
 have lr : w.heap.size + 1 + 1 + 1 < w.heap.size + 1 + 1 + 1 + 1 := by omega
 generalize w.heap.size + 1 + 1 + 1 + 1 = gr at *
 generalize w.heap.size + 1 + 1 + 1 = gy at *
 generalize w.heap.size + 1 + 1 = gc at *
 generalize w.heap.size + 1 = gb at *
 have c_a := bwc3 ka
 have cb := bwc3 k_b
 have cc := bwc3 kc
 have cy := bwc7 ky
 have cr := bwc2 k_r
 have f_r := bwf2 k_r
 obtain ⟨p1, hp1⟩ := bwx W1
 rw [← hp1]
 clear hp1
 have KC : ∀ p : BW W1, Calls prog 141 #[.slice (some ⟨p.w.heap.size, 0, none⟩) 4 4] (p.w.alloc (.cells #[a1, a2, a3, b1, b2, b3, c1, c2, c3, o1, o2, o3] 24)) fun e w' => e = .returned (.bool true) ∧ ∃ q : BW W1, w' = q.w := fun p =>
  (tri_places4 4 a1 a2 a3 b1 b2 b3 c1 c2 c3 o1 o2 o3 W1 p.w _ rfl p.h).mono fun e w' h => ⟨by rw [hp] at h; exact h.1, ⟨w', h.2⟩, rfl⟩
 clear hp
 go_upto_region 3 with (go_at_call 141; (with_reducible refine (KC _).mono ?_); rintro e w' ⟨rfl, q, rfl⟩)
 clear KC
 refine z1k 13 72 [⟨10, 10, 24, #[.int .i64 0, .int .i64 0, .int .i64 0]⟩, ⟨11, 11, 24, #[.int .i64 0, .int .i64 0, .int .i64 0]⟩, ⟨12, 12, 24, #[.int .i64 0, .int .i64 0, .int .i64 0]⟩] (by kernel_rfl) (by kernel_rfl) (by kernel_rfl) (by kernel_rfl) (by kernel_rfl) (by decide) (by kernel_rfl) ?_ ?_
 · exact ⟨⟨_, rfl, fun ev wx => by simp [execOp, go_sem]⟩, ⟨_, rfl, fun ev wx => by simp [execOp, go_sem]⟩, ⟨_, rfl, fun ev wx => by simp [execOp, go_sem]⟩, trivial⟩
 apply Exists.intro
 refine ⟨?_, ?_⟩
 · intro wb' hwb'
   obtain ⟨da0, da1, da2⟩ := bwc3 (ka.below hwb')
   obtain ⟨db0, db1, db2⟩ := bwc3 (k_b.below hwb')
   obtain ⟨dc0, dc1, dc2⟩ := bwc3 (kc.below hwb')
   obtain ⟨dy0, dy1, dy2, dy3, dy4, dy5, dy6⟩ := bwc7 (ky.below hwb')
   obtain ⟨dr0, dr1⟩ := bwc2 (k_r.below hwb')
   simp only [List.map_cons, List.map_nil, maskL, List.foldr_cons, List.foldr_nil, maskAt, List.take_succ_cons, List.take_zero]
   repeat (go_big_quiet_step ((go_at_call 46; (first | (with_reducible exact z02 KU.out _) | (with_reducible exact z02 KV.out _) | (with_reducible exact z02 KT.out _)))))
   refine wpQuiet_nil ?_
   exact rfl
 intro W2 st hW hst hne
 obtain ⟨gu, e_u, hg_u, ku⟩ := hst 0 _ rfl
 obtain ⟨gv, e_v, hg_v, kv⟩ := hst 1 _ rfl
 obtain ⟨gt, e_t, hg_t, kt⟩ := hst 2 _ rfl
 have n_u_v : gu ≠ gv := fun e => hne 0 1 _ (by simp) (by simp) (by omega) e_u (by rw [e]; exact e_v)
 have n_u_t : gu ≠ gt := fun e => hne 0 2 _ (by simp) (by simp) (by omega) e_u (by rw [e]; exact e_t)
 have n_v_t : gv ≠ gt := fun e => hne 1 2 _ (by simp) (by simp) (by omega) e_v (by rw [e]; exact e_t)
 have B2 : Below w.heap.size w W2 := B1.trans (hW.mono B1.size)
 have lu : gr < gu := zl k_r.lt hg_u
 have lv : gr < gv := zl k_r.lt hg_v
 have l_t : gr < gt := zl k_r.lt hg_t
 have ka := ka.below hW
 have k_b := k_b.below hW
 have kc := kc.below hW
 have ky := ky.below hW
 have k_r := k_r.below hW
 simp only [List.drop_succ_cons, List.drop_zero, putAll, Nat.zero_add, Nat.reduceAdd, e_u, e_v, e_t, putO, Act.put, List.setIfInBounds_toArray, List.set_cons_zero, List.set_cons_succ]
 clear hW hst hne B1 hg_u e_u hg_v e_v hg_t e_t
 clear c_a cb cc cy cr f_r
 have c_a := bwc3 ka
 have cb := bwc3 k_b
 have cc := bwc3 kc
 have cy := bwc7 ky
 have cr := bwc2 k_r
 have cu := bwc3 ku
 have fu := bwf3 ku
 have cv := bwc3 kv
 have fv := bwf3 kv
 have ct := bwc3 kt
 have ft := bwf3 kt
 obtain ⟨p2, hp2⟩ := bwx W2
 rw [← hp2]
 clear hp2
 go_upto_region 4 with (fail)
 obtain ⟨W3, hW3⟩ : ∃ W, W = ((p2.w.setCell ⟨gu, 0, none⟩ (.int .i64 u1)).setCell ⟨gu, 1, none⟩ (.int .i64 u2)).setCell ⟨gu, 2, none⟩ (.int .i64 u3) := ⟨_, rfl⟩
 have B3 : Below w.heap.size w W3 := by rw [hW3]; exact blp3 (z00 B2 p2) (by omega)
 have ka := bkoe3 hW3 (ka.below p2.h) (by omega)
 have k_b := bkoe3 hW3 (k_b.below p2.h) (by omega)
 have kc := bkoe3 hW3 (kc.below p2.h) (by omega)
 have ky := bkoe3 hW3 (ky.below p2.h) (by omega)
 have k_r := bkoe3 hW3 (k_r.below p2.h) (by omega)
 have ku := bkpe3 hW3 (ku.below p2.h)
 have kv := bkoe3 hW3 (kv.below p2.h) (by omega)
 have kt := bkoe3 hW3 (kt.below p2.h) (by omega)
 rw [← hW3]
 clear hW3
 clear B2
 clear c_a cb cc cy cr cu fu cv fv ct ft
 have c_a := bwc3 ka
 have cb := bwc3 k_b
 have cc := bwc3 kc
 have cy := bwc7 ky
 have cr := bwc2 k_r
 have cu := bwc3 ku
 have fu := bwf3 ku
 have cv := bwc3 kv
 have fv := bwf3 kv
 have ct := bwc3 kt
 have ft := bwf3 kt
 obtain ⟨p3, hp3⟩ := bwx W3
 rw [← hp3]
 clear hp3
 obtain ⟨W4, hW4⟩ : ∃ W, W = ((p3.w.setCell ⟨gv, 0, none⟩ (.int .i64 v1)).setCell ⟨gv, 1, none⟩ (.int .i64 v2)).setCell ⟨gv, 2, none⟩ (.int .i64 v3) := ⟨_, rfl⟩
 have B4 : Below w.heap.size w W4 := by rw [hW4]; exact blp3 (z00 B3 p3) (by omega)
 have ka := bkoe3 hW4 (ka.below p3.h) (by omega)
 have k_b := bkoe3 hW4 (k_b.below p3.h) (by omega)
 have kc := bkoe3 hW4 (kc.below p3.h) (by omega)
 have ky := bkoe3 hW4 (ky.below p3.h) (by omega)
 have k_r := bkoe3 hW4 (k_r.below p3.h) (by omega)
 have ku := bkoe3 hW4 (ku.below p3.h) (by omega)
 have kv := bkpe3 hW4 (kv.below p3.h)
 have kt := bkoe3 hW4 (kt.below p3.h) (by omega)
 rw [← hW4]
 clear hW4
 clear B3
 clear c_a cb cc cy cr cu fu cv fv ct ft
 have c_a := bwc3 ka
 have cb := bwc3 k_b
 have cc := bwc3 kc
 have cy := bwc7 ky
 have cr := bwc2 k_r
 have cu := bwc3 ku
 have fu := bwf3 ku
 have cv := bwc3 kv
 have fv := bwf3 kv
 have ct := bwc3 kt
 have ft := bwf3 kt
 obtain ⟨p4, hp4⟩ := bwx W4
 rw [← hp4]
 clear hp4
 obtain ⟨W5, hW5⟩ : ∃ W, W = ((p4.w.setCell ⟨gt, 0, none⟩ (.int .i64 t1)).setCell ⟨gt, 1, none⟩ (.int .i64 t2)).setCell ⟨gt, 2, none⟩ (.int .i64 t3) := ⟨_, rfl⟩
 have B5 : Below w.heap.size w W5 := by rw [hW5]; exact blp3 (z00 B4 p4) (by omega)
 have ka := bkoe3 hW5 (ka.below p4.h) (by omega)
 have k_b := bkoe3 hW5 (k_b.below p4.h) (by omega)
 have kc := bkoe3 hW5 (kc.below p4.h) (by omega)
 have ky := bkoe3 hW5 (ky.below p4.h) (by omega)
 have k_r := bkoe3 hW5 (k_r.below p4.h) (by omega)
 have ku := bkoe3 hW5 (ku.below p4.h) (by omega)
 have kv := bkoe3 hW5 (kv.below p4.h) (by omega)
 have kt := bkpe3 hW5 (kt.below p4.h)
 rw [← hW5]
 clear hW5
 clear B4
 clear c_a cb cc cy cr cu fu cv fv ct ft
 have c_a := bwc3 ka
 have cb := bwc3 k_b
 have cc := bwc3 kc
 have cy := bwc7 ky
 have cr := bwc2 k_r
 have cu := bwc3 ku
 have cv := bwc3 kv
 have ct := bwc3 kt
 obtain ⟨p5, hp5⟩ := bwx W5
 rw [← hp5]
 clear hp5
 refine z1c 12 14 46 (by kernel_rfl) (by kernel_rfl) rfl rfl rfl (fun _ _ _ _ h => h) ?_
 refine z0w (t := 28) (zs := #[.int .i64 0, .int .i64 0]) 14 13 13 72 (by kernel_rfl) (by kernel_rfl) (by kernel_rfl) (by kernel_rfl) rfl ?_ ?_
 · intro ev wx
   simp [execOp, go_sem]
 apply Exists.intro
 refine ⟨?_, ?_⟩
 · intro wb' hwb'
   obtain ⟨da0, da1, da2⟩ := bwc3 (ka.below hwb')
   obtain ⟨db0, db1, db2⟩ := bwc3 (k_b.below hwb')
   obtain ⟨dc0, dc1, dc2⟩ := bwc3 (kc.below hwb')
   obtain ⟨dy0, dy1, dy2, dy3, dy4, dy5, dy6⟩ := bwc7 (ky.below hwb')
   obtain ⟨dr0, dr1⟩ := bwc2 (k_r.below hwb')
   obtain ⟨du0, du1, du2⟩ := bwc3 (ku.below hwb')
   obtain ⟨dv0, dv1, dv2⟩ := bwc3 (kv.below hwb')
   obtain ⟨dt0, dt1, dt2⟩ := bwc3 (kt.below hwb')
   simp only [edgeAt, maskAt, List.take_succ_cons, List.take_zero]
   repeat (go_big_quiet_step (first
    | (go_at_call 142; (first | (with_reducible exact z02 KN.out _) | (with_reducible exact z02 KD.out _)))
    | (go_at_call 125; (with_reducible exact z02 KM.out _))))
   refine wpQuiet_nil ?_
   exact rfl
 intro W6 gf hW hg kf
 have B6 : Below w.heap.size w W6 := B5.trans (hW.mono B5.size)
 have of : w.heap.size ≤ gf := Nat.le_trans B5.size hg
 have lf : gt < gf := zl kt.lt hg
 have lfu : gu < gf := zl ku.lt hg
 have lfv : gv < gf := zl kv.lt hg
 have ka := ka.below hW
 have k_b := k_b.below hW
 have kc := kc.below hW
 have ky := ky.below hW
 have k_r := k_r.below hW
 have ku := ku.below hW
 have kv := kv.below hW
 have kt := kt.below hW
 clear hW hg B5
 clear c_a cb cc cy cr cu cv ct
 simp only [edgeAt, List.drop_succ_cons, List.drop_zero, Act.put, List.setIfInBounds_toArray, List.set_cons_zero, List.set_cons_succ]
 have c_a := bwc3 ka
 have cb := bwc3 k_b
 have cc := bwc3 kc
 have cy := bwc7 ky
 have cr := bwc2 k_r
 have cu := bwc3 ku
 have cv := bwc3 kv
 have ct := bwc3 kt
 have cf := bwc2 kf
 have ff := bwf2 kf
 obtain ⟨p6, hp6⟩ := bwx W6
 rw [← hp6]
 clear hp6
 go_upto_region 5 with (fail)
 obtain ⟨W7, hW7⟩ : ∃ W, W = (p6.w.setCell ⟨gf, 0, none⟩ (.int .i64 f1)).setCell ⟨gf, 1, none⟩ (.int .i64 f2) := ⟨_, rfl⟩
 have B7 : Below w.heap.size w W7 := by rw [hW7]; exact blp2 (z00 B6 p6) (by omega)
 have ka := bkoe2 hW7 (ka.below p6.h) (by omega)
 have k_b := bkoe2 hW7 (k_b.below p6.h) (by omega)
 have kc := bkoe2 hW7 (kc.below p6.h) (by omega)
 have ky := bkoe2 hW7 (ky.below p6.h) (by omega)
 have k_r := bkoe2 hW7 (k_r.below p6.h) (by omega)
 have ku := bkoe2 hW7 (ku.below p6.h) (by omega)
 have kv := bkoe2 hW7 (kv.below p6.h) (by omega)
 have kt := bkoe2 hW7 (kt.below p6.h) (by omega)
 have kf := bkpe2 hW7 (kf.below p6.h)
 rw [← hW7]
 clear hW7
 clear B6
 clear c_a cb cc cy cr cu cv ct cf ff
 have c_a := bwc3 ka
 have cb := bwc3 k_b
 have cc := bwc3 kc
 have cy := bwc7 ky
 have cr := bwc2 k_r
 have f_r := bwf2 k_r
 have cu := bwc3 ku
 have cv := bwc3 kv
 have ct := bwc3 kt
 have cf := bwc2 kf
 obtain ⟨p7, hp7⟩ := bwx W7
 rw [← hp7]
 clear hp7
 refine z1d (t := 24) (zs := #[t1, t2, t3, e1, e2, e3, m1, m2, m3]) 20 19 66 72 [54, 57, 61, 65] (fun g => .slice (some ⟨g, 0, none⟩) 3 3) (by kernel_rfl) (by kernel_rfl) (by kernel_rfl) (by kernel_rfl) rfl rfl ?_
 apply Exists.intro
 refine ⟨?_, ?_, ?_⟩
 · intro wb' hwb'
   obtain ⟨da0, da1, da2⟩ := bwc3 (ka.below hwb')
   obtain ⟨db0, db1, db2⟩ := bwc3 (k_b.below hwb')
   obtain ⟨dc0, dc1, dc2⟩ := bwc3 (kc.below hwb')
   obtain ⟨dy0, dy1, dy2, dy3, dy4, dy5, dy6⟩ := bwc7 (ky.below hwb')
   obtain ⟨dr0, dr1⟩ := bwc2 (k_r.below hwb')
   obtain ⟨du0, du1, du2⟩ := bwc3 (ku.below hwb')
   obtain ⟨dv0, dv1, dv2⟩ := bwc3 (kv.below hwb')
   obtain ⟨dt0, dt1, dt2⟩ := bwc3 (kt.below hwb')
   obtain ⟨df0, df1⟩ := bwc2 (kf.below hwb')
   simp only [maskAt, List.take_succ_cons, List.take_zero]
   repeat (go_big_quiet_step ((go_at_call 46; (first | (with_reducible exact z02 KE.out _) | (with_reducible exact z02 KF.out _)))))
   refine wpQuiet_nil ?_
   exact rfl
 · intro ax wx hp
   have e54 := hp 54 (by decide)
   have e57 := hp 57 (by decide)
   have e61 := hp 61 (by decide)
   have e65 := hp 65 (by decide)
   clear hp
   simp only [Act.put, List.setIfInBounds_toArray, List.set_cons_zero, List.set_cons_succ, List.getElem?_toArray, List.getElem?_cons_succ, List.getElem?_cons_zero] at e54 e57 e61 e65
   exact ⟨by simp [Region.wanted, yielded, e54, e57, e61, e65], by simp [execOp, go_sem, Act.eval, e54, e57, e61, e65]⟩
 intro W8 gs hW hg ks
 have B8 : Below w.heap.size w W8 := B7.trans (hW.mono B7.size)
 have os : w.heap.size ≤ gs := Nat.le_trans B7.size hg
 have ls : gf < gs := zl kf.lt hg
 have lsu : gu < gs := zl ku.lt hg
 have lsv : gv < gs := zl kv.lt hg
 have lst : gt < gs := zl kt.lt hg
 have ka := ka.below hW
 have k_b := k_b.below hW
 have kc := kc.below hW
 have ky := ky.below hW
 have k_r := k_r.below hW
 have ku := ku.below hW
 have kv := kv.below hW
 have kt := kt.below hW
 have kf := kf.below hW
 clear hW hg B7
 clear c_a cb cc cy cr f_r cu cv ct cf
 simp only [List.drop_succ_cons, List.drop_zero, Act.put, List.setIfInBounds_toArray, List.set_cons_zero, List.set_cons_succ]
 have c_a := bwc3 ka
 have cb := bwc3 k_b
 have cc := bwc3 kc
 have cy := bwc7 ky
 have cr := bwc2 k_r
 have f_r := bwf2 k_r
 have cu := bwc3 ku
 have cv := bwc3 kv
 have ct := bwc3 kt
 have cf := bwc2 kf
 have cs := bwc9 ks
 obtain ⟨p8, hp8⟩ := bwx W8
 rw [← hp8]
 clear hp8
 have KS2 : ∀ p : BW W8, Calls prog 143 #[.agg #[d1, d2, d3], .slice (some ⟨gs, 0, none⟩) 3 3] p.w fun e w' => e = .returned (.bool false) ∧ ∃ q : BW W8, w' = q.w := fun p =>
  (KS.out gs p.w (ks.below p.h)).mono fun e w' h => ⟨h.1, p.next w' h.2, rfl⟩
 go_wp2_with (go_at_call 143; (with_reducible refine (KS2 _).mono ?_); rintro e w' ⟨rfl, q, rfl⟩)
 have kr := bkp2 (k_r.below q.h) (.int .i64 0) (.int .i64 0)
 have rc := rwc2 kr
 exact bodyPost_ret (v := .tuple #[.agg #[.int .i64 0, .int .i64 0], .bool false]) (by simp [results, results129, go_sem, rc]) rfl ⟨rfl, blp2 (z00 B8 q) (by omega)⟩
theorem tri_Hit_yes (a1 a2 a3 b1 b2 b3 c1 c2 c3 o1 o2 o3 d1 d2 d3 fr : Int) (w : World) (hp : (pl3 (a1, a2, a3) (b1, b2, b3) (c1, c2, c3) && plc (o1, o2, o3)) = true) (hk : fmakeOk (vvol (b1 - a1) (b2 - a2) (b3 - a3) (c1 - a1) (c2 - a2) (c3 - a3) (a1 - o1) (a2 - o2) (a3 - o3)) (vvol (b1 - a1) (b2 - a2) (b3 - a3) (c1 - a1) (c2 - a2) (c3 - a3) d1 d2 d3) = true) (hg : decide ((fmake (vvol (b1 - a1) (b2 - a2) (b3 - a3) (c1 - a1) (c2 - a2) (c3 - a3) (a1 - o1) (a2 - o2) (a3 - o3)) (vvol (b1 - a1) (b2 - a2) (b3 - a3) (c1 - a1) (c2 - a2) (c3 - a3) d1 d2 d3)).1 ≤ 0) = false) (hs : srd (vvol d1 d2 d3 (a1 - o1) (a2 - o2) (a3 - o3) (b1 - o1) (b2 - o2) (b3 - o3)) (vvol d1 d2 d3 (b1 - o1) (b2 - o2) (b3 - o3) (c1 - o1) (c2 - o2) (c3 - o3)) (vvol d1 d2 d3 (c1 - o1) (c2 - o2) (c3 - o3) (a1 - o1) (a2 - o2) (a3 - o3)) = true) :
  Rt prog 129 #[.agg #[a1, a2, a3], .agg #[b1, b2, b3], .agg #[c1, c2, c3], .agg #[o1, o2, o3, d1, d2, d3, fr]] w (.tuple #[.agg #[.int .i64 (fmake (vvol (b1 - a1) (b2 - a2) (b3 - a3) (c1 - a1) (c2 - a2) (c3 - a3) (a1 - o1) (a2 - o2) (a3 - o3)) (vvol (b1 - a1) (b2 - a2) (b3 - a3) (c1 - a1) (c2 - a2) (c3 - a3) d1 d2 d3)).1, .int .i64 (fmake (vvol (b1 - a1) (b2 - a2) (b3 - a3) (c1 - a1) (c2 - a2) (c3 - a3) (a1 - o1) (a2 - o2) (a3 - o3)) (vvol (b1 - a1) (b2 - a2) (b3 - a3) (c1 - a1) (c2 - a2) (c3 - a3) d1 d2 d3)).2], .bool true]) := by
 obtain ⟨h0, h4⟩ := Bool.and_eq_true_iff.1 hp
 obtain ⟨h1, h2, h3⟩ := pl3_iff.1 h0
 have q1 := z0a.1 h1
 dsimp only at q1
 have q2 := z0a.1 h2
 dsimp only at q2
 have q3 := z0a.1 h3
 dsimp only at q3
 have q4 := z0a.1 h4
 dsimp only at q4
 have vb := @vvol_61
 have i1 := vb (b1 - a1) (b2 - a2) (b3 - a3) (c1 - a1) (c2 - a2) (c3 - a3) (a1 - o1) (a2 - o2) (a3 - o3)
 have i2 := vb (b1 - a1) (b2 - a2) (b3 - a3) (c1 - a1) (c2 - a2) (c3 - a3) d1 d2 d3
 have KM := zh (fun w => frac_Make (vvol (b1 - a1) (b2 - a2) (b3 - a3) (c1 - a1) (c2 - a2) (c3 - a3) (a1 - o1) (a2 - o2) (a3 - o3)) (vvol (b1 - a1) (b2 - a2) (b3 - a3) (c1 - a1) (c2 - a2) (c3 - a3) d1 d2 d3) w (by unfold I64; omega) (by unfold I64; omega))
 rw [hk] at KM
 clear vb i1 i2
 have KU := zh (fun w => z0u b1 b2 b3 a1 a2 a3 w (by unfold I64; omega) (by unfold I64; omega) (by unfold I64; omega) (by unfold I64; omega) (by unfold I64; omega) (by unfold I64; omega))
 rw [z05 (x := b1) (a := a1) (by omega) (by omega), z05 (x := b2) (a := a2) (by omega) (by omega), z05 (x := b3) (a := a3) (by omega) (by omega)] at KU
 obtain ⟨u1, hu1⟩ := nmd (b1 - a1)
 obtain ⟨u2, hu2⟩ := nmd (b2 - a2)
 obtain ⟨u3, hu3⟩ := nmd (b3 - a3)
 rw [← hu1, ← hu2, ← hu3] at KU
 have KV := zh (fun w => z0u c1 c2 c3 a1 a2 a3 w (by unfold I64; omega) (by unfold I64; omega) (by unfold I64; omega) (by unfold I64; omega) (by unfold I64; omega) (by unfold I64; omega))
 rw [z05 (x := c1) (a := a1) (by omega) (by omega), z05 (x := c2) (a := a2) (by omega) (by omega), z05 (x := c3) (a := a3) (by omega) (by omega)] at KV
 obtain ⟨v1, hv1⟩ := nmd (c1 - a1)
 obtain ⟨v2, hv2⟩ := nmd (c2 - a2)
 obtain ⟨v3, hv3⟩ := nmd (c3 - a3)
 rw [← hv1, ← hv2, ← hv3] at KV
 have KT := zh (fun w => z0u a1 a2 a3 o1 o2 o3 w (by unfold I64; omega) (by unfold I64; omega) (by unfold I64; omega) (by unfold I64; omega) (by unfold I64; omega) (by unfold I64; omega))
 rw [z05 (x := a1) (a := o1) (by omega) (by omega), z05 (x := a2) (a := o2) (by omega) (by omega), z05 (x := a3) (a := o3) (by omega) (by omega)] at KT
 obtain ⟨t1, ht1⟩ := nmd (a1 - o1)
 obtain ⟨t2, ht2⟩ := nmd (a2 - o2)
 obtain ⟨t3, ht3⟩ := nmd (a3 - o3)
 rw [← ht1, ← ht2, ← ht3] at KT
 rw [← hu1, ← hu2, ← hu3, ← hv1, ← hv2, ← hv3, ← ht1, ← ht2, ← ht3] at KM hk hg ⊢
 have KE := zh (fun w => z0u b1 b2 b3 o1 o2 o3 w (by unfold I64; omega) (by unfold I64; omega) (by unfold I64; omega) (by unfold I64; omega) (by unfold I64; omega) (by unfold I64; omega))
 rw [z05 (x := b1) (a := o1) (by omega) (by omega), z05 (x := b2) (a := o2) (by omega) (by omega), z05 (x := b3) (a := o3) (by omega) (by omega)] at KE
 obtain ⟨e1, he1⟩ := nmd (b1 - o1)
 obtain ⟨e2, he2⟩ := nmd (b2 - o2)
 obtain ⟨e3, he3⟩ := nmd (b3 - o3)
 rw [← he1, ← he2, ← he3] at KE
 have KF := zh (fun w => z0u c1 c2 c3 o1 o2 o3 w (by unfold I64; omega) (by unfold I64; omega) (by unfold I64; omega) (by unfold I64; omega) (by unfold I64; omega) (by unfold I64; omega))
 rw [z05 (x := c1) (a := o1) (by omega) (by omega), z05 (x := c2) (a := o2) (by omega) (by omega), z05 (x := c3) (a := o3) (by omega) (by omega)] at KF
 obtain ⟨m1, hm1⟩ := nmd (c1 - o1)
 obtain ⟨m2, hm2⟩ := nmd (c2 - o2)
 obtain ⟨m3, hm3⟩ := nmd (c3 - o3)
 rw [← hm1, ← hm2, ← hm3] at KF
 rw [← ht1, ← ht2, ← ht3, ← he1, ← he2, ← he3, ← hm1, ← hm2, ← hm3] at hs
 have KS := zh (fun (b : Nat) (w : World) kb => tri_surround d1 d2 d3 t1 t2 t3 e1 e2 e3 m1 m2 m3 w b 3 kb)
 rw [hs] at KS
 clear hs
 have KN := zh (fun w => z18 u1 u2 u3 v1 v2 v3 t1 t2 t3 w)
 have KD := zh (fun w => z18 u1 u2 u3 v1 v2 v3 d1 d2 d3 w)
 generalize vvol u1 u2 u3 v1 v2 v3 t1 t2 t3 = num at *
 generalize vvol u1 u2 u3 v1 v2 v3 d1 d2 d3 = den at *
 generalize fmake num den = X at *
 obtain ⟨f1, f2⟩ := X
 dsimp only at KM hg ⊢
 clear hk h0 h1 h2 h3 h4 q1 q2 q3 q4 hu1 hu2 hu3 hv1 hv2 hv3 ht1 ht2 ht3 he1 he2 he3 hm1 hm2 hm3
 go_enter func129, ntmps129
 go_upto_region 1 with (fail)
 obtain ⟨W1, hW1⟩ : ∃ W, W = ((((w.alloc (.cells #[a1, a2, a3] 24)).alloc (.cells #[b1, b2, b3] 24)).alloc (.cells #[c1, c2, c3] 24)).alloc (.cells #[o1, o2, o3, d1, d2, d3, fr] 26)).alloc (.cells #[.int .i64 0, .int .i64 0] 28) := ⟨_, rfl⟩
 obtain ⟨ka, k_b, kc, ky, k_r, B1⟩ := st5 hW1
 rw [← hW1]
 clear hW1
 have lb : w.heap.size < w.heap.size + 1 := by omega
 have lc : w.heap.size + 1 < w.heap.size + 1 + 1 := by omega
 have ly : w.heap.size + 1 + 1 < w.heap.size + 1 + 1 + 1 := by omega
 have lr : w.heap.size + 1 + 1 + 1 < w.heap.size + 1 + 1 + 1 + 1 := by omega
 generalize w.heap.size + 1 + 1 + 1 + 1 = gr at *
 generalize w.heap.size + 1 + 1 + 1 = gy at *
 generalize w.heap.size + 1 + 1 = gc at *
 generalize w.heap.size + 1 = gb at *
 have c_a := bwc3 ka
 have cb := bwc3 k_b
 have cc := bwc3 kc
 have cy := bwc7 ky
 have cr := bwc2 k_r
 have f_r := bwf2 k_r
 obtain ⟨p1, hp1⟩ := bwx W1
 rw [← hp1]
 clear hp1
 have KC : ∀ p : BW W1, Calls prog 141 #[.slice (some ⟨p.w.heap.size, 0, none⟩) 4 4] (p.w.alloc (.cells #[a1, a2, a3, b1, b2, b3, c1, c2, c3, o1, o2, o3] 24)) fun e w' => e = .returned (.bool true) ∧ ∃ q : BW W1, w' = q.w := fun p =>
  (tri_places4 4 a1 a2 a3 b1 b2 b3 c1 c2 c3 o1 o2 o3 W1 p.w _ rfl p.h).mono fun e w' h => ⟨by rw [hp] at h; exact h.1, ⟨w', h.2⟩, rfl⟩
 clear hp
 go_upto_region 3 with (go_at_call 141; (with_reducible refine (KC _).mono ?_); rintro e w' ⟨rfl, q, rfl⟩)
 clear KC
 refine z1k 13 72 [⟨10, 10, 24, #[.int .i64 0, .int .i64 0, .int .i64 0]⟩, ⟨11, 11, 24, #[.int .i64 0, .int .i64 0, .int .i64 0]⟩, ⟨12, 12, 24, #[.int .i64 0, .int .i64 0, .int .i64 0]⟩] (by kernel_rfl) (by kernel_rfl) (by kernel_rfl) (by kernel_rfl) (by kernel_rfl) (by decide) (by kernel_rfl) ?_ ?_
 · exact ⟨⟨_, rfl, fun ev wx => by simp [execOp, go_sem]⟩, ⟨_, rfl, fun ev wx => by simp [execOp, go_sem]⟩, ⟨_, rfl, fun ev wx => by simp [execOp, go_sem]⟩, trivial⟩
 apply Exists.intro
 refine ⟨?_, ?_⟩
 · intro wb' hwb'
   obtain ⟨da0, da1, da2⟩ := bwc3 (ka.below hwb')
   obtain ⟨db0, db1, db2⟩ := bwc3 (k_b.below hwb')
   obtain ⟨dc0, dc1, dc2⟩ := bwc3 (kc.below hwb')
   obtain ⟨dy0, dy1, dy2, dy3, dy4, dy5, dy6⟩ := bwc7 (ky.below hwb')
   obtain ⟨dr0, dr1⟩ := bwc2 (k_r.below hwb')
   simp only [List.map_cons, List.map_nil, maskL, List.foldr_cons, List.foldr_nil, maskAt, List.take_succ_cons, List.take_zero]
   repeat (go_big_quiet_step ((go_at_call 46; (first | (with_reducible exact z02 KU.out _) | (with_reducible exact z02 KV.out _) | (with_reducible exact z02 KT.out _)))))
   refine wpQuiet_nil ?_
   exact rfl
 intro W2 st hW hst hne
 obtain ⟨gu, e_u, hg_u, ku⟩ := hst 0 _ rfl
 obtain ⟨gv, e_v, hg_v, kv⟩ := hst 1 _ rfl
 obtain ⟨gt, e_t, hg_t, kt⟩ := hst 2 _ rfl
 have n_u_v : gu ≠ gv := fun e => hne 0 1 _ (by simp) (by simp) (by omega) e_u (by rw [e]; exact e_v)
 have n_u_t : gu ≠ gt := fun e => hne 0 2 _ (by simp) (by simp) (by omega) e_u (by rw [e]; exact e_t)
 have n_v_t : gv ≠ gt := fun e => hne 1 2 _ (by simp) (by simp) (by omega) e_v (by rw [e]; exact e_t)
 have B2 : Below w.heap.size w W2 := B1.trans (hW.mono B1.size)
 have lu : gr < gu := zl k_r.lt hg_u
 have lv : gr < gv := zl k_r.lt hg_v
 have l_t : gr < gt := zl k_r.lt hg_t
 have ka := ka.below hW
 have k_b := k_b.below hW
 have kc := kc.below hW
 have ky := ky.below hW
 have k_r := k_r.below hW
 simp only [List.drop_succ_cons, List.drop_zero, putAll, Nat.zero_add, Nat.reduceAdd, e_u, e_v, e_t, putO, Act.put, List.setIfInBounds_toArray, List.set_cons_zero, List.set_cons_succ]
 clear hW hst hne B1 hg_u e_u hg_v e_v hg_t e_t
 clear c_a cb cc cy cr f_r
 have c_a := bwc3 ka
 have cb := bwc3 k_b
 have cc := bwc3 kc
 have cy := bwc7 ky
 have cr := bwc2 k_r
 have cu := bwc3 ku
 have fu := bwf3 ku
 have cv := bwc3 kv
 have fv := bwf3 kv
 have ct := bwc3 kt
 have ft := bwf3 kt
 obtain ⟨p2, hp2⟩ := bwx W2
 rw [← hp2]
 clear hp2
 go_upto_region 4 with (fail)
 obtain ⟨W3, hW3⟩ : ∃ W, W = ((p2.w.setCell ⟨gu, 0, none⟩ (.int .i64 u1)).setCell ⟨gu, 1, none⟩ (.int .i64 u2)).setCell ⟨gu, 2, none⟩ (.int .i64 u3) := ⟨_, rfl⟩
 have B3 : Below w.heap.size w W3 := by rw [hW3]; exact blp3 (z00 B2 p2) (by omega)
 have ka := bkoe3 hW3 (ka.below p2.h) (by omega)
 have k_b := bkoe3 hW3 (k_b.below p2.h) (by omega)
 have kc := bkoe3 hW3 (kc.below p2.h) (by omega)
 have ky := bkoe3 hW3 (ky.below p2.h) (by omega)
 have k_r := bkoe3 hW3 (k_r.below p2.h) (by omega)
 have ku := bkpe3 hW3 (ku.below p2.h)
 have kv := bkoe3 hW3 (kv.below p2.h) (by omega)
 have kt := bkoe3 hW3 (kt.below p2.h) (by omega)
 rw [← hW3]
 clear hW3
 clear B2
 clear c_a cb cc cy cr cu fu cv fv ct ft
 have c_a := bwc3 ka
 have cb := bwc3 k_b
 have cc := bwc3 kc
 have cy := bwc7 ky
 have cr := bwc2 k_r
 have cu := bwc3 ku
 have fu := bwf3 ku
 have cv := bwc3 kv
 have fv := bwf3 kv
 have ct := bwc3 kt
 have ft := bwf3 kt
 obtain ⟨p3, hp3⟩ := bwx W3
 rw [← hp3]
 clear hp3
 obtain ⟨W4, hW4⟩ : ∃ W, W = ((p3.w.setCell ⟨gv, 0, none⟩ (.int .i64 v1)).setCell ⟨gv, 1, none⟩ (.int .i64 v2)).setCell ⟨gv, 2, none⟩ (.int .i64 v3) := ⟨_, rfl⟩
 have B4 : Below w.heap.size w W4 := by rw [hW4]; exact blp3 (z00 B3 p3) (by omega)
 have ka := bkoe3 hW4 (ka.below p3.h) (by omega)
 have k_b := bkoe3 hW4 (k_b.below p3.h) (by omega)
 have kc := bkoe3 hW4 (kc.below p3.h) (by omega)
 have ky := bkoe3 hW4 (ky.below p3.h) (by omega)
 have k_r := bkoe3 hW4 (k_r.below p3.h) (by omega)
 have ku := bkoe3 hW4 (ku.below p3.h) (by omega)
 have kv := bkpe3 hW4 (kv.below p3.h)
 have kt := bkoe3 hW4 (kt.below p3.h) (by omega)
 rw [← hW4]
 clear hW4
 clear B3
 clear c_a cb cc cy cr cu fu cv fv ct ft
 have c_a := bwc3 ka
 have cb := bwc3 k_b
 have cc := bwc3 kc
 have cy := bwc7 ky
 have cr := bwc2 k_r
 have cu := bwc3 ku
 have fu := bwf3 ku
 have cv := bwc3 kv
 have fv := bwf3 kv
 have ct := bwc3 kt
 have ft := bwf3 kt
 obtain ⟨p4, hp4⟩ := bwx W4
 rw [← hp4]
 clear hp4
 obtain ⟨W5, hW5⟩ : ∃ W, W = ((p4.w.setCell ⟨gt, 0, none⟩ (.int .i64 t1)).setCell ⟨gt, 1, none⟩ (.int .i64 t2)).setCell ⟨gt, 2, none⟩ (.int .i64 t3) := ⟨_, rfl⟩
 have B5 : Below w.heap.size w W5 := by rw [hW5]; exact blp3 (z00 B4 p4) (by omega)
 have ka := bkoe3 hW5 (ka.below p4.h) (by omega)
 have k_b := bkoe3 hW5 (k_b.below p4.h) (by omega)
 have kc := bkoe3 hW5 (kc.below p4.h) (by omega)
 have ky := bkoe3 hW5 (ky.below p4.h) (by omega)
 have k_r := bkoe3 hW5 (k_r.below p4.h) (by omega)
 have ku := bkoe3 hW5 (ku.below p4.h) (by omega)
 have kv := bkoe3 hW5 (kv.below p4.h) (by omega)
 have kt := bkpe3 hW5 (kt.below p4.h)
 rw [← hW5]
 clear hW5
 clear B4
 clear c_a cb cc cy cr cu fu cv fv ct ft
 have c_a := bwc3 ka
 have cb := bwc3 k_b
 have cc := bwc3 kc
 have cy := bwc7 ky
 have cr := bwc2 k_r
 have cu := bwc3 ku
 have cv := bwc3 kv
 have ct := bwc3 kt
 obtain ⟨p5, hp5⟩ := bwx W5
 rw [← hp5]
 clear hp5
 refine z1c 12 14 46 (by kernel_rfl) (by kernel_rfl) rfl rfl rfl (fun _ _ _ _ h => h) ?_
 refine z0w (t := 28) (zs := #[.int .i64 0, .int .i64 0]) 14 13 13 72 (by kernel_rfl) (by kernel_rfl) (by kernel_rfl) (by kernel_rfl) rfl ?_ ?_
 · intro ev wx
   simp [execOp, go_sem]
 apply Exists.intro
 refine ⟨?_, ?_⟩
 · intro wb' hwb'
   obtain ⟨da0, da1, da2⟩ := bwc3 (ka.below hwb')
   obtain ⟨db0, db1, db2⟩ := bwc3 (k_b.below hwb')
   obtain ⟨dc0, dc1, dc2⟩ := bwc3 (kc.below hwb')
   obtain ⟨dy0, dy1, dy2, dy3, dy4, dy5, dy6⟩ := bwc7 (ky.below hwb')
   obtain ⟨dr0, dr1⟩ := bwc2 (k_r.below hwb')
   obtain ⟨du0, du1, du2⟩ := bwc3 (ku.below hwb')
   obtain ⟨dv0, dv1, dv2⟩ := bwc3 (kv.below hwb')
   obtain ⟨dt0, dt1, dt2⟩ := bwc3 (kt.below hwb')
   simp only [edgeAt, maskAt, List.take_succ_cons, List.take_zero]
   repeat (go_big_quiet_step (first
    | (go_at_call 142; (first | (with_reducible exact z02 KN.out _) | (with_reducible exact z02 KD.out _)))
    | (go_at_call 125; (with_reducible exact z02 KM.out _))))
   refine wpQuiet_nil ?_
   exact rfl
 intro W6 gf hW hg kf
 have B6 : Below w.heap.size w W6 := B5.trans (hW.mono B5.size)
 have of : w.heap.size ≤ gf := Nat.le_trans B5.size hg
 have lf : gt < gf := zl kt.lt hg
 have lfu : gu < gf := zl ku.lt hg
 have lfv : gv < gf := zl kv.lt hg
 have ka := ka.below hW
 have k_b := k_b.below hW
 have kc := kc.below hW
 have ky := ky.below hW
 have k_r := k_r.below hW
 have ku := ku.below hW
 have kv := kv.below hW
 have kt := kt.below hW
 clear hW hg B5
 clear c_a cb cc cy cr cu cv ct
 simp only [edgeAt, List.drop_succ_cons, List.drop_zero, Act.put, List.setIfInBounds_toArray, List.set_cons_zero, List.set_cons_succ]
 have c_a := bwc3 ka
 have cb := bwc3 k_b
 have cc := bwc3 kc
 have cy := bwc7 ky
 have cr := bwc2 k_r
 have cu := bwc3 ku
 have cv := bwc3 kv
 have ct := bwc3 kt
 have cf := bwc2 kf
 have ff := bwf2 kf
 obtain ⟨p6, hp6⟩ := bwx W6
 rw [← hp6]
 clear hp6
 go_upto_region 5 with (fail)
 obtain ⟨W7, hW7⟩ : ∃ W, W = (p6.w.setCell ⟨gf, 0, none⟩ (.int .i64 f1)).setCell ⟨gf, 1, none⟩ (.int .i64 f2) := ⟨_, rfl⟩
 have B7 : Below w.heap.size w W7 := by rw [hW7]; exact blp2 (z00 B6 p6) (by omega)
 have ka := bkoe2 hW7 (ka.below p6.h) (by omega)
 have k_b := bkoe2 hW7 (k_b.below p6.h) (by omega)
 have kc := bkoe2 hW7 (kc.below p6.h) (by omega)
 have ky := bkoe2 hW7 (ky.below p6.h) (by omega)
 have k_r := bkoe2 hW7 (k_r.below p6.h) (by omega)
 have ku := bkoe2 hW7 (ku.below p6.h) (by omega)
 have kv := bkoe2 hW7 (kv.below p6.h) (by omega)
 have kt := bkoe2 hW7 (kt.below p6.h) (by omega)
 have kf := bkpe2 hW7 (kf.below p6.h)
 rw [← hW7]
 clear hW7
 clear B6
 clear c_a cb cc cy cr cu cv ct cf ff
 have c_a := bwc3 ka
 have cb := bwc3 k_b
 have cc := bwc3 kc
 have cy := bwc7 ky
 have cr := bwc2 k_r
 have f_r := bwf2 k_r
 have cu := bwc3 ku
 have cv := bwc3 kv
 have ct := bwc3 kt
 have cf := bwc2 kf
 obtain ⟨p7, hp7⟩ := bwx W7
 rw [← hp7]
 clear hp7
 refine z1d (t := 24) (zs := #[t1, t2, t3, e1, e2, e3, m1, m2, m3]) 20 19 66 72 [54, 57, 61, 65] (fun g => .slice (some ⟨g, 0, none⟩) 3 3) (by kernel_rfl) (by kernel_rfl) (by kernel_rfl) (by kernel_rfl) rfl rfl ?_
 apply Exists.intro
 refine ⟨?_, ?_, ?_⟩
 · intro wb' hwb'
   obtain ⟨da0, da1, da2⟩ := bwc3 (ka.below hwb')
   obtain ⟨db0, db1, db2⟩ := bwc3 (k_b.below hwb')
   obtain ⟨dc0, dc1, dc2⟩ := bwc3 (kc.below hwb')
   obtain ⟨dy0, dy1, dy2, dy3, dy4, dy5, dy6⟩ := bwc7 (ky.below hwb')
   obtain ⟨dr0, dr1⟩ := bwc2 (k_r.below hwb')
   obtain ⟨du0, du1, du2⟩ := bwc3 (ku.below hwb')
   obtain ⟨dv0, dv1, dv2⟩ := bwc3 (kv.below hwb')
   obtain ⟨dt0, dt1, dt2⟩ := bwc3 (kt.below hwb')
   obtain ⟨df0, df1⟩ := bwc2 (kf.below hwb')
   simp only [maskAt, List.take_succ_cons, List.take_zero]
   repeat (go_big_quiet_step ((go_at_call 46; (first | (with_reducible exact z02 KE.out _) | (with_reducible exact z02 KF.out _)))))
   refine wpQuiet_nil ?_
   exact rfl
 · intro ax wx hp
   have e54 := hp 54 (by decide)
   have e57 := hp 57 (by decide)
   have e61 := hp 61 (by decide)
   have e65 := hp 65 (by decide)
   clear hp
   simp only [Act.put, List.setIfInBounds_toArray, List.set_cons_zero, List.set_cons_succ, List.getElem?_toArray, List.getElem?_cons_succ, List.getElem?_cons_zero] at e54 e57 e61 e65
   exact ⟨by simp [Region.wanted, yielded, e54, e57, e61, e65], by simp [execOp, go_sem, Act.eval, e54, e57, e61, e65]⟩
 intro W8 gs hW hg ks
 have B8 : Below w.heap.size w W8 := B7.trans (hW.mono B7.size)
 have os : w.heap.size ≤ gs := Nat.le_trans B7.size hg
 have ls : gf < gs := zl kf.lt hg
 have lsu : gu < gs := zl ku.lt hg
 have lsv : gv < gs := zl kv.lt hg
 have lst : gt < gs := zl kt.lt hg
 have ka := ka.below hW
 have k_b := k_b.below hW
 have kc := kc.below hW
 have ky := ky.below hW
 have k_r := k_r.below hW
 have ku := ku.below hW
 have kv := kv.below hW
 have kt := kt.below hW
 have kf := kf.below hW
 clear hW hg B7
 clear c_a cb cc cy cr f_r cu cv ct cf
 simp only [List.drop_succ_cons, List.drop_zero, Act.put, List.setIfInBounds_toArray, List.set_cons_zero, List.set_cons_succ]
 have c_a := bwc3 ka
 have cb := bwc3 k_b
 have cc := bwc3 kc
 have cy := bwc7 ky
 have cr := bwc2 k_r
 have f_r := bwf2 k_r
 have cu := bwc3 ku
 have cv := bwc3 kv
 have ct := bwc3 kt
 have cf := bwc2 kf
 have cs := bwc9 ks
 obtain ⟨p8, hp8⟩ := bwx W8
 rw [← hp8]
 clear hp8
 have KS2 : ∀ p : BW W8, Calls prog 143 #[.agg #[d1, d2, d3], .slice (some ⟨gs, 0, none⟩) 3 3] p.w fun e w' => e = .returned (.bool true) ∧ ∃ q : BW W8, w' = q.w := fun p =>
  (KS.out gs p.w (ks.below p.h)).mono fun e w' h => ⟨h.1, p.next w' h.2, rfl⟩
 go_wp2_with (go_at_call 143; (with_reducible refine (KS2 _).mono ?_); rintro e w' ⟨rfl, q, rfl⟩)
 have kr := bkp2 (k_r.below q.h) (.int .i64 f1) (.int .i64 f2)
 have rc := rwc2 kr
 exact bodyPost_ret (v := .tuple #[.agg #[f1, f2], .bool true]) (by simp [results, results129, go_sem, rc]) rfl ⟨rfl, blp2 (z00 B8 q) (by omega)⟩
theorem tri_Hit (a1 a2 a3 b1 b2 b3 c1 c2 c3 o1 o2 o3 d1 d2 d3 fr : Int) (w : World) (ha : I3 (a1, a2, a3)) (hb : I3 (b1, b2, b3)) (hc : I3 (c1, c2, c3)) (ho : I3 (o1, o2, o3)) (hd : I3 (d1, d2, d3)) :
  Rt prog 129 #[.agg #[a1, a2, a3], .agg #[b1, b2, b3], .agg #[c1, c2, c3], .agg #[o1, o2, o3, d1, d2, d3, fr]] w (.tuple #[.agg #[(tHit (a1, a2, a3) (b1, b2, b3) (c1, c2, c3) (o1, o2, o3) (d1, d2, d3)).1.1, (tHit (a1, a2, a3) (b1, b2, b3) (c1, c2, c3) (o1, o2, o3) (d1, d2, d3)).1.2], .bool (tHit (a1, a2, a3) (b1, b2, b3) (c1, c2, c3) (o1, o2, o3) (d1, d2, d3)).2]) := by
 cases hp : (pl3 (a1, a2, a3) (b1, b2, b3) (c1, c2, c3) && plc (o1, o2, o3)) with
 | false => rw [tHit_no hp]; exact tri_Hit_no a1 a2 a3 b1 b2 b3 c1 c2 c3 o1 o2 o3 d1 d2 d3 fr w hp
 | true =>
  obtain ⟨h0, h4⟩ := Bool.and_eq_true_iff.1 hp
  obtain ⟨h1, h2, h3⟩ := pl3_iff.1 h0
  cases hn : nrT (d1, d2, d3) with
  | false =>
   rw [tHit_far hn]
   refine tri_Hit_nok a1 a2 a3 b1 b2 b3 c1 c2 c3 o1 o2 o3 d1 d2 d3 fr w hp (zf ?_)
   rintro ⟨e, _⟩
   apply e
   unfold vvol
   rw [if_neg]
   rintro ⟨_, _, e3⟩
   unfold nrT at hn
   rw [e3] at hn
   cases hn
  | true =>
   rw [tHit_mk h0 h4 hn, ← vvol_X hn (nr_sb h1 h4) (nr_sb h2 h4), ← vvol_X hn (nr_sb h2 h4) (nr_sb h3 h4), ← vvol_X hn (nr_sb h3 h4) (nr_sb h1 h4), ← vvol_X (nr_sb h2 h1) (nr_sb h3 h1) (nr_sb h1 h4), ← vvol_X (nr_sb h2 h1) (nr_sb h3 h1) hn]
   unfold tMk sbT
   dsimp only
   cases hk : fmakeOk (vvol (b1 - a1) (b2 - a2) (b3 - a3) (c1 - a1) (c2 - a2) (c3 - a3) (a1 - o1) (a2 - o2) (a3 - o3)) (vvol (b1 - a1) (b2 - a2) (b3 - a3) (c1 - a1) (c2 - a2) (c3 - a3) d1 d2 d3) with
   | false => rw [if_neg (fun e => by cases e.1)]; exact tri_Hit_nok a1 a2 a3 b1 b2 b3 c1 c2 c3 o1 o2 o3 d1 d2 d3 fr w hp hk
   | true =>
    by_cases hg : (fmake (vvol (b1 - a1) (b2 - a2) (b3 - a3) (c1 - a1) (c2 - a2) (c3 - a3) (a1 - o1) (a2 - o2) (a3 - o3)) (vvol (b1 - a1) (b2 - a2) (b3 - a3) (c1 - a1) (c2 - a2) (c3 - a3) d1 d2 d3)).1 ≤ 0
    · rw [if_neg (fun e => by have := e.2.1; omega)]; exact tri_Hit_neg a1 a2 a3 b1 b2 b3 c1 c2 c3 o1 o2 o3 d1 d2 d3 fr w hp hk (zt hg)
    · cases hs : srd (vvol d1 d2 d3 (a1 - o1) (a2 - o2) (a3 - o3) (b1 - o1) (b2 - o2) (b3 - o3)) (vvol d1 d2 d3 (b1 - o1) (b2 - o2) (b3 - o3) (c1 - o1) (c2 - o2) (c3 - o3)) (vvol d1 d2 d3 (c1 - o1) (c2 - o2) (c3 - o3) (a1 - o1) (a2 - o2) (a3 - o3)) with
      | false => rw [if_neg (fun e => by cases e.2.2)]; exact tri_Hit_out a1 a2 a3 b1 b2 b3 c1 c2 c3 o1 o2 o3 d1 d2 d3 fr w hp hk (zf hg) hs
      | true => rw [if_pos ⟨rfl, by omega, rfl⟩]; exact tri_Hit_yes a1 a2 a3 b1 b2 b3 c1 c2 c3 o1 o2 o3 d1 d2 d3 fr w hp hk (zf hg) hs
end
end Go.Proofs.YtbmpmjdlaahekaaGreat
