/- Contracts of the document's own answers, layer 13: Right, Hit. -/
import Derived.Test.YtbmpmjdlaahekaaGreatWs24
set_option maxRecDepth 100000
set_option maxHeartbeats 8000000
set_option linter.unusedVariables false
set_option linter.unusedSimpArgs false
open Go.Proofs.Tryz
namespace Go.Proofs.YtbmpmjdlaahekaaGreat
section
open Go.RowKit Go.Proofs.Sky
theorem ref13_Right_m1 (k a1 a2 a3 b1 b2 b3 c1 c2 c3 r m : Int) (w : World) (m1 : decide (m < 0) = true) :
  Rt prog 24 #[.agg #[k, a1, a2, a3, b1, b2, b3, c1, c2, c3, r, m]] w (.bool false) := by
 go_enter func24, ntmps24
 go_upto_region 1 with (fail)
 refine wst1 fun W1 kp B1 => ?_
 have cp := bwc12 kp
 refine bws fun p1 => ?_
 go_wp2
 go_ret
 exact ⟨rfl, z00 B1 _⟩
theorem ref13_Right_m2 (k a1 a2 a3 b1 b2 b3 c1 c2 c3 r m : Int) (w : World) (m1 : decide (m < 0) = false) (m2 : decide (63 < m) = true) :
  Rt prog 24 #[.agg #[k, a1, a2, a3, b1, b2, b3, c1, c2, c3, r, m]] w (.bool false) := by
 go_enter func24, ntmps24
 go_upto_region 1 with (fail)
 refine wst1 fun W1 kp B1 => ?_
 have cp := bwc12 kp
 refine bws fun p1 => ?_
 go_wp2
 go_ret
 exact ⟨rfl, z00 B1 _⟩
theorem ref13_Right_flat (a1 a2 a3 b1 b2 b3 c1 c2 c3 r m : Int) (w : World) (m1 : decide (m < 0) = false) (m2 : decide (63 < m) = false)
  (KF : Hid (∀ w, Rt prog 47 #[.agg #[a1, a2, a3], .agg #[b1, b2, b3], .agg #[c1, c2, c3]] w (.bool true))) :
  Rt prog 24 #[.agg #[.int .i64 1, a1, a2, a3, b1, b2, b3, c1, c2, c3, r, m]] w (.bool false) := by
 go_enter func24, ntmps24
 go_upto_region 1 with (fail)
 refine wst1 fun W1 kp B1 => ?_
 have cp := bwc12 kp
 refine bws fun p1 => ?_
 go_wp2_with ((go_at_call 47; (with_reducible refine (z02 KF.out _).mono ?_); rintro e w' ⟨rfl, q, rfl⟩))
 go_ret
 exact ⟨rfl, z00 B1 _⟩
theorem ref13_Right_tri (a1 a2 a3 b1 b2 b3 c1 c2 c3 r m : Int) (w : World) (m1 : decide (m < 0) = false) (m2 : decide (63 < m) = false)
  (KF : Hid (∀ w, Rt prog 47 #[.agg #[a1, a2, a3], .agg #[b1, b2, b3], .agg #[c1, c2, c3]] w (.bool false))) :
  Rt prog 24 #[.agg #[.int .i64 1, a1, a2, a3, b1, b2, b3, c1, c2, c3, r, m]] w (.bool (r == 0)) := by
 go_enter func24, ntmps24
 go_upto_region 1 with (fail)
 refine wst1 fun W1 kp B1 => ?_
 have cp := bwc12 kp
 refine bws fun p1 => ?_
 go_wp2_with ((go_at_call 47; (with_reducible refine (z02 KF.out _).mono ?_); rintro e w' ⟨rfl, q, rfl⟩))
 go_ret
 exact ⟨rfl, z00 B1 _⟩
theorem ref13_Right_none (k a1 a2 a3 b1 b2 b3 c1 c2 c3 r m : Int) (w : World) (m1 : decide (m < 0) = false) (m2 : decide (63 < m) = false) (k1 : ¬ k = 1) (k2 : ¬ k = 2) :
  Rt prog 24 #[.agg #[k, a1, a2, a3, b1, b2, b3, c1, c2, c3, r, m]] w (.bool false) := by
 go_enter func24, ntmps24
 go_upto_region 1 with (fail)
 refine wst1 fun W1 kp B1 => ?_
 have cp := bwc12 kp
 refine bws fun p1 => ?_
 go_wp2
 go_ret
 exact ⟨rfl, z00 B1 _⟩
theorem ref13_Right_noball (a1 a2 a3 b1 b2 b3 c1 c2 c3 r m : Int) (w : World) (m1 : decide (m < 0) = false) (m2 : decide (63 < m) = false)
  (KB : Hid (∀ w, Rt prog 48 #[.agg #[a1, a2, a3], r] w (.bool false))) :
  Rt prog 24 #[.agg #[.int .i64 2, a1, a2, a3, b1, b2, b3, c1, c2, c3, r, m]] w (.bool false) := by
 go_enter func24, ntmps24
 go_upto_region 1 with (fail)
 refine wst1 fun W1 kp B1 => ?_
 have cp := bwc12 kp
 refine bws fun p1 => ?_
 go_wp2_with ((go_at_call 48; (with_reducible refine (z02 KB.out _).mono ?_); rintro e w' ⟨rfl, q, rfl⟩))
 go_ret
 exact ⟨rfl, z00 B1 _⟩
theorem ref13_Right_b1 (a1 a2 a3 b1 b2 b3 c1 c2 c3 r m : Int) (w : World) (m1 : decide (m < 0) = false) (m2 : decide (63 < m) = false)
  (KB : Hid (∀ w, Rt prog 48 #[.agg #[a1, a2, a3], r] w (.bool true))) (ne : ¬ b1 = 0) :
  Rt prog 24 #[.agg #[.int .i64 2, a1, a2, a3, b1, b2, b3, c1, c2, c3, r, m]] w (.bool false) := by
 go_enter func24, ntmps24
 go_upto_region 1 with (fail)
 refine wst1 fun W1 kp B1 => ?_
 have cp := bwc12 kp
 refine bws fun p1 => ?_
 go_wp2_with ((go_at_call 48; (with_reducible refine (z02 KB.out _).mono ?_); rintro e w' ⟨rfl, q, rfl⟩))
 go_ret
 exact ⟨rfl, z00 B1 _⟩
theorem ref13_Right_b2 (a1 a2 a3 b2 b3 c1 c2 c3 r m : Int) (w : World) (m1 : decide (m < 0) = false) (m2 : decide (63 < m) = false)
  (KB : Hid (∀ w, Rt prog 48 #[.agg #[a1, a2, a3], r] w (.bool true))) (ne : ¬ b2 = 0) :
  Rt prog 24 #[.agg #[.int .i64 2, a1, a2, a3, .int .i64 0, b2, b3, c1, c2, c3, r, m]] w (.bool false) := by
 go_enter func24, ntmps24
 go_upto_region 1 with (fail)
 refine wst1 fun W1 kp B1 => ?_
 have cp := bwc12 kp
 refine bws fun p1 => ?_
 go_wp2_with ((go_at_call 48; (with_reducible refine (z02 KB.out _).mono ?_); rintro e w' ⟨rfl, q, rfl⟩))
 go_ret
 exact ⟨rfl, z00 B1 _⟩
theorem ref13_Right_b3 (a1 a2 a3 b3 c1 c2 c3 r m : Int) (w : World) (m1 : decide (m < 0) = false) (m2 : decide (63 < m) = false)
  (KB : Hid (∀ w, Rt prog 48 #[.agg #[a1, a2, a3], r] w (.bool true))) (ne : ¬ b3 = 0) :
  Rt prog 24 #[.agg #[.int .i64 2, a1, a2, a3, .int .i64 0, .int .i64 0, b3, c1, c2, c3, r, m]] w (.bool false) := by
 go_enter func24, ntmps24
 go_upto_region 1 with (fail)
 refine wst1 fun W1 kp B1 => ?_
 have cp := bwc12 kp
 refine bws fun p1 => ?_
 go_wp2_with ((go_at_call 48; (with_reducible refine (z02 KB.out _).mono ?_); rintro e w' ⟨rfl, q, rfl⟩))
 go_ret
 exact ⟨rfl, z00 B1 _⟩
theorem ref13_Right_c1 (a1 a2 a3 c1 c2 c3 r m : Int) (w : World) (m1 : decide (m < 0) = false) (m2 : decide (63 < m) = false)
  (KB : Hid (∀ w, Rt prog 48 #[.agg #[a1, a2, a3], r] w (.bool true))) (ne : ¬ c1 = 0) :
  Rt prog 24 #[.agg #[.int .i64 2, a1, a2, a3, .int .i64 0, .int .i64 0, .int .i64 0, c1, c2, c3, r, m]] w (.bool false) := by
 go_enter func24, ntmps24
 go_upto_region 1 with (fail)
 refine wst1 fun W1 kp B1 => ?_
 have cp := bwc12 kp
 refine bws fun p1 => ?_
 go_wp2_with ((go_at_call 48; (with_reducible refine (z02 KB.out _).mono ?_); rintro e w' ⟨rfl, q, rfl⟩))
 go_ret
 exact ⟨rfl, z00 B1 _⟩
theorem ref13_Right_c2 (a1 a2 a3 c2 c3 r m : Int) (w : World) (m1 : decide (m < 0) = false) (m2 : decide (63 < m) = false)
  (KB : Hid (∀ w, Rt prog 48 #[.agg #[a1, a2, a3], r] w (.bool true))) (ne : ¬ c2 = 0) :
  Rt prog 24 #[.agg #[.int .i64 2, a1, a2, a3, .int .i64 0, .int .i64 0, .int .i64 0, .int .i64 0, c2, c3, r, m]] w (.bool false) := by
 go_enter func24, ntmps24
 go_upto_region 1 with (fail)
 refine wst1 fun W1 kp B1 => ?_
 have cp := bwc12 kp
 refine bws fun p1 => ?_
 go_wp2_with ((go_at_call 48; (with_reducible refine (z02 KB.out _).mono ?_); rintro e w' ⟨rfl, q, rfl⟩))
 go_ret
 exact ⟨rfl, z00 B1 _⟩
theorem ref13_Right_c3 (a1 a2 a3 c3 r m : Int) (w : World) (m1 : decide (m < 0) = false) (m2 : decide (63 < m) = false)
  (KB : Hid (∀ w, Rt prog 48 #[.agg #[a1, a2, a3], r] w (.bool true))) (ne : ¬ c3 = 0) :
  Rt prog 24 #[.agg #[.int .i64 2, a1, a2, a3, .int .i64 0, .int .i64 0, .int .i64 0, .int .i64 0, .int .i64 0, c3, r, m]] w (.bool false) := by
 go_enter func24, ntmps24
 go_upto_region 1 with (fail)
 refine wst1 fun W1 kp B1 => ?_
 have cp := bwc12 kp
 refine bws fun p1 => ?_
 go_wp2_with ((go_at_call 48; (with_reducible refine (z02 KB.out _).mono ?_); rintro e w' ⟨rfl, q, rfl⟩))
 go_ret
 exact ⟨rfl, z00 B1 _⟩
theorem ref13_Right_ball (a1 a2 a3 r m : Int) (w : World) (m1 : decide (m < 0) = false) (m2 : decide (63 < m) = false)
  (KB : Hid (∀ w, Rt prog 48 #[.agg #[a1, a2, a3], r] w (.bool true))) :
  Rt prog 24 #[.agg #[.int .i64 2, a1, a2, a3, .int .i64 0, .int .i64 0, .int .i64 0, .int .i64 0, .int .i64 0, .int .i64 0, r, m]] w (.bool true) := by
 go_enter func24, ntmps24
 go_upto_region 1 with (fail)
 refine wst1 fun W1 kp B1 => ?_
 have cp := bwc12 kp
 refine bws fun p1 => ?_
 go_wp2_with ((go_at_call 48; (with_reducible refine (z02 KB.out _).mono ?_); rintro e w' ⟨rfl, q, rfl⟩))
 go_ret
 exact ⟨rfl, z00 B1 _⟩
theorem ref13_Right (k a1 a2 a3 b1 b2 b3 c1 c2 c3 r m : Int) (w : World) :
  Rt prog 24 #[.agg #[k, a1, a2, a3, b1, b2, b3, c1, c2, c3, r, m]] w (.bool (pRight (Pr.mk k (a1, a2, a3) (b1, b2, b3) (c1, c2, c3) r m))) := by
 by_cases h1 : m < 0
 · rw [show pRight (Pr.mk k (a1, a2, a3) (b1, b2, b3) (c1, c2, c3) r m) = false by unfold pRight; rw [zf (by dsimp only; omega)]; rfl]
   exact ref13_Right_m1 k a1 a2 a3 b1 b2 b3 c1 c2 c3 r m w (zt h1)
 by_cases h2 : 63 < m
 · rw [show pRight (Pr.mk k (a1, a2, a3) (b1, b2, b3) (c1, c2, c3) r m) = false by unfold pRight; rw [zf (by dsimp only; omega)]; rfl]
   exact ref13_Right_m2 k a1 a2 a3 b1 b2 b3 c1 c2 c3 r m w (zf h1) (zt h2)
 have hm : decide (0 ≤ m ∧ m ≤ 63) = true := zt (by omega)
 by_cases k1 : k = 1
 · subst k1
   have KF := zh (fun w => ref11_Flat a1 a2 a3 b1 b2 b3 c1 c2 c3 w)
   unfold pRight
   dsimp only
   rw [hm, if_pos rfl, Bool.true_and]
   cases hf : tFlat (a1, a2, a3) (b1, b2, b3) (c1, c2, c3) with
   | true => rw [hf] at KF; exact ref13_Right_flat a1 a2 a3 b1 b2 b3 c1 c2 c3 r m w (zf h1) (zf h2) KF
   | false => rw [hf] at KF; exact ref13_Right_tri a1 a2 a3 b1 b2 b3 c1 c2 c3 r m w (zf h1) (zf h2) KF
 by_cases k2 : k = 2
 · subst k2
   have KB := zh (fun w => ref12_Right a1 a2 a3 r w)
   unfold pRight
   dsimp only
   rw [hm, if_neg (by omega), Bool.true_and, zt rfl, Bool.true_and]
   cases hb : ballR (a1, a2, a3) r with
   | false => rw [hb] at KB; exact ref13_Right_noball a1 a2 a3 b1 b2 b3 c1 c2 c3 r m w (zf h1) (zf h2) KB
   | true =>
    rw [hb] at KB
    have nz : ∀ x y z : Int, ¬ (x = 0 ∧ y = 0 ∧ z = 0) → isZ (x, y, z) = false := fun x y z h => by unfold isZ; exact zf h
    by_cases n1 : b1 = 0
    · subst n1
      by_cases n2 : b2 = 0
      · subst n2
        by_cases n3 : b3 = 0
        · subst n3
          by_cases q1 : c1 = 0
          · subst q1
            by_cases q2 : c2 = 0
            · subst q2
              by_cases q3 : c3 = 0
              · subst q3; exact ref13_Right_ball a1 a2 a3 r m w (zf h1) (zf h2) KB
              · rw [nz 0 0 c3 (by omega)]; exact ref13_Right_c3 a1 a2 a3 c3 r m w (zf h1) (zf h2) KB q3
            · rw [nz 0 c2 c3 (by omega)]; exact ref13_Right_c2 a1 a2 a3 c2 c3 r m w (zf h1) (zf h2) KB q2
          · rw [nz c1 c2 c3 (by omega)]; exact ref13_Right_c1 a1 a2 a3 c1 c2 c3 r m w (zf h1) (zf h2) KB q1
        · rw [nz 0 0 b3 (by omega)]; exact ref13_Right_b3 a1 a2 a3 b3 c1 c2 c3 r m w (zf h1) (zf h2) KB n3
      · rw [nz 0 b2 b3 (by omega)]; exact ref13_Right_b2 a1 a2 a3 b2 b3 c1 c2 c3 r m w (zf h1) (zf h2) KB n2
    · rw [nz b1 b2 b3 (by omega)]; exact ref13_Right_b1 a1 a2 a3 b1 b2 b3 c1 c2 c3 r m w (zf h1) (zf h2) KB n1
 · rw [show pRight (Pr.mk k (a1, a2, a3) (b1, b2, b3) (c1, c2, c3) r m) = false by unfold pRight; rw [if_neg k1]; rw [zf (show ¬ (Pr.mk k (a1, a2, a3) (b1, b2, b3) (c1, c2, c3) r m).k = 2 from k2), Bool.false_and, Bool.and_false]]
   exact ref13_Right_none k a1 a2 a3 b1 b2 b3 c1 c2 c3 r m w (zf h1) (zf h2) k1 k2
theorem ref13_Hit_none (k a1 a2 a3 b1 b2 b3 c1 c2 c3 r m ix o1 o2 o3 d1 d2 d3 fr : Int) (w : World) 
  (KR : Hid (∀ w, Rt prog 24 #[.agg #[k, a1, a2, a3, b1, b2, b3, c1, c2, c3, r, m]] w (.bool false))) :
  Rt prog 57 #[.agg #[k, a1, a2, a3, b1, b2, b3, c1, c2, c3, r, m], ix, .agg #[o1, o2, o3, d1, d2, d3, fr]] w (.tuple #[.agg #[.int .i64 0, .int .i64 0], .bool false]) := by
 go_enter func57, ntmps57
 go_upto_region 1 with (fail)
 refine wst3 fun W1 kp ky kh B1 => ?_
 have ly : w.heap.size < w.heap.size + 1 := by omega
 have lh : w.heap.size + 1 < w.heap.size + 1 + 1 := by omega
 generalize w.heap.size + 1 + 1 = gh at *
 generalize w.heap.size + 1 = gy at *
 have cp := bwc12 kp
 have cy := bwc7 ky
 have ch := bwc2 kh
 have fh := bwf2 kh
 refine bws fun p1 => ?_
 go_wp2_with ((go_at_call 24; (with_reducible refine (z02 KR.out _).mono ?_); rintro e w' ⟨rfl, q, rfl⟩))
 have kr := bkp2 (kh.below q.h) (.int .i64 0) (.int .i64 0)
 have rc := rwc2 kr
 exact bodyPost_ret (v := .tuple #[.agg #[.int .i64 0, .int .i64 0], .bool false]) (by simp [results, results57, go_sem, rc]) rfl ⟨rfl, blp2 (z00 B1 q) (by omega)⟩
theorem ref13_Hit_own (a1 a2 a3 b1 b2 b3 c1 c2 c3 r m ix o1 o2 o3 d1 d2 d3 : Int) (w : World) 
  (KR : Hid (∀ w, Rt prog 24 #[.agg #[.int .i64 1, a1, a2, a3, b1, b2, b3, c1, c2, c3, r, m]] w (.bool true))) :
  Rt prog 57 #[.agg #[.int .i64 1, a1, a2, a3, b1, b2, b3, c1, c2, c3, r, m], ix, .agg #[o1, o2, o3, d1, d2, d3, ix]] w (.tuple #[.agg #[.int .i64 0, .int .i64 0], .bool false]) := by
 go_enter func57, ntmps57
 go_upto_region 1 with (fail)
 refine wst3 fun W1 kp ky kh B1 => ?_
 have ly : w.heap.size < w.heap.size + 1 := by omega
 have lh : w.heap.size + 1 < w.heap.size + 1 + 1 := by omega
 generalize w.heap.size + 1 + 1 = gh at *
 generalize w.heap.size + 1 = gy at *
 have cp := bwc12 kp
 have cy := bwc7 ky
 have ch := bwc2 kh
 have fh := bwf2 kh
 refine bws fun p1 => ?_
 go_wp2_with ((go_at_call 24; (with_reducible refine (z02 KR.out _).mono ?_); rintro e w' ⟨rfl, q, rfl⟩))
 have kr := bkp2 (kh.below q.h) (.int .i64 0) (.int .i64 0)
 have rc := rwc2 kr
 exact bodyPost_ret (v := .tuple #[.agg #[.int .i64 0, .int .i64 0], .bool false]) (by simp [results, results57, go_sem, rc]) rfl ⟨rfl, blp2 (z00 B1 q) (by omega)⟩
theorem ref13_Hit_tri (a1 a2 a3 b1 b2 b3 c1 c2 c3 r m ix o1 o2 o3 d1 d2 d3 fr hn hd : Int) (w : World) (ok : Bool) 
  (KR : Hid (∀ w, Rt prog 24 #[.agg #[.int .i64 1, a1, a2, a3, b1, b2, b3, c1, c2, c3, r, m]] w (.bool true))) (ne : ¬ fr = ix)
  (KH : Hid (∀ w, Rt prog 89 #[.agg #[a1, a2, a3], .agg #[b1, b2, b3], .agg #[c1, c2, c3], .agg #[o1, o2, o3, d1, d2, d3, fr]] w (.tuple #[.agg #[hn, hd], .bool ok]))) :
  Rt prog 57 #[.agg #[.int .i64 1, a1, a2, a3, b1, b2, b3, c1, c2, c3, r, m], ix, .agg #[o1, o2, o3, d1, d2, d3, fr]] w (.tuple #[.agg #[hn, hd], .bool ok]) := by
 go_enter func57, ntmps57
 go_upto_region 1 with (fail)
 refine wst3 fun W1 kp ky kh B1 => ?_
 have ly : w.heap.size < w.heap.size + 1 := by omega
 have lh : w.heap.size + 1 < w.heap.size + 1 + 1 := by omega
 generalize w.heap.size + 1 + 1 = gh at *
 generalize w.heap.size + 1 = gy at *
 have cp := bwc12 kp
 have cy := bwc7 ky
 have ch := bwc2 kh
 have fh := bwf2 kh
 refine bws fun p1 => ?_
 go_wp2_with (first
  | (go_at_call 24; (with_reducible refine (z02 KR.out _).mono ?_); rintro e w' ⟨rfl, q, rfl⟩)
  | (go_at_call 89; (with_reducible refine (z02 KH.out _).mono ?_); rintro e w' ⟨rfl, q, rfl⟩))
 have kr := bkp2 (kh.below q.h) (.int .i64 hn) (.int .i64 hd)
 have rc := rwc2 kr
 exact bodyPost_ret (v := .tuple #[.agg #[hn, hd], .bool ok]) (by simp [results, results57, go_sem, rc]) rfl ⟨rfl, blp2 (z00 B1 q) (by omega)⟩
theorem ref13_Hit_through (k a1 a2 a3 b1 b2 b3 c1 c2 c3 r m ix o1 o2 o3 d1 d2 d3 hn hd : Int) (w : World) (ok : Bool) 
  (KR : Hid (∀ w, Rt prog 24 #[.agg #[k, a1, a2, a3, b1, b2, b3, c1, c2, c3, r, m]] w (.bool true))) (nk : ¬ k = 1)
  (KH : Hid (∀ w, Rt prog 90 #[.agg #[a1, a2, a3], r, .agg #[o1, o2, o3, d1, d2, d3, ix]] w (.tuple #[.agg #[hn, hd], .bool ok]))) :
  Rt prog 57 #[.agg #[k, a1, a2, a3, b1, b2, b3, c1, c2, c3, r, m], ix, .agg #[o1, o2, o3, d1, d2, d3, ix]] w (.tuple #[.agg #[hn, hd], .bool ok]) := by
 go_enter func57, ntmps57
 go_upto_region 1 with (fail)
 refine wst3 fun W1 kp ky kh B1 => ?_
 have ly : w.heap.size < w.heap.size + 1 := by omega
 have lh : w.heap.size + 1 < w.heap.size + 1 + 1 := by omega
 generalize w.heap.size + 1 + 1 = gh at *
 generalize w.heap.size + 1 = gy at *
 have cp := bwc12 kp
 have cy := bwc7 ky
 have ch := bwc2 kh
 have fh := bwf2 kh
 refine bws fun p1 => ?_
 go_wp2_with (first
  | (go_at_call 24; (with_reducible refine (z02 KR.out _).mono ?_); rintro e w' ⟨rfl, q, rfl⟩)
  | (go_at_call 90; (with_reducible refine (z02 KH.out _).mono ?_); rintro e w' ⟨rfl, q, rfl⟩))
 have kr := bkp2 (kh.below q.h) (.int .i64 hn) (.int .i64 hd)
 have rc := rwc2 kr
 exact bodyPost_ret (v := .tuple #[.agg #[hn, hd], .bool ok]) (by simp [results, results57, go_sem, rc]) rfl ⟨rfl, blp2 (z00 B1 q) (by omega)⟩
theorem ref13_Hit_ball (k a1 a2 a3 b1 b2 b3 c1 c2 c3 r m ix o1 o2 o3 d1 d2 d3 fr hn hd : Int) (w : World) (ok : Bool) 
  (KR : Hid (∀ w, Rt prog 24 #[.agg #[k, a1, a2, a3, b1, b2, b3, c1, c2, c3, r, m]] w (.bool true))) (nk : ¬ k = 1) (ne : ¬ fr = ix)
  (KH : Hid (∀ w, Rt prog 91 #[.agg #[a1, a2, a3], r, .agg #[o1, o2, o3, d1, d2, d3, fr]] w (.tuple #[.agg #[hn, hd], .bool ok]))) :
  Rt prog 57 #[.agg #[k, a1, a2, a3, b1, b2, b3, c1, c2, c3, r, m], ix, .agg #[o1, o2, o3, d1, d2, d3, fr]] w (.tuple #[.agg #[hn, hd], .bool ok]) := by
 go_enter func57, ntmps57
 go_upto_region 1 with (fail)
 refine wst3 fun W1 kp ky kh B1 => ?_
 have ly : w.heap.size < w.heap.size + 1 := by omega
 have lh : w.heap.size + 1 < w.heap.size + 1 + 1 := by omega
 generalize w.heap.size + 1 + 1 = gh at *
 generalize w.heap.size + 1 = gy at *
 have cp := bwc12 kp
 have cy := bwc7 ky
 have ch := bwc2 kh
 have fh := bwf2 kh
 refine bws fun p1 => ?_
 go_wp2_with (first
  | (go_at_call 24; (with_reducible refine (z02 KR.out _).mono ?_); rintro e w' ⟨rfl, q, rfl⟩)
  | (go_at_call 91; (with_reducible refine (z02 KH.out _).mono ?_); rintro e w' ⟨rfl, q, rfl⟩))
 have kr := bkp2 (kh.below q.h) (.int .i64 hn) (.int .i64 hd)
 have rc := rwc2 kr
 exact bodyPost_ret (v := .tuple #[.agg #[hn, hd], .bool ok]) (by simp [results, results57, go_sem, rc]) rfl ⟨rfl, blp2 (z00 B1 q) (by omega)⟩
theorem ref13_Hit (k a1 a2 a3 b1 b2 b3 c1 c2 c3 r m ix o1 o2 o3 d1 d2 d3 fr : Int) (w : World) (hp : Pr.I (Pr.mk k (a1, a2, a3) (b1, b2, b3) (c1, c2, c3) r m)) (hx : I64 ix) (ho : I3 (o1, o2, o3)) (hd : I3 (d1, d2, d3)) (hf : I64 fr) :
  Rt prog 57 #[.agg #[k, a1, a2, a3, b1, b2, b3, c1, c2, c3, r, m], ix, .agg #[o1, o2, o3, d1, d2, d3, fr]] w (.tuple #[.agg #[(pHit (Pr.mk k (a1, a2, a3) (b1, b2, b3) (c1, c2, c3) r m) ix (o1, o2, o3) (d1, d2, d3) fr).1.1, (pHit (Pr.mk k (a1, a2, a3) (b1, b2, b3) (c1, c2, c3) r m) ix (o1, o2, o3) (d1, d2, d3) fr).1.2], .bool (pHit (Pr.mk k (a1, a2, a3) (b1, b2, b3) (c1, c2, c3) r m) ix (o1, o2, o3) (d1, d2, d3) fr).2]) := by
 obtain ⟨_, ia, ib, ic, ir, _⟩ := hp
 dsimp only at ia ib ic ir
 have KR := zh (fun w => ref13_Right k a1 a2 a3 b1 b2 b3 c1 c2 c3 r m w)
 unfold pHit
 cases hR : pRight (Pr.mk k (a1, a2, a3) (b1, b2, b3) (c1, c2, c3) r m) with
 | false =>
  rw [hR] at KR
  rw [if_neg (by decide)]
  exact ref13_Hit_none k a1 a2 a3 b1 b2 b3 c1 c2 c3 r m ix o1 o2 o3 d1 d2 d3 fr w KR
 | true =>
  rw [hR] at KR
  rw [if_pos rfl]
  dsimp only
  by_cases k1 : k = 1
  · subst k1
    rw [if_pos rfl]
    by_cases hf : fr = ix
    · subst hf
      rw [if_pos rfl]
      exact ref13_Hit_own a1 a2 a3 b1 b2 b3 c1 c2 c3 r m fr o1 o2 o3 d1 d2 d3 w KR
    · rw [if_neg hf]
      exact ref13_Hit_tri a1 a2 a3 b1 b2 b3 c1 c2 c3 r m ix o1 o2 o3 d1 d2 d3 fr _ _ w _ KR hf (zh (fun w => ref11_Hit a1 a2 a3 b1 b2 b3 c1 c2 c3 o1 o2 o3 d1 d2 d3 fr w))
  · rw [if_neg k1]
    by_cases hf : fr = ix
    · subst hf
      rw [if_pos rfl]
      exact ref13_Hit_through k a1 a2 a3 b1 b2 b3 c1 c2 c3 r m fr o1 o2 o3 d1 d2 d3 _ _ w _ KR k1 (zh (fun w => ref12_Through a1 a2 a3 r o1 o2 o3 d1 d2 d3 fr w ia ir ho hd))
    · rw [if_neg hf]
      exact ref13_Hit_ball k a1 a2 a3 b1 b2 b3 c1 c2 c3 r m ix o1 o2 o3 d1 d2 d3 fr _ _ w _ KR k1 hf (zh (fun w => ref12_Hit a1 a2 a3 r o1 o2 o3 d1 d2 d3 fr w ia ir ho hd))
end
end Go.Proofs.YtbmpmjdlaahekaaGreat
