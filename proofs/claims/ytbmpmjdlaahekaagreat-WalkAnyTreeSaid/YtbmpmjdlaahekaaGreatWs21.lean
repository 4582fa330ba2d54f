/- Contracts of the document's own answers, layer 11. Contracts of the do -/
import Derived.Test.YtbmpmjdlaahekaaGreatWs18
import Derived.Test.YtbmpmjdlaahekaaGreatWs9
set_option maxRecDepth 100000
set_option maxHeartbeats 8000000
set_option linter.unusedVariables false
set_option linter.unusedSimpArgs false
open Go.Proofs.Tryz
namespace Go.Proofs.YtbmpmjdlaahekaaGreat
section
section
open Go.RowKit Go.Proofs.Sky
def inM (n : Int) : Bool := decide (-524288 ≤ n ∧ n ≤ 524288)
theorem plc_inM (x y z : Int) : plc (x, y, z) = (inM x && (inM y && inM z)) := by
 unfold plc wi inM
 rw [Bool.eq_iff_iff]
 simp only [Bool.and_eq_true, decide_eq_true_eq]
 omega
theorem ref11_within (n : Int) (w : World) :
  Rt prog 42 #[n, .int .i64 524288] w (.bool (inM n)) := by
 have m1 : wrap64 (-524288) = -524288 := IntWalk.wrap64_in _ (by omega)
 unfold inM
 by_cases h1 : -524288 ≤ n
 · by_cases h2 : n ≤ 524288
   · have t1 : decide (-524288 ≤ n) = true := zt h1
     have t2 : decide (n ≤ 524288) = true := zt h2
     rw [show decide (-524288 ≤ n ∧ n ≤ 524288) = true from zt ⟨h1, h2⟩]
     go_enter func42, ntmps42
     go_wp2
     go_ret
     exact ⟨rfl, Below.refl _ _⟩
   · have t1 : decide (-524288 ≤ n) = true := zt h1
     have t2 : decide (n ≤ 524288) = false := zf h2
     rw [show decide (-524288 ≤ n ∧ n ≤ 524288) = false from zf (fun e => h2 e.2)]
     go_enter func42, ntmps42
     go_wp2
     go_ret
     exact ⟨rfl, Below.refl _ _⟩
 · have t1 : decide (-524288 ≤ n) = false := zf h1
   rw [show decide (-524288 ≤ n ∧ n ≤ 524288) = false from zf (fun e => h1 e.1)]
   go_enter func42, ntmps42
   go_wp2
   go_ret
   exact ⟨rfl, Below.refl _ _⟩
theorem z0v (x y z : Int) (w : World) :
  Rt prog 19 #[.agg #[x, y, z]] w (.bool (plc (x, y, z))) := by
 have K1 := zh (fun w => ref11_within x w)
 have K2 := zh (fun w => ref11_within y w)
 have K3 := zh (fun w => ref11_within z w)
 rw [plc_inM]
 generalize inM x = e1 at *
 generalize inM y = e2 at *
 generalize inM z = e3 at *
 go_enter func19, ntmps19
 go_upto_region 1 with (fail)
 obtain ⟨W1, hW1⟩ : ∃ W, W = w.alloc (.cells #[x, y, z] 24) := ⟨_, rfl⟩
 obtain ⟨kv, B1⟩ := st1 hW1
 rw [← hW1]
 clear hW1
 have cv := bwc3 kv
 obtain ⟨p1, hp1⟩ := bwx W1
 rw [← hp1]
 clear hp1
 rcases e1 with _ | _ <;> rcases e2 with _ | _ <;> rcases e3 with _ | _
 all_goals
  go_wp2_with ((go_at_call 42; (first | (with_reducible refine (z02 K1.out _).mono ?_) | (with_reducible refine (z02 K2.out _).mono ?_) | (with_reducible refine (z02 K3.out _).mono ?_)); rintro e w' ⟨rfl, q, rfl⟩))
  go_ret
  exact ⟨rfl, z00 B1 _⟩
theorem ref11_places (a1 a2 a3 b1 b2 b3 c1 c2 c3 : Int) (w : World) :
  Rt prog 78 #[.agg #[a1, a2, a3], .agg #[b1, b2, b3], .agg #[c1, c2, c3]] w (.bool (pl3 (a1, a2, a3) (b1, b2, b3) (c1, c2, c3))) := by
 have K1 := zh (fun w => z0v a1 a2 a3 w)
 have K2 := zh (fun w => z0v b1 b2 b3 w)
 have K3 := zh (fun w => z0v c1 c2 c3 w)
 unfold pl3
 generalize plc (a1, a2, a3) = e1 at *
 generalize plc (b1, b2, b3) = e2 at *
 generalize plc (c1, c2, c3) = e3 at *
 go_enter func78, ntmps78
 go_upto_region 1 with (fail)
 obtain ⟨W1, hW1⟩ : ∃ W, W = ((w.alloc (.cells #[a1, a2, a3] 24)).alloc (.cells #[b1, b2, b3] 24)).alloc (.cells #[c1, c2, c3] 24) := ⟨_, rfl⟩
 obtain ⟨ka, kb, kc, B1⟩ := st3 hW1
 rw [← hW1]
 clear hW1
 have lb : w.heap.size < w.heap.size + 1 := by omega
 have lc : w.heap.size + 1 < w.heap.size + 1 + 1 := by omega
 generalize w.heap.size + 1 + 1 = gc at *
 generalize w.heap.size + 1 = gb at *
 have c_a := bwc3 ka
 have cb := bwc3 kb
 have cc := bwc3 kc
 obtain ⟨p1, hp1⟩ := bwx W1
 rw [← hp1]
 clear hp1
 rcases e1 with _ | _ <;> rcases e2 with _ | _ <;> rcases e3 with _ | _
 all_goals
  go_wp2_with ((go_at_call 19; (first | (with_reducible refine (z02 K1.out _).mono ?_) | (with_reducible refine (z02 K2.out _).mono ?_) | (with_reducible refine (z02 K3.out _).mono ?_)); rintro e w' ⟨rfl, q, rfl⟩))
  go_ret
  exact ⟨rfl, z00 B1 _⟩
theorem ref11_upon (a1 a2 a3 b1 b2 b3 c1 c2 c3 : Int) (w : World) (h : pl3 (a1, a2, a3) (b1, b2, b3) (c1, c2, c3) = true) :
  Rt prog 79 #[.agg #[a1, a2, a3], .agg #[b1, b2, b3], .agg #[c1, c2, c3]] w (.agg #[(upsT (a1, a2, a3) (b1, b2, b3) (c1, c2, c3)).1, (upsT (a1, a2, a3) (b1, b2, b3) (c1, c2, c3)).2.1, (upsT (a1, a2, a3) (b1, b2, b3) (c1, c2, c3)).2.2]) := by
 obtain ⟨h1, h2, h3⟩ := pl3_iff.1 h
 have q1 := z0a.1 h1
 have q2 := z0a.1 h2
 have q3 := z0a.1 h3
 dsimp only at q1 q2 q3
 have sx : ∀ x y : Int, -524288 ≤ x ∧ x ≤ 524288 → -524288 ≤ y ∧ y ≤ 524288 → vsub x y = x - y := fun x y hx hy => by
  unfold vsub sat
  rw [if_neg (by omega), if_neg (by omega), if_neg (by omega), if_neg (by omega)]
  omega
 have KB1 := zh (fun w => ref6_Sub b1 b2 b3 a1 a2 a3 w (by unfold I64; omega) (by unfold I64; omega) (by unfold I64; omega) (by unfold I64; omega) (by unfold I64; omega) (by unfold I64; omega))
 rw [sx b1 a1 (by omega) (by omega), sx b2 a2 (by omega) (by omega), sx b3 a3 (by omega) (by omega)] at KB1
 obtain ⟨e1, he1⟩ := nmd (b1 - a1)
 obtain ⟨e2, he2⟩ := nmd (b2 - a2)
 obtain ⟨e3, he3⟩ := nmd (b3 - a3)
 rw [← he1, ← he2, ← he3] at KB1
 have KB2 := zh (fun w => ref6_Sub c1 c2 c3 a1 a2 a3 w (by unfold I64; omega) (by unfold I64; omega) (by unfold I64; omega) (by unfold I64; omega) (by unfold I64; omega) (by unfold I64; omega))
 rw [sx c1 a1 (by omega) (by omega), sx c2 a2 (by omega) (by omega), sx c3 a3 (by omega) (by omega)] at KB2
 obtain ⟨f1, hf1⟩ := nmd (c1 - a1)
 obtain ⟨f2, hf2⟩ := nmd (c2 - a2)
 obtain ⟨f3, hf3⟩ := nmd (c3 - a3)
 rw [← hf1, ← hf2, ← hf3] at KB2
 have KX := zh (fun w => ref6_Cross e1 e2 e3 f1 f2 f3 w)
 have hu : upsT (a1, a2, a3) (b1, b2, b3) (c1, c2, c3) = vcr e1 e2 e3 f1 f2 f3 := by
  unfold upsT crX sbT vcr
  rw [if_pos ⟨by rw [z0t]; omega, by rw [z0t]; omega⟩]
  dsimp only
  rw [he1, he2, he3, hf1, hf2, hf3]
 rw [hu]
 generalize vcr e1 e2 e3 f1 f2 f3 = U at *
 obtain ⟨u1, u2, u3⟩ := U
 dsimp only at KX ⊢
 clear hu sx h h1 h2 h3 q1 q2 q3 he1 he2 he3 hf1 hf2 hf3
 go_enter func79, ntmps79
 go_upto_region 1 with (fail)
 obtain ⟨W1, hW1⟩ : ∃ W, W = (((w.alloc (.cells #[a1, a2, a3] 24)).alloc (.cells #[b1, b2, b3] 24)).alloc (.cells #[c1, c2, c3] 24)).alloc (.cells #[.int .i64 0, .int .i64 0, .int .i64 0] 24) := ⟨_, rfl⟩
 obtain ⟨ka, kb, kc, k_r, B1⟩ := st4 hW1
 rw [← hW1]
 clear hW1
 have lb : w.heap.size < w.heap.size + 1 := by omega
 have lc : w.heap.size + 1 < w.heap.size + 1 + 1 := by omega
 have lr : w.heap.size + 1 + 1 < w.heap.size + 1 + 1 + 1 := by omega
 generalize w.heap.size + 1 + 1 + 1 = gr at *
 generalize w.heap.size + 1 + 1 = gc at *
 generalize w.heap.size + 1 = gb at *
 have c_a := bwc3 ka
 have cb := bwc3 kb
 have cc := bwc3 kc
 have cr := bwc3 k_r
 have fr := bwf3 k_r
 obtain ⟨p1, hp1⟩ := bwx W1
 rw [← hp1]
 clear hp1
 refine z0h 7 (by kernel_rfl) (by kernel_rfl) (by kernel_rfl) ?_
 simp only [List.take_succ_cons, List.take_zero, List.drop_succ_cons, List.drop_zero]
 repeat (go_big_quiet_step (first
  | (go_at_call 21; (first | (with_reducible exact z02 KB1.out _) | (with_reducible exact z02 KB2.out _)))
  | (go_at_call 109; (with_reducible exact z02 KX.out _))))
 refine wpQuiet_nil ?_
 intro _ hw'
 obtain ⟨q, rfl⟩ := hw'
 go_wp2
 have kr := bkp3 (k_r.below q.h) (.int .i64 u1) (.int .i64 u2) (.int .i64 u3)
 have rc := rwc3 kr
 exact bodyPost_ret (v := .agg #[u1, u2, u3]) (by simp [results, results79, go_sem, rc]) rfl ⟨rfl, blp3 (z00 B1 q) (by omega)⟩
theorem ref11_Flat (a1 a2 a3 b1 b2 b3 c1 c2 c3 : Int) (w : World) :
  Rt prog 47 #[.agg #[a1, a2, a3], .agg #[b1, b2, b3], .agg #[c1, c2, c3]] w (.bool (tFlat (a1, a2, a3) (b1, b2, b3) (c1, c2, c3))) := by
 have KP := zh (fun w => ref11_places a1 a2 a3 b1 b2 b3 c1 c2 c3 w)
 unfold tFlat
 by_cases h : pl3 (a1, a2, a3) (b1, b2, b3) (c1, c2, c3) = true
 rotate_left
 · have hf : pl3 (a1, a2, a3) (b1, b2, b3) (c1, c2, c3) = false := by simpa using h
   rw [hf] at KP ⊢
   clear h hf
   show Calls _ _ _ _ (fun en w' => en = .returned (.bool true) ∧ _)
   go_enter func47, ntmps47
   go_upto_region 1 with (fail)
   obtain ⟨W1, hW1⟩ : ∃ W, W = ((w.alloc (.cells #[a1, a2, a3] 24)).alloc (.cells #[b1, b2, b3] 24)).alloc (.cells #[c1, c2, c3] 24) := ⟨_, rfl⟩
   obtain ⟨ka, kb, kc, B1⟩ := st3 hW1
   rw [← hW1]
   clear hW1
   have lb : w.heap.size < w.heap.size + 1 := by omega
   have lc : w.heap.size + 1 < w.heap.size + 1 + 1 := by omega
   generalize w.heap.size + 1 + 1 = gc at *
   generalize w.heap.size + 1 = gb at *
   have c_a := bwc3 ka
   have cb := bwc3 kb
   have cc := bwc3 kc
   obtain ⟨p1, hp1⟩ := bwx W1
   rw [← hp1]
   clear hp1
   go_wp2_with ((go_at_call 78; (with_reducible refine (z02 KP.out _).mono ?_); rintro e w' ⟨rfl, q, rfl⟩))
   go_ret
   exact ⟨rfl, z00 B1 _⟩
 have KU := zh (fun w => ref11_upon a1 a2 a3 b1 b2 b3 c1 c2 c3 w h)
 rw [h] at KP ⊢
 generalize upsT (a1, a2, a3) (b1, b2, b3) (c1, c2, c3) = U at *
 obtain ⟨u1, u2, u3⟩ := U
 dsimp only at KU
 clear h
 show Calls _ _ _ _ (fun en w' => en = .returned (.bool (isZ (u1, u2, u3))) ∧ _)
 by_cases n1 : u1 = 0
 · subst n1
   by_cases n2 : u2 = 0
   · subst n2
     by_cases n3 : u3 = 0
     · subst n3
       rw [show isZ (0, 0, 0) = true by decide]
       go_enter func47, ntmps47
       go_upto_region 1 with (fail)
       obtain ⟨W1, hW1⟩ : ∃ W, W = ((w.alloc (.cells #[a1, a2, a3] 24)).alloc (.cells #[b1, b2, b3] 24)).alloc (.cells #[c1, c2, c3] 24) := ⟨_, rfl⟩
       obtain ⟨ka, kb, kc, B1⟩ := st3 hW1
       rw [← hW1]
       clear hW1
       have lb : w.heap.size < w.heap.size + 1 := by omega
       have lc : w.heap.size + 1 < w.heap.size + 1 + 1 := by omega
       generalize w.heap.size + 1 + 1 = gc at *
       generalize w.heap.size + 1 = gb at *
       have c_a := bwc3 ka
       have cb := bwc3 kb
       have cc := bwc3 kc
       obtain ⟨p1, hp1⟩ := bwx W1
       rw [← hp1]
       clear hp1
       go_wp2_with (first
        | (go_at_call 78; (with_reducible refine (z02 KP.out _).mono ?_); rintro e w' ⟨rfl, q, rfl⟩)
        | (go_at_call 79; (with_reducible refine (z02 KU.out _).mono ?_); rintro e w' ⟨rfl, q, rfl⟩))
       go_ret
       exact ⟨rfl, z00 B1 _⟩
     · rw [show isZ (0, 0, u3) = false by unfold isZ; simp [n3]]
       go_enter func47, ntmps47
       go_upto_region 1 with (fail)
       obtain ⟨W1, hW1⟩ : ∃ W, W = ((w.alloc (.cells #[a1, a2, a3] 24)).alloc (.cells #[b1, b2, b3] 24)).alloc (.cells #[c1, c2, c3] 24) := ⟨_, rfl⟩
       obtain ⟨ka, kb, kc, B1⟩ := st3 hW1
       rw [← hW1]
       clear hW1
       have lb : w.heap.size < w.heap.size + 1 := by omega
       have lc : w.heap.size + 1 < w.heap.size + 1 + 1 := by omega
       generalize w.heap.size + 1 + 1 = gc at *
       generalize w.heap.size + 1 = gb at *
       have c_a := bwc3 ka
       have cb := bwc3 kb
       have cc := bwc3 kc
       obtain ⟨p1, hp1⟩ := bwx W1
       rw [← hp1]
       clear hp1
       go_wp2_with (first
        | (go_at_call 78; (with_reducible refine (z02 KP.out _).mono ?_); rintro e w' ⟨rfl, q, rfl⟩)
        | (go_at_call 79; (with_reducible refine (z02 KU.out _).mono ?_); rintro e w' ⟨rfl, q, rfl⟩))
       go_ret
       exact ⟨rfl, z00 B1 _⟩
   · rw [show isZ (0, u2, u3) = false by unfold isZ; simp [n2]]
     go_enter func47, ntmps47
     go_upto_region 1 with (fail)
     obtain ⟨W1, hW1⟩ : ∃ W, W = ((w.alloc (.cells #[a1, a2, a3] 24)).alloc (.cells #[b1, b2, b3] 24)).alloc (.cells #[c1, c2, c3] 24) := ⟨_, rfl⟩
     obtain ⟨ka, kb, kc, B1⟩ := st3 hW1
     rw [← hW1]
     clear hW1
     have lb : w.heap.size < w.heap.size + 1 := by omega
     have lc : w.heap.size + 1 < w.heap.size + 1 + 1 := by omega
     generalize w.heap.size + 1 + 1 = gc at *
     generalize w.heap.size + 1 = gb at *
     have c_a := bwc3 ka
     have cb := bwc3 kb
     have cc := bwc3 kc
     obtain ⟨p1, hp1⟩ := bwx W1
     rw [← hp1]
     clear hp1
     go_wp2_with (first
      | (go_at_call 78; (with_reducible refine (z02 KP.out _).mono ?_); rintro e w' ⟨rfl, q, rfl⟩)
      | (go_at_call 79; (with_reducible refine (z02 KU.out _).mono ?_); rintro e w' ⟨rfl, q, rfl⟩))
     go_ret
     exact ⟨rfl, z00 B1 _⟩
 · rw [show isZ (u1, u2, u3) = false by unfold isZ; simp [n1]]
   go_enter func47, ntmps47
   go_upto_region 1 with (fail)
   obtain ⟨W1, hW1⟩ : ∃ W, W = ((w.alloc (.cells #[a1, a2, a3] 24)).alloc (.cells #[b1, b2, b3] 24)).alloc (.cells #[c1, c2, c3] 24) := ⟨_, rfl⟩
   obtain ⟨ka, kb, kc, B1⟩ := st3 hW1
   rw [← hW1]
   clear hW1
   have lb : w.heap.size < w.heap.size + 1 := by omega
   have lc : w.heap.size + 1 < w.heap.size + 1 + 1 := by omega
   generalize w.heap.size + 1 + 1 = gc at *
   generalize w.heap.size + 1 = gb at *
   have c_a := bwc3 ka
   have cb := bwc3 kb
   have cc := bwc3 kc
   obtain ⟨p1, hp1⟩ := bwx W1
   rw [← hp1]
   clear hp1
   go_wp2_with (first
    | (go_at_call 78; (with_reducible refine (z02 KP.out _).mono ?_); rintro e w' ⟨rfl, q, rfl⟩)
    | (go_at_call 79; (with_reducible refine (z02 KU.out _).mono ?_); rintro e w' ⟨rfl, q, rfl⟩))
   go_ret
   exact ⟨rfl, z00 B1 _⟩
end
end
section
section
open Go.RowKit Go.Proofs.Sky
theorem vlX_41 {u v w : T3} (hu : nrT u = true) (hv : nrT v = true) (hw : nrT w = true) : -6917529027641081856 ≤ vlX u v w ∧ vlX u v w ≤ 6917529027641081856 := by
 unfold nrT at hu hv hw
 rw [z0t] at hu hv hw
 have m : ∀ {p q : Int}, (-1048576 ≤ p ∧ p ≤ 1048576) → (-1048576 ≤ q ∧ q ≤ 1048576) → -1099511627776 ≤ p * q ∧ p * q ≤ 1099511627776 := fun hp hq => z0n hp hq
 have p1 := m (p := v.2.1) (q := w.2.2) (by omega) (by omega)
 have p2 := m (p := v.2.2) (q := w.2.1) (by omega) (by omega)
 have p3 := m (p := v.2.2) (q := w.1) (by omega) (by omega)
 have p4 := m (p := v.1) (q := w.2.2) (by omega) (by omega)
 have p5 := m (p := v.1) (q := w.2.1) (by omega) (by omega)
 have p6 := m (p := v.2.1) (q := w.1) (by omega) (by omega)
 unfold vlX
 have q1 := z0y (x := u.1) (a := v.2.1 * w.2.2 - v.2.2 * w.2.1) (by omega) (by omega)
 have q2 := z0y (x := u.2.1) (a := v.2.2 * w.1 - v.1 * w.2.2) (by omega) (by omega)
 have q3 := z0y (x := u.2.2) (a := v.1 * w.2.1 - v.2.1 * w.1) (by omega) (by omega)
 omega
theorem vvol_vlX {u v w : T3} (hu : nrT u = true) (hv : nrT v = true) (hw : nrT w = true) : vvol u.1 u.2.1 u.2.2 v.1 v.2.1 v.2.2 w.1 w.2.1 w.2.2 = vlX u v w := by
 unfold vvol
 rw [if_pos ⟨hu, hv, hw⟩]
 rfl
theorem sbT_near {a o : T3} (ha : plc a = true) (ho : plc o = true) : nrT (sbT a o) = true := by
 rw [z0a] at ha ho
 unfold nrT sbT
 rw [z0t]
 dsimp only
 omega
theorem ref11_Hit_no1 (a1 a2 a3 b1 b2 b3 c1 c2 c3 o1 o2 o3 d1 d2 d3 fr : Int) (w : World) (h1 : pl3 (a1, a2, a3) (b1, b2, b3) (c1, c2, c3) = false) :
  Rt prog 89 #[.agg #[a1, a2, a3], .agg #[b1, b2, b3], .agg #[c1, c2, c3], .agg #[o1, o2, o3, d1, d2, d3, fr]] w (.tuple #[.agg #[(tHit (a1, a2, a3) (b1, b2, b3) (c1, c2, c3) (o1, o2, o3) (d1, d2, d3)).1.1, (tHit (a1, a2, a3) (b1, b2, b3) (c1, c2, c3) (o1, o2, o3) (d1, d2, d3)).1.2], .bool (tHit (a1, a2, a3) (b1, b2, b3) (c1, c2, c3) (o1, o2, o3) (d1, d2, d3)).2]) := by
 rw [show tHit (a1, a2, a3) (b1, b2, b3) (c1, c2, c3) (o1, o2, o3) (d1, d2, d3) = ((0, 0), false) by unfold tHit; rw [if_neg (by rw [h1]; simp)]]
 dsimp only
 have KP := zh (fun w => ref11_places a1 a2 a3 b1 b2 b3 c1 c2 c3 w)
 rw [h1] at KP
 clear h1
 go_enter func89, ntmps89
 go_upto_region 1 with (fail)
 obtain ⟨W1, hW1⟩ : ∃ W, W = ((((w.alloc (.cells #[a1, a2, a3] 24)).alloc (.cells #[b1, b2, b3] 24)).alloc (.cells #[c1, c2, c3] 24)).alloc (.cells #[o1, o2, o3, d1, d2, d3, fr] 26)).alloc (.cells #[.int .i64 0, .int .i64 0] 28) := ⟨_, rfl⟩
 obtain ⟨ka, kb, kc, ky, k_r, B1⟩ := st5 hW1
 rw [← hW1]
 clear hW1
 have lb : w.heap.size < w.heap.size + 1 := by omega
 have lc : w.heap.size + 1 < w.heap.size + 1 + 1 := by omega
 have ly : w.heap.size + 1 + 1 < w.heap.size + 1 + 1 + 1 := by omega
 have lr : w.heap.size + 1 + 1 + 1 < w.heap.size + 1 + 1 + 1 + 1 := by omega
 generalize w.heap.size + 1 + 1 + 1 + 1 = gr at *
 generalize w.heap.size + 1 + 1 + 1 = gy at *
 generalize w.heap.size + 1 + 1 = gc at *
 generalize w.heap.size + 1 = gb at *
 have c_a := bwc3 ka
 have cb := bwc3 kb
 have cc := bwc3 kc
 have cy := bwc7 ky
 have cr := bwc2 k_r
 have f_r := bwf2 k_r
 obtain ⟨p1, hp1⟩ := bwx W1
 rw [← hp1]
 clear hp1
 go_wp2_with ((go_at_call 78; (with_reducible refine (z02 KP.out _).mono ?_); rintro e w' ⟨rfl, q, rfl⟩))
 have kr := bkp2 (k_r.below q.h) (.int .i64 0) (.int .i64 0)
 have rc := rwc2 kr
 exact bodyPost_ret (v := .tuple #[.agg #[.int .i64 0, .int .i64 0], .bool false]) (by simp [results, results89, go_sem, rc]) rfl ⟨rfl, blp2 (z00 B1 q) (by omega)⟩
theorem ref11_Hit_no2 (a1 a2 a3 b1 b2 b3 c1 c2 c3 o1 o2 o3 d1 d2 d3 fr : Int) (w : World) (h1 : pl3 (a1, a2, a3) (b1, b2, b3) (c1, c2, c3) = true) (h2 : plc (o1, o2, o3) = false) :
  Rt prog 89 #[.agg #[a1, a2, a3], .agg #[b1, b2, b3], .agg #[c1, c2, c3], .agg #[o1, o2, o3, d1, d2, d3, fr]] w (.tuple #[.agg #[(tHit (a1, a2, a3) (b1, b2, b3) (c1, c2, c3) (o1, o2, o3) (d1, d2, d3)).1.1, (tHit (a1, a2, a3) (b1, b2, b3) (c1, c2, c3) (o1, o2, o3) (d1, d2, d3)).1.2], .bool (tHit (a1, a2, a3) (b1, b2, b3) (c1, c2, c3) (o1, o2, o3) (d1, d2, d3)).2]) := by
 rw [show tHit (a1, a2, a3) (b1, b2, b3) (c1, c2, c3) (o1, o2, o3) (d1, d2, d3) = ((0, 0), false) by unfold tHit; rw [if_neg (by rw [h2]; simp)]]
 dsimp only
 have KP := zh (fun w => ref11_places a1 a2 a3 b1 b2 b3 c1 c2 c3 w)
 rw [h1] at KP
 have KO := zh (fun w => z0v o1 o2 o3 w)
 rw [h2] at KO
 clear h1 h2
 go_enter func89, ntmps89
 go_upto_region 1 with (fail)
 obtain ⟨W1, hW1⟩ : ∃ W, W = ((((w.alloc (.cells #[a1, a2, a3] 24)).alloc (.cells #[b1, b2, b3] 24)).alloc (.cells #[c1, c2, c3] 24)).alloc (.cells #[o1, o2, o3, d1, d2, d3, fr] 26)).alloc (.cells #[.int .i64 0, .int .i64 0] 28) := ⟨_, rfl⟩
 obtain ⟨ka, kb, kc, ky, k_r, B1⟩ := st5 hW1
 rw [← hW1]
 clear hW1
 have lb : w.heap.size < w.heap.size + 1 := by omega
 have lc : w.heap.size + 1 < w.heap.size + 1 + 1 := by omega
 have ly : w.heap.size + 1 + 1 < w.heap.size + 1 + 1 + 1 := by omega
 have lr : w.heap.size + 1 + 1 + 1 < w.heap.size + 1 + 1 + 1 + 1 := by omega
 generalize w.heap.size + 1 + 1 + 1 + 1 = gr at *
 generalize w.heap.size + 1 + 1 + 1 = gy at *
 generalize w.heap.size + 1 + 1 = gc at *
 generalize w.heap.size + 1 = gb at *
 have c_a := bwc3 ka
 have cb := bwc3 kb
 have cc := bwc3 kc
 have cy := bwc7 ky
 have cr := bwc2 k_r
 have f_r := bwf2 k_r
 obtain ⟨p1, hp1⟩ := bwx W1
 rw [← hp1]
 clear hp1
 go_wp2_with (first
  | (go_at_call 78; (with_reducible refine (z02 KP.out _).mono ?_); rintro e w' ⟨rfl, q, rfl⟩)
  | (go_at_call 19; (with_reducible refine (z02 KO.out _).mono ?_); rintro e w' ⟨rfl, q, rfl⟩))
 have kr := bkp2 (k_r.below q.h) (.int .i64 0) (.int .i64 0)
 have rc := rwc2 kr
 exact bodyPost_ret (v := .tuple #[.agg #[.int .i64 0, .int .i64 0], .bool false]) (by simp [results, results89, go_sem, rc]) rfl ⟨rfl, blp2 (z00 B1 q) (by omega)⟩
theorem ref11_Hit_no3 (a1 a2 a3 b1 b2 b3 c1 c2 c3 o1 o2 o3 d1 d2 d3 fr : Int) (w : World) (h1 : pl3 (a1, a2, a3) (b1, b2, b3) (c1, c2, c3) = true) (h2 : plc (o1, o2, o3) = true) (h3 : nrT (d1, d2, d3) = false) :
  Rt prog 89 #[.agg #[a1, a2, a3], .agg #[b1, b2, b3], .agg #[c1, c2, c3], .agg #[o1, o2, o3, d1, d2, d3, fr]] w (.tuple #[.agg #[(tHit (a1, a2, a3) (b1, b2, b3) (c1, c2, c3) (o1, o2, o3) (d1, d2, d3)).1.1, (tHit (a1, a2, a3) (b1, b2, b3) (c1, c2, c3) (o1, o2, o3) (d1, d2, d3)).1.2], .bool (tHit (a1, a2, a3) (b1, b2, b3) (c1, c2, c3) (o1, o2, o3) (d1, d2, d3)).2]) := by
 rw [show tHit (a1, a2, a3) (b1, b2, b3) (c1, c2, c3) (o1, o2, o3) (d1, d2, d3) = ((0, 0), false) by unfold tHit; rw [if_neg (by rw [h3]; simp)]]
 dsimp only
 have KP := zh (fun w => ref11_places a1 a2 a3 b1 b2 b3 c1 c2 c3 w)
 rw [h1] at KP
 have KO := zh (fun w => z0v o1 o2 o3 w)
 rw [h2] at KO
 have KD := zh (fun w => z0b d1 d2 d3 w)
 rw [show vnear d1 d2 d3 = _ from h3] at KD
 clear h1 h2 h3
 go_enter func89, ntmps89
 go_upto_region 1 with (fail)
 obtain ⟨W1, hW1⟩ : ∃ W, W = ((((w.alloc (.cells #[a1, a2, a3] 24)).alloc (.cells #[b1, b2, b3] 24)).alloc (.cells #[c1, c2, c3] 24)).alloc (.cells #[o1, o2, o3, d1, d2, d3, fr] 26)).alloc (.cells #[.int .i64 0, .int .i64 0] 28) := ⟨_, rfl⟩
 obtain ⟨ka, kb, kc, ky, k_r, B1⟩ := st5 hW1
 rw [← hW1]
 clear hW1
 have lb : w.heap.size < w.heap.size + 1 := by omega
 have lc : w.heap.size + 1 < w.heap.size + 1 + 1 := by omega
 have ly : w.heap.size + 1 + 1 < w.heap.size + 1 + 1 + 1 := by omega
 have lr : w.heap.size + 1 + 1 + 1 < w.heap.size + 1 + 1 + 1 + 1 := by omega
 generalize w.heap.size + 1 + 1 + 1 + 1 = gr at *
 generalize w.heap.size + 1 + 1 + 1 = gy at *
 generalize w.heap.size + 1 + 1 = gc at *
 generalize w.heap.size + 1 = gb at *
 have c_a := bwc3 ka
 have cb := bwc3 kb
 have cc := bwc3 kc
 have cy := bwc7 ky
 have cr := bwc2 k_r
 have f_r := bwf2 k_r
 obtain ⟨p1, hp1⟩ := bwx W1
 rw [← hp1]
 clear hp1
 go_wp2_with (first
  | (go_at_call 78; (with_reducible refine (z02 KP.out _).mono ?_); rintro e w' ⟨rfl, q, rfl⟩)
  | (go_at_call 19; (with_reducible refine (z02 KO.out _).mono ?_); rintro e w' ⟨rfl, q, rfl⟩)
  | (go_at_call 20; (with_reducible refine (z02 KD.out _).mono ?_); rintro e w' ⟨rfl, q, rfl⟩))
 have kr := bkp2 (k_r.below q.h) (.int .i64 0) (.int .i64 0)
 have rc := rwc2 kr
 exact bodyPost_ret (v := .tuple #[.agg #[.int .i64 0, .int .i64 0], .bool false]) (by simp [results, results89, go_sem, rc]) rfl ⟨rfl, blp2 (z00 B1 q) (by omega)⟩
theorem hit_ways {P : Prop} (x y z n : Int) (h1 : (x ≤ 0) ∧ (y ≤ 0) ∧ (z ≤ 0) ∧ (x + y + z = 0) → P) (h2 : (x ≤ 0) ∧ (y ≤ 0) ∧ (z ≤ 0) ∧ (¬ x + y + z = 0) ∧ (0 ≤ n) → P) (h3 : (x ≤ 0) ∧ (y ≤ 0) ∧ (z ≤ 0) ∧ (¬ x + y + z = 0) ∧ (n < 0) → P) (h4 : (0 < x) ∧ (y < 0) → P) (h5 : (0 < x) ∧ (0 ≤ y) ∧ (z < 0) → P) (h6 : (0 < x) ∧ (0 ≤ y) ∧ (0 ≤ z) ∧ (n ≤ 0) → P) (h7 : (0 < x) ∧ (0 ≤ y) ∧ (0 ≤ z) ∧ (0 < n) → P) (h8 : (x ≤ 0) ∧ (0 < y) ∧ (x < 0) → P) (h9 : (x ≤ 0) ∧ (0 < y) ∧ (0 ≤ x) ∧ (z < 0) → P) (h10 : (x ≤ 0) ∧ (0 < y) ∧ (0 ≤ x) ∧ (0 ≤ z) ∧ (n ≤ 0) → P) (h11 : (x ≤ 0) ∧ (0 < y) ∧ (0 ≤ x) ∧ (0 ≤ z) ∧ (0 < n) → P) (h12 : (x ≤ 0) ∧ (y ≤ 0) ∧ (0 < z) ∧ (x < 0) → P) (h13 : (x ≤ 0) ∧ (y ≤ 0) ∧ (0 < z) ∧ (0 ≤ x) ∧ (y < 0) → P) (h14 : (x ≤ 0) ∧ (y ≤ 0) ∧ (0 < z) ∧ (0 ≤ x) ∧ (0 ≤ y) ∧ (n ≤ 0) → P) (h15 : (x ≤ 0) ∧ (y ≤ 0) ∧ (0 < z) ∧ (0 ≤ x) ∧ (0 ≤ y) ∧ (0 < n) → P) : P := by
 by_cases hx : x ≤ 0
 · by_cases hy : y ≤ 0
   · by_cases hz : z ≤ 0
     · by_cases hs : x + y + z = 0
       · exact h1 ⟨by omega, by omega, by omega, by omega⟩
       · by_cases hn : 0 ≤ n
         · exact h2 ⟨by omega, by omega, by omega, by omega, by omega⟩
         · exact h3 ⟨by omega, by omega, by omega, by omega, by omega⟩
     · by_cases kx : x < 0
       · exact h12 ⟨by omega, by omega, by omega, by omega⟩
       by_cases ky : y < 0
       · exact h13 ⟨by omega, by omega, by omega, by omega, by omega⟩
       by_cases kn : n ≤ 0
       · exact h14 ⟨by omega, by omega, by omega, by omega, by omega, by omega⟩
       exact h15 ⟨by omega, by omega, by omega, by omega, by omega, by omega⟩
   · by_cases kx : x < 0
     · exact h8 ⟨by omega, by omega, by omega⟩
     by_cases kz : z < 0
     · exact h9 ⟨by omega, by omega, by omega, by omega⟩
     by_cases kn : n ≤ 0
     · exact h10 ⟨by omega, by omega, by omega, by omega, by omega⟩
     exact h11 ⟨by omega, by omega, by omega, by omega, by omega⟩
 · by_cases ky : y < 0
   · exact h4 ⟨by omega, by omega⟩
   by_cases kz : z < 0
   · exact h5 ⟨by omega, by omega, by omega⟩
   by_cases kn : n ≤ 0
   · exact h6 ⟨by omega, by omega, by omega, by omega⟩
   exact h7 ⟨by omega, by omega, by omega, by omega⟩
theorem ref11_Hit_yes (a1 a2 a3 b1 b2 b3 c1 c2 c3 o1 o2 o3 d1 d2 d3 fr : Int) (w : World) (h1 : pl3 (a1, a2, a3) (b1, b2, b3) (c1, c2, c3) = true) (h2 : plc (o1, o2, o3) = true) (h3 : nrT (d1, d2, d3) = true) :
  Rt prog 89 #[.agg #[a1, a2, a3], .agg #[b1, b2, b3], .agg #[c1, c2, c3], .agg #[o1, o2, o3, d1, d2, d3, fr]] w (.tuple #[.agg #[(tHit (a1, a2, a3) (b1, b2, b3) (c1, c2, c3) (o1, o2, o3) (d1, d2, d3)).1.1, (tHit (a1, a2, a3) (b1, b2, b3) (c1, c2, c3) (o1, o2, o3) (d1, d2, d3)).1.2], .bool (tHit (a1, a2, a3) (b1, b2, b3) (c1, c2, c3) (o1, o2, o3) (d1, d2, d3)).2]) := by
 obtain ⟨ha, hb, hc⟩ := pl3_iff.1 h1
 have KP := zh (fun w => ref11_places a1 a2 a3 b1 b2 b3 c1 c2 c3 w)
 have KO := zh (fun w => z0v o1 o2 o3 w)
 have KD := zh (fun w => z0b d1 d2 d3 w)
 rw [h1] at KP
 rw [h2] at KO
 rw [show vnear d1 d2 d3 = _ from h3] at KD
 have j1 := z0a.1 ha
 have j2 := z0a.1 hb
 have j3 := z0a.1 hc
 have j4 := z0a.1 h2
 dsimp only at j1 j2 j3 j4
 have na := sbT_near ha h2
 have nb := sbT_near hb h2
 have nc := sbT_near hc h2
 have e : tHit (a1, a2, a3) (b1, b2, b3) (c1, c2, c3) (o1, o2, o3) (d1, d2, d3) = tG (vlX (d1, d2, d3) (sbT (b1, b2, b3) (o1, o2, o3)) (sbT (c1, c2, c3) (o1, o2, o3))) (vlX (d1, d2, d3) (sbT (c1, c2, c3) (o1, o2, o3)) (sbT (a1, a2, a3) (o1, o2, o3))) (vlX (d1, d2, d3) (sbT (a1, a2, a3) (o1, o2, o3)) (sbT (b1, b2, b3) (o1, o2, o3))) (vlX (sbT (a1, a2, a3) (o1, o2, o3)) (sbT (b1, b2, b3) (o1, o2, o3)) (sbT (c1, c2, c3) (o1, o2, o3))) := by unfold tHit; rw [if_pos ⟨h1, h2, h3⟩]
 have es := vols_sum (a1, a2, a3) (b1, b2, b3) (c1, c2, c3) (o1, o2, o3) (d1, d2, d3)
 have bs : -6917529027641081856 ≤ vlX (d1, d2, d3) (sbT (b1, b2, b3) (a1, a2, a3)) (sbT (c1, c2, c3) (a1, a2, a3)) ∧ vlX (d1, d2, d3) (sbT (b1, b2, b3) (a1, a2, a3)) (sbT (c1, c2, c3) (a1, a2, a3)) ≤ 6917529027641081856 := vlX_41 h3 (sbT_near hb ha) (sbT_near hc ha)
 rw [← es] at bs
 have i1 := vlX_41 h3 nb nc
 have i2 := vlX_41 h3 nc na
 have i3 := vlX_41 h3 na nb
 have i4 := vlX_41 na nb nc
 rw [e]
 have sx : ∀ x y : Int, -524288 ≤ x ∧ x ≤ 524288 → -524288 ≤ y ∧ y ≤ 524288 → vsub x y = x - y := fun x y hx hy => by
  unfold vsub sat
  rw [if_neg (by omega), if_neg (by omega), if_neg (by omega), if_neg (by omega)]
  omega
 have VX := @vvol_vlX
 clear e es
 have KB1 := zh (fun w => ref6_Sub a1 a2 a3 o1 o2 o3 w (by unfold I64; omega) (by unfold I64; omega) (by unfold I64; omega) (by unfold I64; omega) (by unfold I64; omega) (by unfold I64; omega))
 rw [sx a1 o1 (by omega) (by omega), sx a2 o2 (by omega) (by omega), sx a3 o3 (by omega) (by omega)] at KB1
 obtain ⟨u1, hu1⟩ := nmd (a1 - o1)
 obtain ⟨u2, hu2⟩ := nmd (a2 - o2)
 obtain ⟨u3, hu3⟩ := nmd (a3 - o3)
 rw [← hu1, ← hu2, ← hu3] at KB1
 have z1 : sbT (a1, a2, a3) (o1, o2, o3) = (u1, u2, u3) := by unfold sbT; rw [hu1, hu2, hu3]
 have KB2 := zh (fun w => ref6_Sub b1 b2 b3 o1 o2 o3 w (by unfold I64; omega) (by unfold I64; omega) (by unfold I64; omega) (by unfold I64; omega) (by unfold I64; omega) (by unfold I64; omega))
 rw [sx b1 o1 (by omega) (by omega), sx b2 o2 (by omega) (by omega), sx b3 o3 (by omega) (by omega)] at KB2
 obtain ⟨v1, hv1⟩ := nmd (b1 - o1)
 obtain ⟨v2, hv2⟩ := nmd (b2 - o2)
 obtain ⟨v3, hv3⟩ := nmd (b3 - o3)
 rw [← hv1, ← hv2, ← hv3] at KB2
 have z2 : sbT (b1, b2, b3) (o1, o2, o3) = (v1, v2, v3) := by unfold sbT; rw [hv1, hv2, hv3]
 have KB3 := zh (fun w => ref6_Sub c1 c2 c3 o1 o2 o3 w (by unfold I64; omega) (by unfold I64; omega) (by unfold I64; omega) (by unfold I64; omega) (by unfold I64; omega) (by unfold I64; omega))
 rw [sx c1 o1 (by omega) (by omega), sx c2 o2 (by omega) (by omega), sx c3 o3 (by omega) (by omega)] at KB3
 obtain ⟨m1, hm1⟩ := nmd (c1 - o1)
 obtain ⟨m2, hm2⟩ := nmd (c2 - o2)
 obtain ⟨m3, hm3⟩ := nmd (c3 - o3)
 rw [← hm1, ← hm2, ← hm3] at KB3
 have z3 : sbT (c1, c2, c3) (o1, o2, o3) = (m1, m2, m3) := by unfold sbT; rw [hm1, hm2, hm3]
 rw [z1] at na
 rw [z2] at nb
 rw [z3] at nc
 rw [z1, z2, z3] at i4 ⊢
 rw [z2, z3] at i1
 rw [z3, z1] at i2
 rw [z1, z2] at i3
 rw [z1, z2, z3] at bs
 have KX := zh (fun w => ref6_Volume d1 d2 d3 v1 v2 v3 m1 m2 m3 w)
 rw [show vvol d1 d2 d3 v1 v2 v3 m1 m2 m3 = vlX (d1, d2, d3) (v1, v2, v3) (m1, m2, m3) from vvol_vlX h3 nb nc] at KX
 have KY := zh (fun w => ref6_Volume d1 d2 d3 m1 m2 m3 u1 u2 u3 w)
 rw [show vvol d1 d2 d3 m1 m2 m3 u1 u2 u3 = vlX (d1, d2, d3) (m1, m2, m3) (u1, u2, u3) from vvol_vlX h3 nc na] at KY
 have KZ := zh (fun w => ref6_Volume d1 d2 d3 u1 u2 u3 v1 v2 v3 w)
 rw [show vvol d1 d2 d3 u1 u2 u3 v1 v2 v3 = vlX (d1, d2, d3) (u1, u2, u3) (v1, v2, v3) from vvol_vlX h3 na nb] at KZ
 have KN := zh (fun w => ref6_Volume u1 u2 u3 v1 v2 v3 m1 m2 m3 w)
 rw [show vvol u1 u2 u3 v1 v2 v3 m1 m2 m3 = vlX (u1, u2, u3) (v1, v2, v3) (m1, m2, m3) from vvol_vlX na nb nc] at KN
 generalize vlX (d1, d2, d3) (v1, v2, v3) (m1, m2, m3) = x at *
 generalize vlX (d1, d2, d3) (m1, m2, m3) (u1, u2, u3) = y at *
 generalize vlX (d1, d2, d3) (u1, u2, u3) (v1, v2, v3) = z at *
 generalize vlX (u1, u2, u3) (v1, v2, v3) (m1, m2, m3) = n at *
 obtain ⟨GG, hGG⟩ := nmd (tG x y z n)
 rw [← hGG]
 have HG := zh hGG
 clear hGG
 have HB := zh (And.intro i1 (And.intro i2 (And.intro i3 (And.intro i4 bs))))
 clear VX sx na nb nc z1 z2 z3 j1 j2 j3 j4 ha hb hc h1 h2 h3 i1 i2 i3 i4 bs hu1 hu2 hu3 hv1 hv2 hv3 hm1 hm2 hm3
 go_enter func89, ntmps89
 go_upto_region 1 with (fail)
 obtain ⟨W1, hW1⟩ : ∃ W, W = ((((w.alloc (.cells #[a1, a2, a3] 24)).alloc (.cells #[b1, b2, b3] 24)).alloc (.cells #[c1, c2, c3] 24)).alloc (.cells #[o1, o2, o3, d1, d2, d3, fr] 26)).alloc (.cells #[.int .i64 0, .int .i64 0] 28) := ⟨_, rfl⟩
 obtain ⟨ka, kb, kc, k_y, k_r, B1⟩ := st5 hW1
 rw [← hW1]
 clear hW1
 have lb : w.heap.size < w.heap.size + 1 := by omega
 have lc : w.heap.size + 1 < w.heap.size + 1 + 1 := by omega
 have ly : w.heap.size + 1 + 1 < w.heap.size + 1 + 1 + 1 := by omega
 have l_r : w.heap.size + 1 + 1 + 1 < w.heap.size + 1 + 1 + 1 + 1 := by omega
 generalize w.heap.size + 1 + 1 + 1 + 1 = gr at *
 generalize w.heap.size + 1 + 1 + 1 = gy at *
 generalize w.heap.size + 1 + 1 = gc at *
 generalize w.heap.size + 1 = gb at *
 have c_a := bwc3 ka
 have cb := bwc3 kb
 have cc := bwc3 kc
 have cy := bwc7 k_y
 have cr := bwc2 k_r
 have f_r := bwf2 k_r
 obtain ⟨p1, hp1⟩ := bwx W1
 rw [← hp1]
 clear hp1
 go_upto_region 3 with (first
  | (go_at_call 78; (with_reducible refine (z02 KP.out _).mono ?_); rintro e w' ⟨rfl, q, rfl⟩)
  | (go_at_call 19; (with_reducible refine (z02 KO.out _).mono ?_); rintro e w' ⟨rfl, q, rfl⟩)
  | (go_at_call 20; (with_reducible refine (z02 KD.out _).mono ?_); rintro e w' ⟨rfl, q, rfl⟩))
 refine z1k 15 114 [⟨12, 10, 24, #[.int .i64 0, .int .i64 0, .int .i64 0]⟩, ⟨13, 11, 24, #[.int .i64 0, .int .i64 0, .int .i64 0]⟩, ⟨14, 12, 24, #[.int .i64 0, .int .i64 0, .int .i64 0]⟩] (by kernel_rfl) (by kernel_rfl) (by kernel_rfl) (by kernel_rfl) (by kernel_rfl) (by decide) (by kernel_rfl) ?_ ?_
 · exact ⟨⟨_, rfl, fun ev wx => by simp [execOp, go_sem]⟩, ⟨_, rfl, fun ev wx => by simp [execOp, go_sem]⟩, ⟨_, rfl, fun ev wx => by simp [execOp, go_sem]⟩, trivial⟩
 apply Exists.intro
 refine ⟨?_, ?_⟩
 · intro wb' hwb'
   obtain ⟨da0, da1, da2⟩ := bwc3 (ka.below hwb')
   obtain ⟨db0, db1, db2⟩ := bwc3 (kb.below hwb')
   obtain ⟨dc0, dc1, dc2⟩ := bwc3 (kc.below hwb')
   obtain ⟨dy0, dy1, dy2, dy3, dy4, dy5, dy6⟩ := bwc7 (k_y.below hwb')
   obtain ⟨dr0, dr1⟩ := bwc2 (k_r.below hwb')
   simp only [List.map_cons, List.map_nil, maskL, List.foldr_cons, List.foldr_nil, maskAt, List.take_succ_cons, List.take_zero]
   repeat (go_big_quiet_step ((go_at_call 21; (first | (with_reducible exact z02 KB1.out _) | (with_reducible exact z02 KB2.out _) | (with_reducible exact z02 KB3.out _)))))
   refine wpQuiet_nil ?_
   exact rfl
 intro W2 st hW hst hne
 obtain ⟨gp, e_p, hg_p, kp⟩ := hst 0 _ rfl
 obtain ⟨gq, e_q, hg_q, kq⟩ := hst 1 _ rfl
 obtain ⟨gs, e_s, hg_s, ks⟩ := hst 2 _ rfl
 have n_p_q : gp ≠ gq := fun e => hne 0 1 _ (by simp) (by simp) (by omega) e_p (by rw [e]; exact e_q)
 have n_p_s : gp ≠ gs := fun e => hne 0 2 _ (by simp) (by simp) (by omega) e_p (by rw [e]; exact e_s)
 have n_q_s : gq ≠ gs := fun e => hne 1 2 _ (by simp) (by simp) (by omega) e_q (by rw [e]; exact e_s)
 have B2 : Below w.heap.size w W2 := B1.trans (hW.mono B1.size)
 have lp : gr < gp := zl k_r.lt hg_p
 have lpa : w.heap.size < gp := zl ka.lt hg_p
 have lpb : gb < gp := zl kb.lt hg_p
 have lpc : gc < gp := zl kc.lt hg_p
 have lpy : gy < gp := zl k_y.lt hg_p
 have lq : gr < gq := zl k_r.lt hg_q
 have lqa : w.heap.size < gq := zl ka.lt hg_q
 have lqb : gb < gq := zl kb.lt hg_q
 have lqc : gc < gq := zl kc.lt hg_q
 have lqy : gy < gq := zl k_y.lt hg_q
 have ls : gr < gs := zl k_r.lt hg_s
 have lsa : w.heap.size < gs := zl ka.lt hg_s
 have lsb : gb < gs := zl kb.lt hg_s
 have lsc : gc < gs := zl kc.lt hg_s
 have lsy : gy < gs := zl k_y.lt hg_s
 have ka := ka.below hW
 have kb := kb.below hW
 have kc := kc.below hW
 have k_y := k_y.below hW
 have k_r := k_r.below hW
 simp only [List.drop_succ_cons, List.drop_zero, putAll, Nat.zero_add, Nat.reduceAdd, e_p, e_q, e_s, putO, Act.put, List.setIfInBounds_toArray, List.set_cons_zero, List.set_cons_succ]
 clear hW hst hne B1 hg_p e_p hg_q e_q hg_s e_s
 clear c_a cb cc cy cr f_r
 have c_a := bwc3 ka
 have cb := bwc3 kb
 have cc := bwc3 kc
 have cy := bwc7 k_y
 have cr := bwc2 k_r
 have cp := bwc3 kp
 have fp := bwf3 kp
 have cq := bwc3 kq
 have fq := bwf3 kq
 have cs := bwc3 ks
 have fs := bwf3 ks
 obtain ⟨p2, hp2⟩ := bwx W2
 rw [← hp2]
 clear hp2
 go_upto_region 4 with (fail)
 obtain ⟨W3, hW3⟩ : ∃ W, W = ((p2.w.setCell ⟨gp, 0, none⟩ (.int .i64 u1)).setCell ⟨gp, 1, none⟩ (.int .i64 u2)).setCell ⟨gp, 2, none⟩ (.int .i64 u3) := ⟨_, rfl⟩
 have B3 : Below w.heap.size w W3 := by rw [hW3]; exact blp3 (z00 B2 p2) (by omega)
 have ka := bkoe3 hW3 (ka.below p2.h) (by omega)
 have kb := bkoe3 hW3 (kb.below p2.h) (by omega)
 have kc := bkoe3 hW3 (kc.below p2.h) (by omega)
 have k_y := bkoe3 hW3 (k_y.below p2.h) (by omega)
 have k_r := bkoe3 hW3 (k_r.below p2.h) (by omega)
 have kp := bkpe3 hW3 (kp.below p2.h)
 have kq := bkoe3 hW3 (kq.below p2.h) (by omega)
 have ks := bkoe3 hW3 (ks.below p2.h) (by omega)
 rw [← hW3]
 clear hW3
 clear B2
 clear c_a cb cc cy cr cp fp cq fq cs fs
 have c_a := bwc3 ka
 have cb := bwc3 kb
 have cc := bwc3 kc
 have cy := bwc7 k_y
 have cr := bwc2 k_r
 have cp := bwc3 kp
 have fp := bwf3 kp
 have cq := bwc3 kq
 have fq := bwf3 kq
 have cs := bwc3 ks
 have fs := bwf3 ks
 obtain ⟨p3, hp3⟩ := bwx W3
 rw [← hp3]
 clear hp3
 obtain ⟨W4, hW4⟩ : ∃ W, W = ((p3.w.setCell ⟨gq, 0, none⟩ (.int .i64 v1)).setCell ⟨gq, 1, none⟩ (.int .i64 v2)).setCell ⟨gq, 2, none⟩ (.int .i64 v3) := ⟨_, rfl⟩
 have B4 : Below w.heap.size w W4 := by rw [hW4]; exact blp3 (z00 B3 p3) (by omega)
 have ka := bkoe3 hW4 (ka.below p3.h) (by omega)
 have kb := bkoe3 hW4 (kb.below p3.h) (by omega)
 have kc := bkoe3 hW4 (kc.below p3.h) (by omega)
 have k_y := bkoe3 hW4 (k_y.below p3.h) (by omega)
 have k_r := bkoe3 hW4 (k_r.below p3.h) (by omega)
 have kp := bkoe3 hW4 (kp.below p3.h) (by omega)
 have kq := bkpe3 hW4 (kq.below p3.h)
 have ks := bkoe3 hW4 (ks.below p3.h) (by omega)
 rw [← hW4]
 clear hW4
 clear B3
 clear c_a cb cc cy cr cp fp cq fq cs fs
 have c_a := bwc3 ka
 have cb := bwc3 kb
 have cc := bwc3 kc
 have cy := bwc7 k_y
 have cr := bwc2 k_r
 have cp := bwc3 kp
 have fp := bwf3 kp
 have cq := bwc3 kq
 have fq := bwf3 kq
 have cs := bwc3 ks
 have fs := bwf3 ks
 obtain ⟨p4, hp4⟩ := bwx W4
 rw [← hp4]
 clear hp4
 obtain ⟨W5, hW5⟩ : ∃ W, W = ((p4.w.setCell ⟨gs, 0, none⟩ (.int .i64 m1)).setCell ⟨gs, 1, none⟩ (.int .i64 m2)).setCell ⟨gs, 2, none⟩ (.int .i64 m3) := ⟨_, rfl⟩
 have B5 : Below w.heap.size w W5 := by rw [hW5]; exact blp3 (z00 B4 p4) (by omega)
 have ka := bkoe3 hW5 (ka.below p4.h) (by omega)
 have kb := bkoe3 hW5 (kb.below p4.h) (by omega)
 have kc := bkoe3 hW5 (kc.below p4.h) (by omega)
 have k_y := bkoe3 hW5 (k_y.below p4.h) (by omega)
 have k_r := bkoe3 hW5 (k_r.below p4.h) (by omega)
 have kp := bkoe3 hW5 (kp.below p4.h) (by omega)
 have kq := bkoe3 hW5 (kq.below p4.h) (by omega)
 have ks := bkpe3 hW5 (ks.below p4.h)
 rw [← hW5]
 clear hW5
 clear B4
 clear c_a cb cc cy cr cp fp cq fq cs fs
 have c_a := bwc3 ka
 have cb := bwc3 kb
 have cc := bwc3 kc
 have cy := bwc7 k_y
 have cr := bwc2 k_r
 have f_r := bwf2 k_r
 have cp := bwc3 kp
 have cq := bwc3 kq
 have cs := bwc3 ks
 obtain ⟨p5, hp5⟩ := bwx W5
 rw [← hp5]
 clear hp5
 refine z03 (by kernel_rfl) (by kernel_rfl) ?_
 repeat (go_big_quiet_step ((go_at_call 115; (first | (with_reducible exact z02 KX.out _) | (with_reducible exact z02 KY.out _) | (with_reducible exact z02 KZ.out _)))))
 refine wpQuiet_nil ?_
 intro _ hw'
 obtain ⟨q, rfl⟩ := hw'
 go_upto_region 6 with ((go_at_call 115; (with_reducible refine (z02 KN.out _).mono ?_); rintro e w' ⟨rfl, q, rfl⟩))
 clear KX KY KZ KN KP KO KD KB1 KB2 KB3
 generalize (Value.agg #[a1, a2, a3]) = vga
 generalize (Value.agg #[b1, b2, b3]) = vgb
 generalize (Value.agg #[c1, c2, c3]) = vgc
 generalize (Value.agg #[o1, o2, o3, d1, d2, d3, fr]) = vgy
 generalize (Value.agg #[o1, o2, o3]) = vgo
 generalize (Value.agg #[d1, d2, d3]) = vgd
 generalize (Value.agg #[u1, u2, u3]) = vgu
 generalize (Value.agg #[v1, v2, v3]) = vgv
 generalize (Value.agg #[m1, m2, m3]) = vgm
 have lr : w.heap.size ≤ gr := by omega
 clear c_a cb cc cy cp cq cs ka kb kc k_y kp kq ks lb lc ly l_r
 refine hit_ways x y z n (fun hc => ?_) (fun hc => ?_) (fun hc => ?_) (fun hc => ?_) (fun hc => ?_) (fun hc => ?_) (fun hc => ?_) (fun hc => ?_) (fun hc => ?_) (fun hc => ?_) (fun hc => ?_) (fun hc => ?_) (fun hc => ?_) (fun hc => ?_) (fun hc => ?_)
 · have hb := HB.out
   clear HB
   obtain ⟨xm, hxm⟩ : ∃ t, -x = t := ⟨_, rfl⟩
   obtain ⟨ym, hym⟩ : ∃ t, -y = t := ⟨_, rfl⟩
   obtain ⟨zm, hzm⟩ : ∃ t, -z = t := ⟨_, rfl⟩
   obtain ⟨nm, hnm⟩ : ∃ t, -n = t := ⟨_, rfl⟩
   have wxm : wrap64 (-x) = xm := by rw [hxm]; exact IntWalk.wrap64_in _ (by omega)
   have vxm : IntKind.i64.wrap (-x) = xm := by rw [hxm, i64w]; omega
   have wym : wrap64 (-y) = ym := by rw [hym]; exact IntWalk.wrap64_in _ (by omega)
   have vym : IntKind.i64.wrap (-y) = ym := by rw [hym, i64w]; omega
   have wzm : wrap64 (-z) = zm := by rw [hzm]; exact IntWalk.wrap64_in _ (by omega)
   have vzm : IntKind.i64.wrap (-z) = zm := by rw [hzm, i64w]; omega
   have wnm : wrap64 (-n) = nm := by rw [hnm]; exact IntWalk.wrap64_in _ (by omega)
   have vnm : IntKind.i64.wrap (-n) = nm := by rw [hnm, i64w]; omega
   have fx : decide (x ≤ 0) = true := zt (by omega)
   have kx : decide (xm < 0) = false := zf (by omega)
   have fy : decide (y ≤ 0) = true := zt (by omega)
   have ky : decide (ym < 0) = false := zf (by omega)
   have fz : decide (z ≤ 0) = true := zt (by omega)
   have kz : decide (zm < 0) = false := zf (by omega)
   obtain ⟨ss, hss⟩ : ∃ t, xm + ym = t := ⟨_, rfl⟩
   obtain ⟨tt, htt⟩ : ∃ t, ss + zm = t := ⟨_, rfl⟩
   have wss : wrap64 (xm + ym) = ss := by rw [hss]; exact IntWalk.wrap64_in _ (by omega)
   have vss : IntKind.i64.wrap (xm + ym) = ss := by rw [hss, i64w]; omega
   have wtt : wrap64 (ss + zm) = tt := by rw [htt]; exact IntWalk.wrap64_in _ (by omega)
   have vtt : IntKind.i64.wrap (ss + zm) = tt := by rw [htt, i64w]; omega
   obtain rfl : tt = 0 := by omega
   have hv : tG x y z n = ((0, 0), false) := by
    unfold tG
    rw [if_pos (by omega)]
    unfold tFin
    rw [if_pos (by omega)]
   have HV := zh hv
   clear hv hc hb hxm hym hzm hnm hss htt
   repeat (first | go_values | go_skip | go_guarded | go_step | go_upon)
   have kr := bkp2 (k_r.below q.h) (.int .i64 0) (.int .i64 0)
   have rc := rwc2 kr
   exact bodyPost_ret (v := .tuple #[.agg #[.int .i64 0, .int .i64 0], .bool false]) (by simp [results, results89, go_sem, rc]) rfl ⟨by rw [HG.out, HV.out], blp2 (z00 B5 q) (by omega)⟩
 · have hb := HB.out
   clear HB
   obtain ⟨xm, hxm⟩ : ∃ t, -x = t := ⟨_, rfl⟩
   obtain ⟨ym, hym⟩ : ∃ t, -y = t := ⟨_, rfl⟩
   obtain ⟨zm, hzm⟩ : ∃ t, -z = t := ⟨_, rfl⟩
   obtain ⟨nm, hnm⟩ : ∃ t, -n = t := ⟨_, rfl⟩
   have wxm : wrap64 (-x) = xm := by rw [hxm]; exact IntWalk.wrap64_in _ (by omega)
   have vxm : IntKind.i64.wrap (-x) = xm := by rw [hxm, i64w]; omega
   have wym : wrap64 (-y) = ym := by rw [hym]; exact IntWalk.wrap64_in _ (by omega)
   have vym : IntKind.i64.wrap (-y) = ym := by rw [hym, i64w]; omega
   have wzm : wrap64 (-z) = zm := by rw [hzm]; exact IntWalk.wrap64_in _ (by omega)
   have vzm : IntKind.i64.wrap (-z) = zm := by rw [hzm, i64w]; omega
   have wnm : wrap64 (-n) = nm := by rw [hnm]; exact IntWalk.wrap64_in _ (by omega)
   have vnm : IntKind.i64.wrap (-n) = nm := by rw [hnm, i64w]; omega
   have fx : decide (x ≤ 0) = true := zt (by omega)
   have kx : decide (xm < 0) = false := zf (by omega)
   have fy : decide (y ≤ 0) = true := zt (by omega)
   have ky : decide (ym < 0) = false := zf (by omega)
   have fz : decide (z ≤ 0) = true := zt (by omega)
   have kz : decide (zm < 0) = false := zf (by omega)
   obtain ⟨ss, hss⟩ : ∃ t, xm + ym = t := ⟨_, rfl⟩
   obtain ⟨tt, htt⟩ : ∃ t, ss + zm = t := ⟨_, rfl⟩
   have wss : wrap64 (xm + ym) = ss := by rw [hss]; exact IntWalk.wrap64_in _ (by omega)
   have vss : IntKind.i64.wrap (xm + ym) = ss := by rw [hss, i64w]; omega
   have wtt : wrap64 (ss + zm) = tt := by rw [htt]; exact IntWalk.wrap64_in _ (by omega)
   have vtt : IntKind.i64.wrap (ss + zm) = tt := by rw [htt, i64w]; omega
   have ht0 : ¬ tt = 0 := by omega
   have kn : decide (nm ≤ 0) = true := zt (by omega)
   have hv : tG x y z n = ((0, 0), false) := by
    unfold tG
    rw [if_pos (by omega)]
    unfold tFin
    rw [if_pos (by omega)]
   have HV := zh hv
   clear hv hc hb hxm hym hzm hnm hss htt
   repeat (first | go_values | go_skip | go_guarded | go_step | go_upon)
   have kr := bkp2 (k_r.below q.h) (.int .i64 0) (.int .i64 0)
   have rc := rwc2 kr
   exact bodyPost_ret (v := .tuple #[.agg #[.int .i64 0, .int .i64 0], .bool false]) (by simp [results, results89, go_sem, rc]) rfl ⟨by rw [HG.out, HV.out], blp2 (z00 B5 q) (by omega)⟩
 · have hb := HB.out
   clear HB
   obtain ⟨xm, hxm⟩ : ∃ t, -x = t := ⟨_, rfl⟩
   obtain ⟨ym, hym⟩ : ∃ t, -y = t := ⟨_, rfl⟩
   obtain ⟨zm, hzm⟩ : ∃ t, -z = t := ⟨_, rfl⟩
   obtain ⟨nm, hnm⟩ : ∃ t, -n = t := ⟨_, rfl⟩
   have wxm : wrap64 (-x) = xm := by rw [hxm]; exact IntWalk.wrap64_in _ (by omega)
   have vxm : IntKind.i64.wrap (-x) = xm := by rw [hxm, i64w]; omega
   have wym : wrap64 (-y) = ym := by rw [hym]; exact IntWalk.wrap64_in _ (by omega)
   have vym : IntKind.i64.wrap (-y) = ym := by rw [hym, i64w]; omega
   have wzm : wrap64 (-z) = zm := by rw [hzm]; exact IntWalk.wrap64_in _ (by omega)
   have vzm : IntKind.i64.wrap (-z) = zm := by rw [hzm, i64w]; omega
   have wnm : wrap64 (-n) = nm := by rw [hnm]; exact IntWalk.wrap64_in _ (by omega)
   have vnm : IntKind.i64.wrap (-n) = nm := by rw [hnm, i64w]; omega
   have fx : decide (x ≤ 0) = true := zt (by omega)
   have kx : decide (xm < 0) = false := zf (by omega)
   have fy : decide (y ≤ 0) = true := zt (by omega)
   have ky : decide (ym < 0) = false := zf (by omega)
   have fz : decide (z ≤ 0) = true := zt (by omega)
   have kz : decide (zm < 0) = false := zf (by omega)
   obtain ⟨ss, hss⟩ : ∃ t, xm + ym = t := ⟨_, rfl⟩
   obtain ⟨tt, htt⟩ : ∃ t, ss + zm = t := ⟨_, rfl⟩
   have wss : wrap64 (xm + ym) = ss := by rw [hss]; exact IntWalk.wrap64_in _ (by omega)
   have vss : IntKind.i64.wrap (xm + ym) = ss := by rw [hss, i64w]; omega
   have wtt : wrap64 (ss + zm) = tt := by rw [htt]; exact IntWalk.wrap64_in _ (by omega)
   have vtt : IntKind.i64.wrap (ss + zm) = tt := by rw [htt, i64w]; omega
   have ht0 : ¬ tt = 0 := by omega
   have kn : decide (nm ≤ 0) = false := zf (by omega)
   have hv : tG x y z n = ((nm, tt), true) := by
    unfold tG
    rw [if_pos (by omega)]
    unfold tFin
    rw [if_neg (by omega), hxm, hym, hzm, hnm, hss, htt]
   have HV := zh hv
   clear hv hc hb hxm hym hzm hnm hss htt
   repeat (first | go_values | go_skip | go_guarded | go_step | go_upon)
   have kr := bkp2 (k_r.below q.h) (.int .i64 nm) (.int .i64 tt)
   have rc := rwc2 kr
   exact bodyPost_ret (v := .tuple #[.agg #[nm, tt], .bool true]) (by simp [results, results89, go_sem, rc]) rfl ⟨by rw [HG.out, HV.out], blp2 (z00 B5 q) (by omega)⟩
 · have hb := HB.out
   clear HB
   have fx : decide (x ≤ 0) = false := zf (by omega)
   have kx : decide (x < 0) = false := zf (by omega)
   have ky : decide (y < 0) = true := zt (by omega)
   have hv : tG x y z n = ((0, 0), false) := by
    unfold tG
    rw [if_neg (by omega)]
    unfold tFin
    rw [if_pos (by omega)]
   have HV := zh hv
   clear hv hc hb 
   repeat (first | go_values | go_skip | go_guarded | go_step | go_upon)
   have kr := bkp2 (k_r.below q.h) (.int .i64 0) (.int .i64 0)
   have rc := rwc2 kr
   exact bodyPost_ret (v := .tuple #[.agg #[.int .i64 0, .int .i64 0], .bool false]) (by simp [results, results89, go_sem, rc]) rfl ⟨by rw [HG.out, HV.out], blp2 (z00 B5 q) (by omega)⟩
 · have hb := HB.out
   clear HB
   have fx : decide (x ≤ 0) = false := zf (by omega)
   have kx : decide (x < 0) = false := zf (by omega)
   have ky : decide (y < 0) = false := zf (by omega)
   have kz : decide (z < 0) = true := zt (by omega)
   have hv : tG x y z n = ((0, 0), false) := by
    unfold tG
    rw [if_neg (by omega)]
    unfold tFin
    rw [if_pos (by omega)]
   have HV := zh hv
   clear hv hc hb 
   repeat (first | go_values | go_skip | go_guarded | go_step | go_upon)
   have kr := bkp2 (k_r.below q.h) (.int .i64 0) (.int .i64 0)
   have rc := rwc2 kr
   exact bodyPost_ret (v := .tuple #[.agg #[.int .i64 0, .int .i64 0], .bool false]) (by simp [results, results89, go_sem, rc]) rfl ⟨by rw [HG.out, HV.out], blp2 (z00 B5 q) (by omega)⟩
 · have hb := HB.out
   clear HB
   have fx : decide (x ≤ 0) = false := zf (by omega)
   have kx : decide (x < 0) = false := zf (by omega)
   have ky : decide (y < 0) = false := zf (by omega)
   have kz : decide (z < 0) = false := zf (by omega)
   obtain ⟨ss, hss⟩ : ∃ t, x + y = t := ⟨_, rfl⟩
   obtain ⟨tt, htt⟩ : ∃ t, ss + z = t := ⟨_, rfl⟩
   have wss : wrap64 (x + y) = ss := by rw [hss]; exact IntWalk.wrap64_in _ (by omega)
   have vss : IntKind.i64.wrap (x + y) = ss := by rw [hss, i64w]; omega
   have wtt : wrap64 (ss + z) = tt := by rw [htt]; exact IntWalk.wrap64_in _ (by omega)
   have vtt : IntKind.i64.wrap (ss + z) = tt := by rw [htt, i64w]; omega
   have ht0 : ¬ tt = 0 := by omega
   have kn : decide (n ≤ 0) = true := zt (by omega)
   have hv : tG x y z n = ((0, 0), false) := by
    unfold tG
    rw [if_neg (by omega)]
    unfold tFin
    rw [if_pos (by omega)]
   have HV := zh hv
   clear hv hc hb hss htt
   repeat (first | go_values | go_skip | go_guarded | go_step | go_upon)
   have kr := bkp2 (k_r.below q.h) (.int .i64 0) (.int .i64 0)
   have rc := rwc2 kr
   exact bodyPost_ret (v := .tuple #[.agg #[.int .i64 0, .int .i64 0], .bool false]) (by simp [results, results89, go_sem, rc]) rfl ⟨by rw [HG.out, HV.out], blp2 (z00 B5 q) (by omega)⟩
 · have hb := HB.out
   clear HB
   have fx : decide (x ≤ 0) = false := zf (by omega)
   have kx : decide (x < 0) = false := zf (by omega)
   have ky : decide (y < 0) = false := zf (by omega)
   have kz : decide (z < 0) = false := zf (by omega)
   obtain ⟨ss, hss⟩ : ∃ t, x + y = t := ⟨_, rfl⟩
   obtain ⟨tt, htt⟩ : ∃ t, ss + z = t := ⟨_, rfl⟩
   have wss : wrap64 (x + y) = ss := by rw [hss]; exact IntWalk.wrap64_in _ (by omega)
   have vss : IntKind.i64.wrap (x + y) = ss := by rw [hss, i64w]; omega
   have wtt : wrap64 (ss + z) = tt := by rw [htt]; exact IntWalk.wrap64_in _ (by omega)
   have vtt : IntKind.i64.wrap (ss + z) = tt := by rw [htt, i64w]; omega
   have ht0 : ¬ tt = 0 := by omega
   have kn : decide (n ≤ 0) = false := zf (by omega)
   have hv : tG x y z n = ((n, tt), true) := by
    unfold tG
    rw [if_neg (by omega)]
    unfold tFin
    rw [if_neg (by omega), ← htt, ← hss]
   have HV := zh hv
   clear hv hc hb hss htt
   repeat (first | go_values | go_skip | go_guarded | go_step | go_upon)
   have kr := bkp2 (k_r.below q.h) (.int .i64 n) (.int .i64 tt)
   have rc := rwc2 kr
   exact bodyPost_ret (v := .tuple #[.agg #[n, tt], .bool true]) (by simp [results, results89, go_sem, rc]) rfl ⟨by rw [HG.out, HV.out], blp2 (z00 B5 q) (by omega)⟩
 · have hb := HB.out
   clear HB
   have fx : decide (x ≤ 0) = true := zt (by omega)
   have fy : decide (y ≤ 0) = false := zf (by omega)
   have kx : decide (x < 0) = true := zt (by omega)
   have hv : tG x y z n = ((0, 0), false) := by
    unfold tG
    rw [if_neg (by omega)]
    unfold tFin
    rw [if_pos (by omega)]
   have HV := zh hv
   clear hv hc hb 
   repeat (first | go_values | go_skip | go_guarded | go_step | go_upon)
   have kr := bkp2 (k_r.below q.h) (.int .i64 0) (.int .i64 0)
   have rc := rwc2 kr
   exact bodyPost_ret (v := .tuple #[.agg #[.int .i64 0, .int .i64 0], .bool false]) (by simp [results, results89, go_sem, rc]) rfl ⟨by rw [HG.out, HV.out], blp2 (z00 B5 q) (by omega)⟩
 · have hb := HB.out
   clear HB
   have fx : decide (x ≤ 0) = true := zt (by omega)
   have fy : decide (y ≤ 0) = false := zf (by omega)
   have kx : decide (x < 0) = false := zf (by omega)
   have ky : decide (y < 0) = false := zf (by omega)
   have kz : decide (z < 0) = true := zt (by omega)
   have hv : tG x y z n = ((0, 0), false) := by
    unfold tG
    rw [if_neg (by omega)]
    unfold tFin
    rw [if_pos (by omega)]
   have HV := zh hv
   clear hv hc hb 
   repeat (first | go_values | go_skip | go_guarded | go_step | go_upon)
   have kr := bkp2 (k_r.below q.h) (.int .i64 0) (.int .i64 0)
   have rc := rwc2 kr
   exact bodyPost_ret (v := .tuple #[.agg #[.int .i64 0, .int .i64 0], .bool false]) (by simp [results, results89, go_sem, rc]) rfl ⟨by rw [HG.out, HV.out], blp2 (z00 B5 q) (by omega)⟩
 · have hb := HB.out
   clear HB
   have fx : decide (x ≤ 0) = true := zt (by omega)
   have fy : decide (y ≤ 0) = false := zf (by omega)
   have kx : decide (x < 0) = false := zf (by omega)
   have ky : decide (y < 0) = false := zf (by omega)
   have kz : decide (z < 0) = false := zf (by omega)
   obtain ⟨ss, hss⟩ : ∃ t, x + y = t := ⟨_, rfl⟩
   obtain ⟨tt, htt⟩ : ∃ t, ss + z = t := ⟨_, rfl⟩
   have wss : wrap64 (x + y) = ss := by rw [hss]; exact IntWalk.wrap64_in _ (by omega)
   have vss : IntKind.i64.wrap (x + y) = ss := by rw [hss, i64w]; omega
   have wtt : wrap64 (ss + z) = tt := by rw [htt]; exact IntWalk.wrap64_in _ (by omega)
   have vtt : IntKind.i64.wrap (ss + z) = tt := by rw [htt, i64w]; omega
   have ht0 : ¬ tt = 0 := by omega
   have kn : decide (n ≤ 0) = true := zt (by omega)
   have hv : tG x y z n = ((0, 0), false) := by
    unfold tG
    rw [if_neg (by omega)]
    unfold tFin
    rw [if_pos (by omega)]
   have HV := zh hv
   clear hv hc hb hss htt
   repeat (first | go_values | go_skip | go_guarded | go_step | go_upon)
   have kr := bkp2 (k_r.below q.h) (.int .i64 0) (.int .i64 0)
   have rc := rwc2 kr
   exact bodyPost_ret (v := .tuple #[.agg #[.int .i64 0, .int .i64 0], .bool false]) (by simp [results, results89, go_sem, rc]) rfl ⟨by rw [HG.out, HV.out], blp2 (z00 B5 q) (by omega)⟩
 · have hb := HB.out
   clear HB
   have fx : decide (x ≤ 0) = true := zt (by omega)
   have fy : decide (y ≤ 0) = false := zf (by omega)
   have kx : decide (x < 0) = false := zf (by omega)
   have ky : decide (y < 0) = false := zf (by omega)
   have kz : decide (z < 0) = false := zf (by omega)
   obtain ⟨ss, hss⟩ : ∃ t, x + y = t := ⟨_, rfl⟩
   obtain ⟨tt, htt⟩ : ∃ t, ss + z = t := ⟨_, rfl⟩
   have wss : wrap64 (x + y) = ss := by rw [hss]; exact IntWalk.wrap64_in _ (by omega)
   have vss : IntKind.i64.wrap (x + y) = ss := by rw [hss, i64w]; omega
   have wtt : wrap64 (ss + z) = tt := by rw [htt]; exact IntWalk.wrap64_in _ (by omega)
   have vtt : IntKind.i64.wrap (ss + z) = tt := by rw [htt, i64w]; omega
   have ht0 : ¬ tt = 0 := by omega
   have kn : decide (n ≤ 0) = false := zf (by omega)
   have hv : tG x y z n = ((n, tt), true) := by
    unfold tG
    rw [if_neg (by omega)]
    unfold tFin
    rw [if_neg (by omega), ← htt, ← hss]
   have HV := zh hv
   clear hv hc hb hss htt
   repeat (first | go_values | go_skip | go_guarded | go_step | go_upon)
   have kr := bkp2 (k_r.below q.h) (.int .i64 n) (.int .i64 tt)
   have rc := rwc2 kr
   exact bodyPost_ret (v := .tuple #[.agg #[n, tt], .bool true]) (by simp [results, results89, go_sem, rc]) rfl ⟨by rw [HG.out, HV.out], blp2 (z00 B5 q) (by omega)⟩
 · have hb := HB.out
   clear HB
   have fx : decide (x ≤ 0) = true := zt (by omega)
   have fy : decide (y ≤ 0) = true := zt (by omega)
   have fz : decide (z ≤ 0) = false := zf (by omega)
   have kx : decide (x < 0) = true := zt (by omega)
   have hv : tG x y z n = ((0, 0), false) := by
    unfold tG
    rw [if_neg (by omega)]
    unfold tFin
    rw [if_pos (by omega)]
   have HV := zh hv
   clear hv hc hb 
   repeat (first | go_values | go_skip | go_guarded | go_step | go_upon)
   have kr := bkp2 (k_r.below q.h) (.int .i64 0) (.int .i64 0)
   have rc := rwc2 kr
   exact bodyPost_ret (v := .tuple #[.agg #[.int .i64 0, .int .i64 0], .bool false]) (by simp [results, results89, go_sem, rc]) rfl ⟨by rw [HG.out, HV.out], blp2 (z00 B5 q) (by omega)⟩
 · have hb := HB.out
   clear HB
   have fx : decide (x ≤ 0) = true := zt (by omega)
   have fy : decide (y ≤ 0) = true := zt (by omega)
   have fz : decide (z ≤ 0) = false := zf (by omega)
   have kx : decide (x < 0) = false := zf (by omega)
   have ky : decide (y < 0) = true := zt (by omega)
   have hv : tG x y z n = ((0, 0), false) := by
    unfold tG
    rw [if_neg (by omega)]
    unfold tFin
    rw [if_pos (by omega)]
   have HV := zh hv
   clear hv hc hb 
   repeat (first | go_values | go_skip | go_guarded | go_step | go_upon)
   have kr := bkp2 (k_r.below q.h) (.int .i64 0) (.int .i64 0)
   have rc := rwc2 kr
   exact bodyPost_ret (v := .tuple #[.agg #[.int .i64 0, .int .i64 0], .bool false]) (by simp [results, results89, go_sem, rc]) rfl ⟨by rw [HG.out, HV.out], blp2 (z00 B5 q) (by omega)⟩
 · have hb := HB.out
   clear HB
   have fx : decide (x ≤ 0) = true := zt (by omega)
   have fy : decide (y ≤ 0) = true := zt (by omega)
   have fz : decide (z ≤ 0) = false := zf (by omega)
   have kx : decide (x < 0) = false := zf (by omega)
   have ky : decide (y < 0) = false := zf (by omega)
   have kz : decide (z < 0) = false := zf (by omega)
   obtain ⟨ss, hss⟩ : ∃ t, x + y = t := ⟨_, rfl⟩
   obtain ⟨tt, htt⟩ : ∃ t, ss + z = t := ⟨_, rfl⟩
   have wss : wrap64 (x + y) = ss := by rw [hss]; exact IntWalk.wrap64_in _ (by omega)
   have vss : IntKind.i64.wrap (x + y) = ss := by rw [hss, i64w]; omega
   have wtt : wrap64 (ss + z) = tt := by rw [htt]; exact IntWalk.wrap64_in _ (by omega)
   have vtt : IntKind.i64.wrap (ss + z) = tt := by rw [htt, i64w]; omega
   have ht0 : ¬ tt = 0 := by omega
   have kn : decide (n ≤ 0) = true := zt (by omega)
   have hv : tG x y z n = ((0, 0), false) := by
    unfold tG
    rw [if_neg (by omega)]
    unfold tFin
    rw [if_pos (by omega)]
   have HV := zh hv
   clear hv hc hb hss htt
   repeat (first | go_values | go_skip | go_guarded | go_step | go_upon)
   have kr := bkp2 (k_r.below q.h) (.int .i64 0) (.int .i64 0)
   have rc := rwc2 kr
   exact bodyPost_ret (v := .tuple #[.agg #[.int .i64 0, .int .i64 0], .bool false]) (by simp [results, results89, go_sem, rc]) rfl ⟨by rw [HG.out, HV.out], blp2 (z00 B5 q) (by omega)⟩
 · have hb := HB.out
   clear HB
   have fx : decide (x ≤ 0) = true := zt (by omega)
   have fy : decide (y ≤ 0) = true := zt (by omega)
   have fz : decide (z ≤ 0) = false := zf (by omega)
   have kx : decide (x < 0) = false := zf (by omega)
   have ky : decide (y < 0) = false := zf (by omega)
   have kz : decide (z < 0) = false := zf (by omega)
   obtain ⟨ss, hss⟩ : ∃ t, x + y = t := ⟨_, rfl⟩
   obtain ⟨tt, htt⟩ : ∃ t, ss + z = t := ⟨_, rfl⟩
   have wss : wrap64 (x + y) = ss := by rw [hss]; exact IntWalk.wrap64_in _ (by omega)
   have vss : IntKind.i64.wrap (x + y) = ss := by rw [hss, i64w]; omega
   have wtt : wrap64 (ss + z) = tt := by rw [htt]; exact IntWalk.wrap64_in _ (by omega)
   have vtt : IntKind.i64.wrap (ss + z) = tt := by rw [htt, i64w]; omega
   have ht0 : ¬ tt = 0 := by omega
   have kn : decide (n ≤ 0) = false := zf (by omega)
   have hv : tG x y z n = ((n, tt), true) := by
    unfold tG
    rw [if_neg (by omega)]
    unfold tFin
    rw [if_neg (by omega), ← htt, ← hss]
   have HV := zh hv
   clear hv hc hb hss htt
   repeat (first | go_values | go_skip | go_guarded | go_step | go_upon)
   have kr := bkp2 (k_r.below q.h) (.int .i64 n) (.int .i64 tt)
   have rc := rwc2 kr
   exact bodyPost_ret (v := .tuple #[.agg #[n, tt], .bool true]) (by simp [results, results89, go_sem, rc]) rfl ⟨by rw [HG.out, HV.out], blp2 (z00 B5 q) (by omega)⟩
theorem ref11_Hit (a1 a2 a3 b1 b2 b3 c1 c2 c3 o1 o2 o3 d1 d2 d3 fr : Int) (w : World) :
  Rt prog 89 #[.agg #[a1, a2, a3], .agg #[b1, b2, b3], .agg #[c1, c2, c3], .agg #[o1, o2, o3, d1, d2, d3, fr]] w (.tuple #[.agg #[(tHit (a1, a2, a3) (b1, b2, b3) (c1, c2, c3) (o1, o2, o3) (d1, d2, d3)).1.1, (tHit (a1, a2, a3) (b1, b2, b3) (c1, c2, c3) (o1, o2, o3) (d1, d2, d3)).1.2], .bool (tHit (a1, a2, a3) (b1, b2, b3) (c1, c2, c3) (o1, o2, o3) (d1, d2, d3)).2]) := by
 cases h1 : pl3 (a1, a2, a3) (b1, b2, b3) (c1, c2, c3) with
 | false => exact ref11_Hit_no1 a1 a2 a3 b1 b2 b3 c1 c2 c3 o1 o2 o3 d1 d2 d3 fr w h1
 | true =>
  cases h2 : plc (o1, o2, o3) with
  | false => exact ref11_Hit_no2 a1 a2 a3 b1 b2 b3 c1 c2 c3 o1 o2 o3 d1 d2 d3 fr w h1 h2
  | true =>
   cases h3 : nrT (d1, d2, d3) with
   | false => exact ref11_Hit_no3 a1 a2 a3 b1 b2 b3 c1 c2 c3 o1 o2 o3 d1 d2 d3 fr w h1 h2 h3
   | true => exact ref11_Hit_yes a1 a2 a3 b1 b2 b3 c1 c2 c3 o1 o2 o3 d1 d2 d3 fr w h1 h2 h3
end
end
section
section
open Go.RowKit Go.Proofs.Sky
end
end
end Go.Proofs.YtbmpmjdlaahekaaGreat
