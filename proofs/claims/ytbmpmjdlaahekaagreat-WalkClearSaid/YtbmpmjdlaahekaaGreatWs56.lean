/- Plain mathematics of layer 17: what a ray meets first, by a tree: what -/
import Derived.Test.YtbmpmjdlaahekaaGreatWs52
set_option maxRecDepth 100000
set_option maxHeartbeats 8000000
set_option linter.unusedVariables false
set_option linter.unusedSimpArgs false
open Go.Proofs.Tryz
namespace Go.Proofs.Sky
section
open Go.RowKit
theorem pHit_still (p : Pr) (ix : Int) (o : T3) (fr : Int) : (pHit p ix o (0, 0, 0) fr).2 = false := by
 unfold pHit
 split
 · split
   · split
     · rfl
     · unfold tHit
       split
       · have e : ∀ u v : T3, vlX (0, 0, 0) u v = 0 := fun u v => by unfold vlX; simp
         rw [e, e, e]
         unfold tG tFin
         simp
       · rfl
   · have e : ballM p.a p.r o (0, 0, 0) = false := by unfold ballM isZ; simp
     split
     · unfold ballT; rw [e]; simp
     · unfold ballH; rw [e]; simp
 · rfl
theorem any_still {P : Nat → Pr} {n : Nat} {o : T3} {fr m e : Int} : hAny P n o (0, 0, 0) fr m e = false := by
 unfold hAny
 refine any_none fun x hx => ?_
 obtain ⟨i, _, _, h⟩ := hUp_mem hx
 rw [pHit_still] at h
 cases h
end
end Go.Proofs.Sky
namespace Go.Proofs.YtbmpmjdlaahekaaGreat
section
open Go.RowKit Go.Proofs.Sky
theorem ref17_Clear_w (lp : Option Addr) (n lc : Nat) (q1 q2 q3 t1 t2 t3 d1 d2 d3 lv : Int) (res : Bool) (w : World) (KS : Hid (∀ w, Rt prog 21 #[.agg #[t1, t2, t3], .agg #[q1, q2, q3]] w (.agg #[d1, d2, d3])))
  (KA : Hid (∀ X, Below w.heap.size w X → Rt prog 14 #[.slice lp n lc, .agg #[q1, q2, q3, d1, d2, d3, lv], .agg #[.int .i64 1, .int .i64 1]] X (.bool res))) :
  Rt prog 23 #[.slice lp n lc, .agg #[q1, q2, q3], .agg #[t1, t2, t3], lv] w (.bool (!res)) := by
 go_enter func23, ntmps23
 go_upto_region 1 with (fail)
 refine wst2 fun W1 kq kto B1 => ?_
 have lto : w.heap.size < w.heap.size + 1 := by omega
 generalize w.heap.size + 1 = gto at *
 have cq := bwc3 kq
 have cto := bwc3 kto
 refine bws fun p1 => ?_
 have KA2 := zh (fun Y (hY : Below W1.heap.size W1 Y) => KA.out Y (B1.trans (hY.mono B1.size)))
 refine z03 (by kernel_rfl) (by kernel_rfl) ?_
 repeat (go_big_quiet_step (first
   | (go_at_call 21; (with_reducible exact z02 KS.out _))
   | (go_at_call 14; (with_reducible exact z0c KA2.out (Below.refl _ _) _))))
 refine wpQuiet_nil ?_
 intro _ hw'
 obtain ⟨q, rfl⟩ := hw'
 go_wp2
 go_ret
 exact ⟨rfl, z00 B1 _⟩
end
section
open Go.RowKit Go.Proofs.Sky
theorem ref_clear17 (lp : Option Addr) (n lc : Nat) (P : Nat → Pr) (q1 q2 q3 t1 t2 t3 lv : Int) (X : World) (iq : I3 (q1, q2, q3)) (it : I3 (t1, t2, t3)) (hl : I64 lv) (hs : Prims X (.slice lp n lc) n P) (hn : n ≤ 1000) :
  Rt prog 23 #[.slice lp n lc, .agg #[q1, q2, q3], .agg #[t1, t2, t3], lv] X (.bool (!hAny P n (q1, q2, q3) (vsub t1 q1, vsub t2 q2, vsub t3 q3) lv 1 1)) := by
 have i1 : I64 1 := by unfold I64; omega
 exact ref17_Clear_w lp n lc q1 q2 q3 t1 t2 t3 _ _ _ lv _ X (zh fun w => ref6_Sub t1 t2 t3 q1 q2 q3 w it.1 it.2.1 it.2.2 iq.1 iq.2.1 iq.2.2)
  (zh fun Y hY => ref14_Any lp n lc P q1 q2 q3 _ _ _ lv Y (hs.below hY (Nat.le_refl _)) iq ⟨sat_I64 _, sat_I64 _, sat_I64 _⟩ hl 1 1 i1 i1 (by omega))
end
section
open Go.RowKit Go.Proofs.Sky
theorem clear_no1 (lp : Option Addr) (n lc : Nat) (q1 q2 q3 t1 t2 t3 lv : Int) (w : World) (hn : 24 < n) :
  Rt prog 5 #[.slice lp n lc, .agg #[q1, q2, q3], .agg #[t1, t2, t3], lv] w (.bool true) := by
 have KW := zh (fun w => awake17 w)
 have h24 : decide ((24 : Int) < (n : Int)) = true := zt (by omega)
 clear hn
 go_enter func5, ntmps5
 go_upto_region 1 with (fail)
 refine wst2 fun W1 kq kv B1 => ?_
 have l_v : w.heap.size < w.heap.size + 1 := by omega
 generalize w.heap.size + 1 = gv at *
 have cq := bwc3 kq
 have cv := bwc3 kv
 refine bws fun p1 => ?_
 go_wp2_with ((go_at_call 8; (with_reducible refine (z02 KW.out _).mono ?_); rintro e w' ⟨rfl, q, rfl⟩))
 go_ret
 exact ⟨rfl, z00 B1 _⟩
theorem clear_no2 (lp : Option Addr) (n lc : Nat) (q1 q2 q3 t1 t2 t3 lv : Int) (w : World) (hn : n ≤ 24) (KR : Hid (∀ X, Below w.heap.size w X → Rt prog 6 #[.slice lp n lc] X (.bool false))) :
  Rt prog 5 #[.slice lp n lc, .agg #[q1, q2, q3], .agg #[t1, t2, t3], lv] w (.bool true) := by
 have KW := zh (fun w => awake17 w)
 have h24 : decide ((24 : Int) < (n : Int)) = false := zf (by omega)
 clear hn
 go_enter func5, ntmps5
 go_upto_region 1 with (fail)
 refine wst2 fun W1 kq kv B1 => ?_
 have l_v : w.heap.size < w.heap.size + 1 := by omega
 generalize w.heap.size + 1 = gv at *
 have cq := bwc3 kq
 have cv := bwc3 kv
 refine bws fun p1 => ?_
 have KR1 := zh (fun X (hX : Below W1.heap.size W1 X) => KR.out X (B1.trans (hX.mono B1.size)))
 go_wp2_with (first | (go_at_call 8; (with_reducible refine (z02 KW.out _).mono ?_); rintro e w' ⟨rfl, q, rfl⟩) | (go_at_call 6; (with_reducible refine (z0c KR1.out (Below.refl _ _) _).mono ?_); rintro e w' ⟨rfl, q, rfl⟩))
 go_ret
 exact ⟨rfl, z00 B1 _⟩
theorem clear_no3 (lp : Option Addr) (n lc : Nat) (q1 q2 q3 t1 t2 t3 lv : Int) (w : World) (hn : n ≤ 24) (KR : Hid (∀ X, Below w.heap.size w X → Rt prog 6 #[.slice lp n lc] X (.bool true))) (KP : Hid (∀ X, Rt prog 19 #[.agg #[q1, q2, q3]] X (.bool false))) :
  Rt prog 5 #[.slice lp n lc, .agg #[q1, q2, q3], .agg #[t1, t2, t3], lv] w (.bool true) := by
 have KW := zh (fun w => awake17 w)
 have h24 : decide ((24 : Int) < (n : Int)) = false := zf (by omega)
 clear hn
 go_enter func5, ntmps5
 go_upto_region 1 with (fail)
 refine wst2 fun W1 kq kv B1 => ?_
 have l_v : w.heap.size < w.heap.size + 1 := by omega
 generalize w.heap.size + 1 = gv at *
 have cq := bwc3 kq
 have cv := bwc3 kv
 refine bws fun p1 => ?_
 have KR1 := zh (fun X (hX : Below W1.heap.size W1 X) => KR.out X (B1.trans (hX.mono B1.size)))
 go_wp2_with (first | (go_at_call 8; (with_reducible refine (z02 KW.out _).mono ?_); rintro e w' ⟨rfl, q, rfl⟩) | (go_at_call 6; (with_reducible refine (z0c KR1.out (Below.refl _ _) _).mono ?_); rintro e w' ⟨rfl, q, rfl⟩) | (go_at_call 19; (with_reducible refine (z02 KP.out _).mono ?_); rintro e w' ⟨rfl, q, rfl⟩))
 go_ret
 exact ⟨rfl, z00 B1 _⟩
theorem clear_no4 (lp : Option Addr) (n lc : Nat) (q1 q2 q3 t1 t2 t3 lv : Int) (w : World) (hn : n ≤ 24) (KR : Hid (∀ X, Below w.heap.size w X → Rt prog 6 #[.slice lp n lc] X (.bool true))) (KP : Hid (∀ X, Rt prog 19 #[.agg #[q1, q2, q3]] X (.bool true))) (KP2 : Hid (∀ X, Rt prog 19 #[.agg #[t1, t2, t3]] X (.bool false))) :
  Rt prog 5 #[.slice lp n lc, .agg #[q1, q2, q3], .agg #[t1, t2, t3], lv] w (.bool true) := by
 have KW := zh (fun w => awake17 w)
 have h24 : decide ((24 : Int) < (n : Int)) = false := zf (by omega)
 clear hn
 go_enter func5, ntmps5
 go_upto_region 1 with (fail)
 refine wst2 fun W1 kq kv B1 => ?_
 have l_v : w.heap.size < w.heap.size + 1 := by omega
 generalize w.heap.size + 1 = gv at *
 have cq := bwc3 kq
 have cv := bwc3 kv
 refine bws fun p1 => ?_
 have KR1 := zh (fun X (hX : Below W1.heap.size W1 X) => KR.out X (B1.trans (hX.mono B1.size)))
 go_wp2_with (first | (go_at_call 8; (with_reducible refine (z02 KW.out _).mono ?_); rintro e w' ⟨rfl, q, rfl⟩) | (go_at_call 6; (with_reducible refine (z0c KR1.out (Below.refl _ _) _).mono ?_); rintro e w' ⟨rfl, q, rfl⟩) | (go_at_call 19; (first | (with_reducible refine (z02 KP.out _).mono ?_) | (with_reducible refine (z02 KP2.out _).mono ?_)); rintro e w' ⟨rfl, q, rfl⟩))
 go_ret
 exact ⟨rfl, z00 B1 _⟩
theorem clear_no5 (lp : Option Addr) (n lc : Nat) (q1 q2 q3 t1 t2 t3 lv : Int) (e1 e2 e3 : Int) (w : World) (hn : n ≤ 24) (KR : Hid (∀ X, Below w.heap.size w X → Rt prog 6 #[.slice lp n lc] X (.bool true))) (KP : Hid (∀ X, Rt prog 19 #[.agg #[q1, q2, q3]] X (.bool true))) (KP2 : Hid (∀ X, Rt prog 19 #[.agg #[t1, t2, t3]] X (.bool true))) (KS : Hid (∀ X, Rt prog 21 #[.agg #[t1, t2, t3], .agg #[q1, q2, q3]] X (.agg #[e1, e2, e3]))) (KN : Hid (∀ X, Rt prog 20 #[.agg #[e1, e2, e3]] X (.bool false))) :
  Rt prog 5 #[.slice lp n lc, .agg #[q1, q2, q3], .agg #[t1, t2, t3], lv] w (.bool true) := by
 have KW := zh (fun w => awake17 w)
 have h24 : decide ((24 : Int) < (n : Int)) = false := zf (by omega)
 clear hn
 go_enter func5, ntmps5
 go_upto_region 1 with (fail)
 refine wst2 fun W1 kq kv B1 => ?_
 have l_v : w.heap.size < w.heap.size + 1 := by omega
 generalize w.heap.size + 1 = gv at *
 have cq := bwc3 kq
 have cv := bwc3 kv
 refine bws fun p1 => ?_
 have KR1 := zh (fun X (hX : Below W1.heap.size W1 X) => KR.out X (B1.trans (hX.mono B1.size)))
 go_wp2_with (first | (go_at_call 8; (with_reducible refine (z02 KW.out _).mono ?_); rintro e w' ⟨rfl, q, rfl⟩) | (go_at_call 6; (with_reducible refine (z0c KR1.out (Below.refl _ _) _).mono ?_); rintro e w' ⟨rfl, q, rfl⟩) | (go_at_call 19; (first | (with_reducible refine (z02 KP.out _).mono ?_) | (with_reducible refine (z02 KP2.out _).mono ?_)); rintro e w' ⟨rfl, q, rfl⟩) | (go_at_call 21; (with_reducible refine (z02 KS.out _).mono ?_); rintro e w' ⟨rfl, q, rfl⟩) | (go_at_call 20; (with_reducible refine (z02 KN.out _).mono ?_); rintro e w' ⟨rfl, q, rfl⟩))
 go_ret
 exact ⟨rfl, z00 B1 _⟩
theorem clear_core (lp : Option Addr) (n lc : Nat) (q1 q2 q3 t1 t2 t3 lv : Int) (e1 e2 e3 : Int) (bt : Bool) (ns : List Nd) (ord : List Int) (N M : Nat) (w : World) (hn : n ≤ 24)
  (KR : Hid (∀ X, Below w.heap.size w X → Rt prog 6 #[.slice lp n lc] X (.bool true))) (KP : Hid (∀ X, Rt prog 19 #[.agg #[q1, q2, q3]] X (.bool true))) (KP2 : Hid (∀ X, Rt prog 19 #[.agg #[t1, t2, t3]] X (.bool true))) (KS : Hid (∀ X, Rt prog 21 #[.agg #[t1, t2, t3], .agg #[q1, q2, q3]] X (.agg #[e1, e2, e3]))) (KN : Hid (∀ X, Rt prog 20 #[.agg #[e1, e2, e3]] X (.bool true)))
  (KB : Hid (∀ X, Below w.heap.size w X → Calls prog 10 #[.slice lp n lc] X fun e w' => ∃ ua uc va vc, e = .returned (.agg #[.slice ua N uc, .slice va M vc]) ∧ TreeAt w' ua N uc va M vc ns ord ∧ Below X.heap.size X w'))
  (KO : Hid (∀ ua va uc vc X, TreeAt X ua N uc va M vc ns ord → Calls prog 9 #[.agg #[.slice ua N uc, .slice va M vc]] X fun e w' => ∃ ta tc oa oc, e = .returned (.agg #[.slice ta N tc, .slice oa M oc]) ∧ TreeAt w' ta N tc oa M oc ns ord ∧ Below X.heap.size X w'))
  (KC : Hid (∀ a o c co X, Below w.heap.size w X → TreeAt X a N c o M co ns ord → Rt prog 22 #[.agg #[.slice a N c, .slice o M co], .slice lp n lc, .agg #[q1, q2, q3], .agg #[t1, t2, t3], lv] X (.bool bt)))
  (KD : Hid (∀ a o c co X, Below w.heap.size w X → TreeAt X a N c o M co ns ord → Rt prog 22 #[.agg #[.slice a N c, .slice o M co], .slice lp n lc, .agg #[q1, q2, q3], .agg #[q1, q2, q3], lv] X (.bool true)))
  (KRC : Hid (∀ X, Below w.heap.size w X → Rt prog 23 #[.slice lp n lc, .agg #[q1, q2, q3], .agg #[t1, t2, t3], lv] X (.bool bt))) :
  Rt prog 5 #[.slice lp n lc, .agg #[q1, q2, q3], .agg #[t1, t2, t3], lv] w (.bool true) := by
 have KW := zh (fun w => awake17 w)
 have h24 : decide ((24 : Int) < (n : Int)) = false := zf (by omega)
 clear hn
 go_enter func5, ntmps5
 go_upto_region 1 with (fail)
 refine wst2 fun W1 kq kv B1 => ?_
 have l_v : w.heap.size < w.heap.size + 1 := by omega
 generalize w.heap.size + 1 = gv at *
 have cq := bwc3 kq
 have cv := bwc3 kv
 refine bws fun p1 => ?_
 have KR1 := zh (fun X (hX : Below W1.heap.size W1 X) => KR.out X (B1.trans (hX.mono B1.size)))
 go_upto_region 3 with (first | (go_at_call 6; (with_reducible refine (z0c KR1.out (Below.refl _ _) _).mono ?_); rintro e w' ⟨rfl, q, rfl⟩) | (go_at_call 19; (first | (with_reducible refine (z02 KP.out _).mono ?_) | (with_reducible refine (z02 KP2.out _).mono ?_)); rintro e w' ⟨rfl, q, rfl⟩) | (go_at_call 21; (with_reducible refine (z02 KS.out _).mono ?_); rintro e w' ⟨rfl, q, rfl⟩) | (go_at_call 20; (with_reducible refine (z02 KN.out _).mono ?_); rintro e w' ⟨rfl, q, rfl⟩))
 have BQ := z00 B1 q
 have KB1 := KB.out q.w BQ
 go_upto_region 4 with (first
  | (go_at_call 10; (with_reducible refine KB1.mono ?_); rintro e w2 ⟨ua, uc, va, vc, rfl, ht2, hb2⟩)
  | (go_at_call 9; (with_reducible refine (KO.out _ _ _ _ _ ht2).mono ?_); rintro e w3 ⟨ta, tc, oa, oc, rfl, ht3, hb3⟩))
 refine wnm fun W3 hW3 => ?_
 have B23 : Below w.heap.size w w3 := (BQ.trans (hb2.mono BQ.size)).trans (hb3.mono (Nat.le_trans BQ.size hb2.size))
 have B3 : Below w.heap.size w W3 := by rw [hW3]; exact B23.alloc B23.size _
 have kq3 := bka hW3 (((kq.below q.h).below hb2).below hb3)
 have kv3 := bka hW3 (((kv.below q.h).below hb2).below hb3)
 have kt := bkn hW3
 have ht : TreeAt W3 ta N tc oa M oc ns ord := by rw [hW3]; exact ht3.below (z0s _ (Nat.le_refl _))
 clear hW3 B23 hb2 hb3 ht2 ht3 KB1 BQ kq kv B1 KR1 KR KP KP2 KS KN KO cq cv
 generalize w3.heap.size = gt at *
 have ct := bwc2 kt
 have cq := bwc3 kq3
 have cv := bwc3 kv3
 refine bws fun p3 => ?_
 have KC3 := zh (fun Y (hY : Below W3.heap.size W3 Y) => KC.out ta oa tc oc Y (B3.trans (hY.mono B3.size)) (ht.below hY))
 have KD3 := zh (fun Y (hY : Below W3.heap.size W3 Y) => KD.out ta oa tc oc Y (B3.trans (hY.mono B3.size)) (ht.below hY))
 have KRC3 := zh (fun Y (hY : Below W3.heap.size W3 Y) => KRC.out Y (B3.trans (hY.mono B3.size)))
 refine z03 (by kernel_rfl) (by kernel_rfl) ?_
 repeat (go_big_quiet_step (first
  | (go_at_call 22; (first | (with_reducible exact z0c KC3.out (Below.refl _ _) _) | (with_reducible exact z0c KD3.out (Below.refl _ _) _)))
  | (go_at_call 23; (with_reducible exact z0c KRC3.out (Below.refl _ _) _))
  | (go_at_call 8; (with_reducible exact z02 KW.out _))
  | fail))
 refine wpQuiet_nil ?_
 intro _ hw'
 obtain ⟨q, rfl⟩ := hw'
 go_wp2
 go_ret
 exact ⟨rfl, z00 B3 _⟩
theorem vsub_self17 {v : T3} (h : plc v = true) : vsub v.1 v.1 = 0 ∧ vsub v.2.1 v.2.1 = 0 ∧ vsub v.2.2 v.2.2 = 0 := by
 rw [z0a] at h
 exact ⟨by rw [z05 (by omega) (by omega)]; omega, by rw [z05 (by omega) (by omega)]; omega, by rw [z05 (by omega) (by omega)]; omega⟩
theorem law_WalkClear (lp : Option Addr) (n lc : Nat) (q1 q2 q3 t1 t2 t3 lv : Int) (P : Nat → Pr) (w : World) (hs : Prims w (.slice lp n lc) n P) (iq : I3 (q1, q2, q3)) (it : I3 (t1, t2, t3)) (hv : I64 lv) :
  Rt prog 5 #[.slice lp n lc, .agg #[q1, q2, q3], .agg #[t1, t2, t3], lv] w (.bool true) := by
 by_cases h1 : 24 < n
 · exact clear_no1 lp n lc q1 q2 q3 t1 t2 t3 lv w h1
 have hl : ∀ {X}, Below w.heap.size w X → Prims X (.slice lp n lc) n P := fun hX => hs.below hX (Nat.le_refl _)
 have h24 : n ≤ 24 := by omega
 cases hp : pAll P n with
 | false => exact clear_no2 lp n lc q1 q2 q3 t1 t2 t3 lv w h24 (zh fun X hX => by rw [← hp]; exact z17 _ n P X (hl hX) (by omega))
 | true =>
  have KR := fun X hX => z17 (.slice lp n lc) n P X (hl (X := X) hX) (by omega)
  rw [hp] at KR
  cases hq : plc (q1, q2, q3) with
  | false => exact clear_no3 lp n lc q1 q2 q3 t1 t2 t3 lv w h24 (zh KR) (zh fun X => by rw [← hq]; exact z0v q1 q2 q3 X)
  | true =>
   have KP := fun X => z0v q1 q2 q3 X
   rw [hq] at KP
   cases ht : plc (t1, t2, t3) with
   | false => exact clear_no4 lp n lc q1 q2 q3 t1 t2 t3 lv w h24 (zh KR) (zh KP) (zh fun X => by rw [← ht]; exact z0v t1 t2 t3 X)
   | true =>
    have KP2 := fun X => z0v t1 t2 t3 X
    rw [ht] at KP2
    have KS := fun X => ref6_Sub t1 t2 t3 q1 q2 q3 X it.1 it.2.1 it.2.2 iq.1 iq.2.1 iq.2.2
    cases hn : vnear (vsub t1 q1) (vsub t2 q2) (vsub t3 q3) with
    | false => exact clear_no5 lp n lc q1 q2 q3 t1 t2 t3 lv _ _ _ w h24 (zh KR) (zh KP) (zh KP2) (zh KS) (zh fun X => by rw [← hn]; exact z0b _ _ _ X)
    | true =>
     have KN := fun X => z0b (vsub t1 q1) (vsub t2 q2) (vsub t3 q3) X
     rw [hn] at KN
     have hw := build_mwh hp (show n ≤ 1024 by omega)
     obtain ⟨l1, l2, l3⟩ := build_lens P n
     obtain ⟨z1, z2, z3⟩ := vsub_self17 hq
     dsimp only at z1 z2 z3
     exact clear_core lp n lc q1 q2 q3 t1 t2 t3 lv _ _ _ (!hAny P n (q1, q2, q3) (vsub t1 q1, vsub t2 q2, vsub t3 q3) lv 1 1) (mBuild P n).1 (bOrd P n) _ _ w h24 (zh KR) (zh KP) (zh KP2) (zh KS) (zh KN)
      (zh fun X hX => ref_built17 lp n lc P _ _ _ _ X (hl hX) (by omega) rfl rfl rfl rfl)
      (zh fun ua va uc vc X h => of_at17 ua va uc vc _ _ _ _ X h (by omega) (by omega))
      (zh fun a o c co X hX h => clear_at17 a o lp _ c _ co n lc _ _ P q1 q2 q3 t1 t2 t3 lv X h hw (by omega) iq it hv (hl hX) (by omega))
      (zh fun a o c co X hX h => by
       have k := clear_at17 a o lp _ c _ co n lc _ _ P q1 q2 q3 q1 q2 q3 lv X h hw (by omega) iq iq hv (hl hX) (by omega)
       rw [z1, z2, z3, any_still] at k
       exact k)
      (zh fun X hX => ref_clear17 lp n lc P q1 q2 q3 t1 t2 t3 lv X iq it hv (hl hX) (by omega))
end
end Go.Proofs.YtbmpmjdlaahekaaGreat
