/- Contracts of the document's own answers, layer 14: first, Closest, Any -/
import Derived.Test.YtbmpmjdlaahekaaGreatWs33
set_option maxRecDepth 100000
set_option maxHeartbeats 8000000
set_option linter.unusedVariables false
set_option linter.unusedSimpArgs false
open Go.Proofs.Tryz
namespace Go.Proofs.Sky
section
open Go.RowKit
theorem hFirst_yes {l : List H3} {i : Nat} (h : i < l.length) (hb : hBest l l[i] = true) (hn : ∀ j (q : j < l.length), j < i → hBest l l[j] = false) : hFirst l = (l[i], true) := by
 have : l.find? (hBest l) = some l[i] := by
  rw [List.find?_eq_some_iff_getElem]
  exact ⟨hb, i, h, rfl, fun j hj => by rw [hn j (by omega) hj]; rfl⟩
 unfold hFirst
 rw [this]
theorem hFirst_no {l : List H3} (hn : ∀ j (q : j < l.length), hBest l l[j] = false) : hFirst l = ((0, 0, 0), false) := by
 have : l.find? (hBest l) = none := by
  rw [List.find?_eq_none]
  intro x hx
  obtain ⟨j, q, rfl⟩ := List.getElem_of_mem hx
  rw [hn j q]; decide
 unfold hFirst
 rw [this]
end
end Go.Proofs.Sky
namespace Go.Proofs.YtbmpmjdlaahekaaGreat
section
section
open Go.RowKit Go.Proofs.Sky
theorem take_all_succ (l : List H3) (p : H3 → Bool) (k : Nat) (h : k < l.length) : (l.take (k + 1)).all p = ((l.take k).all p && p l[k]) := by
 rw [List.take_succ_eq_append_getElem h, List.all_append]
 simp
theorem ref14_first (v : Value) (l : List H3) (w : World) (hs : Hits w v l) (hI : ∀ x ∈ l, I64 x.1 ∧ I64 x.2.1 ∧ I64 x.2.2) (hn : l.length ≤ 1000000) :
  Rt prog 29 #[v] w (.tuple #[.agg #[(hFirst l).1.1, (hFirst l).1.2.1, (hFirst l).1.2.2], .bool (hFirst l).2]) := by
 obtain ⟨a, cap, rfl, hm, hS⟩ := hs
 have HS := zh hS
 clear hS
 obtain ⟨F, hF⟩ := nmd (hFirst l)
 rw [← hF]
 have HF := zh hF
 clear hF
 go_enter func29, ntmps29
 go_upto_region 1 with (fail)
 refine wst1 fun W1 k_r B1 => ?_
 go_wp2
 go_loopw [4] (fun i wr => ∃ (k : Nat) (q : BW W1), k ≤ l.length ∧ i = .int .i64 k ∧ wr = q.w ∧ ∀ j (h : j < l.length), j < k → hBest l l[j] = false) (fun i _ => l.length - (intOf i).toNat)
 case atStart => exact ⟨0, BW.start W1, by omega, rfl, rfl, fun j _ h => absurd h (by omega)⟩
 case round =>
  obtain ⟨k, p1, hk, rfl, rfl, hnone⟩ := hrel
  have HN := zh hnone
  clear hnone
  by_cases hlt : k < l.length
  · obtain ⟨b, off, rfl, hlb, hcell⟩ := HS.out.resolve_left (by omega)
    have hIk := hI _ (List.getElem_mem hlt)
    have f0 : w.cell? ⟨b, off + k * 3 + 0, none⟩ = some (.int .i64 l[k].1) := hcell k hlt 0 (by omega)
    have f1 : w.cell? ⟨b, off + k * 3 + 1, none⟩ = some (.int .i64 l[k].2.1) := hcell k hlt 1 (by omega)
    have f2 : w.cell? ⟨b, off + k * 3 + 2, none⟩ = some (.int .i64 l[k].2.2) := hcell k hlt 2 (by omega)
    obtain ⟨z, hz⟩ := nmd (l[k])
    rw [← hz] at f0 f1 f2 hIk
    have HZ := zh hz
    clear hz
    obtain ⟨z1, z2, z3⟩ := z
    dsimp only at f0 f1 f2 hIk
    have cf0 : ∀ p : BW W1, p.w.cell? ⟨b, off + k * 3, none⟩ = some (.int .i64 z1) := bwB B1 f0 hlb
    have cf1 := bwB B1 f1 hlb
    have cf2 := bwB B1 f2 hlb
    go_wp2
    go_loopw [5, 6] (fun best i wr => ∃ (m : Nat) (q : BW W1), m ≤ l.length ∧ i = .int .i64 m ∧ best = .bool ((l.take m).all (fun y => !hb y (z1, z2, z3))) ∧ wr = q.w) (fun _ i _ => l.length - (intOf i).toNat)
    case atStart => exact ⟨0, p1, by omega, rfl, rfl, rfl⟩
    case round =>
     obtain ⟨m, p2, hm2, rfl, rfl, rfl⟩ := hrel
     by_cases hl2 : m < l.length
     · have hIm := hI _ (List.getElem_mem hl2)
       have y0 : w.cell? ⟨b, off + m * 3 + 0, none⟩ = some (.int .i64 l[m].1) := hcell m hl2 0 (by omega)
       have y1 : w.cell? ⟨b, off + m * 3 + 1, none⟩ = some (.int .i64 l[m].2.1) := hcell m hl2 1 (by omega)
       have y2 : w.cell? ⟨b, off + m * 3 + 2, none⟩ = some (.int .i64 l[m].2.2) := hcell m hl2 2 (by omega)
       have hT := take_all_succ l (fun y => !hb y (z1, z2, z3)) m hl2
       obtain ⟨s, hs⟩ := nmd ((l.take m).all (fun y => !hb y (z1, z2, z3)))
       rw [← hs] at hT ⊢
       clear hs
       have HC := zh hcell
       clear hcell
       generalize l[m] = y at *
       obtain ⟨u1, u2, u3⟩ := y
       dsimp only at y0 y1 y2 hIm
       have KB := zh (fun w => ref14_Better u1 u2 u3 z1 z2 z3 w hIm.2.1 hIm.2.2 hIk.2.1 hIk.2.2)
       generalize hb (u1, u2, u3) (z1, z2, z3) = e at *
       have HT := zh hT
       clear hT hIm
       have cy0 : ∀ p : BW W1, p.w.cell? ⟨b, off + m * 3, none⟩ = some (.int .i64 u1) := bwB B1 y0 hlb
       have cy1 := bwB B1 y1 hlb
       have cy2 := bwB B1 y2 hlb
       go_upto_region 8 with (fail)
       refine z03 (by kernel_rfl) (by kernel_rfl) ?_
       repeat (go_big_quiet_step (first
        | (go_at_call 56; (with_reducible exact z02 KB.out _))
        | fail))
       refine wpQuiet_nil ?_
       intro _ hw'
       obtain ⟨q, rfl⟩ := hw'
       cases e with
       | false =>
        go_wp2
        go_roundw
        case rel => exact ⟨m + 1, q, by omega, by go_num, by rw [HT.out]; simp, rfl⟩
        case measure => simp [intOf]; omega
       | true =>
        go_wp2
        go_roundw
        case rel => exact ⟨m + 1, q, by omega, by go_num, by rw [HT.out]; simp, rfl⟩
        case measure => simp [intOf]; omega
     · obtain rfl : m = l.length := by omega
       have hB : hBest l l[k] = (l.take l.length).all (fun y => !hb y (z1, z2, z3)) := by rw [List.take_length, ← HZ.out]; rfl
       have HB := zh hB
       clear hB
       generalize (l.take l.length).all (fun y => !hb y (z1, z2, z3)) = s at *
       cases s with
       | false =>
        go_wp2
        go_roundw
        case rel => exact ⟨k + 1, p2, by omega, by go_num, rfl, fun j h hj => by
         by_cases e : j < k
         · exact HN.out j h e
         · obtain rfl : j = k := by omega
           exact HB.out⟩
        case measure => simp [intOf]; omega
       | true =>
        have hF : F = ((z1, z2, z3), true) := by rw [HF.out, HZ.out]; exact hFirst_yes hlt HB.out (fun j q hj => HN.out j q hj)
        clear HF hcell
        subst hF
        have cr0 : ∀ p : BW W1, p.w.cell? ⟨w.heap.size, 0, none⟩ = some (.int .i64 0) := z01 (k_r.cell rfl)
        have fr0 : ∀ p : BW W1, p.w.frozen? ⟨w.heap.size, 0, none⟩ = false := fun p => (k_r.below p.h).frozen 0
        have cr1 : ∀ p : BW W1, p.w.cell? ⟨w.heap.size, 1, none⟩ = some (.int .i64 0) := z01 (k_r.cell rfl)
        have fr1 : ∀ p : BW W1, p.w.frozen? ⟨w.heap.size, 1, none⟩ = false := fun p => (k_r.below p.h).frozen 1
        have cr2 : ∀ p : BW W1, p.w.cell? ⟨w.heap.size, 2, none⟩ = some (.int .i64 0) := z01 (k_r.cell rfl)
        have fr2 : ∀ p : BW W1, p.w.frozen? ⟨w.heap.size, 2, none⟩ = false := fun p => (k_r.below p.h).frozen 2
        go_wp2
        have kr := bkp3 (k_r.below p2.h) (.int .i64 z1) (.int .i64 z2) (.int .i64 z3)
        have rc := rwc3 kr
        exact bodyPost_ret (v := .tuple #[.agg #[z1, z2, z3], .bool true]) (by simp [results, results29, go_sem, rc]) rfl ⟨rfl, blp3 (z00 B1 p2) (by omega)⟩
  · obtain rfl : k = l.length := by omega
    have hF : F = ((0, 0, 0), false) := by rw [HF.out]; exact hFirst_no (fun j q => HN.out j q q)
    clear HF
    subst hF
    have cr0 : ∀ p : BW W1, p.w.cell? ⟨w.heap.size, 0, none⟩ = some (.int .i64 0) := z01 (k_r.cell rfl)
    have fr0 : ∀ p : BW W1, p.w.frozen? ⟨w.heap.size, 0, none⟩ = false := fun p => (k_r.below p.h).frozen 0
    have cr1 : ∀ p : BW W1, p.w.cell? ⟨w.heap.size, 1, none⟩ = some (.int .i64 0) := z01 (k_r.cell rfl)
    have fr1 : ∀ p : BW W1, p.w.frozen? ⟨w.heap.size, 1, none⟩ = false := fun p => (k_r.below p.h).frozen 1
    have cr2 : ∀ p : BW W1, p.w.cell? ⟨w.heap.size, 2, none⟩ = some (.int .i64 0) := z01 (k_r.cell rfl)
    have fr2 : ∀ p : BW W1, p.w.frozen? ⟨w.heap.size, 2, none⟩ = false := fun p => (k_r.below p.h).frozen 2
    go_wp2
    have kr := bkp3 (k_r.below p1.h) (.int .i64 0) (.int .i64 0) (.int .i64 0)
    have rc := rwc3 kr
    exact bodyPost_ret (v := .tuple #[.agg #[.int .i64 0, .int .i64 0, .int .i64 0], .bool false]) (by simp [results, results29, go_sem, rc]) rfl ⟨rfl, blp3 (z00 B1 p1) (by omega)⟩
end
end
section
section
open Go.RowKit Go.Proofs.Sky
theorem owns_hits {w : World} {B : Nat} {v : Value} {l : List H3} (hm : l.length ≤ maxLen) (h : w.ownsRow B 42 3 v l.length (l.flatMap hcells)) : Hits w v l := owns_sll hcells_len (by decide) rfl hm h
theorem ref14_Closest (a : Option Addr) (n cap : Nat) (P : Nat → Pr) (o1 o2 o3 d1 d2 d3 fr : Int) (w : World) (hs : Prims w (.slice a n cap) n P) (ho : I3 (o1, o2, o3)) (hd : I3 (d1, d2, d3)) (hf : I64 fr) (hn : n ≤ 1000000) :
  Rt prog 12 #[.slice a n cap, .agg #[o1, o2, o3, d1, d2, d3, fr]] w (.tuple #[.agg #[(hClosest P n (o1, o2, o3) (d1, d2, d3) fr).1.1, (hClosest P n (o1, o2, o3) (d1, d2, d3) fr).1.2.1, (hClosest P n (o1, o2, o3) (d1, d2, d3) fr).1.2.2], .bool (hClosest P n (o1, o2, o3) (d1, d2, d3) fr).2]) := by
 obtain ⟨L, hL⟩ := nmd (hUp P n (o1, o2, o3) (d1, d2, d3) fr)
 have KA : Hid (∀ X, Prims X (.slice a n cap) n P → Calls prog 30 #[.slice a n cap, .agg #[o1, o2, o3, d1, d2, d3, fr]] X fun e w' => ∃ u, e = .returned u ∧ w'.ownsRow X.heap.size 42 3 u L.length (L.flatMap hcells) ∧ Below X.heap.size X w') := zh (fun X hX => by rw [hL]; exact ref14_All (.slice a n cap) n P o1 o2 o3 d1 d2 d3 fr X hX ho hd hf hn)
 have HIL : Hid (∀ x ∈ L, I64 x.1 ∧ I64 x.2.1 ∧ I64 x.2.2) := zh (by rw [hL]; exact hUp_I64 (by omega))
 have HLN : L.length ≤ n := by rw [hL]; exact hUp_len _ _ _ _ _
 unfold hClosest
 rw [← hL]
 have KF : Hid (∀ u X, Hits X u L → Rt prog 29 #[u] X (.tuple #[.agg #[(hFirst L).1.1, (hFirst L).1.2.1, (hFirst L).1.2.2], .bool (hFirst L).2])) := zh (fun u X hX => ref14_first u L X hX HIL.out (by omega))
 generalize hFirst L = F at *
 obtain ⟨⟨f1, f2, f3⟩, fk⟩ := F
 dsimp only at KF ⊢
 have HLM : Hid (L.length ≤ maxLen) := zh (by unfold maxLen; omega)
 clear hL HLN hn ho hd hf HIL
 go_enter func12, ntmps12
 go_upto_region 1 with (fail)
 refine wst2 fun W1 ky k_r B1 => ?_
 have lr : w.heap.size < w.heap.size + 1 := by omega
 generalize w.heap.size + 1 = gr at *
 have hs1 := hs.below B1 (Nat.le_refl _)
 have cy := bwc7 ky
 have cr := bwc3 k_r
 have f_r := bwf3 k_r
 refine bws fun p1 => ?_
 go_wp2_with (first | (go_at_call 30; refine (KA.out _ (hs1.below (BW.h _) (Nat.le_refl _))).mono ?_; rintro e w1 ⟨u, rfl, hu, hb⟩) | (go_at_call 29; refine (KF.out _ _ (owns_hits HLM.out hu)).mono ?_; rintro e w2 ⟨rfl, hb2⟩; obtain ⟨q, rfl⟩ := z04 (hb.trans (hb2.mono hb.size))))
 have kr := bkp3 (k_r.below q.h) (.int .i64 f1) (.int .i64 f2) (.int .i64 f3)
 have rc := rwc3 kr
 exact bodyPost_ret (v := .tuple #[.agg #[f1, f2, f3], .bool fk]) (by simp [results, results12, go_sem, rc]) rfl ⟨rfl, blp3 (z00 B1 q) (by omega)⟩
theorem ref14_Any (a : Option Addr) (n cap : Nat) (P : Nat → Pr) (o1 o2 o3 d1 d2 d3 fr : Int) (w : World) (hs : Prims w (.slice a n cap) n P) (ho : I3 (o1, o2, o3)) (hd : I3 (d1, d2, d3)) (hf : I64 fr) (mm ee : Int) (hm : I64 mm) (he : I64 ee) (hn : n ≤ 1000000) :
  Rt prog 14 #[.slice a n cap, .agg #[o1, o2, o3, d1, d2, d3, fr], .agg #[mm, ee]] w (.bool (hAny P n (o1, o2, o3) (d1, d2, d3) fr mm ee)) := by
 obtain ⟨L, hL⟩ := nmd (hUp P n (o1, o2, o3) (d1, d2, d3) fr)
 have KA : Hid (∀ X, Prims X (.slice a n cap) n P → Calls prog 30 #[.slice a n cap, .agg #[o1, o2, o3, d1, d2, d3, fr]] X fun e w' => ∃ u, e = .returned u ∧ w'.ownsRow X.heap.size 42 3 u L.length (L.flatMap hcells) ∧ Below X.heap.size X w') := zh (fun X hX => by rw [hL]; exact ref14_All (.slice a n cap) n P o1 o2 o3 d1 d2 d3 fr X hX ho hd hf hn)
 have HIL : Hid (∀ x ∈ L, I64 x.1 ∧ I64 x.2.1 ∧ I64 x.2.2) := zh (by rw [hL]; exact hUp_I64 (by omega))
 have HLN : L.length ≤ n := by rw [hL]; exact hUp_len _ _ _ _ _
 have KR := zh (fun w => ref3_Right mm ee w)
 have KL := zh (fun x2 x3 (h2 : I64 x2) (h3 : I64 x3) w => ref3_Less x2 x3 mm ee w h2 h3 hm he)
 unfold hAny
 rw [← hL]
 obtain ⟨de, hde⟩ := nmd (decide (1 ≤ ee))
 rw [← hde] at KR ⊢
 obtain ⟨res, hres⟩ := nmd (L.any (fun h => !de || fless h.2.1 h.2.2 mm ee))
 rw [← hres]
 have HRES := zh hres
 have hLB : L.length ≤ 1000000 := by omega
 clear hL hn ho hd hf hm he hres hde
 go_enter func14, ntmps14
 go_upto_region 1 with (fail)
 obtain ⟨W1, hW1⟩ : ∃ W, W = (w.alloc (.cells #[o1, o2, o3, d1, d2, d3, fr] 26)).alloc (.cells #[mm, ee] 28) := ⟨_, rfl⟩
 obtain ⟨ky, km, B1⟩ := st2 hW1
 rw [← hW1]
 clear hW1
 have lm : w.heap.size < w.heap.size + 1 := by omega
 generalize w.heap.size + 1 = gm at *
 have hs1 := hs.below B1 (Nat.le_refl _)
 have cy := bwc7 ky
 have cm := bwc2 km
 obtain ⟨p1, hp1⟩ := bwx W1
 rw [← hp1]
 clear hp1
 go_upto_region 2 with ((go_at_call 30; refine (KA.out _ (hs1.below (BW.h _) (Nat.le_refl _))).mono ?_; rintro e w1 ⟨u, rfl, hu, hb⟩))
 obtain ⟨_, cap2, rfl, hmx, hS⟩ := owns_hits (l := L) (by have := hs1.1; obtain ⟨_, _, _, h, _⟩ := this; omega) hu
 have B2 : Below w.heap.size w w1 := (z00 B1 p1).trans (hb.mono (z00 B1 p1).size)
 have km := (km.below p1.h).below hb
 have HS := zh hS
 clear hS hu hb B1 ky hs1
 clear cy cm
 obtain ⟨W2, hW2⟩ := nmd (w1)
 rw [← hW2] at B2 km HS ⊢
 clear hW2
 have cm := bwc2 km
 obtain ⟨p2, hp2⟩ := bwx W2
 rw [← hp2]
 clear hp2
 go_wp2
 go_loopw [8] (fun i wr => ∃ (k : Nat) (q : BW W2), k ≤ L.length ∧ i = .int .i64 k ∧ wr = q.w ∧ ∀ j (h : j < L.length), j < k → (!de || fless L[j].2.1 L[j].2.2 mm ee) = false) (fun i _ => L.length - (intOf i).toNat)
 case atStart => exact ⟨0, p2, by omega, rfl, rfl, fun j _ h => absurd h (by omega)⟩
 case round =>
  obtain ⟨k, p3, hk, rfl, rfl, hno⟩ := hrel
  have HNO := zh hno
  clear hno
  by_cases hlt : k < L.length
  · obtain ⟨b, off, rfl, hlb, hcell⟩ := HS.out.resolve_left (by omega)
    have hIk := HIL.out _ (List.getElem_mem hlt)
    have f1 : W2.cell? ⟨b, off + k * 3 + 1, none⟩ = some (.int .i64 L[k].2.1) := hcell k hlt 1 (by omega)
    have f2 : W2.cell? ⟨b, off + k * 3 + 2, none⟩ = some (.int .i64 L[k].2.2) := hcell k hlt 2 (by omega)
    have HC := zh hcell
    clear hcell
    obtain ⟨z, hz⟩ := nmd (L[k])
    rw [← hz] at f1 f2 hIk
    have HZ := zh hz
    clear hz
    obtain ⟨z1, z2, z3⟩ := z
    dsimp only at f1 f2 hIk
    have KLx := zh (fun w => KL.out z2 z3 hIk.2.1 hIk.2.2 w)
    clear hIk
    obtain ⟨fl, hfl⟩ := nmd (fless z2 z3 mm ee)
    rw [← hfl] at KLx
    have HFL := zh hfl
    clear hfl
    have cf1 : ∀ p : BW W2, p.w.cell? ⟨b, off + k * 3 + 1, none⟩ = some (.int .i64 z2) := z01 f1
    have cf2 : ∀ p : BW W2, p.w.cell? ⟨b, off + k * 3 + 2, none⟩ = some (.int .i64 z3) := z01 f2
    have nx : (!de || fl) = (!de || fless L[k].2.1 L[k].2.2 mm ee) := by rw [← HZ.out]; dsimp only; rw [← HFL.out]
    have HNX := zh nx
    clear nx
    cases de with
    | false =>
     go_upto_region 5 with (fail)
     refine z03 (by kernel_rfl) (by kernel_rfl) ?_
     repeat (go_big_quiet_step (first
      | (go_at_call 34; (with_reducible exact z02 KR.out _))
      | (go_at_call 35; (with_reducible exact z02 KLx.out _))))
     refine wpQuiet_nil ?_
     intro _ hw'
     obtain ⟨q, rfl⟩ := hw'
     go_wp2
     go_ret
     exact ⟨by rw [HRES.out, List.any_eq_true.2 ⟨_, List.getElem_mem hlt, HNX.out.symm⟩]; rfl, z00 B2 _⟩
    | true =>
     cases fl with
     | true =>
      go_upto_region 5 with (fail)
      refine z03 (by kernel_rfl) (by kernel_rfl) ?_
      repeat (go_big_quiet_step (first
       | (go_at_call 34; (with_reducible exact z02 KR.out _))
       | (go_at_call 35; (with_reducible exact z02 KLx.out _))))
      refine wpQuiet_nil ?_
      intro _ hw'
      obtain ⟨q, rfl⟩ := hw'
      go_wp2
      go_ret
      exact ⟨by rw [HRES.out, List.any_eq_true.2 ⟨_, List.getElem_mem hlt, HNX.out.symm⟩]; rfl, z00 B2 _⟩
     | false =>
      go_upto_region 5 with (fail)
      refine z03 (by kernel_rfl) (by kernel_rfl) ?_
      repeat (go_big_quiet_step (first
       | (go_at_call 34; (with_reducible exact z02 KR.out _))
       | (go_at_call 35; (with_reducible exact z02 KLx.out _))))
      refine wpQuiet_nil ?_
      intro _ hw'
      obtain ⟨q, rfl⟩ := hw'
      go_wp2
      go_roundw
      case rel => exact ⟨k + 1, q, by omega, by go_num, rfl, fun j h hj => by
       by_cases e : j < k
       · exact HNO.out j h e
       · obtain rfl : j = k := by omega
         exact HNX.out.symm⟩
      case measure => simp [intOf]; omega
  · obtain rfl : k = L.length := by omega
    go_wp2
    go_ret
    have hr : res = false := by
     rw [HRES.out, List.any_eq_false]
     intro x hx
     obtain ⟨j, hj, rfl⟩ := List.getElem_of_mem hx
     rw [HNO.out j hj hj]
     decide
    exact ⟨by rw [hr]; rfl, z00 B2 _⟩
end
end
end Go.Proofs.YtbmpmjdlaahekaaGreat
