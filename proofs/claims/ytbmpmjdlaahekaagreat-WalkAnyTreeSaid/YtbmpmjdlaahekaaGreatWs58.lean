/- The walk of the statement WalkAnyTree. -/
import Derived.Test.YtbmpmjdlaahekaaGreatWs48
import Derived.Test.YtbmpmjdlaahekaaGreatWs57
import Derived.Test.YtbmpmjdlaahekaaGreatWs55
set_option maxRecDepth 100000
set_option maxHeartbeats 8000000
set_option linter.unusedVariables false
set_option linter.unusedSimpArgs false
open Go.Proofs.Tryz
namespace Go.Proofs.YtbmpmjdlaahekaaGreat
section
open Go.RowKit Go.Proofs.Sky
theorem ref17_May_true (o1 o2 o3 d1 d2 d3 fr : Int) (w : World) (hp : plc (o1, o2, o3) = true) :
  Rt prog 7 #[.agg #[o1, o2, o3, d1, d2, d3, fr]] w (.bool (plc (o1, o2, o3) && nrT (d1, d2, d3))) := by
 have KP := zh (fun w => z0v o1 o2 o3 w)
 have KN := zh (fun w => z0b d1 d2 d3 w)
 have hn : nrT (d1, d2, d3) = vnear d1 d2 d3 := rfl
 rw [hn]
 rw [hp] at KP ⊢
 generalize vnear d1 d2 d3 = vn at *
 clear hp hn
 go_enter func7, ntmps7
 go_upto_region 1 with (fail)
 refine wst1 fun W1 ky B1 => ?_
 have cy := bwc7 ky
 refine bws fun p1 => ?_
 go_wp2_with (first
  | (go_at_call 19; (with_reducible refine (z02 KP.out _).mono ?_); rintro e w' ⟨rfl, q, rfl⟩)
  | (go_at_call 20; (with_reducible refine (z02 KN.out _).mono ?_); rintro e w' ⟨rfl, q, rfl⟩))
 go_ret
 exact ⟨rfl, z00 B1 _⟩
theorem ref17_May_false (o1 o2 o3 d1 d2 d3 fr : Int) (w : World) (hp : plc (o1, o2, o3) = false) :
  Rt prog 7 #[.agg #[o1, o2, o3, d1, d2, d3, fr]] w (.bool (plc (o1, o2, o3) && nrT (d1, d2, d3))) := by
 have KP := zh (fun w => z0v o1 o2 o3 w)
 have KN := zh (fun w => z0b d1 d2 d3 w)
 have hn : nrT (d1, d2, d3) = vnear d1 d2 d3 := rfl
 rw [hn]
 rw [hp] at KP ⊢
 generalize vnear d1 d2 d3 = vn at *
 clear hp hn
 go_enter func7, ntmps7
 go_upto_region 1 with (fail)
 refine wst1 fun W1 ky B1 => ?_
 have cy := bwc7 ky
 refine bws fun p1 => ?_
 go_wp2_with (first
  | (go_at_call 19; (with_reducible refine (z02 KP.out _).mono ?_); rintro e w' ⟨rfl, q, rfl⟩)
  | (go_at_call 20; (with_reducible refine (z02 KN.out _).mono ?_); rintro e w' ⟨rfl, q, rfl⟩))
 go_ret
 exact ⟨rfl, z00 B1 _⟩
theorem ref17_May (o1 o2 o3 d1 d2 d3 fr : Int) (w : World) :
  Rt prog 7 #[.agg #[o1, o2, o3, d1, d2, d3, fr]] w (.bool (plc (o1, o2, o3) && nrT (d1, d2, d3))) := by
 cases h : plc (o1, o2, o3) with
 | true => rw [← h]; exact ref17_May_true o1 o2 o3 d1 d2 d3 fr w h
 | false => rw [← h]; exact ref17_May_false o1 o2 o3 d1 d2 d3 fr w h
end
end Go.Proofs.YtbmpmjdlaahekaaGreat
namespace Go.Proofs.YtbmpmjdlaahekaaGreat
section
open Go.RowKit Go.Proofs.Sky
theorem below_drew17b {n : Nat} {w X : World} (h : Below n w X) : Below n w X.drew := h.trans ⟨rfl, rfl, rfl, Nat.le_refl _, fun _ _ => rfl⟩
theorem anytree_no0 (lp : Option Addr) (n lc r : Nat) (o1 o2 o3 d1 d2 d3 fr mm ee : Int) (pr py : Bool) (w : World) (hn : n = 0) :
  Rt prog 4 #[.slice lp n lc, .int .u8 (r : Int), .agg #[o1, o2, o3, d1, d2, d3, fr], .agg #[mm, ee]] w (.bool true) := by
 have KW := zh (fun w => awake17 w)
 have t1 : decide ((8 : Int) < (n : Int)) = false := zf (by omega)
 have t0 : ((n : Int) == 0) = true := by rw [beq_iff_eq]; omega
 clear hn
 go_enter func4, ntmps4
 go_upto_region 1 with (fail)
 refine wst2 fun W1 ky km B1 => ?_
 have lm : w.heap.size < w.heap.size + 1 := by omega
 generalize w.heap.size + 1 = gm at *
 have cy := bwc7 ky
 have cm := bwc2 km
 refine bws fun p1 => ?_
 go_wp2_with (go_at_call 8; (with_reducible refine (z02 KW.out _).mono ?_); rintro e w' ⟨rfl, q, rfl⟩)
 go_ret
 exact ⟨rfl, z00 B1 _⟩
theorem anytree_no1 (lp : Option Addr) (n lc r : Nat) (o1 o2 o3 d1 d2 d3 fr mm ee : Int) (pr py : Bool) (w : World) (hn : 8 < n) :
  Rt prog 4 #[.slice lp n lc, .int .u8 (r : Int), .agg #[o1, o2, o3, d1, d2, d3, fr], .agg #[mm, ee]] w (.bool true) := by
 have KW := zh (fun w => awake17 w)
 have t1 : decide ((8 : Int) < (n : Int)) = true := zt (by omega)
 clear hn
 go_enter func4, ntmps4
 go_upto_region 1 with (fail)
 refine wst2 fun W1 ky km B1 => ?_
 have lm : w.heap.size < w.heap.size + 1 := by omega
 generalize w.heap.size + 1 = gm at *
 have cy := bwc7 ky
 have cm := bwc2 km
 refine bws fun p1 => ?_
 go_wp2_with (go_at_call 8; (with_reducible refine (z02 KW.out _).mono ?_); rintro e w' ⟨rfl, q, rfl⟩)
 go_ret
 exact ⟨rfl, z00 B1 _⟩
theorem anytree_no2 (lp : Option Addr) (n lc r : Nat) (o1 o2 o3 d1 d2 d3 fr mm ee : Int) (pr py : Bool) (w : World) (h0 : 0 < n) (hn : n ≤ 8) (KR : Hid (∀ X, Below w.heap.size w X → Rt prog 6 #[.slice lp n lc] X (.bool false))) (KY : Hid (∀ X, Rt prog 7 #[.agg #[o1, o2, o3, d1, d2, d3, fr]] X (.bool py))) :
  Rt prog 4 #[.slice lp n lc, .int .u8 (r : Int), .agg #[o1, o2, o3, d1, d2, d3, fr], .agg #[mm, ee]] w (.bool true) := by
 have KW := zh (fun w => awake17 w)
 have t1 : decide ((8 : Int) < (n : Int)) = false := zf (by omega)
 have t0 : ((n : Int) == 0) = false := by rw [beq_eq_false_iff_ne]; omega
 clear hn
 go_enter func4, ntmps4
 go_upto_region 1 with (fail)
 refine wst2 fun W1 ky km B1 => ?_
 have lm : w.heap.size < w.heap.size + 1 := by omega
 generalize w.heap.size + 1 = gm at *
 have cy := bwc7 ky
 have cm := bwc2 km
 refine bws fun p1 => ?_
 have KR1 := zh (fun X (hX : Below W1.heap.size W1 X) => KR.out X (B1.trans (hX.mono B1.size)))
 go_wp2_with (first | (go_at_call 6; (with_reducible refine (z0c KR1.out (Below.refl _ _) _).mono ?_); rintro e w' ⟨rfl, q, rfl⟩) | (go_at_call 7; (with_reducible refine (z02 KY.out _).mono ?_); rintro e w' ⟨rfl, q, rfl⟩) | (go_at_call 8; (with_reducible refine (z02 KW.out _).mono ?_); rintro e w' ⟨rfl, q, rfl⟩))
 go_ret
 exact ⟨rfl, z00 B1 _⟩
theorem anytree_no3 (lp : Option Addr) (n lc r : Nat) (o1 o2 o3 d1 d2 d3 fr mm ee : Int) (pr py : Bool) (w : World) (h0 : 0 < n) (hn : n ≤ 8) (KR : Hid (∀ X, Below w.heap.size w X → Rt prog 6 #[.slice lp n lc] X (.bool true))) (KY : Hid (∀ X, Rt prog 7 #[.agg #[o1, o2, o3, d1, d2, d3, fr]] X (.bool false))) :
  Rt prog 4 #[.slice lp n lc, .int .u8 (r : Int), .agg #[o1, o2, o3, d1, d2, d3, fr], .agg #[mm, ee]] w (.bool true) := by
 have KW := zh (fun w => awake17 w)
 have t1 : decide ((8 : Int) < (n : Int)) = false := zf (by omega)
 have t0 : ((n : Int) == 0) = false := by rw [beq_eq_false_iff_ne]; omega
 clear hn
 go_enter func4, ntmps4
 go_upto_region 1 with (fail)
 refine wst2 fun W1 ky km B1 => ?_
 have lm : w.heap.size < w.heap.size + 1 := by omega
 generalize w.heap.size + 1 = gm at *
 have cy := bwc7 ky
 have cm := bwc2 km
 refine bws fun p1 => ?_
 have KR1 := zh (fun X (hX : Below W1.heap.size W1 X) => KR.out X (B1.trans (hX.mono B1.size)))
 go_wp2_with (first | (go_at_call 6; (with_reducible refine (z0c KR1.out (Below.refl _ _) _).mono ?_); rintro e w' ⟨rfl, q, rfl⟩) | (go_at_call 7; (with_reducible refine (z02 KY.out _).mono ?_); rintro e w' ⟨rfl, q, rfl⟩) | (go_at_call 8; (with_reducible refine (z02 KW.out _).mono ?_); rintro e w' ⟨rfl, q, rfl⟩))
 go_ret
 exact ⟨rfl, z00 B1 _⟩
theorem anytree_core (lp : Option Addr) (n lc r : Nat) (o1 o2 o3 d1 d2 d3 fr mm ee : Int) (f1 f2 f3 : Int) (fk bt : Bool) (ns : List Nd) (ord : List Int) (N M : Nat) (w : World) (h0 : 0 < n) (hn : n ≤ 8) (hr : r ≤ 255)
  (KR : Hid (∀ X, Below w.heap.size w X → Rt prog 6 #[.slice lp n lc] X (.bool true))) (KY : Hid (∀ X, Rt prog 7 #[.agg #[o1, o2, o3, d1, d2, d3, fr]] X (.bool true)))
  (KB : Hid (∀ X, Below w.heap.size w X → Calls prog 17 #[.slice lp n lc, .int .i64 (r : Int)] X fun e w' => ∃ ua uc va vc, e = .returned (.agg #[.slice ua N uc, .slice va M vc]) ∧ TreeAt w' ua N uc va M vc ns ord ∧ Below X.heap.size X w'))
  (KO : Hid (∀ ua va uc vc X, TreeAt X ua N uc va M vc ns ord → Calls prog 9 #[.agg #[.slice ua N uc, .slice va M vc]] X fun e w' => ∃ ta tc oa oc, e = .returned (.agg #[.slice ta N tc, .slice oa M oc]) ∧ TreeAt w' ta N tc oa M oc ns ord ∧ Below X.heap.size X w'))
  (KC : Hid (∀ a o c co X, Below w.heap.size w X → TreeAt X a N c o M co ns ord → Rt prog 11 #[.agg #[.slice a N c, .slice o M co], .slice lp n lc, .agg #[o1, o2, o3, d1, d2, d3, fr]] X (.tuple #[.agg #[f1, f2, f3], .bool fk])))
  (KRC : Hid (∀ X, Below w.heap.size w X → Rt prog 12 #[.slice lp n lc, .agg #[o1, o2, o3, d1, d2, d3, fr]] X (.tuple #[.agg #[f1, f2, f3], .bool fk])))
  (KH : Hid (∀ a o c co X, Below w.heap.size w X → TreeAt X a N c o M co ns ord → Rt prog 18 #[.agg #[.slice a N c, .slice o M co], .slice lp n lc] X (.bool true)))
  (KA : Hid (∀ a o c co X, Below w.heap.size w X → TreeAt X a N c o M co ns ord → Rt prog 13 #[.agg #[.slice a N c, .slice o M co], .slice lp n lc, .agg #[o1, o2, o3, d1, d2, d3, fr], .agg #[mm, ee]] X (.bool bt)))
  (KRA : Hid (∀ X, Below w.heap.size w X → Rt prog 14 #[.slice lp n lc, .agg #[o1, o2, o3, d1, d2, d3, fr], .agg #[mm, ee]] X (.bool bt))) :
  Rt prog 4 #[.slice lp n lc, .int .u8 (r : Int), .agg #[o1, o2, o3, d1, d2, d3, fr], .agg #[mm, ee]] w (.bool true) := by
 have KW := zh (fun w => awake17 w)
 have t1 : decide ((8 : Int) < (n : Int)) = false := zf (by omega)
 have t0 : ((n : Int) == 0) = false := by rw [beq_eq_false_iff_ne]; omega
 have tw : wrap64 (r : Int) = (r : Int) := IntWalk.wrap64_in _ (by omega)
 clear hn
 go_enter func4, ntmps4
 go_upto_region 1 with (fail)
 refine wst2 fun W1 ky km B1 => ?_
 have lm : w.heap.size < w.heap.size + 1 := by omega
 generalize w.heap.size + 1 = gm at *
 obtain ⟨cy0, cy1, cy2, cy3, cy4, cy5, cy6⟩ := bwc7 ky
 obtain ⟨cm0, cm1⟩ := bwc2 km
 refine bws fun p1 => ?_
 have KR1 := zh (fun X (hX : Below W1.heap.size W1 X) => KR.out X (B1.trans (hX.mono B1.size)))
 go_upto_region 3 with (first | (go_at_call 6; (with_reducible refine (z0c KR1.out (Below.refl _ _) _).mono ?_); rintro e w' ⟨rfl, q, rfl⟩) | (go_at_call 7; (with_reducible refine (z02 KY.out _).mono ?_); rintro e w' ⟨rfl, q, rfl⟩))
 have BQ := z00 B1 q
 have KB1 := KB.out q.w BQ
 go_upto_region 4 with (go_at_call 17; (with_reducible refine KB1.mono ?_); rintro e w2 ⟨ua, uc, va, vc, rfl, ht2, hb2⟩)
 refine wnm fun W2 hW2 => ?_
 have B22 : Below w.heap.size w w2 := BQ.trans (hb2.mono BQ.size)
 have B2 : Below w.heap.size w W2 := by rw [hW2]; exact B22.alloc B22.size _
 have ky2 := bka hW2 ((ky.below q.h).below hb2)
 have km2 := bka hW2 ((km.below q.h).below hb2)
 have lq : gm < w2.heap.size := ((km.below q.h).below hb2).lt
 have kq := bkn hW2
 have htq : TreeAt W2 ua N uc va M vc ns ord := by rw [hW2]; exact ht2.below (z0s _ (Nat.le_refl _))
 clear hW2 B22 hb2 ht2 KB1 BQ ky km B1 KR1 KR KY KB cy0 cy1 cy2 cy3 cy4 cy5 cy6 cm0 cm1 tw
 generalize w2.heap.size = gq at *
 obtain ⟨cq0, cq1⟩ := bwc2 kq
 refine bws fun p2 => ?_
 have htp := htq.below p2.h
 go_upto_region 5 with (go_at_call 9; (with_reducible refine (KO.out _ _ _ _ _ htp).mono ?_); rintro e w3 ⟨ta, tc, oa, oc, rfl, ht3, hb3⟩)
 refine wnm fun W3 hW3 => ?_
 have BQ := z00 B2 p2
 have B23 : Below w.heap.size w w3 := BQ.trans (hb3.mono BQ.size)
 have B3 : Below w.heap.size w W3 := by rw [hW3]; exact B23.alloc B23.size _
 have ky3 := bka hW3 ((ky2.below p2.h).below hb3)
 have km3 := bka hW3 ((km2.below p2.h).below hb3)
 have kq3 := bka hW3 ((kq.below p2.h).below hb3)
 have l_t : gq < w3.heap.size := ((kq.below p2.h).below hb3).lt
 have kt := bkn hW3
 have ht : TreeAt W3 ta N tc oa M oc ns ord := by rw [hW3]; exact ht3.below (z0s _ (Nat.le_refl _))
 have hq3 : TreeAt W3 ua N uc va M vc ns ord := by rw [hW3]; exact (htp.below hb3).below (z0s _ (Nat.le_refl _))
 clear hW3 B23 hb3 ht3 BQ ky2 km2 kq B2 KO htq htp cq0 cq1
 generalize w3.heap.size = gt at *
 obtain ⟨ct0, ct1⟩ := bwc2 kt
 obtain ⟨cy0, cy1, cy2, cy3, cy4, cy5, cy6⟩ := bwc7 ky3
 refine bws fun p3 => ?_
 have KC3 := zh (fun Y (hY : Below W3.heap.size W3 Y) => KC.out ta oa tc oc Y (B3.trans (hY.mono B3.size)) (ht.below hY))
 go_upto_region 6 with (go_at_call 11; (with_reducible refine (z0c KC3.out (Below.refl _ _) _).mono ?_); rintro e w' ⟨rfl, q, rfl⟩)
 refine wnm fun W4 hW4 => ?_
 have B34 := z00 B3 q
 have B4 : Below w.heap.size w W4 := by rw [hW4]; exact B34.alloc B34.size _
 have ky4 := bka hW4 (ky3.below q.h)
 have km4 := bka hW4 (km3.below q.h)
 have kq4 := bka hW4 (kq3.below q.h)
 have kt4 := bka hW4 (kt.below q.h)
 have lh : gt < q.w.heap.size := (kt.below q.h).lt
 have kh := bkn hW4
 have ht4 : TreeAt W4 ta N tc oa M oc ns ord := by rw [hW4]; exact (ht.below q.h).below (z0s _ (Nat.le_refl _))
 have hq4 : TreeAt W4 ua N uc va M vc ns ord := by rw [hW4]; exact (hq3.below q.h).below (z0s _ (Nat.le_refl _))
 clear hW4 B34 ky3 km3 kq3 kt ht hq3 B3 KC KC3 ct0 ct1 cy0 cy1 cy2 cy3 cy4 cy5 cy6
 generalize q.w.heap.size = gh at *
 obtain ⟨cy0, cy1, cy2, cy3, cy4, cy5, cy6⟩ := bwc7 ky4
 refine bws fun p4 => ?_
 have KRC4 := zh (fun Y (hY : Below W4.heap.size W4 Y) => KRC.out Y (B4.trans (hY.mono B4.size)))
 go_upto_region 7 with (go_at_call 12; (with_reducible refine (z0c KRC4.out (Below.refl _ _) _).mono ?_); rintro e w' ⟨rfl, q, rfl⟩)
 refine wnm fun W5 hW5 => ?_
 have B45 := z00 B4 q
 have B5 : Below w.heap.size w W5 := by rw [hW5]; exact B45.alloc B45.size _
 have ky := bka hW5 (ky4.below q.h)
 have km := bka hW5 (km4.below q.h)
 have kq := bka hW5 (kq4.below q.h)
 have kt := bka hW5 (kt4.below q.h)
 have kh := bka hW5 (kh.below q.h)
 have ki := bkn hW5
 have ht5 : TreeAt W5 ta N tc oa M oc ns ord := by rw [hW5]; exact (ht4.below q.h).below (z0s _ (Nat.le_refl _))
 have hq5 : TreeAt W5 ua N uc va M vc ns ord := by rw [hW5]; exact (hq4.below q.h).below (z0s _ (Nat.le_refl _))
 clear hW5 B45 ky4 km4 kq4 kt4 ht4 hq4 B4 KRC KRC4 cy0 cy1 cy2 cy3 cy4 cy5 cy6
 generalize q.w.heap.size = gi at *
 have KA5 := zh (fun Y (hY : Below W5.heap.size W5 Y) => KA.out ta oa tc oc Y (B5.trans (hY.mono B5.size)) (ht5.below hY))
 have KRA5 := zh (fun Y (hY : Below W5.heap.size W5 Y) => KRA.out Y (B5.trans (hY.mono B5.size)))
 have KH5 := zh (fun Y (hY : Below W5.heap.size W5 Y) => KH.out ua va uc vc Y (B5.trans (hY.mono B5.size)) (hq5.below hY))
 clear KA KRA KH ht5 hq5
 obtain ⟨cy0, cy1, cy2, cy3, cy4, cy5, cy6⟩ := bwc7 ky
 obtain ⟨cm0, cm1⟩ := bwc2 km
 obtain ⟨cq0, cq1⟩ := bwc2 kq
 obtain ⟨ct0, ct1⟩ := bwc2 kt
 obtain ⟨ch0, ch1, ch2⟩ := bwc3 kh
 obtain ⟨ci0, ci1, ci2⟩ := bwc3 ki
 refine bws fun p5 => ?_
 go_region_held3 (fun w' => w'.cell? ⟨w.heap.size, 0, none⟩ = some (.int .i64 o1) ∧ w'.cell? ⟨w.heap.size, 1, none⟩ = some (.int .i64 o2) ∧ w'.cell? ⟨w.heap.size, 2, none⟩ = some (.int .i64 o3) ∧ w'.cell? ⟨w.heap.size, 3, none⟩ = some (.int .i64 d1) ∧ w'.cell? ⟨w.heap.size, 4, none⟩ = some (.int .i64 d2) ∧ w'.cell? ⟨w.heap.size, 5, none⟩ = some (.int .i64 d3) ∧ w'.cell? ⟨w.heap.size, 6, none⟩ = some (.int .i64 fr) ∧ w'.cell? ⟨gm, 0, none⟩ = some (.int .i64 mm) ∧ w'.cell? ⟨gm, 1, none⟩ = some (.int .i64 ee) ∧ w'.cell? ⟨gq, 0, none⟩ = some (.slice ua N uc) ∧ w'.cell? ⟨gq, 1, none⟩ = some (.slice va M vc) ∧ w'.cell? ⟨gt, 0, none⟩ = some (.slice ta N tc) ∧ w'.cell? ⟨gt, 1, none⟩ = some (.slice oa M oc) ∧ w'.cell? ⟨gh, 0, none⟩ = some (.int .i64 f1) ∧ w'.cell? ⟨gh, 1, none⟩ = some (.int .i64 f2) ∧ w'.cell? ⟨gh, 2, none⟩ = some (.int .i64 f3) ∧ w'.cell? ⟨gi, 0, none⟩ = some (.int .i64 f1) ∧ w'.cell? ⟨gi, 1, none⟩ = some (.int .i64 f2) ∧ w'.cell? ⟨gi, 2, none⟩ = some (.int .i64 f3)) (first | with_reducible exact ⟨cy0 _, cy1 _, cy2 _, cy3 _, cy4 _, cy5 _, cy6 _, cm0 _, cm1 _, cq0 _, cq1 _, ct0 _, ct1 _, ch0 _, ch1 _, ch2 _, ci0 _, ci1 _, ci2 _⟩ | fail "KEEP") (first
   | (go_at_call 18; (first | (with_reducible refine (KH5.out _ (BW.h _)).mono ?_) | (with_reducible refine (KH5.out _ (below_drew17b (BW.h _))).mono ?_)); rintro e w1 ⟨rfl, hb⟩; (first | obtain ⟨q, rfl⟩ := z08 hb | obtain ⟨q, rfl⟩ := z04 hb))
   | (go_at_call 13; (first | (with_reducible refine (KA5.out _ (BW.h _)).mono ?_) | (with_reducible refine (KA5.out _ (below_drew17b (BW.h _))).mono ?_)); rintro e w1 ⟨rfl, hb⟩; (first | obtain ⟨q, rfl⟩ := z08 hb | obtain ⟨q, rfl⟩ := z04 hb))
   | (go_at_call 14; (first | (with_reducible refine (KRA5.out _ (BW.h _)).mono ?_) | (with_reducible refine (KRA5.out _ (below_drew17b (BW.h _))).mono ?_)); rintro e w1 ⟨rfl, hb⟩; (first | obtain ⟨q, rfl⟩ := z08 hb | obtain ⟨q, rfl⟩ := z04 hb))
   | (go_at_call 8; (with_reducible refine (KW.out _).mono ?_); rintro e w1 ⟨rfl, hb⟩; (first | obtain ⟨q, rfl⟩ := z08 hb | obtain ⟨q, rfl⟩ := z04 hb))
   | fail)
 go_wp2
 go_ret
 exact ⟨rfl, z00 B5 _⟩
theorem line_tree17 (lp : Option Addr) (n lc r : Nat) (P : Nat → Pr) (X : World) (hs : Prims X (.slice lp n lc) n P) (h0 : 0 < n) (h8 : n ≤ 8) (hr : r ≤ 255) (hP : pAll P n = true) :
  Calls prog 17 #[.slice lp n lc, .int .i64 (r : Int)] X fun e w' => ∃ ua uc va vc, e = .returned (.agg #[.slice ua (lnUp P (lnOrd n r) n n).length uc, .slice va (lnOrd n r).length vc]) ∧ TreeAt w' ua (lnUp P (lnOrd n r) n n).length uc va (lnOrd n r).length vc (lnUp P (lnOrd n r) n n) (lnOrd n r) ∧ Below X.heap.size X w' := by
 refine (law17_line lp n lc r P X hs h0 h8 hr hP).mono ?_
 rintro e w' ⟨u, v, rfl, hu, hv, hb⟩
 obtain ⟨ua, uc, rfl⟩ := z0d hu
 have hl := lnAll_len (P := P) (ord := lnOrd n r) h0
 obtain ⟨va, vc, rfl, hc, hi⟩ := ordrow_slice hv (by
  intro x hx
  unfold lnOrd at hx
  obtain ⟨k, hk, rfl⟩ := List.mem_map.1 hx
  have := Nat.mod_lt (k + r) h0
  unfold I64; omega)
 exact ⟨ua, uc, va, vc, rfl, ⟨rnodrow_nodes17 hu (by omega), hi, rfl, rfl, hc⟩, hb⟩
theorem law_WalkAnyTree (lp : Option Addr) (n lc r : Nat) (o1 o2 o3 d1 d2 d3 fr mm ee : Int) (P : Nat → Pr) (w : World) (hs : Prims w (.slice lp n lc) n P) (hr : r ≤ 255) (io : I3 (o1, o2, o3)) (id : I3 (d1, d2, d3)) (hf : I64 fr) (hm : I64 mm) (he : I64 ee) :
  Rt prog 4 #[.slice lp n lc, .int .u8 (r : Int), .agg #[o1, o2, o3, d1, d2, d3, fr], .agg #[mm, ee]] w (.bool true) := by
 by_cases h0 : n = 0
 · exact anytree_no0 lp n lc r o1 o2 o3 d1 d2 d3 fr mm ee true true w h0
 by_cases h1 : 8 < n
 · exact anytree_no1 lp n lc r o1 o2 o3 d1 d2 d3 fr mm ee true true w h1
 have hl : ∀ {X}, Below w.heap.size w X → Prims X (.slice lp n lc) n P := fun hX => hs.below hX (Nat.le_refl _)
 cases hp : pAll P n with
 | false => exact anytree_no2 lp n lc r o1 o2 o3 d1 d2 d3 fr mm ee true (plc (o1, o2, o3) && nrT (d1, d2, d3)) w (by omega) (by omega) (zh fun X hX => by rw [← hp]; exact z17 _ n P X (hl hX) (by omega)) (zh fun X => ref17_May o1 o2 o3 d1 d2 d3 fr X)
 | true =>
  cases hy : (plc (o1, o2, o3) && nrT (d1, d2, d3)) with
  | false => exact anytree_no3 lp n lc r o1 o2 o3 d1 d2 d3 fr mm ee true true w (by omega) (by omega) (zh fun X hX => by rw [← hp]; exact z17 _ n P X (hl hX) (by omega)) (zh fun X => by rw [← hy]; exact ref17_May o1 o2 o3 d1 d2 d3 fr X)
  | true =>
   have hw := ln_whole (r := r) (show 0 < n by omega) (show n ≤ 8 by omega) hp
   have l1 := lnAll_len (P := P) (ord := lnOrd n r) (show 0 < n by omega)
   have l2 := z15 n r
   exact anytree_core lp n lc r o1 o2 o3 d1 d2 d3 fr mm ee _ _ _ (hClosest P n (o1, o2, o3) (d1, d2, d3) fr).2 (hAny P n (o1, o2, o3) (d1, d2, d3) fr mm ee) (lnUp P (lnOrd n r) n n) (lnOrd n r) _ _ w (by omega) (by omega) hr
    (zh fun X hX => by rw [← hp]; exact z17 _ n P X (hl hX) (by omega)) (zh fun X => by rw [← hy]; exact ref17_May o1 o2 o3 d1 d2 d3 fr X)
    (zh fun X hX => line_tree17 lp n lc r P X (hl hX) (by omega) (by omega) hr hp)
    (zh fun ua va uc vc X h => of_at17 ua va uc vc _ _ _ _ X h (by omega) (by omega))
    (zh fun a o c co X hX h => closest_at17 a o lp _ c _ co n lc _ _ P o1 o2 o3 d1 d2 d3 fr X h hw (by omega) io id hf (hl hX) (by omega))
    (zh fun X hX => ref14_Closest lp n lc P o1 o2 o3 d1 d2 d3 fr X (hl hX) io id hf (by omega))
    (zh fun a o c co X hX h => by
     have hb := h.hord
     have hk := ref16_Whole _ _ o (lnOrd n r) co lp n lc P X h.hnod h.hord (hl hX) h.hc (by omega) (by omega) (by omega)
     rw [hw] at hk; exact hk)
    (zh fun a o c co X hX h => any_at17 a o lp _ c _ co n lc _ _ P o1 o2 o3 d1 d2 d3 fr mm ee X h hw (by omega) io id hf (hl hX) (by omega) hm he)
    (zh fun X hX => ref14_Any lp n lc P o1 o2 o3 d1 d2 d3 fr X (hl hX) io id hf mm ee hm he (by omega))
theorem u8_of_wf17 {a : Int} (h : (Lit.int .u8 a).wf = true) : 0 ≤ a ∧ a ≤ 255 := by
  simp [Lit.wf, IntKind.min, IntKind.max, IntKind.signed, IntKind.bits] at h
  omega
theorem law_WalkAnyTreeI (lp : Option Addr) (n lc : Nat) (r o1 o2 o3 d1 d2 d3 fr mm ee : Int) (P : Nat → Pr) (w : World) (hs : Prims w (.slice lp n lc) n P) (hr : (Lit.int .u8 r).wf = true) (io : I3 (o1, o2, o3)) (id : I3 (d1, d2, d3)) (hf : I64 fr) (hm : I64 mm) (he : I64 ee) :
    Calls Tryz.prog 4 #[.slice lp n lc, .int .u8 r, .agg #[.int .i64 o1, .int .i64 o2, .int .i64 o3, .int .i64 d1, .int .i64 d2, .int .i64 d3, .int .i64 fr], .agg #[.int .i64 mm, .int .i64 ee]] w fun e w' => e = .returned (.bool true) ∧ Below w.heap.size w w' := by
  obtain ⟨h1, h2⟩ := u8_of_wf17 hr
  obtain ⟨k, rfl⟩ := Int.eq_ofNat_of_zero_le h1
  exact law_WalkAnyTree lp n lc k o1 o2 o3 d1 d2 d3 fr mm ee P w hs (by omega) io id hf hm he
end
end Go.Proofs.YtbmpmjdlaahekaaGreat
