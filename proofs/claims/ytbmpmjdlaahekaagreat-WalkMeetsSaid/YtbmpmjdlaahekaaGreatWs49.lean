/- The contract of the document's own walk.Met. The walk of the statement -/
import Derived.Test.YtbmpmjdlaahekaaGreatWs51
import Derived.Test.YtbmpmjdlaahekaaGreatWs52
import Derived.Test.YtbmpmjdlaahekaaGreatWs43
import Derived.Test.YtbmpmjdlaahekaaGreatWs48
set_option maxRecDepth 100000
set_option maxHeartbeats 8000000
set_option linter.unusedVariables false
set_option linter.unusedSimpArgs false
open Go.Proofs.Tryz
namespace Go.Proofs.YtbmpmjdlaahekaaGreat
section
open Go.RowKit Go.Proofs.Sky
theorem ref17_Met (a ov : Option Addr) (N cap m co : Nat) (ns : List Nd) (o1 o2 o3 d1 d2 d3 fr : Int) (w : World) (hNl : N = ns.length) (hN : Nodes w (.slice a N cap) ns) (hns : N ≤ 1048576) :
  Rt prog 16 #[.agg #[.slice a N cap, .slice ov m co], .agg #[o1, o2, o3, d1, d2, d3, fr]] w (.int .i64 (bMet ns (o1, o2, o3) (d1, d2, d3) N)) := by
 have HNL := zh hNl
 have HN0 := zh hN
 clear hNl hN
 go_enter func16, ntmps16
 go_upto_region 1 with (fail)
 refine wst2 fun W1 kt ky B1 => ?_
 have ly : w.heap.size < w.heap.size + 1 := by omega
 generalize w.heap.size + 1 = gy at *
 have ct := bwc2 kt
 have cy := bwc7 ky
 refine bws fun p1 => ?_
 go_wp2
 go_loopw [5, 6] (fun c i wr => ∃ (k : Nat) (q : BW W1), k ≤ N ∧ c = .int .i64 (bMet ns (o1, o2, o3) (d1, d2, d3) k) ∧ i = .int .i64 (k : Int) ∧ wr = q.w) (fun _ i _ => N - (intOf i).toNat)
 case atStart => exact ⟨0, p1, Nat.zero_le _, rfl, rfl, rfl⟩
 case round =>
  obtain ⟨k, p2, hk, rfl, rfl, rfl⟩ := hrel
  have hbm := bMet_in ns (o1, o2, o3) (d1, d2, d3) k
  have HBM := zh (bMet_succ ns (o1, o2, o3) (d1, d2, d3) k)
  obtain ⟨cn, hcn⟩ := nmd (bMet ns (o1, o2, o3) (d1, d2, d3) k)
  rw [← hcn] at hbm HBM ⊢
  have HCN := zh hcn
  clear hcn
  by_cases hlt : k < N
  · have hpn : k < ns.length := by rw [← HNL.out]; exact hlt
    obtain ⟨an, capn, ean, hmx, hcell⟩ := HN0.out
    rw [← HNL.out] at ean
    cases ean
    obtain ⟨bb, off, rfl, hbb, hc⟩ := hcell.resolve_left (by rw [← HNL.out]; omega)
    have hx := hc k hpn
    have x0 := hx 0 (by omega)
    have x1 := hx 1 (by omega)
    have x2 := hx 2 (by omega)
    have x3 := hx 3 (by omega)
    have x4 := hx 4 (by omega)
    have x5 := hx 5 (by omega)
    obtain ⟨nd, hnd⟩ := nmd (ns[k])
    have HB2 : Hid (bMet ns (o1, o2, o3) (d1, d2, d3) (k + 1) = cn + (if bHit nd.1 (o1, o2, o3) (d1, d2, d3) 0 0 = true then 1 else 0)) := zh (by rw [HBM.out, z0g hpn, hnd])
    rw [← hnd] at x0 x1 x2 x3 x4 x5
    clear hnd hx hc hcell HBM
    obtain ⟨⟨⟨n1, n2, n3⟩, n4, n5, n6⟩, fi, cc, ri⟩ := nd
    dsimp only at HB2
    have cx0 : ∀ p : BW W1, p.w.cell? ⟨bb, off + k * 9, none⟩ = some (.int .i64 n1) := bwB B1 x0 hbb
    have cx1 : ∀ p : BW W1, p.w.cell? ⟨bb, off + k * 9 + 1, none⟩ = some (.int .i64 n2) := bwB B1 x1 hbb
    have cx2 : ∀ p : BW W1, p.w.cell? ⟨bb, off + k * 9 + 2, none⟩ = some (.int .i64 n3) := bwB B1 x2 hbb
    have cx3 : ∀ p : BW W1, p.w.cell? ⟨bb, off + k * 9 + 3, none⟩ = some (.int .i64 n4) := bwB B1 x3 hbb
    have cx4 : ∀ p : BW W1, p.w.cell? ⟨bb, off + k * 9 + 4, none⟩ = some (.int .i64 n5) := bwB B1 x4 hbb
    have cx5 : ∀ p : BW W1, p.w.cell? ⟨bb, off + k * 9 + 5, none⟩ = some (.int .i64 n6) := bwB B1 x5 hbb
    have KB := zh (fun w => ref10_Hit n1 n2 n3 n4 n5 n6 o1 o2 o3 d1 d2 d3 fr 0 0 w (by unfold I64; omega) (by unfold I64; omega))
    obtain ⟨bt, hbt⟩ := nmd (bHit ((n1, n2, n3), n4, n5, n6) (o1, o2, o3) (d1, d2, d3) 0 0)
    rw [← hbt] at KB HB2
    clear hbt x0 x1 x2 x3 x4 x5
    go_upto_region 5 with (fail)
    refine z03 (by kernel_rfl) (by kernel_rfl) ?_
    repeat (go_big_quiet_step (first
     | (go_at_call 37; (with_reducible exact z02 KB.out _))
     | fail))
    refine wpQuiet_nil ?_
    intro _ hw'
    obtain ⟨q, rfl⟩ := hw'
    cases bt with
    | true =>
     go_wp2
     go_roundw
     case rel => exact ⟨k + 1, q, by omega, by rw [HB2.out]; go_num, by go_num, rfl⟩
     case measure => simp [intOf]; omega
    | false =>
     go_wp2
     go_roundw
     case rel => exact ⟨k + 1, q, by omega, by rw [HB2.out]; simp, by go_num, rfl⟩
     case measure => simp [intOf]; omega
  · obtain rfl : k = N := by omega
    go_wp2
    go_ret
    exact ⟨by rw [← HCN.out]; rfl, z00 B1 _⟩
end
section
open Go.RowKit Go.Proofs.Sky
theorem below_drew17 {n : Nat} {w X : World} (h : Below n w X) : Below n w X.drew := h.trans ⟨rfl, rfl, rfl, Nat.le_refl _, fun _ _ => rfl⟩
theorem meets_no1 (lp : Option Addr) (n lc : Nat) (o1 o2 o3 d1 d2 d3 fr mm ee : Int) (pr py : Bool) (w : World) (hn : 24 < n) :
  Rt prog 3 #[.slice lp n lc, .agg #[o1, o2, o3, d1, d2, d3, fr], .agg #[mm, ee]] w (.bool true) := by
 have KW := zh (fun w => awake17 w)
 have t1 : decide ((24 : Int) < (n : Int)) = true := zt (by omega)
 clear hn
 go_enter func3, ntmps3
 go_upto_region 1 with (fail)
 refine wst2 fun W1 ky km B1 => ?_
 have lm : w.heap.size < w.heap.size + 1 := by omega
 generalize w.heap.size + 1 = gm at *
 have cy := bwc7 ky
 have cm := bwc2 km
 refine bws fun p1 => ?_
 go_wp2_with (go_at_call 8; (with_reducible refine (z02 KW.out _).mono ?_); rintro e w' ⟨rfl, q, rfl⟩)
 go_ret
 exact ⟨rfl, z00 B1 _⟩
theorem meets_no2 (lp : Option Addr) (n lc : Nat) (o1 o2 o3 d1 d2 d3 fr mm ee : Int) (pr py : Bool) (w : World) (hn : n ≤ 24) (KR : Hid (∀ X, Below w.heap.size w X → Rt prog 6 #[.slice lp n lc] X (.bool false))) (KY : Hid (∀ X, Rt prog 7 #[.agg #[o1, o2, o3, d1, d2, d3, fr]] X (.bool py))) :
  Rt prog 3 #[.slice lp n lc, .agg #[o1, o2, o3, d1, d2, d3, fr], .agg #[mm, ee]] w (.bool true) := by
 have KW := zh (fun w => awake17 w)
 have t1 : decide ((24 : Int) < (n : Int)) = false := zf (by omega)
 clear hn
 go_enter func3, ntmps3
 go_upto_region 1 with (fail)
 refine wst2 fun W1 ky km B1 => ?_
 have lm : w.heap.size < w.heap.size + 1 := by omega
 generalize w.heap.size + 1 = gm at *
 have cy := bwc7 ky
 have cm := bwc2 km
 refine bws fun p1 => ?_
 have KR1 := zh (fun X (hX : Below W1.heap.size W1 X) => KR.out X (B1.trans (hX.mono B1.size)))
 go_wp2_with (first | (go_at_call 6; (with_reducible refine (z0c KR1.out (Below.refl _ _) _).mono ?_); rintro e w' ⟨rfl, q, rfl⟩) | (go_at_call 7; (with_reducible refine (z02 KY.out _).mono ?_); rintro e w' ⟨rfl, q, rfl⟩) | (go_at_call 8; (with_reducible refine (z02 KW.out _).mono ?_); rintro e w' ⟨rfl, q, rfl⟩))
 go_ret
 exact ⟨rfl, z00 B1 _⟩
theorem meets_no3 (lp : Option Addr) (n lc : Nat) (o1 o2 o3 d1 d2 d3 fr mm ee : Int) (pr py : Bool) (w : World) (hn : n ≤ 24) (KR : Hid (∀ X, Below w.heap.size w X → Rt prog 6 #[.slice lp n lc] X (.bool true))) (KY : Hid (∀ X, Rt prog 7 #[.agg #[o1, o2, o3, d1, d2, d3, fr]] X (.bool false))) :
  Rt prog 3 #[.slice lp n lc, .agg #[o1, o2, o3, d1, d2, d3, fr], .agg #[mm, ee]] w (.bool true) := by
 have KW := zh (fun w => awake17 w)
 have t1 : decide ((24 : Int) < (n : Int)) = false := zf (by omega)
 clear hn
 go_enter func3, ntmps3
 go_upto_region 1 with (fail)
 refine wst2 fun W1 ky km B1 => ?_
 have lm : w.heap.size < w.heap.size + 1 := by omega
 generalize w.heap.size + 1 = gm at *
 have cy := bwc7 ky
 have cm := bwc2 km
 refine bws fun p1 => ?_
 have KR1 := zh (fun X (hX : Below W1.heap.size W1 X) => KR.out X (B1.trans (hX.mono B1.size)))
 go_wp2_with (first | (go_at_call 6; (with_reducible refine (z0c KR1.out (Below.refl _ _) _).mono ?_); rintro e w' ⟨rfl, q, rfl⟩) | (go_at_call 7; (with_reducible refine (z02 KY.out _).mono ?_); rintro e w' ⟨rfl, q, rfl⟩) | (go_at_call 8; (with_reducible refine (z02 KW.out _).mono ?_); rintro e w' ⟨rfl, q, rfl⟩))
 go_ret
 exact ⟨rfl, z00 B1 _⟩
theorem meets_core (lp : Option Addr) (n lc : Nat) (o1 o2 o3 d1 d2 d3 fr mm ee : Int) (f1 f2 f3 : Int) (fk bt : Bool) (mt : Int) (ns : List Nd) (ord : List Int) (N M : Nat) (w : World) (hn : n ≤ 24)
  (KR : Hid (∀ X, Below w.heap.size w X → Rt prog 6 #[.slice lp n lc] X (.bool true))) (KY : Hid (∀ X, Rt prog 7 #[.agg #[o1, o2, o3, d1, d2, d3, fr]] X (.bool true)))
  (KB : Hid (∀ X, Below w.heap.size w X → Calls prog 10 #[.slice lp n lc] X fun e w' => ∃ ua uc va vc, e = .returned (.agg #[.slice ua N uc, .slice va M vc]) ∧ TreeAt w' ua N uc va M vc ns ord ∧ Below X.heap.size X w'))
  (KO : Hid (∀ ua va uc vc X, TreeAt X ua N uc va M vc ns ord → Calls prog 9 #[.agg #[.slice ua N uc, .slice va M vc]] X fun e w' => ∃ ta tc oa oc, e = .returned (.agg #[.slice ta N tc, .slice oa M oc]) ∧ TreeAt w' ta N tc oa M oc ns ord ∧ Below X.heap.size X w'))
  (KC : Hid (∀ a o c co X, Below w.heap.size w X → TreeAt X a N c o M co ns ord → Rt prog 11 #[.agg #[.slice a N c, .slice o M co], .slice lp n lc, .agg #[o1, o2, o3, d1, d2, d3, fr]] X (.tuple #[.agg #[f1, f2, f3], .bool fk])))
  (KRC : Hid (∀ X, Below w.heap.size w X → Rt prog 12 #[.slice lp n lc, .agg #[o1, o2, o3, d1, d2, d3, fr]] X (.tuple #[.agg #[f1, f2, f3], .bool fk])))
  (KA : Hid (∀ a o c co X, Below w.heap.size w X → TreeAt X a N c o M co ns ord → Rt prog 13 #[.agg #[.slice a N c, .slice o M co], .slice lp n lc, .agg #[o1, o2, o3, d1, d2, d3, fr], .agg #[mm, ee]] X (.bool bt)))
  (KRA : Hid (∀ X, Below w.heap.size w X → Rt prog 14 #[.slice lp n lc, .agg #[o1, o2, o3, d1, d2, d3, fr], .agg #[mm, ee]] X (.bool bt)))
  (KM : Hid (∀ a o c co X, TreeAt X a N c o M co ns ord → Rt prog 15 #[.agg #[.slice a N c, .slice o M co], .agg #[o1, o2, o3, d1, d2, d3, fr]] X (.int .i64 mt)))
  (KRM : Hid (∀ a o c co X, TreeAt X a N c o M co ns ord → Rt prog 16 #[.agg #[.slice a N c, .slice o M co], .agg #[o1, o2, o3, d1, d2, d3, fr]] X (.int .i64 mt))) :
  Rt prog 3 #[.slice lp n lc, .agg #[o1, o2, o3, d1, d2, d3, fr], .agg #[mm, ee]] w (.bool true) := by
 have KW := zh (fun w => awake17 w)
 have t1 : decide ((24 : Int) < (n : Int)) = false := zf (by omega)
 clear hn
 go_enter func3, ntmps3
 go_upto_region 1 with (fail)
 refine wst2 fun W1 ky km B1 => ?_
 have lm : w.heap.size < w.heap.size + 1 := by omega
 generalize w.heap.size + 1 = gm at *
 obtain ⟨cy0, cy1, cy2, cy3, cy4, cy5, cy6⟩ := bwc7 ky
 obtain ⟨cm0, cm1⟩ := bwc2 km
 refine bws fun p1 => ?_
 have KR1 := zh (fun X (hX : Below W1.heap.size W1 X) => KR.out X (B1.trans (hX.mono B1.size)))
 go_upto_region 3 with (first | (go_at_call 6; (with_reducible refine (z0c KR1.out (Below.refl _ _) _).mono ?_); rintro e w' ⟨rfl, q, rfl⟩) | (go_at_call 7; (with_reducible refine (z02 KY.out _).mono ?_); rintro e w' ⟨rfl, q, rfl⟩))
 have BQ := z00 B1 q
 have KB1 := KB.out q.w BQ
 go_upto_region 4 with (first
  | (go_at_call 10; (with_reducible refine KB1.mono ?_); rintro e w2 ⟨ua, uc, va, vc, rfl, ht2, hb2⟩)
  | (go_at_call 9; (with_reducible refine (KO.out _ _ _ _ _ ht2).mono ?_); rintro e w3 ⟨ta, tc, oa, oc, rfl, ht3, hb3⟩))
 refine wnm fun W3 hW3 => ?_
 have B23 : Below w.heap.size w w3 := (BQ.trans (hb2.mono BQ.size)).trans (hb3.mono (Nat.le_trans BQ.size hb2.size))
 have B3 : Below w.heap.size w W3 := by rw [hW3]; exact B23.alloc B23.size _
 have ky3 := bka hW3 (((ky.below q.h).below hb2).below hb3)
 have km3 := bka hW3 (((km.below q.h).below hb2).below hb3)
 have l_t : gm < w3.heap.size := (((km.below q.h).below hb2).below hb3).lt
 have kt := bkn hW3
 have ht : TreeAt W3 ta N tc oa M oc ns ord := by rw [hW3]; exact ht3.below (z0s _ (Nat.le_refl _))
 clear hW3 B23 hb2 hb3 ht2 ht3 KB1 BQ ky km B1 KR1 KR KY KO cy0 cy1 cy2 cy3 cy4 cy5 cy6 cm0 cm1
 generalize w3.heap.size = gt at *
 obtain ⟨ct0, ct1⟩ := bwc2 kt
 obtain ⟨cy0, cy1, cy2, cy3, cy4, cy5, cy6⟩ := bwc7 ky3
 refine bws fun p3 => ?_
 have KC3 := zh (fun Y (hY : Below W3.heap.size W3 Y) => KC.out ta oa tc oc Y (B3.trans (hY.mono B3.size)) (ht.below hY))
 have KRC3 := zh (fun Y (hY : Below W3.heap.size W3 Y) => KRC.out Y (B3.trans (hY.mono B3.size)))
 go_upto_region 5 with (go_at_call 11; (with_reducible refine (z0c KC3.out (Below.refl _ _) _).mono ?_); rintro e w' ⟨rfl, q, rfl⟩)
 refine wnm fun W4 hW4 => ?_
 have B34 := z00 B3 q
 have B4 : Below w.heap.size w W4 := by rw [hW4]; exact B34.alloc B34.size _
 have ky4 := bka hW4 (ky3.below q.h)
 have km4 := bka hW4 (km3.below q.h)
 have kt4 := bka hW4 (kt.below q.h)
 have lh : gt < q.w.heap.size := (kt.below q.h).lt
 have kh := bkn hW4
 have ht4 : TreeAt W4 ta N tc oa M oc ns ord := by rw [hW4]; exact (ht.below q.h).below (z0s _ (Nat.le_refl _))
 clear hW4 B34 ky3 km3 kt ht B3 KC KC3 KRC3 ct0 ct1 cy0 cy1 cy2 cy3 cy4 cy5 cy6
 generalize q.w.heap.size = gh at *
 obtain ⟨cy0, cy1, cy2, cy3, cy4, cy5, cy6⟩ := bwc7 ky4
 refine bws fun p4 => ?_
 have KRC4 := zh (fun Y (hY : Below W4.heap.size W4 Y) => KRC.out Y (B4.trans (hY.mono B4.size)))
 go_upto_region 6 with (go_at_call 12; (with_reducible refine (z0c KRC4.out (Below.refl _ _) _).mono ?_); rintro e w' ⟨rfl, q, rfl⟩)
 refine wnm fun W5 hW5 => ?_
 have B45 := z00 B4 q
 have B5 : Below w.heap.size w W5 := by rw [hW5]; exact B45.alloc B45.size _
 have ky := bka hW5 (ky4.below q.h)
 have km := bka hW5 (km4.below q.h)
 have kt := bka hW5 (kt4.below q.h)
 have kh := bka hW5 (kh.below q.h)
 have ki := bkn hW5
 have ht5 : TreeAt W5 ta N tc oa M oc ns ord := by rw [hW5]; exact (ht4.below q.h).below (z0s _ (Nat.le_refl _))
 clear hW5 B45 ky4 km4 kt4 ht4 B4 KRC KRC4 cy0 cy1 cy2 cy3 cy4 cy5 cy6
 generalize q.w.heap.size = gi at *
 have KA5 := zh (fun Y (hY : Below W5.heap.size W5 Y) => KA.out ta oa tc oc Y (B5.trans (hY.mono B5.size)) (ht5.below hY))
 have KRA5 := zh (fun Y (hY : Below W5.heap.size W5 Y) => KRA.out Y (B5.trans (hY.mono B5.size)))
 have KM5 := zh (fun Y (hY : Below W5.heap.size W5 Y) => KM.out ta oa tc oc Y (ht5.below hY))
 have KB5 := zh (fun Y (hY : Below W5.heap.size W5 Y) => KB.out Y (B5.trans (hY.mono B5.size)))
 clear KA KRA KM KB ht5
 obtain ⟨cy0, cy1, cy2, cy3, cy4, cy5, cy6⟩ := bwc7 ky
 obtain ⟨cm0, cm1⟩ := bwc2 km
 obtain ⟨ct0, ct1⟩ := bwc2 kt
 obtain ⟨ch0, ch1, ch2⟩ := bwc3 kh
 obtain ⟨ci0, ci1, ci2⟩ := bwc3 ki
 refine bws fun p5 => ?_
 go_region_held3 (fun w' => w'.cell? ⟨w.heap.size, 0, none⟩ = some (.int .i64 o1) ∧ w'.cell? ⟨w.heap.size, 1, none⟩ = some (.int .i64 o2) ∧ w'.cell? ⟨w.heap.size, 2, none⟩ = some (.int .i64 o3) ∧ w'.cell? ⟨w.heap.size, 3, none⟩ = some (.int .i64 d1) ∧ w'.cell? ⟨w.heap.size, 4, none⟩ = some (.int .i64 d2) ∧ w'.cell? ⟨w.heap.size, 5, none⟩ = some (.int .i64 d3) ∧ w'.cell? ⟨w.heap.size, 6, none⟩ = some (.int .i64 fr) ∧ w'.cell? ⟨gm, 0, none⟩ = some (.int .i64 mm) ∧ w'.cell? ⟨gm, 1, none⟩ = some (.int .i64 ee) ∧ w'.cell? ⟨gt, 0, none⟩ = some (.slice ta N tc) ∧ w'.cell? ⟨gt, 1, none⟩ = some (.slice oa M oc) ∧ w'.cell? ⟨gh, 0, none⟩ = some (.int .i64 f1) ∧ w'.cell? ⟨gh, 1, none⟩ = some (.int .i64 f2) ∧ w'.cell? ⟨gh, 2, none⟩ = some (.int .i64 f3) ∧ w'.cell? ⟨gi, 0, none⟩ = some (.int .i64 f1) ∧ w'.cell? ⟨gi, 1, none⟩ = some (.int .i64 f2) ∧ w'.cell? ⟨gi, 2, none⟩ = some (.int .i64 f3)) (first | with_reducible exact ⟨cy0 _, cy1 _, cy2 _, cy3 _, cy4 _, cy5 _, cy6 _, cm0 _, cm1 _, ct0 _, ct1 _, ch0 _, ch1 _, ch2 _, ci0 _, ci1 _, ci2 _⟩ | fail "KEEP") (first
   | (go_at_call 13; (first | (with_reducible refine (KA5.out _ (BW.h _)).mono ?_) | (with_reducible refine (KA5.out _ (below_drew17 (BW.h _))).mono ?_)); rintro e w1 ⟨rfl, hb⟩; (first | obtain ⟨q, rfl⟩ := z08 hb | obtain ⟨q, rfl⟩ := z04 hb))
   | (go_at_call 14; (first | (with_reducible refine (KRA5.out _ (BW.h _)).mono ?_) | (with_reducible refine (KRA5.out _ (below_drew17 (BW.h _))).mono ?_)); rintro e w1 ⟨rfl, hb⟩; (first | obtain ⟨q, rfl⟩ := z08 hb | obtain ⟨q, rfl⟩ := z04 hb))
   | (go_at_call 15; (first | (with_reducible refine (KM5.out _ (BW.h _)).mono ?_) | (with_reducible refine (KM5.out _ (below_drew17 (BW.h _))).mono ?_)); rintro e w1 ⟨rfl, hb⟩; (first | obtain ⟨q, rfl⟩ := z08 hb | obtain ⟨q, rfl⟩ := z04 hb))
   | (go_at_call 10; (with_reducible refine (KB5.out _ (BW.h _)).mono ?_); rintro e w1 ⟨ua, uc, va, vc, rfl, ht6, hb⟩; obtain ⟨q, rfl⟩ := z04 hb)
   | (go_at_call 16; (with_reducible refine (KRM.out _ _ _ _ _ ht6).mono ?_); rintro e w1 ⟨rfl, hb⟩; obtain ⟨q, rfl⟩ := z04 hb)
   | (go_at_call 8; (with_reducible refine (KW.out _).mono ?_); rintro e w1 ⟨rfl, hb⟩; obtain ⟨q, rfl⟩ := z04 hb)
   | fail)
 go_wp2
 go_ret
 exact ⟨rfl, z00 B5 _⟩
theorem law_WalkMeets (lp : Option Addr) (n lc : Nat) (o1 o2 o3 d1 d2 d3 fr mm ee : Int) (P : Nat → Pr) (w : World) (hs : Prims w (.slice lp n lc) n P) (io : I3 (o1, o2, o3)) (id : I3 (d1, d2, d3)) (hf : I64 fr) (hm : I64 mm) (he : I64 ee) :
  Rt prog 3 #[.slice lp n lc, .agg #[o1, o2, o3, d1, d2, d3, fr], .agg #[mm, ee]] w (.bool true) := by
 by_cases h1 : 24 < n
 · exact meets_no1 lp n lc o1 o2 o3 d1 d2 d3 fr mm ee true true w h1
 have hl : ∀ {X}, Below w.heap.size w X → Prims X (.slice lp n lc) n P := fun hX => hs.below hX (Nat.le_refl _)
 cases hp : pAll P n with
 | false => exact meets_no2 lp n lc o1 o2 o3 d1 d2 d3 fr mm ee true (plc (o1, o2, o3) && nrT (d1, d2, d3)) w (by omega) (zh fun X hX => by rw [← hp]; exact z17 _ n P X (hl hX) (by omega)) (zh fun X => ref17_May o1 o2 o3 d1 d2 d3 fr X)
 | true =>
  cases hy : (plc (o1, o2, o3) && nrT (d1, d2, d3)) with
  | false => exact meets_no3 lp n lc o1 o2 o3 d1 d2 d3 fr mm ee true true w (by omega) (zh fun X hX => by rw [← hp]; exact z17 _ n P X (hl hX) (by omega)) (zh fun X => by rw [← hy]; exact ref17_May o1 o2 o3 d1 d2 d3 fr X)
  | true =>
   have hw := build_mwh hp (show n ≤ 1024 by omega)
   obtain ⟨l1, l2, l3⟩ := build_lens P n
   exact meets_core lp n lc o1 o2 o3 d1 d2 d3 fr mm ee _ _ _ (hClosest P n (o1, o2, o3) (d1, d2, d3) fr).2 (hAny P n (o1, o2, o3) (d1, d2, d3) fr mm ee) (bMet (mBuild P n).1 (o1, o2, o3) (d1, d2, d3) (mBuild P n).1.length) (mBuild P n).1 (bOrd P n) _ _ w (by omega)
    (zh fun X hX => by rw [← hp]; exact z17 _ n P X (hl hX) (by omega)) (zh fun X => by rw [← hy]; exact ref17_May o1 o2 o3 d1 d2 d3 fr X)
    (zh fun X hX => ref_built17 lp n lc P _ _ _ _ X (hl hX) (by omega) rfl rfl rfl rfl)
    (zh fun ua va uc vc X h => of_at17 ua va uc vc _ _ _ _ X h (by omega) (by omega))
    (zh fun a o c co X hX h => closest_at17 a o lp _ c _ co n lc _ _ P o1 o2 o3 d1 d2 d3 fr X h hw (by omega) io id hf (hl hX) (by omega))
    (zh fun X hX => ref14_Closest lp n lc P o1 o2 o3 d1 d2 d3 fr X (hl hX) io id hf (by omega))
    (zh fun a o c co X hX h => any_at17 a o lp _ c _ co n lc _ _ P o1 o2 o3 d1 d2 d3 fr mm ee X h hw (by omega) io id hf (hl hX) (by omega) hm he)
    (zh fun X hX => ref14_Any lp n lc P o1 o2 o3 d1 d2 d3 fr X (hl hX) io id hf mm ee hm he (by omega))
    (zh fun a o c co X h => walk_Met a o _ c _ co _ o1 o2 o3 d1 d2 d3 fr X h.hn h.hnod (by omega))
    (zh fun a o c co X h => ref17_Met a o _ c _ co _ o1 o2 o3 d1 d2 d3 fr X h.hn h.hnod (by omega))
end
end Go.Proofs.YtbmpmjdlaahekaaGreat
