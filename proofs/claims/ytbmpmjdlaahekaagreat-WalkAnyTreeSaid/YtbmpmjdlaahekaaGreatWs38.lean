/- Contracts of the document's own answers that layer 16 calls: may all t -/
import Derived.Test.YtbmpmjdlaahekaaGreatWs37
import Derived.Test.YtbmpmjdlaahekaaGreatWs33
set_option maxRecDepth 100000
set_option maxHeartbeats 8000000
set_option linter.unusedVariables false
set_option linter.unusedSimpArgs false
open Go.Proofs.Tryz
namespace Go.Proofs.YtbmpmjdlaahekaaGreat
section
open Go.RowKit Go.Proofs.Sky
theorem pAll_succ (P : Nat → Pr) (n : Nat) : pAll P (n + 1) = (pAll P n && pRight (P n)) := by
 unfold pAll; rw [List.range_succ, List.all_append]; simp
theorem pAll_no {P : Nat → Pr} {n k : Nat} (h : pRight (P k) = false) (hk : k < n) : pAll P n = false := by
 unfold pAll
 rw [Bool.eq_false_iff]
 intro e
 rw [List.all_eq_true] at e
 have := e k (List.mem_range.2 hk)
 rw [h] at this; cases this
theorem z17 (v : Value) (n : Nat) (P : Nat → Pr) (w : World) (hs : Prims w v n P) (hn : n ≤ 1000000) :
  Rt prog 6 #[v] w (.bool (pAll P n)) := by
 obtain ⟨hsl, hI⟩ := hs
 obtain ⟨a, cap, rfl, hm, hS⟩ := hsl
 have HS := zh hS
 have KRH := zh (fun (p : Pr) w => ref13_Right p.k p.a.1 p.a.2.1 p.a.2.2 p.b.1 p.b.2.1 p.b.2.2 p.c.1 p.c.2.1 p.c.2.2 p.r p.m w)
 clear hS hI
 go_enter func6, ntmps6
 have B1 : Below w.heap.size w w := Below.refl _ _
 go_wp2
 go_loopw [3] (fun i wr => ∃ (k : Nat) (q : BW w), k ≤ n ∧ i = .int .i64 k ∧ wr = q.w ∧ pAll P k = true) (fun i _ => n - (intOf i).toNat)
 case atStart => exact ⟨0, BW.start w, by omega, rfl, rfl, rfl⟩
 case round =>
  obtain ⟨k, p3, hk, rfl, rfl, hall⟩ := hrel
  have HALL := zh hall
  clear hall
  by_cases hlt : k < n
  · have KR := zh (fun w => KRH.out (P k) w)
    obtain ⟨b, off, rfl, hb, hcell⟩ := HS.out.resolve_left (by omega)
    have hx := hcell k hlt
    have x0 : w.cell? ⟨b, off + k * 12, none⟩ = some (.int .i64 (P k).k) := hx 0 (by omega)
    have x1 : w.cell? ⟨b, off + k * 12 + 1, none⟩ = some (.int .i64 (P k).a.1) := hx 1 (by omega)
    have x2 : w.cell? ⟨b, off + k * 12 + 2, none⟩ = some (.int .i64 (P k).a.2.1) := hx 2 (by omega)
    have x3 : w.cell? ⟨b, off + k * 12 + 3, none⟩ = some (.int .i64 (P k).a.2.2) := hx 3 (by omega)
    have x4 : w.cell? ⟨b, off + k * 12 + 4, none⟩ = some (.int .i64 (P k).b.1) := hx 4 (by omega)
    have x5 : w.cell? ⟨b, off + k * 12 + 5, none⟩ = some (.int .i64 (P k).b.2.1) := hx 5 (by omega)
    have x6 : w.cell? ⟨b, off + k * 12 + 6, none⟩ = some (.int .i64 (P k).b.2.2) := hx 6 (by omega)
    have x7 : w.cell? ⟨b, off + k * 12 + 7, none⟩ = some (.int .i64 (P k).c.1) := hx 7 (by omega)
    have x8 : w.cell? ⟨b, off + k * 12 + 8, none⟩ = some (.int .i64 (P k).c.2.1) := hx 8 (by omega)
    have x9 : w.cell? ⟨b, off + k * 12 + 9, none⟩ = some (.int .i64 (P k).c.2.2) := hx 9 (by omega)
    have x10 : w.cell? ⟨b, off + k * 12 + 10, none⟩ = some (.int .i64 (P k).r) := hx 10 (by omega)
    have x11 : w.cell? ⟨b, off + k * 12 + 11, none⟩ = some (.int .i64 (P k).m) := hx 11 (by omega)
    clear hx hcell
    change Hid (∀ w, Rt prog 24 #[.agg #[.int .i64 (P k).k, .int .i64 (P k).a.1, .int .i64 (P k).a.2.1, .int .i64 (P k).a.2.2, .int .i64 (P k).b.1, .int .i64 (P k).b.2.1, .int .i64 (P k).b.2.2, .int .i64 (P k).c.1, .int .i64 (P k).c.2.1, .int .i64 (P k).c.2.2, .int .i64 (P k).r, .int .i64 (P k).m]] w (.bool (pRight (P k)))) at KR
    obtain ⟨z, hz⟩ := nmd (pRight (P k))
    rw [← hz] at KR
    clear KRH
    obtain ⟨pk, hpk⟩ := nmd (P k)
    rw [← hpk] at x0 x1 x2 x3 x4 x5 x6 x7 x8 x9 x10 x11 KR hz
    have HPK := zh hpk
    clear hpk
    obtain ⟨kk, ⟨a1, a2, a3⟩, ⟨b1, b2, b3⟩, ⟨c1, c2, c3⟩, r, m⟩ := pk
    dsimp only at x0 x1 x2 x3 x4 x5 x6 x7 x8 x9 x10 x11 KR
    have HZ := zh hz
    clear hz
    have ce0 := bwB B1 x0 hb
    have ce1 := bwB B1 x1 hb
    have ce2 := bwB B1 x2 hb
    have ce3 := bwB B1 x3 hb
    have ce4 := bwB B1 x4 hb
    have ce5 := bwB B1 x5 hb
    have ce6 := bwB B1 x6 hb
    have ce7 := bwB B1 x7 hb
    have ce8 := bwB B1 x8 hb
    have ce9 := bwB B1 x9 hb
    have ce10 := bwB B1 x10 hb
    have ce11 := bwB B1 x11 hb
    cases z with
    | false =>
     go_wp2_with (go_at_call 24; (with_reducible refine (z02 KR.out _).mono ?_); rintro e w' ⟨rfl, q, rfl⟩)
     go_ret
     exact ⟨by rw [pAll_no (k := k) (by rw [← HPK.out]; exact HZ.out.symm) hlt]; rfl, z00 B1 q⟩
    | true =>
     go_wp2_with (go_at_call 24; (with_reducible refine (z02 KR.out _).mono ?_); rintro e w' ⟨rfl, q, rfl⟩)
     go_roundw
     case rel => exact ⟨k + 1, q, by omega, by go_num, rfl, by rw [pAll_succ, HALL.out, ← HPK.out, ← HZ.out]; rfl⟩
     case measure => simp [intOf]; omega
  · obtain rfl : k = n := by omega
    go_wp2
    go_ret
    exact ⟨by rw [HALL.out]; rfl, z00 B1 p3⟩
theorem ref16_all (a : Option Addr) (n cap : Nat) (V : Nat → Bx) (w : World) (hs : Boxes w (.slice a n cap) n V) (hm : 0 < n) (hn : n ≤ 1048576) :
  Rt prog 39 #[.slice a n cap] w (.agg #[(bAll V n).1.1, (bAll V n).1.2.1, (bAll V n).1.2.2, (bAll V n).2.1, (bAll V n).2.2.1, (bAll V n).2.2.2]) := by
 have HS := zh hs
 have HAS := zh (fun k => bAll_succ V k)
 have HA0 := zh (show bAll V 0 = V 0 from rfl)
 obtain ⟨bb, off, rfl, hbb, x0, x1, x2, x3, x4, x5⟩ := boxes_at HS.out hm
 obtain ⟨vk, hvk⟩ := nmd (V 0)
 rw [← hvk] at x0 x1 x2 x3 x4 x5 HA0
 clear hvk hs
 obtain ⟨⟨v1, v2, v3⟩, v4, v5, v6⟩ := vk
 dsimp only at x0 x1 x2 x3 x4 x5
 rw [Nat.zero_mul, Nat.add_zero] at x0 x1 x2 x3 x4 x5
 go_enter func39, ntmps39
 go_upto_region 2 with (fail)
 refine wst2 fun W1 k_r kb B1 => ?_
 have lb : w.heap.size < w.heap.size + 1 := by omega
 generalize w.heap.size + 1 = gb at *
 clear x0 x1 x2 x3 x4 x5
 go_wp2
 go_loopw [4] (fun i wr => ∃ k : Nat, k ≤ n ∧ i = .int .i64 k ∧ Bk wr w.heap.size 61 #[.int .i64 0, .int .i64 0, .int .i64 0, .int .i64 0, .int .i64 0, .int .i64 0] ∧ Bk wr gb 61 #[(bAll V k).1.1, (bAll V k).1.2.1, (bAll V k).1.2.2, (bAll V k).2.1, (bAll V k).2.2.1, (bAll V k).2.2.2] ∧ Below w.heap.size w wr) (fun i _ => n - (intOf i).toNat)
 case atStart => exact ⟨0, by omega, rfl, k_r, (by rw [HA0.out]; exact kb), B1⟩
 case round =>
  clear kb k_r B1
  obtain ⟨k, hk, rfl, k_r, kb, BO⟩ := hrel
  by_cases hlt : k < n
  · have KJ := zh (fun w => ref10_Join (bAll V k).1.1 (bAll V k).1.2.1 (bAll V k).1.2.2 (bAll V k).2.1 (bAll V k).2.2.1 (bAll V k).2.2.2 (V k).1.1 (V k).1.2.1 (V k).1.2.2 (V k).2.1 (V k).2.2.1 (V k).2.2.2 w)
    change Hid (∀ w, Rt prog 68 #[.agg #[(bAll V k).1.1, (bAll V k).1.2.1, (bAll V k).1.2.2, (bAll V k).2.1, (bAll V k).2.2.1, (bAll V k).2.2.2], .agg #[(V k).1.1, (V k).1.2.1, (V k).1.2.2, (V k).2.1, (V k).2.2.1, (V k).2.2.2]] w (.agg #[(bJoin (bAll V k) (V k)).1.1, (bJoin (bAll V k) (V k)).1.2.1, (bJoin (bAll V k) (V k)).1.2.2, (bJoin (bAll V k) (V k)).2.1, (bJoin (bAll V k) (V k)).2.2.1, (bJoin (bAll V k) (V k)).2.2.2])) at KJ
    have HN := zh (HAS.out k)
    obtain ⟨jn, hjn⟩ := nmd (bJoin (bAll V k) (V k))
    rw [← hjn] at KJ HN
    clear hjn
    obtain ⟨_, _, hsl, hbb2, x0, x1, x2, x3, x4, x5⟩ := boxes_at HS.out hlt
    cases hsl
    obtain ⟨vk, hvk⟩ := nmd (V k)
    rw [← hvk] at x0 x1 x2 x3 x4 x5 KJ
    clear hvk
    obtain ⟨ak, hak⟩ := nmd (bAll V k)
    rw [← hak] at kb KJ
    clear hak
    obtain ⟨⟨v1, v2, v3⟩, v4, v5, v6⟩ := vk
    obtain ⟨⟨a1, a2, a3⟩, a4, a5, a6⟩ := ak
    obtain ⟨⟨r1, r2, r3⟩, r4, r5, r6⟩ := jn
    dsimp only at x0 x1 x2 x3 x4 x5 KJ kb
    have B1 := BO
    have cr := bwc6 k_r
    have cb := bwc6 kb
    have fb := bwf6 kb
    have ce0 : ∀ p : BW wr, p.w.cell? ⟨bb, off + k * 6, none⟩ = some (.int .i64 v1) := bwB B1 x0 hbb
    have ce1 : ∀ p : BW wr, p.w.cell? ⟨bb, off + k * 6 + 1, none⟩ = some (.int .i64 v2) := bwB B1 x1 hbb
    have ce2 : ∀ p : BW wr, p.w.cell? ⟨bb, off + k * 6 + 2, none⟩ = some (.int .i64 v3) := bwB B1 x2 hbb
    have ce3 : ∀ p : BW wr, p.w.cell? ⟨bb, off + k * 6 + 3, none⟩ = some (.int .i64 v4) := bwB B1 x3 hbb
    have ce4 : ∀ p : BW wr, p.w.cell? ⟨bb, off + k * 6 + 4, none⟩ = some (.int .i64 v5) := bwB B1 x4 hbb
    have ce5 : ∀ p : BW wr, p.w.cell? ⟨bb, off + k * 6 + 5, none⟩ = some (.int .i64 v6) := bwB B1 x5 hbb
    refine bws fun p1 => ?_
    go_upto_region 5 with (fail)
    refine z0h 6 (by kernel_rfl) (by kernel_rfl) (by kernel_rfl) ?_
    simp only [List.take_succ_cons, List.take_zero, List.drop_succ_cons, List.drop_zero]
    repeat (go_big_quiet_step ((go_at_call 68; (with_reducible exact z02 KJ.out _))))
    refine wpQuiet_nil ?_
    intro _ hw'
    obtain ⟨q, rfl⟩ := hw'
    go_wp2
    go_roundw
    case rel => exact ⟨k + 1, by omega, by go_num, bko6 (k_r.below (BW.h _)) (by omega), (by rw [HN.out]; exact bkp6 (kb.below (BW.h _)) _ _ _ _ _ _), blp6 (z00 B1 _) (by omega)⟩
    case measure => simp [intOf]; omega
  · obtain rfl : k = n := by omega
    have B1 := BO
    have cb := bwc6 kb
    have cr := bwc6 k_r
    have fr := bwf6 k_r
    refine bws fun p1 => ?_
    go_wp2
    have kr := bkp6 (k_r.below p1.h) (.int .i64 (bAll V k).1.1) (.int .i64 (bAll V k).1.2.1) (.int .i64 (bAll V k).1.2.2) (.int .i64 (bAll V k).2.1) (.int .i64 (bAll V k).2.2.1) (.int .i64 (bAll V k).2.2.2)
    have rc := rwc6 kr
    exact bodyPost_ret (v := .agg #[(bAll V k).1.1, (bAll V k).1.2.1, (bAll V k).1.2.2, (bAll V k).2.1, (bAll V k).2.2.1, (bAll V k).2.2.2]) (by simp [results, results39, go_sem, rc]) rfl ⟨rfl, blp6 (z00 B1 p1) (by omega)⟩
theorem bJoin_point {v : T3} (h : nrT v = true) : bJoin (v, v) (v, v) = (v, v) := by
 have hr : bRight (v, v) = true := z10.2 ⟨h, h, Int.le_refl _, Int.le_refl _, Int.le_refl _⟩
 unfold bJoin
 rw [if_pos ⟨hr, hr⟩]
 simp
theorem ref10_Of_near (bb off n cap : Nat) (V : Nat → T3) (w : World) (hbb : bb < w.heap.size) (hx : ∀ k, k < n → w.cell? ⟨bb, off + k * 3, none⟩ = some (.int .i64 (V k).1) ∧ w.cell? ⟨bb, off + k * 3 + 1, none⟩ = some (.int .i64 (V k).2.1) ∧ w.cell? ⟨bb, off + k * 3 + 2, none⟩ = some (.int .i64 (V k).2.2)) (hnr : ∀ k, k < n → nrT (V k) = true) (hm : 0 < n) (hn : n ≤ 1048576) :
  Rt prog 102 #[.slice (some ⟨bb, off, none⟩) n cap] w (.tuple #[.agg #[(bHull V n).1.1, (bHull V n).1.2.1, (bHull V n).1.2.2, (bHull V n).2.1, (bHull V n).2.2.1, (bHull V n).2.2.2], .bool true]) := by
 have HX := zh hx
 have HNR := zh hnr
 clear hx hnr
 go_enter func102, ntmps102
 go_upto_region 2 with (fail)
 refine wst2 fun W1 k_r kb B1 => ?_
 have lb : w.heap.size < w.heap.size + 1 := by omega
 generalize w.heap.size + 1 = gb at *
 go_wp2
 go_loopw [5] (fun i wr => ∃ k : Nat, k ≤ n ∧ i = .int .i64 k ∧ Bk wr w.heap.size 61 #[.int .i64 0, .int .i64 0, .int .i64 0, .int .i64 0, .int .i64 0, .int .i64 0] ∧ Bk wr gb 61 #[(bHull V k).1.1, (bHull V k).1.2.1, (bHull V k).1.2.2, (bHull V k).2.1, (bHull V k).2.2.1, (bHull V k).2.2.2] ∧ Below w.heap.size w wr) (fun i _ => n - (intOf i).toNat)
 case atStart => exact ⟨0, by omega, rfl, k_r, kb, B1⟩
 case round =>
  clear kb k_r B1
  obtain ⟨k, hk, rfl, k_r, kb, BO⟩ := hrel
  by_cases hlt : k < n
  · obtain ⟨x0, x1, x2⟩ := HX.out k hlt
    have KN := zh (fun w => z0b (V k).1 (V k).2.1 (V k).2.2 w)
    have nr : vnear (V k).1 (V k).2.1 (V k).2.2 = true := HNR.out k hlt
    rw [nr] at KN
    clear nr
    by_cases hk0 : k = 0
    · subst hk0
      have hj : bJoin (V 0, V 0) (V 0, V 0) = (V 0, V 0) := bJoin_point (HNR.out 0 hlt)
      have HN := zh (show bHull V (0 + 1) = (V 0, V 0) from rfl)
      have KJ := zh (fun w => ref10_Join (V 0).1 (V 0).2.1 (V 0).2.2 (V 0).1 (V 0).2.1 (V 0).2.2 (V 0).1 (V 0).2.1 (V 0).2.2 (V 0).1 (V 0).2.1 (V 0).2.2 w)
      change Hid (∀ w, Rt prog 68 #[.agg #[(V 0).1, (V 0).2.1, (V 0).2.2, (V 0).1, (V 0).2.1, (V 0).2.2], .agg #[(V 0).1, (V 0).2.1, (V 0).2.2, (V 0).1, (V 0).2.1, (V 0).2.2]] w (.agg #[(bJoin (V 0, V 0) (V 0, V 0)).1.1, (bJoin (V 0, V 0) (V 0, V 0)).1.2.1, (bJoin (V 0, V 0) (V 0, V 0)).1.2.2, (bJoin (V 0, V 0) (V 0, V 0)).2.1, (bJoin (V 0, V 0) (V 0, V 0)).2.2.1, (bJoin (V 0, V 0) (V 0, V 0)).2.2.2])) at KJ
      rw [hj] at KJ
      clear hj
      obtain ⟨vk, hvk⟩ := nmd (V 0)
      rw [← hvk] at x0 x1 x2 KJ KN HN
      clear hvk
      obtain ⟨v1, v2, v3⟩ := vk
      dsimp only at x0 x1 x2 KJ KN
      rw [Nat.zero_mul, Nat.add_zero] at x0 x1 x2
      have B1 := BO
      change Bk wr gb 61 #[.int .i64 0, .int .i64 0, .int .i64 0, .int .i64 0, .int .i64 0, .int .i64 0] at kb
      have cr := bwc6 k_r
      have cb := bwc6 kb
      have fb := bwf6 kb
      have ce0 : ∀ p : BW wr, p.w.cell? ⟨bb, off, none⟩ = some (.int .i64 v1) := bwB B1 x0 hbb
      have ce1 : ∀ p : BW wr, p.w.cell? ⟨bb, off + 1, none⟩ = some (.int .i64 v2) := bwB B1 x1 hbb
      have ce2 : ∀ p : BW wr, p.w.cell? ⟨bb, off + 2, none⟩ = some (.int .i64 v3) := bwB B1 x2 hbb
      refine bws fun p1 => ?_
      go_upto_region 8 with (go_at_call 20; (with_reducible refine (z02 KN.out _).mono ?_); rintro e w' ⟨rfl, q, rfl⟩)
      refine z0h 6 (by kernel_rfl) (by kernel_rfl) (by kernel_rfl) ?_
      simp only [List.take_succ_cons, List.take_zero, List.drop_succ_cons, List.drop_zero]
      repeat (go_big_quiet_step (fail))
      refine wpQuiet_nil ?_
      intro _ hw'
      obtain ⟨q, rfl⟩ := hw'
      go_upto_region 9 with (fail)
      refine wnm fun W2 hW2 => ?_
      have B2 : Below w.heap.size w W2 := by rw [hW2]; exact blp6 (z00 B1 q) (by omega)
      have k_r := bkoe6 hW2 (k_r.below q.h) (by omega)
      have kb := bkpe6 hW2 (kb.below q.h)
      clear hW2
      clear B1
      clear cr cb fb ce0 ce1 ce2
      have cr := bwc6 k_r
      have cb := bwc6 kb
      have fb := bwf6 kb
      have ce0 : ∀ p : BW W2, p.w.cell? ⟨bb, off, none⟩ = some (.int .i64 v1) := bwB B2 x0 hbb
      have ce1 : ∀ p : BW W2, p.w.cell? ⟨bb, off + 1, none⟩ = some (.int .i64 v2) := bwB B2 x1 hbb
      have ce2 : ∀ p : BW W2, p.w.cell? ⟨bb, off + 2, none⟩ = some (.int .i64 v3) := bwB B2 x2 hbb
      refine bws fun p2 => ?_
      refine z0h 11 (by kernel_rfl) (by kernel_rfl) (by kernel_rfl) ?_
      simp only [List.take_succ_cons, List.take_zero, List.drop_succ_cons, List.drop_zero]
      repeat (go_big_quiet_step ((go_at_call 68; (with_reducible exact z02 KJ.out _))))
      refine wpQuiet_nil ?_
      intro _ hw'
      obtain ⟨q, rfl⟩ := hw'
      go_wp2
      go_roundw
      case rel => exact ⟨0 + 1, by omega, by go_num, bko6 (k_r.below (BW.h _)) (by omega), (by rw [HN.out]; exact bkp6 (kb.below (BW.h _)) _ _ _ _ _ _), blp6 (z00 B2 _) (by omega)⟩
      case measure => simp [intOf]; omega
    · have t0 : ((k : Int) == 0) = false := by rw [beq_eq_false_iff_ne]; omega
      have HN := zh (show bHull V (k + 1) = bJoin (bHull V k) (V k, V k) from if_neg hk0)
      have KJ := zh (fun w => ref10_Join (bHull V k).1.1 (bHull V k).1.2.1 (bHull V k).1.2.2 (bHull V k).2.1 (bHull V k).2.2.1 (bHull V k).2.2.2 (V k).1 (V k).2.1 (V k).2.2 (V k).1 (V k).2.1 (V k).2.2 w)
      change Hid (∀ w, Rt prog 68 #[.agg #[(bHull V k).1.1, (bHull V k).1.2.1, (bHull V k).1.2.2, (bHull V k).2.1, (bHull V k).2.2.1, (bHull V k).2.2.2], .agg #[(V k).1, (V k).2.1, (V k).2.2, (V k).1, (V k).2.1, (V k).2.2]] w (.agg #[(bJoin (bHull V k) (V k, V k)).1.1, (bJoin (bHull V k) (V k, V k)).1.2.1, (bJoin (bHull V k) (V k, V k)).1.2.2, (bJoin (bHull V k) (V k, V k)).2.1, (bJoin (bHull V k) (V k, V k)).2.2.1, (bJoin (bHull V k) (V k, V k)).2.2.2])) at KJ
      obtain ⟨jn, hjn⟩ := nmd (bJoin (bHull V k) (V k, V k))
      rw [← hjn] at KJ HN
      clear hjn hk0
      obtain ⟨vk, hvk⟩ := nmd (V k)
      rw [← hvk] at x0 x1 x2 KJ KN
      clear hvk
      obtain ⟨ak, hak⟩ := nmd (bHull V k)
      rw [← hak] at kb KJ
      clear hak
      obtain ⟨v1, v2, v3⟩ := vk
      obtain ⟨⟨a1, a2, a3⟩, a4, a5, a6⟩ := ak
      obtain ⟨⟨r1, r2, r3⟩, r4, r5, r6⟩ := jn
      dsimp only at x0 x1 x2 KJ KN kb
      have B1 := BO
      have cr := bwc6 k_r
      have cb := bwc6 kb
      have fb := bwf6 kb
      have ce0 : ∀ p : BW wr, p.w.cell? ⟨bb, off + k * 3, none⟩ = some (.int .i64 v1) := bwB B1 x0 hbb
      have ce1 : ∀ p : BW wr, p.w.cell? ⟨bb, off + k * 3 + 1, none⟩ = some (.int .i64 v2) := bwB B1 x1 hbb
      have ce2 : ∀ p : BW wr, p.w.cell? ⟨bb, off + k * 3 + 2, none⟩ = some (.int .i64 v3) := bwB B1 x2 hbb
      refine bws fun p1 => ?_
      go_upto_region 9 with (go_at_call 20; (with_reducible refine (z02 KN.out _).mono ?_); rintro e w' ⟨rfl, q, rfl⟩)
      refine z0h 11 (by kernel_rfl) (by kernel_rfl) (by kernel_rfl) ?_
      simp only [List.take_succ_cons, List.take_zero, List.drop_succ_cons, List.drop_zero]
      repeat (go_big_quiet_step ((go_at_call 68; (with_reducible exact z02 KJ.out _))))
      refine wpQuiet_nil ?_
      intro _ hw'
      obtain ⟨q, rfl⟩ := hw'
      go_wp2
      go_roundw
      case rel => exact ⟨k + 1, by omega, by go_num, bko6 (k_r.below (BW.h _)) (by omega), (by rw [HN.out]; exact bkp6 (kb.below (BW.h _)) _ _ _ _ _ _), blp6 (z00 B1 _) (by omega)⟩
      case measure => simp [intOf]; omega
  · obtain rfl : k = n := by omega
    have t3 : decide (0 < k) = true := zt hm
    have B1 := BO
    have cb := bwc6 kb
    have cr := bwc6 k_r
    have fr := bwf6 k_r
    refine bws fun p1 => ?_
    go_wp2
    have kr := bkp6 (k_r.below p1.h) (.int .i64 (bHull V k).1.1) (.int .i64 (bHull V k).1.2.1) (.int .i64 (bHull V k).1.2.2) (.int .i64 (bHull V k).2.1) (.int .i64 (bHull V k).2.2.1) (.int .i64 (bHull V k).2.2.2)
    have rc := rwc6 kr
    exact bodyPost_ret (v := .tuple #[.agg #[(bHull V k).1.1, (bHull V k).1.2.1, (bHull V k).1.2.2, (bHull V k).2.1, (bHull V k).2.2.1, (bHull V k).2.2.2], .bool true]) (by simp [results, results102, go_sem, rc]) rfl ⟨rfl, blp6 (z00 B1 p1) (by omega)⟩
theorem ref13_Box_no (kk a1 a2 a3 b1 b2 b3 c1 c2 c3 r m : Int) (w : World) (KR : Hid (∀ w, Rt prog 24 #[.agg #[kk, a1, a2, a3, b1, b2, b3, c1, c2, c3, r, m]] w (.bool false))) :
  Rt prog 69 #[.agg #[kk, a1, a2, a3, b1, b2, b3, c1, c2, c3, r, m]] w (.agg #[.int .i64 0, .int .i64 0, .int .i64 0, .int .i64 0, .int .i64 0, .int .i64 0]) := by
 go_enter func69, ntmps69
 go_upto_region 1 with (fail)
 refine wst2 fun W1 kp k_r B1 => ?_
 have lr : w.heap.size < w.heap.size + 1 := by omega
 generalize w.heap.size + 1 = gr at *
 have cp := bwc12 kp
 have cr := bwc6 k_r
 have fr := bwf6 k_r
 refine bws fun p1 => ?_
 go_wp2_with (go_at_call 24; (with_reducible refine (z02 KR.out _).mono ?_); rintro e w' ⟨rfl, q, rfl⟩)
 have kr := bkp6 (k_r.below q.h) (.int .i64 0) (.int .i64 0) (.int .i64 0) (.int .i64 0) (.int .i64 0) (.int .i64 0)
 have rc := rwc6 kr
 exact bodyPost_ret (v := .agg #[.int .i64 0, .int .i64 0, .int .i64 0, .int .i64 0, .int .i64 0, .int .i64 0]) (by simp [results, results69, go_sem, rc]) rfl ⟨rfl, blp6 (z00 B1 q) (by omega)⟩
theorem ref13_Box_ball (kk a1 a2 a3 b1 b2 b3 c1 c2 c3 r m l1 l2 l3 h1 h2 h3 : Int) (w : World) (KR : Hid (∀ w, Rt prog 24 #[.agg #[kk, a1, a2, a3, b1, b2, b3, c1, c2, c3, r, m]] w (.bool true))) (hk : ¬ kk = 1) (hv : wrap64 (a1 - r) = l1 ∧ wrap64 (a2 - r) = l2 ∧ wrap64 (a3 - r) = l3 ∧ wrap64 (a1 + r) = h1 ∧ wrap64 (a2 + r) = h2 ∧ wrap64 (a3 + r) = h3) :
  Rt prog 69 #[.agg #[kk, a1, a2, a3, b1, b2, b3, c1, c2, c3, r, m]] w (.agg #[l1, l2, l3, h1, h2, h3]) := by
 have t1 : (kk == 1) = false := by rw [beq_eq_false_iff_ne]; exact hk
 have HV := zh hv
 clear hv hk
 go_enter func69, ntmps69
 go_upto_region 1 with (fail)
 refine wst2 fun W1 kp k_r B1 => ?_
 have lr : w.heap.size < w.heap.size + 1 := by omega
 generalize w.heap.size + 1 = gr at *
 have cp := bwc12 kp
 have cr := bwc6 k_r
 have fr := bwf6 k_r
 refine bws fun p1 => ?_
 obtain ⟨v1, v2, v3, v4, v5, v6⟩ := HV.out
 go_wp2_with (go_at_call 24; (with_reducible refine (z02 KR.out _).mono ?_); rintro e w' ⟨rfl, q, rfl⟩)
 have kr := bkp6 (k_r.below q.h) (.int .i64 l1) (.int .i64 l2) (.int .i64 l3) (.int .i64 h1) (.int .i64 h2) (.int .i64 h3)
 have rc := rwc6 kr
 exact bodyPost_ret (v := .agg #[l1, l2, l3, h1, h2, h3]) (by simp [results, results69, go_sem, rc]) rfl ⟨rfl, blp6 (z00 B1 q) (by omega)⟩
theorem ref13_Box_tri (kk a1 a2 a3 b1 b2 b3 c1 c2 c3 r m l1 l2 l3 h1 h2 h3 : Int) (w : World) (KR : Hid (∀ w, Rt prog 24 #[.agg #[kk, a1, a2, a3, b1, b2, b3, c1, c2, c3, r, m]] w (.bool true))) (hk : kk = 1) (KO : Hid (∀ X, Below w.heap.size w X → Calls prog 102 #[.slice (some ⟨X.heap.size, 0, none⟩) 3 3] (X.alloc (.cells #[a1, a2, a3, b1, b2, b3, c1, c2, c3] 24)) fun en w' => en = .returned (.tuple #[.agg #[l1, l2, l3, h1, h2, h3], .bool true]) ∧ Below X.heap.size X w')) :
  Rt prog 69 #[.agg #[kk, a1, a2, a3, b1, b2, b3, c1, c2, c3, r, m]] w (.agg #[l1, l2, l3, h1, h2, h3]) := by
 have t1 : (kk == 1) = true := by rw [beq_iff_eq]; exact hk
 clear hk
 go_enter func69, ntmps69
 go_upto_region 1 with (fail)
 refine wst2 fun W1 kp k_r B1 => ?_
 have lr : w.heap.size < w.heap.size + 1 := by omega
 generalize w.heap.size + 1 = gr at *
 have cp := bwc12 kp
 have cr := bwc6 k_r
 have fr := bwf6 k_r
 refine bws fun p1 => ?_
 go_upto_region 5 with (first | (go_at_call 24; (with_reducible refine (z02 KR.out _).mono ?_); rintro e w' ⟨rfl, q, rfl⟩) | (go_at_call 102; (with_reducible refine (KO.out _ (z00 B1 _)).mono ?_); rintro e w1 ⟨rfl, hb⟩; obtain ⟨q, rfl⟩ := z04 hb))
 refine wnm fun W2 hW2 => ?_
 have B2 := bwA q hW2 B1
 have lb : gr < q.w.heap.size := (k_r.below q.h).lt
 have ob : w.heap.size ≤ q.w.heap.size := (z00 B1 q).size
 have kp := bka hW2 (kp.below q.h)
 have k_r := bka hW2 (k_r.below q.h)
 have kb := bkn hW2
 clear hW2
 clear B1
 clear cp cr fr
 generalize q.w.heap.size = gb at *
 have cp := bwc12 kp
 have cr := bwc6 k_r
 have fr := bwf6 k_r
 have cb := bwc6 kb
 refine bws fun p2 => ?_
 go_wp2
 have kr := bkp6 (k_r.below p2.h) (.int .i64 l1) (.int .i64 l2) (.int .i64 l3) (.int .i64 h1) (.int .i64 h2) (.int .i64 h3)
 have rc := rwc6 kr
 exact bodyPost_ret (v := .agg #[l1, l2, l3, h1, h2, h3]) (by simp [results, results69, go_sem, rc]) rfl ⟨rfl, blp6 (z00 B2 p2) (by omega)⟩
theorem ref13_Box (p : Pr) (w : World) (hp : p.I) :
  Rt prog 69 #[.agg #[.int .i64 p.k, .int .i64 p.a.1, .int .i64 p.a.2.1, .int .i64 p.a.2.2, .int .i64 p.b.1, .int .i64 p.b.2.1, .int .i64 p.b.2.2, .int .i64 p.c.1, .int .i64 p.c.2.1, .int .i64 p.c.2.2, .int .i64 p.r, .int .i64 p.m]] w (.agg #[(pBox p).1.1, (pBox p).1.2.1, (pBox p).1.2.2, (pBox p).2.1, (pBox p).2.2.1, (pBox p).2.2.2]) := by
 have KR := zh (fun w => ref13_Right p.k p.a.1 p.a.2.1 p.a.2.2 p.b.1 p.b.2.1 p.b.2.2 p.c.1 p.c.2.1 p.c.2.2 p.r p.m w)
 obtain ⟨kk, ⟨a1, a2, a3⟩, ⟨b1, b2, b3⟩, ⟨c1, c2, c3⟩, r, m⟩ := p
 dsimp only at KR ⊢
 by_cases h : pRight (Pr.mk kk (a1, a2, a3) (b1, b2, b3) (c1, c2, c3) r m) = true
 · rw [h] at KR
   by_cases hk : kk = 1
   · have e : pBox (Pr.mk kk (a1, a2, a3) (b1, b2, b3) (c1, c2, c3) r m) = bOf (tri3 (a1, a2, a3) (b1, b2, b3) (c1, c2, c3)) 3 := by unfold pBox; rw [if_pos h, if_pos hk]
     have hn : ∀ k, k < 3 → nrT (tri3 (a1, a2, a3) (b1, b2, b3) (c1, c2, c3) k) = true := by
      obtain ⟨q1, q2, q3⟩ := pl3_iff.1 (pRight_tri h hk).1
      rw [z0a] at q1 q2 q3
      dsimp only at q1 q2 q3
      intro k hk
      rcases (by omega : k = 0 ∨ k = 1 ∨ k = 2) with rfl | rfl | rfl <;> (show nrT (_, _, _) = true; rw [z0r]; dsimp only; omega)
     have e2 : pBox (Pr.mk kk (a1, a2, a3) (b1, b2, b3) (c1, c2, c3) r m) = bHull (tri3 (a1, a2, a3) (b1, b2, b3) (c1, c2, c3)) 3 := by
      rw [e]; unfold bOf
      rw [if_pos]
      unfold bOfOk
      rw [Bool.and_eq_true, List.all_eq_true]
      exact ⟨rfl, fun k hk => hn k (List.mem_range.1 hk)⟩
     rw [e2]
     refine ref13_Box_tri kk a1 a2 a3 b1 b2 b3 c1 c2 c3 r m _ _ _ _ _ _ w KR hk (zh fun X hX => ?_)
     have kb : Bk (X.alloc (.cells #[a1, a2, a3, b1, b2, b3, c1, c2, c3] 24)) X.heap.size 24 #[a1, a2, a3, b1, b2, b3, c1, c2, c3] := Bk.new _ _ _
     have B0 : Below X.heap.size X (X.alloc (.cells #[a1, a2, a3, b1, b2, b3, c1, c2, c3] 24)) := (Below.refl _ _).alloc (Nat.le_refl _) _
     refine (ref10_Of_near X.heap.size 0 3 3 (tri3 (a1, a2, a3) (b1, b2, b3) (c1, c2, c3)) _ kb.lt (fun k hk => ?_) hn (by omega) (by omega)).mono (fun e w' h => ⟨h.1, B0.trans (h.2.mono B0.size)⟩)
     rcases (by omega : k = 0 ∨ k = 1 ∨ k = 2) with rfl | rfl | rfl <;> exact ⟨kb.cell rfl, kb.cell rfl, kb.cell rfl⟩
   · have e : pBox (Pr.mk kk (a1, a2, a3) (b1, b2, b3) (c1, c2, c3) r m) = ballB (a1, a2, a3) r := by unfold pBox; rw [if_pos h, if_neg hk]
     have hb := (pRight_ball h hk).2
     rw [e]
     refine ref13_Box_ball kk a1 a2 a3 b1 b2 b3 c1 c2 c3 r m _ _ _ _ _ _ w KR hk ?_
     unfold ballR at hb
     simp only [Bool.and_eq_true, decide_eq_true_eq] at hb
     obtain ⟨q1, q2⟩ := hb
     rw [z0a] at q1
     dsimp only at q1
     exact ⟨IntWalk.wrap64_in _ (by omega), IntWalk.wrap64_in _ (by omega), IntWalk.wrap64_in _ (by omega), IntWalk.wrap64_in _ (by omega), IntWalk.wrap64_in _ (by omega), IntWalk.wrap64_in _ (by omega)⟩
 · have h : pRight (Pr.mk kk (a1, a2, a3) (b1, b2, b3) (c1, c2, c3) r m) = false := by simpa using h
   have e : pBox (Pr.mk kk (a1, a2, a3) (b1, b2, b3) (c1, c2, c3) r m) = ((0, 0, 0), (0, 0, 0)) := by unfold pBox; rw [if_neg (by rw [h]; simp)]
   rw [h] at KR
   rw [e]
   exact ref13_Box_no kk a1 a2 a3 b1 b2 b3 c1 c2 c3 r m w KR
theorem wAt_take {wl sl : List Nat} {k : Nat} (h : k < sl.length) : wAt wl (sl.take (k + 1)) = wAt wl (sl.take k) ++ [wl.getD (sl.getD k 0) 0] := by
 unfold wAt
 rw [List.take_add_one, List.map_append, List.getElem?_eq_getElem h, List.getD_eq_getElem?_getD (l := sl), List.getElem?_eq_getElem h]
 rfl
theorem ref16_at (a b : Option Addr) (ca cb : Nat) (wl sl : List Nat) (w : World) (ha : IntSlice w a wl.length (fun i => ((wl.getD i 0 : Nat) : Int))) (hb : IntSlice w b sl.length (fun i => ((sl.getD i 0 : Nat) : Int))) (hs : ∀ k ∈ sl, k < wl.length) (hn : sl.length ≤ 1024) :
  Calls prog 51 #[.slice a wl.length ca, .slice b sl.length cb] w fun e w' => ∃ u, e = .returned u ∧ Ints w' w.heap.size u (wAt wl sl) ∧ Below w.heap.size w w' := by
 have HA := zh ha
 have HB := zh hb
 have HS := zh hs
 obtain ⟨i0, hi0, hz0, hz1, hz2⟩ := info_parts z1i
 obtain ⟨m, hmm⟩ := nmd (sl.length)
 obtain ⟨n, hnn⟩ := nmd (wl.length)
 rw [← hmm] at hn HB ⊢
 rw [← hnn] at HA HS ⊢
 have HM := zh hmm
 clear ha hb hs hmm hnn
 go_enter func51, ntmps51
 go_wp2
 go_loopw [5, 6] (fun u i wr => ∃ k : Nat, k ≤ m ∧ i = .int .i64 k ∧ Ints wr w.heap.size u (wAt wl (sl.take k)) ∧ Below w.heap.size w wr) (fun _ i _ => m - (intOf i).toNat)
 case atStart => exact ⟨0, by omega, rfl, World.ownsRow_nil _ _ _ _, Below.refl _ _⟩
 case round =>
  obtain ⟨k, hk, rfl, hu, BO⟩ := hrel
  by_cases hlt : k < m
  · obtain ⟨bb, ob, rfl, hcb, hbb⟩ := HB.out.resolve_left (by omega)
    have y0 : w.cell? ⟨bb, ob + k, none⟩ = some (.int .i64 ((sl.getD k 0 : Nat) : Int)) := (hcb k hlt).1
    have hkl : k < sl.length := by have := HM.out; omega
    have hin : sl.getD k 0 < n := HS.out _ (by rw [List.getD_eq_getElem?_getD, List.getElem?_eq_getElem hkl]; exact List.getElem_mem _)
    obtain ⟨ba, oa, rfl, hca, hba⟩ := HA.out.resolve_left (by omega)
    have z0 : w.cell? ⟨ba, oa + sl.getD k 0, none⟩ = some (.int .i64 ((wl.getD (sl.getD k 0) 0 : Nat) : Int)) := (hca _ hin).1
    have hT := wAt_take (wl := wl) hkl
    clear hcb hca
    generalize sl.getD k 0 = j at *
    generalize wl.getD j 0 = v at *
    have hlu : (wAt wl (sl.take k)).length ≤ k := by rw [z0j, List.length_take]; omega
    have HT := zh hT
    clear hT
    have B1 := BO
    have cy : ∀ p : BW wr, p.w.cell? ⟨bb, ob + k, none⟩ = some (.int .i64 (j : Int)) := bwB B1 y0 hbb
    have cz : ∀ p : BW wr, p.w.cell? ⟨ba, oa + j, none⟩ = some (.int .i64 (v : Int)) := bwB B1 z0 hba
    refine bws fun p1 => ?_
    go_wp2_with (at_builtin; refine z06 rfl _ _ 33 rfl w.heap.size 3 i0 (.int .i64 0) 1 8 Tryz.underlying33 hi0 hz0 hz1 hz2 rfl (by decide) _ _ _ rfl (World.ownsRow.alloc (hu.below (BW.h _)) _) ⟨_, 0, none⟩ 1 1 [.int .i64 (v : Int)] rfl rfl ?g1 ?g2 ?g3 ?g4 ?g5 ?_)
    case g1 => exact cell_one_new _ _ _
    case g2 => first | (intro u hu; simp only [List.mem_cons, List.not_mem_nil, or_false] at hu; rw [hu]; rfl) | rfl | (simp [Value.oneCell'])
    case g3 => unfold maxLen; omega
    case g4 => omega
    case g5 => have := (z00 B1 p1).size; simp; omega
    intro v' w1 hown hgrow hat
    have hb1 : Below w.heap.size w w1 := ((z00 B1 p1).alloc (z00 B1 p1).size _).grown hgrow (by have := (z00 B1 p1).size; simp; omega) (fun j ej => by have := (World.ownsRow.lt hu _ ej).1; omega)
    have r1 : Ints w1 w.heap.size v' (wAt wl (sl.take k) ++ [v]) := by unfold Ints; rw [List.length_append, List.map_append]; exact hown
    go_wp2
    go_roundw
    case rel => exact ⟨k + 1, by omega, by go_num, (by rw [HT.out]; exact r1), hb1⟩
    case measure => simp [intOf]; omega
  · obtain rfl : k = m := by omega
    go_wp2
    go_ret
    have e : sl.take k = sl := by rw [HM.out, List.take_length]
    rw [e] at hu
    exact ⟨_, rfl, hu, BO⟩
end
end Go.Proofs.YtbmpmjdlaahekaaGreat
