/- Contracts of the document's own answers that layer 16 calls: may all things be; a thing's box. -/
import Derived.Test.YtomlcglnkdfemaaGreatTb27
import Derived.Test.YtomlcglnkdfemaaGreatTb23
import Derived.Test.YtomlcglnkdfemaaGreatTb10


namespace Go.Proofs.YtomlcglnkdfemaaGreat
section

open Go.RowKit Go.Proofs.Sky

set_option linter.unusedVariables false

set_option linter.unusedSimpArgs false

theorem pAll_succ (P : Nat → Pr) (n : Nat) : pAll P (n + 1) = (pAll P n && pRight (P n)) := by
  unfold pAll; rw [List.range_succ, List.all_append]; simp

theorem pAll_no {P : Nat → Pr} {n k : Nat} (h : pRight (P k) = false) (hk : k < n) : pAll P n = false := by
  unfold pAll
  rw [Bool.eq_false_iff]
  intro e
  rw [List.all_eq_true] at e
  have := e k (List.mem_range.2 hk)
  rw [h] at this; cases this

set_option maxRecDepth 100000 in
set_option maxHeartbeats 8000000 in
theorem ref14_Right (v : Value) (n : Nat) (P : Nat → Pr) (w : World) (hs : Prims w v n P) (hn : n ≤ 1000000) :
    Calls Tryz.prog 18 #[v] w fun en w' => en = .returned (.bool (pAll P n)) ∧ Below w.heap.size w w' := by
  obtain ⟨hsl, hI⟩ := hs
  obtain ⟨a, cap, rfl, hm, hS⟩ := hsl
  have HS := Lib.hid hS
  have KRH := Lib.hid (fun (p : Pr) w => ref13_Right p.k p.a.1 p.a.2.1 p.a.2.2 p.b.1 p.b.2.1 p.b.2.2 p.c.1 p.c.2.1 p.c.2.2 p.r p.m w)
  clear hS hI
  go_enter Tryz.func18, Tryz.ntmps18
  have B1 : Below w.heap.size w w := Below.refl _ _
  go_wp2
  go_loopw [3] (fun i wr => ∃ (k : Nat) (q : BW w), k ≤ n ∧ i = .int .i64 k ∧ wr = q.w ∧ pAll P k = true) (fun i _ => n - (intOf i).toNat)
  case atStart => exact ⟨0, BW.start w, by omega, rfl, rfl, rfl⟩
  case round =>
    obtain ⟨k, p3, hk, rfl, rfl, hall⟩ := hrel
    have HALL := Lib.hid hall
    clear hall
    by_cases hlt : k < n
    · have KR := Lib.hid (fun w => KRH.out (P k) w)
      obtain ⟨b, off, rfl, hb, hcell⟩ := HS.out.resolve_left (by omega)
      have hx := hcell k hlt
      have x0 : w.cell? ⟨b, off + k * 12, none⟩ = some (.int .i64 (P k).k) := hx 0 (by omega)
      have x1 : w.cell? ⟨b, off + k * 12 + 1, none⟩ = some (.int .i64 (P k).a.1) := hx 1 (by omega)
      have x2 : w.cell? ⟨b, off + k * 12 + 2, none⟩ = some (.int .i64 (P k).a.2.1) := hx 2 (by omega)
      have x3 : w.cell? ⟨b, off + k * 12 + 3, none⟩ = some (.int .i64 (P k).a.2.2) := hx 3 (by omega)
      have x4 : w.cell? ⟨b, off + k * 12 + 4, none⟩ = some (.int .i64 (P k).b.1) := hx 4 (by omega)
      have x5 : w.cell? ⟨b, off + k * 12 + 5, none⟩ = some (.int .i64 (P k).b.2.1) := hx 5 (by omega)
      have x6 : w.cell? ⟨b, off + k * 12 + 6, none⟩ = some (.int .i64 (P k).b.2.2) := hx 6 (by omega)
      have x7 : w.cell? ⟨b, off + k * 12 + 7, none⟩ = some (.int .i64 (P k).c.1) := hx 7 (by omega)
      have x8 : w.cell? ⟨b, off + k * 12 + 8, none⟩ = some (.int .i64 (P k).c.2.1) := hx 8 (by omega)
      have x9 : w.cell? ⟨b, off + k * 12 + 9, none⟩ = some (.int .i64 (P k).c.2.2) := hx 9 (by omega)
      have x10 : w.cell? ⟨b, off + k * 12 + 10, none⟩ = some (.int .i64 (P k).r) := hx 10 (by omega)
      have x11 : w.cell? ⟨b, off + k * 12 + 11, none⟩ = some (.int .i64 (P k).m) := hx 11 (by omega)
      clear hx hcell
      change Hid (∀ w, Calls Tryz.prog 30 #[.agg #[.int .i64 (P k).k, .int .i64 (P k).a.1, .int .i64 (P k).a.2.1, .int .i64 (P k).a.2.2, .int .i64 (P k).b.1, .int .i64 (P k).b.2.1, .int .i64 (P k).b.2.2, .int .i64 (P k).c.1, .int .i64 (P k).c.2.1, .int .i64 (P k).c.2.2, .int .i64 (P k).r, .int .i64 (P k).m]] w fun en w' => en = .returned (.bool (pRight (P k))) ∧ Below w.heap.size w w') at KR
      obtain ⟨z, hz⟩ : ∃ z, z = pRight (P k) := ⟨_, rfl⟩
      rw [← hz] at KR
      clear KRH
      obtain ⟨pk, hpk⟩ : ∃ pk, pk = P k := ⟨_, rfl⟩
      rw [← hpk] at x0 x1 x2 x3 x4 x5 x6 x7 x8 x9 x10 x11 KR hz
      have HPK := Lib.hid hpk
      clear hpk
      obtain ⟨kk, ⟨a1, a2, a3⟩, ⟨b1, b2, b3⟩, ⟨c1, c2, c3⟩, r, m⟩ := pk
      dsimp only at x0 x1 x2 x3 x4 x5 x6 x7 x8 x9 x10 x11 KR
      have HZ := Lib.hid hz
      clear hz
      have c_e0 : ∀ p : BW w, p.w.cell? ⟨b, off + k * 12, none⟩ = some (.int .i64 kk) := bw_cell ((B1.cell (p := ⟨b, off + k * 12, none⟩) hb).trans x0)
      have c_e1 : ∀ p : BW w, p.w.cell? ⟨b, off + k * 12 + 1, none⟩ = some (.int .i64 a1) := bw_cell ((B1.cell (p := ⟨b, off + k * 12 + 1, none⟩) hb).trans x1)
      have c_e2 : ∀ p : BW w, p.w.cell? ⟨b, off + k * 12 + 2, none⟩ = some (.int .i64 a2) := bw_cell ((B1.cell (p := ⟨b, off + k * 12 + 2, none⟩) hb).trans x2)
      have c_e3 : ∀ p : BW w, p.w.cell? ⟨b, off + k * 12 + 3, none⟩ = some (.int .i64 a3) := bw_cell ((B1.cell (p := ⟨b, off + k * 12 + 3, none⟩) hb).trans x3)
      have c_e4 : ∀ p : BW w, p.w.cell? ⟨b, off + k * 12 + 4, none⟩ = some (.int .i64 b1) := bw_cell ((B1.cell (p := ⟨b, off + k * 12 + 4, none⟩) hb).trans x4)
      have c_e5 : ∀ p : BW w, p.w.cell? ⟨b, off + k * 12 + 5, none⟩ = some (.int .i64 b2) := bw_cell ((B1.cell (p := ⟨b, off + k * 12 + 5, none⟩) hb).trans x5)
      have c_e6 : ∀ p : BW w, p.w.cell? ⟨b, off + k * 12 + 6, none⟩ = some (.int .i64 b3) := bw_cell ((B1.cell (p := ⟨b, off + k * 12 + 6, none⟩) hb).trans x6)
      have c_e7 : ∀ p : BW w, p.w.cell? ⟨b, off + k * 12 + 7, none⟩ = some (.int .i64 c1) := bw_cell ((B1.cell (p := ⟨b, off + k * 12 + 7, none⟩) hb).trans x7)
      have c_e8 : ∀ p : BW w, p.w.cell? ⟨b, off + k * 12 + 8, none⟩ = some (.int .i64 c2) := bw_cell ((B1.cell (p := ⟨b, off + k * 12 + 8, none⟩) hb).trans x8)
      have c_e9 : ∀ p : BW w, p.w.cell? ⟨b, off + k * 12 + 9, none⟩ = some (.int .i64 c3) := bw_cell ((B1.cell (p := ⟨b, off + k * 12 + 9, none⟩) hb).trans x9)
      have c_e10 : ∀ p : BW w, p.w.cell? ⟨b, off + k * 12 + 10, none⟩ = some (.int .i64 r) := bw_cell ((B1.cell (p := ⟨b, off + k * 12 + 10, none⟩) hb).trans x10)
      have c_e11 : ∀ p : BW w, p.w.cell? ⟨b, off + k * 12 + 11, none⟩ = some (.int .i64 m) := bw_cell ((B1.cell (p := ⟨b, off + k * 12 + 11, none⟩) hb).trans x11)
      cases z with
      | false =>
        go_wp2_with (go_at_call 30; (with_reducible refine (bw_call KR.out _).mono ?_); rintro e w' ⟨rfl, q, rfl⟩)
        go_ret
        exact ⟨by rw [pAll_no (k := k) (by rw [← HPK.out]; exact HZ.out.symm) hlt]; rfl, bw_below B1 q⟩
      | true =>
        go_wp2_with (go_at_call 30; (with_reducible refine (bw_call KR.out _).mono ?_); rintro e w' ⟨rfl, q, rfl⟩)
        go_roundw
        case rel => exact ⟨k + 1, q, by omega, by go_num, rfl, by rw [pAll_succ, HALL.out, ← HPK.out, ← HZ.out]; rfl⟩
        case measure => simp [intOf]; omega
    · obtain rfl : k = n := by omega
      go_wp2
      go_ret
      exact ⟨by rw [HALL.out]; rfl, bw_below B1 p3⟩

set_option maxRecDepth 100000 in
set_option maxHeartbeats 8000000 in
theorem ref16_all (a : Option Addr) (n cap : Nat) (V : Nat → Bx) (w : World) (hs : Boxes w (.slice a n cap) n V) (hm : 0 < n) (hn : n ≤ 1048576) :
    Calls Tryz.prog 32 #[.slice a n cap] w fun e w' => e = .returned (.agg #[.int .i64 (bAll V n).1.1, .int .i64 (bAll V n).1.2.1, .int .i64 (bAll V n).1.2.2, .int .i64 (bAll V n).2.1, .int .i64 (bAll V n).2.2.1, .int .i64 (bAll V n).2.2.2]) ∧ Below w.heap.size w w' := by
  have HS := Lib.hid hs
  have HAS := Lib.hid (fun k => bAll_succ V k)
  have HA0 := Lib.hid (show bAll V 0 = V 0 from rfl)
  obtain ⟨bb, off, rfl, hbb, x0, x1, x2, x3, x4, x5⟩ := boxes_at HS.out hm
  obtain ⟨vk, hvk⟩ : ∃ vk, vk = V 0 := ⟨_, rfl⟩
  rw [← hvk] at x0 x1 x2 x3 x4 x5 HA0
  clear hvk hs
  obtain ⟨⟨v1, v2, v3⟩, v4, v5, v6⟩ := vk
  dsimp only at x0 x1 x2 x3 x4 x5
  rw [Nat.zero_mul, Nat.add_zero] at x0 x1 x2 x3 x4 x5
  go_enter Tryz.func32, Tryz.ntmps32
  go_upto_region 2 with (fail)
  obtain ⟨W1, hW1⟩ : ∃ W, W = (w.alloc (.cells #[.int .i64 0, .int .i64 0, .int .i64 0, .int .i64 0, .int .i64 0, .int .i64 0] 58)).alloc (.cells #[.int .i64 v1, .int .i64 v2, .int .i64 v3, .int .i64 v4, .int .i64 v5, .int .i64 v6] 58) := ⟨_, rfl⟩
  obtain ⟨k_r, k_b, B1⟩ := st2 hW1
  rw [← hW1]
  clear hW1
  have l_b : w.heap.size < w.heap.size + 1 := by omega
  generalize w.heap.size + 1 = g_b at *
  clear x0 x1 x2 x3 x4 x5
  go_wp2
  go_loopw [4] (fun i wr => ∃ k : Nat, k ≤ n ∧ i = .int .i64 k ∧ Bk wr w.heap.size 58 #[.int .i64 0, .int .i64 0, .int .i64 0, .int .i64 0, .int .i64 0, .int .i64 0] ∧ Bk wr g_b 58 #[.int .i64 (bAll V k).1.1, .int .i64 (bAll V k).1.2.1, .int .i64 (bAll V k).1.2.2, .int .i64 (bAll V k).2.1, .int .i64 (bAll V k).2.2.1, .int .i64 (bAll V k).2.2.2] ∧ Below w.heap.size w wr) (fun i _ => n - (intOf i).toNat)
  case atStart => exact ⟨0, by omega, rfl, k_r, (by rw [HA0.out]; exact k_b), B1⟩
  case round =>
    clear k_b k_r B1
    obtain ⟨k, hk, rfl, k_r, k_b, BO⟩ := hrel
    by_cases hlt : k < n
    · have KJ := Lib.hid (fun w => ref10_Join (bAll V k).1.1 (bAll V k).1.2.1 (bAll V k).1.2.2 (bAll V k).2.1 (bAll V k).2.2.1 (bAll V k).2.2.2 (V k).1.1 (V k).1.2.1 (V k).1.2.2 (V k).2.1 (V k).2.2.1 (V k).2.2.2 w)
      change Hid (∀ w, Calls Tryz.prog 54 #[.agg #[.int .i64 (bAll V k).1.1, .int .i64 (bAll V k).1.2.1, .int .i64 (bAll V k).1.2.2, .int .i64 (bAll V k).2.1, .int .i64 (bAll V k).2.2.1, .int .i64 (bAll V k).2.2.2], .agg #[.int .i64 (V k).1.1, .int .i64 (V k).1.2.1, .int .i64 (V k).1.2.2, .int .i64 (V k).2.1, .int .i64 (V k).2.2.1, .int .i64 (V k).2.2.2]] w fun en w' => en = .returned (.agg #[.int .i64 (bJoin (bAll V k) (V k)).1.1, .int .i64 (bJoin (bAll V k) (V k)).1.2.1, .int .i64 (bJoin (bAll V k) (V k)).1.2.2, .int .i64 (bJoin (bAll V k) (V k)).2.1, .int .i64 (bJoin (bAll V k) (V k)).2.2.1, .int .i64 (bJoin (bAll V k) (V k)).2.2.2]) ∧ Below w.heap.size w w') at KJ
      have HN := Lib.hid (HAS.out k)
      obtain ⟨jn, hjn⟩ : ∃ jn, jn = bJoin (bAll V k) (V k) := ⟨_, rfl⟩
      rw [← hjn] at KJ HN
      clear hjn
      obtain ⟨_, _, hsl, hbb2, x0, x1, x2, x3, x4, x5⟩ := boxes_at HS.out hlt
      cases hsl
      obtain ⟨vk, hvk⟩ : ∃ vk, vk = V k := ⟨_, rfl⟩
      rw [← hvk] at x0 x1 x2 x3 x4 x5 KJ
      clear hvk
      obtain ⟨ak, hak⟩ : ∃ ak, ak = bAll V k := ⟨_, rfl⟩
      rw [← hak] at k_b KJ
      clear hak
      obtain ⟨⟨v1, v2, v3⟩, v4, v5, v6⟩ := vk
      obtain ⟨⟨a1, a2, a3⟩, a4, a5, a6⟩ := ak
      obtain ⟨⟨r1, r2, r3⟩, r4, r5, r6⟩ := jn
      dsimp only at x0 x1 x2 x3 x4 x5 KJ k_b
      have B1 := BO
      obtain ⟨c_r_0, c_r_1, c_r_2, c_r_3, c_r_4, c_r_5⟩ := bwc6 (k_r)
      obtain ⟨c_b_0, c_b_1, c_b_2, c_b_3, c_b_4, c_b_5⟩ := bwc6 (k_b)
      obtain ⟨f_b_0, f_b_1, f_b_2, f_b_3, f_b_4, f_b_5⟩ := bwf6 (k_b)
      have c_e0 : ∀ p : BW wr, p.w.cell? ⟨bb, off + k * 6, none⟩ = some (.int .i64 v1) := bw_cell ((B1.cell (p := ⟨bb, off + k * 6, none⟩) hbb).trans x0)
      have c_e1 : ∀ p : BW wr, p.w.cell? ⟨bb, off + k * 6 + 1, none⟩ = some (.int .i64 v2) := bw_cell ((B1.cell (p := ⟨bb, off + k * 6 + 1, none⟩) hbb).trans x1)
      have c_e2 : ∀ p : BW wr, p.w.cell? ⟨bb, off + k * 6 + 2, none⟩ = some (.int .i64 v3) := bw_cell ((B1.cell (p := ⟨bb, off + k * 6 + 2, none⟩) hbb).trans x2)
      have c_e3 : ∀ p : BW wr, p.w.cell? ⟨bb, off + k * 6 + 3, none⟩ = some (.int .i64 v4) := bw_cell ((B1.cell (p := ⟨bb, off + k * 6 + 3, none⟩) hbb).trans x3)
      have c_e4 : ∀ p : BW wr, p.w.cell? ⟨bb, off + k * 6 + 4, none⟩ = some (.int .i64 v5) := bw_cell ((B1.cell (p := ⟨bb, off + k * 6 + 4, none⟩) hbb).trans x4)
      have c_e5 : ∀ p : BW wr, p.w.cell? ⟨bb, off + k * 6 + 5, none⟩ = some (.int .i64 v6) := bw_cell ((B1.cell (p := ⟨bb, off + k * 6 + 5, none⟩) hbb).trans x5)
      obtain ⟨p1, hp1⟩ : ∃ p : BW wr, p.w = wr := ⟨BW.start wr, rfl⟩
      rw [← hp1]
      clear hp1
      go_upto_region 5 with (fail)
      refine wp_region_bw_tail 6 (by kernel_rfl) (by kernel_rfl) (by kernel_rfl) ?_
      simp only [List.take_succ_cons, List.take_zero, List.drop_succ_cons, List.drop_zero]
      repeat (go_big_quiet_step (first
        | (go_at_call 54; (first | (with_reducible exact bw_call KJ.out _)))))
      refine wpQuiet_nil ?_
      intro _ hw'
      obtain ⟨q, rfl⟩ := hw'
      go_wp2
      go_roundw
      case rel => exact ⟨k + 1, by omega, by go_num, bko6 (k_r.below (BW.h _)) (by omega), (by rw [HN.out]; exact bkp6 (k_b.below (BW.h _)) _ _ _ _ _ _), blp6 (bw_below B1 _) (by omega)⟩
      case measure => simp [intOf]; omega
    · obtain rfl : k = n := by omega
      have B1 := BO
      obtain ⟨c_b_0, c_b_1, c_b_2, c_b_3, c_b_4, c_b_5⟩ := bwc6 (k_b)
      obtain ⟨c_r_0, c_r_1, c_r_2, c_r_3, c_r_4, c_r_5⟩ := bwc6 (k_r)
      obtain ⟨f_r_0, f_r_1, f_r_2, f_r_3, f_r_4, f_r_5⟩ := bwf6 (k_r)
      obtain ⟨p1, hp1⟩ : ∃ p : BW wr, p.w = wr := ⟨BW.start wr, rfl⟩
      rw [← hp1]
      clear hp1
      go_wp2
      have kr := bkp6 (k_r.below p1.h) (.int .i64 (bAll V k).1.1) (.int .i64 (bAll V k).1.2.1) (.int .i64 (bAll V k).1.2.2) (.int .i64 (bAll V k).2.1) (.int .i64 (bAll V k).2.2.1) (.int .i64 (bAll V k).2.2.2)
      obtain ⟨rc0, rc1, rc2, rc3, rc4, rc5⟩ := rwc6 kr
      exact bodyPost_ret (v := .agg #[.int .i64 (bAll V k).1.1, .int .i64 (bAll V k).1.2.1, .int .i64 (bAll V k).1.2.2, .int .i64 (bAll V k).2.1, .int .i64 (bAll V k).2.2.1, .int .i64 (bAll V k).2.2.2]) (by simp [results, Tryz.results32, go_sem, rc0, rc1, rc2, rc3, rc4, rc5]) rfl ⟨rfl, blp6 (bw_below B1 p1) (by omega)⟩

theorem bJoin_point {v : T3} (h : nrT v = true) : bJoin (v, v) (v, v) = (v, v) := by
  have hr : bRight (v, v) = true := bRight_iff.2 ⟨h, h, Int.le_refl _, Int.le_refl _, Int.le_refl _⟩
  unfold bJoin
  rw [if_pos ⟨hr, hr⟩]
  simp

set_option maxRecDepth 100000 in
set_option maxHeartbeats 8000000 in
theorem ref10_Of_near (bb off n cap : Nat) (V : Nat → T3) (w : World) (hbb : bb < w.heap.size) (hx : ∀ k, k < n → w.cell? ⟨bb, off + k * 3, none⟩ = some (.int .i64 (V k).1) ∧ w.cell? ⟨bb, off + k * 3 + 1, none⟩ = some (.int .i64 (V k).2.1) ∧ w.cell? ⟨bb, off + k * 3 + 2, none⟩ = some (.int .i64 (V k).2.2)) (hnr : ∀ k, k < n → nrT (V k) = true) (hm : 0 < n) (hn : n ≤ 1048576) :
    Calls Tryz.prog 73 #[.slice (some ⟨bb, off, none⟩) n cap] w fun e w' => e = .returned (.tuple #[.agg #[.int .i64 (bHull V n).1.1, .int .i64 (bHull V n).1.2.1, .int .i64 (bHull V n).1.2.2, .int .i64 (bHull V n).2.1, .int .i64 (bHull V n).2.2.1, .int .i64 (bHull V n).2.2.2], .bool true]) ∧ Below w.heap.size w w' := by
  have HX := Lib.hid hx
  have HNR := Lib.hid hnr
  clear hx hnr
  go_enter Tryz.func73, Tryz.ntmps73
  go_upto_region 2 with (fail)
  obtain ⟨W1, hW1⟩ : ∃ W, W = (w.alloc (.cells #[.int .i64 0, .int .i64 0, .int .i64 0, .int .i64 0, .int .i64 0, .int .i64 0] 58)).alloc (.cells #[.int .i64 0, .int .i64 0, .int .i64 0, .int .i64 0, .int .i64 0, .int .i64 0] 58) := ⟨_, rfl⟩
  obtain ⟨k_r, k_b, B1⟩ := st2 hW1
  rw [← hW1]
  clear hW1
  have l_b : w.heap.size < w.heap.size + 1 := by omega
  generalize w.heap.size + 1 = g_b at *
  go_wp2
  go_loopw [5] (fun i wr => ∃ k : Nat, k ≤ n ∧ i = .int .i64 k ∧ Bk wr w.heap.size 58 #[.int .i64 0, .int .i64 0, .int .i64 0, .int .i64 0, .int .i64 0, .int .i64 0] ∧ Bk wr g_b 58 #[.int .i64 (bHull V k).1.1, .int .i64 (bHull V k).1.2.1, .int .i64 (bHull V k).1.2.2, .int .i64 (bHull V k).2.1, .int .i64 (bHull V k).2.2.1, .int .i64 (bHull V k).2.2.2] ∧ Below w.heap.size w wr) (fun i _ => n - (intOf i).toNat)
  case atStart => exact ⟨0, by omega, rfl, k_r, k_b, B1⟩
  case round =>
    clear k_b k_r B1
    obtain ⟨k, hk, rfl, k_r, k_b, BO⟩ := hrel
    by_cases hlt : k < n
    · obtain ⟨x0, x1, x2⟩ := HX.out k hlt
      have KN := Lib.hid (fun w => ref6_Near (V k).1 (V k).2.1 (V k).2.2 w)
      have nr : vnear (V k).1 (V k).2.1 (V k).2.2 = true := HNR.out k hlt
      rw [nr] at KN
      clear nr
      by_cases hk0 : k = 0
      · subst hk0
        have hj : bJoin (V 0, V 0) (V 0, V 0) = (V 0, V 0) := bJoin_point (HNR.out 0 hlt)
        have HN := Lib.hid (show bHull V (0 + 1) = (V 0, V 0) from rfl)
        have KJ := Lib.hid (fun w => ref10_Join (V 0).1 (V 0).2.1 (V 0).2.2 (V 0).1 (V 0).2.1 (V 0).2.2 (V 0).1 (V 0).2.1 (V 0).2.2 (V 0).1 (V 0).2.1 (V 0).2.2 w)
        change Hid (∀ w, Calls Tryz.prog 54 #[.agg #[.int .i64 (V 0).1, .int .i64 (V 0).2.1, .int .i64 (V 0).2.2, .int .i64 (V 0).1, .int .i64 (V 0).2.1, .int .i64 (V 0).2.2], .agg #[.int .i64 (V 0).1, .int .i64 (V 0).2.1, .int .i64 (V 0).2.2, .int .i64 (V 0).1, .int .i64 (V 0).2.1, .int .i64 (V 0).2.2]] w fun en w' => en = .returned (.agg #[.int .i64 (bJoin (V 0, V 0) (V 0, V 0)).1.1, .int .i64 (bJoin (V 0, V 0) (V 0, V 0)).1.2.1, .int .i64 (bJoin (V 0, V 0) (V 0, V 0)).1.2.2, .int .i64 (bJoin (V 0, V 0) (V 0, V 0)).2.1, .int .i64 (bJoin (V 0, V 0) (V 0, V 0)).2.2.1, .int .i64 (bJoin (V 0, V 0) (V 0, V 0)).2.2.2]) ∧ Below w.heap.size w w') at KJ
        rw [hj] at KJ
        clear hj
        obtain ⟨vk, hvk⟩ : ∃ vk, vk = V 0 := ⟨_, rfl⟩
        rw [← hvk] at x0 x1 x2 KJ KN HN
        clear hvk
        obtain ⟨v1, v2, v3⟩ := vk
        dsimp only at x0 x1 x2 KJ KN
        rw [Nat.zero_mul, Nat.add_zero] at x0 x1 x2
        have B1 := BO
        change Bk wr g_b 58 #[.int .i64 0, .int .i64 0, .int .i64 0, .int .i64 0, .int .i64 0, .int .i64 0] at k_b
        obtain ⟨c_r_0, c_r_1, c_r_2, c_r_3, c_r_4, c_r_5⟩ := bwc6 (k_r)
        obtain ⟨c_b_0, c_b_1, c_b_2, c_b_3, c_b_4, c_b_5⟩ := bwc6 (k_b)
        obtain ⟨f_b_0, f_b_1, f_b_2, f_b_3, f_b_4, f_b_5⟩ := bwf6 (k_b)
        have c_e0 : ∀ p : BW wr, p.w.cell? ⟨bb, off, none⟩ = some (.int .i64 v1) := bw_cell ((B1.cell (p := ⟨bb, off, none⟩) hbb).trans x0)
        have c_e1 : ∀ p : BW wr, p.w.cell? ⟨bb, off + 1, none⟩ = some (.int .i64 v2) := bw_cell ((B1.cell (p := ⟨bb, off + 1, none⟩) hbb).trans x1)
        have c_e2 : ∀ p : BW wr, p.w.cell? ⟨bb, off + 2, none⟩ = some (.int .i64 v3) := bw_cell ((B1.cell (p := ⟨bb, off + 2, none⟩) hbb).trans x2)
        obtain ⟨p1, hp1⟩ : ∃ p : BW wr, p.w = wr := ⟨BW.start wr, rfl⟩
        rw [← hp1]
        clear hp1
        go_upto_region 8 with (go_at_call 74; (with_reducible refine (bw_call KN.out _).mono ?_); rintro e w' ⟨rfl, q, rfl⟩)
        refine wp_region_bw_tail 6 (by kernel_rfl) (by kernel_rfl) (by kernel_rfl) ?_
        simp only [List.take_succ_cons, List.take_zero, List.drop_succ_cons, List.drop_zero]
        repeat (go_big_quiet_step (first
          | fail))
        refine wpQuiet_nil ?_
        intro _ hw'
        obtain ⟨q, rfl⟩ := hw'
        go_upto_region 9 with (fail)
        obtain ⟨W2, hW2⟩ : ∃ W, W = (((((q.w.setCell ⟨g_b, 0, none⟩ (.int .i64 v1)).setCell ⟨g_b, 1, none⟩ (.int .i64 v2)).setCell ⟨g_b, 2, none⟩ (.int .i64 v3)).setCell ⟨g_b, 3, none⟩ (.int .i64 v1)).setCell ⟨g_b, 4, none⟩ (.int .i64 v2)).setCell ⟨g_b, 5, none⟩ (.int .i64 v3) := ⟨_, rfl⟩
        have B2 : Below w.heap.size w W2 := by rw [hW2]; exact blp6 (bw_below B1 q) (by omega)
        have k_r := bkoe6 hW2 (k_r.below q.h) (by omega)
        have k_b := bkpe6 hW2 (k_b.below q.h)
        rw [← hW2]
        clear hW2
        clear B1
        clear c_r_0 c_r_1 c_r_2 c_r_3 c_r_4 c_r_5 c_b_0 c_b_1 c_b_2 c_b_3 c_b_4 c_b_5 f_b_0 f_b_1 f_b_2 f_b_3 f_b_4 f_b_5 c_e0 c_e1 c_e2
        obtain ⟨c_r_0, c_r_1, c_r_2, c_r_3, c_r_4, c_r_5⟩ := bwc6 (k_r)
        obtain ⟨c_b_0, c_b_1, c_b_2, c_b_3, c_b_4, c_b_5⟩ := bwc6 (k_b)
        obtain ⟨f_b_0, f_b_1, f_b_2, f_b_3, f_b_4, f_b_5⟩ := bwf6 (k_b)
        have c_e0 : ∀ p : BW W2, p.w.cell? ⟨bb, off, none⟩ = some (.int .i64 v1) := bw_cell ((B2.cell (p := ⟨bb, off, none⟩) hbb).trans x0)
        have c_e1 : ∀ p : BW W2, p.w.cell? ⟨bb, off + 1, none⟩ = some (.int .i64 v2) := bw_cell ((B2.cell (p := ⟨bb, off + 1, none⟩) hbb).trans x1)
        have c_e2 : ∀ p : BW W2, p.w.cell? ⟨bb, off + 2, none⟩ = some (.int .i64 v3) := bw_cell ((B2.cell (p := ⟨bb, off + 2, none⟩) hbb).trans x2)
        obtain ⟨p2, hp2⟩ : ∃ p : BW W2, p.w = W2 := ⟨BW.start W2, rfl⟩
        rw [← hp2]
        clear hp2
        refine wp_region_bw_tail 11 (by kernel_rfl) (by kernel_rfl) (by kernel_rfl) ?_
        simp only [List.take_succ_cons, List.take_zero, List.drop_succ_cons, List.drop_zero]
        repeat (go_big_quiet_step (first
          | (go_at_call 54; (first | (with_reducible exact bw_call KJ.out _)))))
        refine wpQuiet_nil ?_
        intro _ hw'
        obtain ⟨q, rfl⟩ := hw'
        go_wp2
        go_roundw
        case rel => exact ⟨0 + 1, by omega, by go_num, bko6 (k_r.below (BW.h _)) (by omega), (by rw [HN.out]; exact bkp6 (k_b.below (BW.h _)) _ _ _ _ _ _), blp6 (bw_below B2 _) (by omega)⟩
        case measure => simp [intOf]; omega
      · have t0 : ((k : Int) == 0) = false := by rw [beq_eq_false_iff_ne]; omega
        have HN := Lib.hid (show bHull V (k + 1) = bJoin (bHull V k) (V k, V k) from if_neg hk0)
        have KJ := Lib.hid (fun w => ref10_Join (bHull V k).1.1 (bHull V k).1.2.1 (bHull V k).1.2.2 (bHull V k).2.1 (bHull V k).2.2.1 (bHull V k).2.2.2 (V k).1 (V k).2.1 (V k).2.2 (V k).1 (V k).2.1 (V k).2.2 w)
        change Hid (∀ w, Calls Tryz.prog 54 #[.agg #[.int .i64 (bHull V k).1.1, .int .i64 (bHull V k).1.2.1, .int .i64 (bHull V k).1.2.2, .int .i64 (bHull V k).2.1, .int .i64 (bHull V k).2.2.1, .int .i64 (bHull V k).2.2.2], .agg #[.int .i64 (V k).1, .int .i64 (V k).2.1, .int .i64 (V k).2.2, .int .i64 (V k).1, .int .i64 (V k).2.1, .int .i64 (V k).2.2]] w fun en w' => en = .returned (.agg #[.int .i64 (bJoin (bHull V k) (V k, V k)).1.1, .int .i64 (bJoin (bHull V k) (V k, V k)).1.2.1, .int .i64 (bJoin (bHull V k) (V k, V k)).1.2.2, .int .i64 (bJoin (bHull V k) (V k, V k)).2.1, .int .i64 (bJoin (bHull V k) (V k, V k)).2.2.1, .int .i64 (bJoin (bHull V k) (V k, V k)).2.2.2]) ∧ Below w.heap.size w w') at KJ
        obtain ⟨jn, hjn⟩ : ∃ jn, jn = bJoin (bHull V k) (V k, V k) := ⟨_, rfl⟩
        rw [← hjn] at KJ HN
        clear hjn hk0
        obtain ⟨vk, hvk⟩ : ∃ vk, vk = V k := ⟨_, rfl⟩
        rw [← hvk] at x0 x1 x2 KJ KN
        clear hvk
        obtain ⟨ak, hak⟩ : ∃ ak, ak = bHull V k := ⟨_, rfl⟩
        rw [← hak] at k_b KJ
        clear hak
        obtain ⟨v1, v2, v3⟩ := vk
        obtain ⟨⟨a1, a2, a3⟩, a4, a5, a6⟩ := ak
        obtain ⟨⟨r1, r2, r3⟩, r4, r5, r6⟩ := jn
        dsimp only at x0 x1 x2 KJ KN k_b
        have B1 := BO
        obtain ⟨c_r_0, c_r_1, c_r_2, c_r_3, c_r_4, c_r_5⟩ := bwc6 (k_r)
        obtain ⟨c_b_0, c_b_1, c_b_2, c_b_3, c_b_4, c_b_5⟩ := bwc6 (k_b)
        obtain ⟨f_b_0, f_b_1, f_b_2, f_b_3, f_b_4, f_b_5⟩ := bwf6 (k_b)
        have c_e0 : ∀ p : BW wr, p.w.cell? ⟨bb, off + k * 3, none⟩ = some (.int .i64 v1) := bw_cell ((B1.cell (p := ⟨bb, off + k * 3, none⟩) hbb).trans x0)
        have c_e1 : ∀ p : BW wr, p.w.cell? ⟨bb, off + k * 3 + 1, none⟩ = some (.int .i64 v2) := bw_cell ((B1.cell (p := ⟨bb, off + k * 3 + 1, none⟩) hbb).trans x1)
        have c_e2 : ∀ p : BW wr, p.w.cell? ⟨bb, off + k * 3 + 2, none⟩ = some (.int .i64 v3) := bw_cell ((B1.cell (p := ⟨bb, off + k * 3 + 2, none⟩) hbb).trans x2)
        obtain ⟨p1, hp1⟩ : ∃ p : BW wr, p.w = wr := ⟨BW.start wr, rfl⟩
        rw [← hp1]
        clear hp1
        go_upto_region 9 with (go_at_call 74; (with_reducible refine (bw_call KN.out _).mono ?_); rintro e w' ⟨rfl, q, rfl⟩)
        refine wp_region_bw_tail 11 (by kernel_rfl) (by kernel_rfl) (by kernel_rfl) ?_
        simp only [List.take_succ_cons, List.take_zero, List.drop_succ_cons, List.drop_zero]
        repeat (go_big_quiet_step (first
          | (go_at_call 54; (first | (with_reducible exact bw_call KJ.out _)))))
        refine wpQuiet_nil ?_
        intro _ hw'
        obtain ⟨q, rfl⟩ := hw'
        go_wp2
        go_roundw
        case rel => exact ⟨k + 1, by omega, by go_num, bko6 (k_r.below (BW.h _)) (by omega), (by rw [HN.out]; exact bkp6 (k_b.below (BW.h _)) _ _ _ _ _ _), blp6 (bw_below B1 _) (by omega)⟩
        case measure => simp [intOf]; omega
    · obtain rfl : k = n := by omega
      have t3 : decide (0 < k) = true := decide_eq_true hm
      have B1 := BO
      obtain ⟨c_b_0, c_b_1, c_b_2, c_b_3, c_b_4, c_b_5⟩ := bwc6 (k_b)
      obtain ⟨c_r_0, c_r_1, c_r_2, c_r_3, c_r_4, c_r_5⟩ := bwc6 (k_r)
      obtain ⟨f_r_0, f_r_1, f_r_2, f_r_3, f_r_4, f_r_5⟩ := bwf6 (k_r)
      obtain ⟨p1, hp1⟩ : ∃ p : BW wr, p.w = wr := ⟨BW.start wr, rfl⟩
      rw [← hp1]
      clear hp1
      go_wp2
      have kr := bkp6 (k_r.below p1.h) (.int .i64 (bHull V k).1.1) (.int .i64 (bHull V k).1.2.1) (.int .i64 (bHull V k).1.2.2) (.int .i64 (bHull V k).2.1) (.int .i64 (bHull V k).2.2.1) (.int .i64 (bHull V k).2.2.2)
      obtain ⟨rc0, rc1, rc2, rc3, rc4, rc5⟩ := rwc6 kr
      exact bodyPost_ret (v := .tuple #[.agg #[.int .i64 (bHull V k).1.1, .int .i64 (bHull V k).1.2.1, .int .i64 (bHull V k).1.2.2, .int .i64 (bHull V k).2.1, .int .i64 (bHull V k).2.2.1, .int .i64 (bHull V k).2.2.2], .bool true]) (by simp [results, Tryz.results73, go_sem, rc0, rc1, rc2, rc3, rc4, rc5]) rfl ⟨rfl, blp6 (bw_below B1 p1) (by omega)⟩

set_option maxRecDepth 100000 in
set_option maxHeartbeats 8000000 in
theorem ref13_Box_no (kk a1 a2 a3 b1 b2 b3 c1 c2 c3 r m : Int) (w : World) (KR : Hid (∀ w, Calls Tryz.prog 30 #[.agg #[.int .i64 kk, .int .i64 a1, .int .i64 a2, .int .i64 a3, .int .i64 b1, .int .i64 b2, .int .i64 b3, .int .i64 c1, .int .i64 c2, .int .i64 c3, .int .i64 r, .int .i64 m]] w fun en w' => en = .returned (.bool false) ∧ Below w.heap.size w w')) :
    Calls Tryz.prog 53 #[.agg #[.int .i64 kk, .int .i64 a1, .int .i64 a2, .int .i64 a3, .int .i64 b1, .int .i64 b2, .int .i64 b3, .int .i64 c1, .int .i64 c2, .int .i64 c3, .int .i64 r, .int .i64 m]] w fun e w' => e = .returned (.agg #[.int .i64 0, .int .i64 0, .int .i64 0, .int .i64 0, .int .i64 0, .int .i64 0]) ∧ Below w.heap.size w w' := by
  go_enter Tryz.func53, Tryz.ntmps53
  go_upto_region 1 with (fail)
  obtain ⟨W1, hW1⟩ : ∃ W, W = (w.alloc (.cells #[.int .i64 kk, .int .i64 a1, .int .i64 a2, .int .i64 a3, .int .i64 b1, .int .i64 b2, .int .i64 b3, .int .i64 c1, .int .i64 c2, .int .i64 c3, .int .i64 r, .int .i64 m] 39)).alloc (.cells #[.int .i64 0, .int .i64 0, .int .i64 0, .int .i64 0, .int .i64 0, .int .i64 0] 58) := ⟨_, rfl⟩
  obtain ⟨k_p, k_r, B1⟩ := st2 hW1
  rw [← hW1]
  clear hW1
  have l_r : w.heap.size < w.heap.size + 1 := by omega
  generalize w.heap.size + 1 = g_r at *
  obtain ⟨c_p_0, c_p_1, c_p_2, c_p_3, c_p_4, c_p_5, c_p_6, c_p_7, c_p_8, c_p_9, c_p_10, c_p_11⟩ := bwc12 (k_p)
  obtain ⟨c_r_0, c_r_1, c_r_2, c_r_3, c_r_4, c_r_5⟩ := bwc6 (k_r)
  obtain ⟨f_r_0, f_r_1, f_r_2, f_r_3, f_r_4, f_r_5⟩ := bwf6 (k_r)
  obtain ⟨p1, hp1⟩ : ∃ p : BW W1, p.w = W1 := ⟨BW.start W1, rfl⟩
  rw [← hp1]
  clear hp1
  go_wp2_with (go_at_call 30; (with_reducible refine (bw_call KR.out _).mono ?_); rintro e w' ⟨rfl, q, rfl⟩)
  have kr := bkp6 (k_r.below q.h) (.int .i64 0) (.int .i64 0) (.int .i64 0) (.int .i64 0) (.int .i64 0) (.int .i64 0)
  obtain ⟨rc0, rc1, rc2, rc3, rc4, rc5⟩ := rwc6 kr
  exact bodyPost_ret (v := .agg #[.int .i64 0, .int .i64 0, .int .i64 0, .int .i64 0, .int .i64 0, .int .i64 0]) (by simp [results, Tryz.results53, go_sem, rc0, rc1, rc2, rc3, rc4, rc5]) rfl ⟨rfl, blp6 (bw_below B1 q) (by omega)⟩

set_option maxRecDepth 100000 in
set_option maxHeartbeats 8000000 in
theorem ref13_Box_ball (kk a1 a2 a3 b1 b2 b3 c1 c2 c3 r m l1 l2 l3 h1 h2 h3 : Int) (w : World) (KR : Hid (∀ w, Calls Tryz.prog 30 #[.agg #[.int .i64 kk, .int .i64 a1, .int .i64 a2, .int .i64 a3, .int .i64 b1, .int .i64 b2, .int .i64 b3, .int .i64 c1, .int .i64 c2, .int .i64 c3, .int .i64 r, .int .i64 m]] w fun en w' => en = .returned (.bool true) ∧ Below w.heap.size w w')) (hk : ¬ kk = 1) (hv : wrap64 (a1 - r) = l1 ∧ wrap64 (a2 - r) = l2 ∧ wrap64 (a3 - r) = l3 ∧ wrap64 (a1 + r) = h1 ∧ wrap64 (a2 + r) = h2 ∧ wrap64 (a3 + r) = h3) :
    Calls Tryz.prog 53 #[.agg #[.int .i64 kk, .int .i64 a1, .int .i64 a2, .int .i64 a3, .int .i64 b1, .int .i64 b2, .int .i64 b3, .int .i64 c1, .int .i64 c2, .int .i64 c3, .int .i64 r, .int .i64 m]] w fun e w' => e = .returned (.agg #[.int .i64 l1, .int .i64 l2, .int .i64 l3, .int .i64 h1, .int .i64 h2, .int .i64 h3]) ∧ Below w.heap.size w w' := by
  have t1 : (kk == 1) = false := by rw [beq_eq_false_iff_ne]; exact hk
  have HV := Lib.hid hv
  clear hv hk
  go_enter Tryz.func53, Tryz.ntmps53
  go_upto_region 1 with (fail)
  obtain ⟨W1, hW1⟩ : ∃ W, W = (w.alloc (.cells #[.int .i64 kk, .int .i64 a1, .int .i64 a2, .int .i64 a3, .int .i64 b1, .int .i64 b2, .int .i64 b3, .int .i64 c1, .int .i64 c2, .int .i64 c3, .int .i64 r, .int .i64 m] 39)).alloc (.cells #[.int .i64 0, .int .i64 0, .int .i64 0, .int .i64 0, .int .i64 0, .int .i64 0] 58) := ⟨_, rfl⟩
  obtain ⟨k_p, k_r, B1⟩ := st2 hW1
  rw [← hW1]
  clear hW1
  have l_r : w.heap.size < w.heap.size + 1 := by omega
  generalize w.heap.size + 1 = g_r at *
  obtain ⟨c_p_0, c_p_1, c_p_2, c_p_3, c_p_4, c_p_5, c_p_6, c_p_7, c_p_8, c_p_9, c_p_10, c_p_11⟩ := bwc12 (k_p)
  obtain ⟨c_r_0, c_r_1, c_r_2, c_r_3, c_r_4, c_r_5⟩ := bwc6 (k_r)
  obtain ⟨f_r_0, f_r_1, f_r_2, f_r_3, f_r_4, f_r_5⟩ := bwf6 (k_r)
  obtain ⟨p1, hp1⟩ : ∃ p : BW W1, p.w = W1 := ⟨BW.start W1, rfl⟩
  rw [← hp1]
  clear hp1
  obtain ⟨v1, v2, v3, v4, v5, v6⟩ := HV.out
  go_wp2_with (go_at_call 30; (with_reducible refine (bw_call KR.out _).mono ?_); rintro e w' ⟨rfl, q, rfl⟩)
  have kr := bkp6 (k_r.below q.h) (.int .i64 l1) (.int .i64 l2) (.int .i64 l3) (.int .i64 h1) (.int .i64 h2) (.int .i64 h3)
  obtain ⟨rc0, rc1, rc2, rc3, rc4, rc5⟩ := rwc6 kr
  exact bodyPost_ret (v := .agg #[.int .i64 l1, .int .i64 l2, .int .i64 l3, .int .i64 h1, .int .i64 h2, .int .i64 h3]) (by simp [results, Tryz.results53, go_sem, rc0, rc1, rc2, rc3, rc4, rc5]) rfl ⟨rfl, blp6 (bw_below B1 q) (by omega)⟩

set_option maxRecDepth 100000 in
set_option maxHeartbeats 8000000 in
theorem ref13_Box_tri (kk a1 a2 a3 b1 b2 b3 c1 c2 c3 r m l1 l2 l3 h1 h2 h3 : Int) (w : World) (KR : Hid (∀ w, Calls Tryz.prog 30 #[.agg #[.int .i64 kk, .int .i64 a1, .int .i64 a2, .int .i64 a3, .int .i64 b1, .int .i64 b2, .int .i64 b3, .int .i64 c1, .int .i64 c2, .int .i64 c3, .int .i64 r, .int .i64 m]] w fun en w' => en = .returned (.bool true) ∧ Below w.heap.size w w')) (hk : kk = 1) (KO : Hid (∀ X, Below w.heap.size w X → Calls Tryz.prog 73 #[.slice (some ⟨X.heap.size, 0, none⟩) 3 3] (X.alloc (.cells #[.int .i64 a1, .int .i64 a2, .int .i64 a3, .int .i64 b1, .int .i64 b2, .int .i64 b3, .int .i64 c1, .int .i64 c2, .int .i64 c3] 37)) fun en w' => en = .returned (.tuple #[.agg #[.int .i64 l1, .int .i64 l2, .int .i64 l3, .int .i64 h1, .int .i64 h2, .int .i64 h3], .bool true]) ∧ Below X.heap.size X w')) :
    Calls Tryz.prog 53 #[.agg #[.int .i64 kk, .int .i64 a1, .int .i64 a2, .int .i64 a3, .int .i64 b1, .int .i64 b2, .int .i64 b3, .int .i64 c1, .int .i64 c2, .int .i64 c3, .int .i64 r, .int .i64 m]] w fun e w' => e = .returned (.agg #[.int .i64 l1, .int .i64 l2, .int .i64 l3, .int .i64 h1, .int .i64 h2, .int .i64 h3]) ∧ Below w.heap.size w w' := by
  have t1 : (kk == 1) = true := by rw [beq_iff_eq]; exact hk
  clear hk
  go_enter Tryz.func53, Tryz.ntmps53
  go_upto_region 1 with (fail)
  obtain ⟨W1, hW1⟩ : ∃ W, W = (w.alloc (.cells #[.int .i64 kk, .int .i64 a1, .int .i64 a2, .int .i64 a3, .int .i64 b1, .int .i64 b2, .int .i64 b3, .int .i64 c1, .int .i64 c2, .int .i64 c3, .int .i64 r, .int .i64 m] 39)).alloc (.cells #[.int .i64 0, .int .i64 0, .int .i64 0, .int .i64 0, .int .i64 0, .int .i64 0] 58) := ⟨_, rfl⟩
  obtain ⟨k_p, k_r, B1⟩ := st2 hW1
  rw [← hW1]
  clear hW1
  have l_r : w.heap.size < w.heap.size + 1 := by omega
  generalize w.heap.size + 1 = g_r at *
  obtain ⟨c_p_0, c_p_1, c_p_2, c_p_3, c_p_4, c_p_5, c_p_6, c_p_7, c_p_8, c_p_9, c_p_10, c_p_11⟩ := bwc12 (k_p)
  obtain ⟨c_r_0, c_r_1, c_r_2, c_r_3, c_r_4, c_r_5⟩ := bwc6 (k_r)
  obtain ⟨f_r_0, f_r_1, f_r_2, f_r_3, f_r_4, f_r_5⟩ := bwf6 (k_r)
  obtain ⟨p1, hp1⟩ : ∃ p : BW W1, p.w = W1 := ⟨BW.start W1, rfl⟩
  rw [← hp1]
  clear hp1
  go_upto_region 5 with (first | (go_at_call 30; (with_reducible refine (bw_call KR.out _).mono ?_); rintro e w' ⟨rfl, q, rfl⟩) | (go_at_call 73; (with_reducible refine (KO.out _ (bw_below B1 _)).mono ?_); rintro e w1 ⟨rfl, hb⟩; obtain ⟨q, rfl⟩ := bw_take hb))
  obtain ⟨W2, hW2⟩ : ∃ W, W = q.w.alloc (.cells #[.int .i64 l1, .int .i64 l2, .int .i64 l3, .int .i64 h1, .int .i64 h2, .int .i64 h3] 58) := ⟨_, rfl⟩
  have B2 : Below w.heap.size w W2 := by rw [hW2]; exact (bw_below B1 q).alloc (bw_below B1 q).size _
  have l_b : g_r < q.w.heap.size := (k_r.below q.h).lt
  have o_b : w.heap.size ≤ q.w.heap.size := (bw_below B1 q).size
  have k_p := bka hW2 (k_p.below q.h)
  have k_r := bka hW2 (k_r.below q.h)
  have k_b := bkn hW2
  rw [← hW2]
  clear hW2
  clear B1
  clear c_p_0 c_p_1 c_p_2 c_p_3 c_p_4 c_p_5 c_p_6 c_p_7 c_p_8 c_p_9 c_p_10 c_p_11 c_r_0 c_r_1 c_r_2 c_r_3 c_r_4 c_r_5 f_r_0 f_r_1 f_r_2 f_r_3 f_r_4 f_r_5
  generalize q.w.heap.size = g_b at *
  obtain ⟨c_p_0, c_p_1, c_p_2, c_p_3, c_p_4, c_p_5, c_p_6, c_p_7, c_p_8, c_p_9, c_p_10, c_p_11⟩ := bwc12 (k_p)
  obtain ⟨c_r_0, c_r_1, c_r_2, c_r_3, c_r_4, c_r_5⟩ := bwc6 (k_r)
  obtain ⟨f_r_0, f_r_1, f_r_2, f_r_3, f_r_4, f_r_5⟩ := bwf6 (k_r)
  obtain ⟨c_b_0, c_b_1, c_b_2, c_b_3, c_b_4, c_b_5⟩ := bwc6 (k_b)
  obtain ⟨p2, hp2⟩ : ∃ p : BW W2, p.w = W2 := ⟨BW.start W2, rfl⟩
  rw [← hp2]
  clear hp2
  go_wp2
  have kr := bkp6 (k_r.below p2.h) (.int .i64 l1) (.int .i64 l2) (.int .i64 l3) (.int .i64 h1) (.int .i64 h2) (.int .i64 h3)
  obtain ⟨rc0, rc1, rc2, rc3, rc4, rc5⟩ := rwc6 kr
  exact bodyPost_ret (v := .agg #[.int .i64 l1, .int .i64 l2, .int .i64 l3, .int .i64 h1, .int .i64 h2, .int .i64 h3]) (by simp [results, Tryz.results53, go_sem, rc0, rc1, rc2, rc3, rc4, rc5]) rfl ⟨rfl, blp6 (bw_below B2 p2) (by omega)⟩

theorem ref13_Box (p : Pr) (w : World) (hp : p.I) :
    Calls Tryz.prog 53 #[.agg #[.int .i64 p.k, .int .i64 p.a.1, .int .i64 p.a.2.1, .int .i64 p.a.2.2, .int .i64 p.b.1, .int .i64 p.b.2.1, .int .i64 p.b.2.2, .int .i64 p.c.1, .int .i64 p.c.2.1, .int .i64 p.c.2.2, .int .i64 p.r, .int .i64 p.m]] w fun e w' => e = .returned (.agg #[.int .i64 (pBox p).1.1, .int .i64 (pBox p).1.2.1, .int .i64 (pBox p).1.2.2, .int .i64 (pBox p).2.1, .int .i64 (pBox p).2.2.1, .int .i64 (pBox p).2.2.2]) ∧ Below w.heap.size w w' := by
  have KR := Lib.hid (fun w => ref13_Right p.k p.a.1 p.a.2.1 p.a.2.2 p.b.1 p.b.2.1 p.b.2.2 p.c.1 p.c.2.1 p.c.2.2 p.r p.m w)
  obtain ⟨kk, ⟨a1, a2, a3⟩, ⟨b1, b2, b3⟩, ⟨c1, c2, c3⟩, r, m⟩ := p
  dsimp only at KR ⊢
  by_cases h : pRight (Pr.mk kk (a1, a2, a3) (b1, b2, b3) (c1, c2, c3) r m) = true
  · rw [h] at KR
    by_cases hk : kk = 1
    · have e : pBox (Pr.mk kk (a1, a2, a3) (b1, b2, b3) (c1, c2, c3) r m) = bOf (tri3 (a1, a2, a3) (b1, b2, b3) (c1, c2, c3)) 3 := by unfold pBox; rw [if_pos h, if_pos hk]
      have hn : ∀ k, k < 3 → nrT (tri3 (a1, a2, a3) (b1, b2, b3) (c1, c2, c3) k) = true := by
        obtain ⟨q1, q2, q3⟩ := pl3_iff.1 (pRight_tri h hk).1
        rw [plc_iff] at q1 q2 q3
        dsimp only at q1 q2 q3
        intro k hk
        rcases (by omega : k = 0 ∨ k = 1 ∨ k = 2) with rfl | rfl | rfl <;> (show nrT (_, _, _) = true; rw [nrT_iff]; dsimp only; omega)
      have e2 : pBox (Pr.mk kk (a1, a2, a3) (b1, b2, b3) (c1, c2, c3) r m) = bHull (tri3 (a1, a2, a3) (b1, b2, b3) (c1, c2, c3)) 3 := by
        rw [e]; unfold bOf
        rw [if_pos]
        unfold bOfOk
        rw [Bool.and_eq_true, List.all_eq_true]
        exact ⟨rfl, fun k hk => hn k (List.mem_range.1 hk)⟩
      rw [e2]
      refine ref13_Box_tri kk a1 a2 a3 b1 b2 b3 c1 c2 c3 r m _ _ _ _ _ _ w KR hk (Lib.hid fun X hX => ?_)
      have kb : Bk (X.alloc (.cells #[.int .i64 a1, .int .i64 a2, .int .i64 a3, .int .i64 b1, .int .i64 b2, .int .i64 b3, .int .i64 c1, .int .i64 c2, .int .i64 c3] 37)) X.heap.size 37 #[.int .i64 a1, .int .i64 a2, .int .i64 a3, .int .i64 b1, .int .i64 b2, .int .i64 b3, .int .i64 c1, .int .i64 c2, .int .i64 c3] := Bk.new _ _ _
      have B0 : Below X.heap.size X (X.alloc (.cells #[.int .i64 a1, .int .i64 a2, .int .i64 a3, .int .i64 b1, .int .i64 b2, .int .i64 b3, .int .i64 c1, .int .i64 c2, .int .i64 c3] 37)) := (Below.refl _ _).alloc (Nat.le_refl _) _
      refine (ref10_Of_near X.heap.size 0 3 3 (tri3 (a1, a2, a3) (b1, b2, b3) (c1, c2, c3)) _ kb.lt (fun k hk => ?_) hn (by omega) (by omega)).mono (fun e w' h => ⟨h.1, B0.trans (h.2.mono B0.size)⟩)
      rcases (by omega : k = 0 ∨ k = 1 ∨ k = 2) with rfl | rfl | rfl <;> exact ⟨kb.cell rfl, kb.cell rfl, kb.cell rfl⟩
    · have e : pBox (Pr.mk kk (a1, a2, a3) (b1, b2, b3) (c1, c2, c3) r m) = ballB (a1, a2, a3) r := by unfold pBox; rw [if_pos h, if_neg hk]
      have hb := (pRight_ball h hk).2
      rw [e]
      refine ref13_Box_ball kk a1 a2 a3 b1 b2 b3 c1 c2 c3 r m _ _ _ _ _ _ w KR hk ?_
      unfold ballR at hb
      simp only [Bool.and_eq_true, decide_eq_true_eq] at hb
      obtain ⟨q1, q2⟩ := hb
      rw [plc_iff] at q1
      dsimp only at q1
      exact ⟨IntWalk.wrap64_in _ (by omega), IntWalk.wrap64_in _ (by omega), IntWalk.wrap64_in _ (by omega), IntWalk.wrap64_in _ (by omega), IntWalk.wrap64_in _ (by omega), IntWalk.wrap64_in _ (by omega)⟩
  · have h : pRight (Pr.mk kk (a1, a2, a3) (b1, b2, b3) (c1, c2, c3) r m) = false := by simpa using h
    have e : pBox (Pr.mk kk (a1, a2, a3) (b1, b2, b3) (c1, c2, c3) r m) = ((0, 0, 0), (0, 0, 0)) := by unfold pBox; rw [if_neg (by rw [h]; simp)]
    rw [h] at KR
    rw [e]
    exact ref13_Box_no kk a1 a2 a3 b1 b2 b3 c1 c2 c3 r m w KR

theorem wAt_take {wl sl : List Nat} {k : Nat} (h : k < sl.length) : wAt wl (sl.take (k + 1)) = wAt wl (sl.take k) ++ [wl.getD (sl.getD k 0) 0] := by
  unfold wAt
  rw [List.take_add_one, List.map_append, List.getElem?_eq_getElem h, List.getD_eq_getElem?_getD (l := sl), List.getElem?_eq_getElem h]
  rfl

set_option maxRecDepth 100000 in
set_option maxHeartbeats 8000000 in
theorem ref16_at (a b : Option Addr) (ca cb : Nat) (wl sl : List Nat) (w : World) (ha : IntSlice w a wl.length (fun i => ((wl.getD i 0 : Nat) : Int))) (hb : IntSlice w b sl.length (fun i => ((sl.getD i 0 : Nat) : Int))) (hs : ∀ k ∈ sl, k < wl.length) (hn : sl.length ≤ 1024) :
    Calls Tryz.prog 35 #[.slice a wl.length ca, .slice b sl.length cb] w fun e w' => ∃ u, e = .returned u ∧ Ints w' w.heap.size u (wAt wl sl) ∧ Below w.heap.size w w' := by
  have HA := Lib.hid ha
  have HB := Lib.hid hb
  have HS := Lib.hid hs
  obtain ⟨i0, hi0, hz0, hz1, hz2⟩ := info_parts int_info15
  obtain ⟨m, hmm⟩ : ∃ m, m = sl.length := ⟨_, rfl⟩
  obtain ⟨n, hnn⟩ : ∃ n, n = wl.length := ⟨_, rfl⟩
  rw [← hmm] at hn HB ⊢
  rw [← hnn] at HA HS ⊢
  have HM := Lib.hid hmm
  clear ha hb hs hmm hnn
  go_enter Tryz.func35, Tryz.ntmps35
  go_wp2
  go_loopw [5, 6] (fun u i wr => ∃ k : Nat, k ≤ m ∧ i = .int .i64 k ∧ Ints wr w.heap.size u (wAt wl (sl.take k)) ∧ Below w.heap.size w wr) (fun _ i _ => m - (intOf i).toNat)
  case atStart => exact ⟨0, by omega, rfl, World.ownsRow_nil _ _ _ _, Below.refl _ _⟩
  case round =>
    obtain ⟨k, hk, rfl, hu, BO⟩ := hrel
    by_cases hlt : k < m
    · obtain ⟨bb, ob, rfl, hcb, hbb⟩ := HB.out.resolve_left (by omega)
      have y0 : w.cell? ⟨bb, ob + k, none⟩ = some (.int .i64 ((sl.getD k 0 : Nat) : Int)) := (hcb k hlt).1
      have hkl : k < sl.length := by have := HM.out; omega
      have hin : sl.getD k 0 < n := HS.out _ (by rw [List.getD_eq_getElem?_getD, List.getElem?_eq_getElem hkl]; exact List.getElem_mem _)
      obtain ⟨ba, oa, rfl, hca, hba⟩ := HA.out.resolve_left (by omega)
      have z0 : w.cell? ⟨ba, oa + sl.getD k 0, none⟩ = some (.int .i64 ((wl.getD (sl.getD k 0) 0 : Nat) : Int)) := (hca _ hin).1
      have hT := wAt_take (wl := wl) hkl
      clear hcb hca
      generalize sl.getD k 0 = j at *
      generalize wl.getD j 0 = v at *
      have hlu : (wAt wl (sl.take k)).length ≤ k := by rw [wAt_len, List.length_take]; omega
      have HT := Lib.hid hT
      clear hT
      have B1 := BO
      have c_y : ∀ p : BW wr, p.w.cell? ⟨bb, ob + k, none⟩ = some (.int .i64 (j : Int)) := bw_cell ((B1.cell (p := ⟨bb, ob + k, none⟩) hbb).trans y0)
      have c_z : ∀ p : BW wr, p.w.cell? ⟨ba, oa + j, none⟩ = some (.int .i64 (v : Int)) := bw_cell ((B1.cell (p := ⟨ba, oa + j, none⟩) hba).trans z0)
      obtain ⟨p1, hp1⟩ : ∃ p : BW wr, p.w = wr := ⟨BW.start wr, rfl⟩
      rw [← hp1]
      clear hp1
      go_wp2_with (at_builtin; refine wpList_append_at rfl _ _ 26 rfl w.heap.size 3 i0 (.int .i64 0) 1 8 Tryz.underlying26 hi0 hz0 hz1 hz2 rfl (by decide) _ _ _ rfl (World.ownsRow.alloc (hu.below (BW.h _)) _) ⟨_, 0, none⟩ 1 1 [.int .i64 (v : Int)] rfl rfl ?g1 ?g2 ?g3 ?g4 ?g5 ?_)
      case g1 => exact cell_one_new _ _ _
      case g2 => first | (intro u hu; simp only [List.mem_cons, List.not_mem_nil, or_false] at hu; rw [hu]; rfl) | rfl | (simp [Value.oneCell'])
      case g3 => unfold maxLen; omega
      case g4 => omega
      case g5 => have := (bw_below B1 p1).size; simp; omega
      intro v' w1 hown hgrow hat
      have hb1 : Below w.heap.size w w1 := ((bw_below B1 p1).alloc (bw_below B1 p1).size _).grown hgrow (by have := (bw_below B1 p1).size; simp; omega) (fun j ej => by have := (World.ownsRow.lt hu _ ej).1; omega)
      have r1 : Ints w1 w.heap.size v' (wAt wl (sl.take k) ++ [v]) := by unfold Ints; rw [List.length_append, List.map_append]; exact hown
      go_wp2
      go_roundw
      case rel => exact ⟨k + 1, by omega, by go_num, (by rw [HT.out]; exact r1), hb1⟩
      case measure => simp [intOf]; omega
    · obtain rfl : k = m := by omega
      go_wp2
      go_ret
      have e : sl.take k = sl := by rw [HM.out, List.take_length]
      rw [e] at hu
      exact ⟨_, rfl, hu, BO⟩

end
end Go.Proofs.YtomlcglnkdfemaaGreat
