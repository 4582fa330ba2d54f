/- Contract of the document's own best split, layer 15. -/
import Derived.Test.YtfdolgdfadipeaaRefb15
namespace Go.Proofs.Ytfdolgdfadipeaa
open Go.RowKit Go.Proofs.Sky
set_option linter.unusedVariables false
set_option linter.unusedSimpArgs false

set_option maxRecDepth 100000 in
set_option maxHeartbeats 4000000 in
theorem ref15_Best_none (a : Option Addr) (n cap : Nat) (V : Nat → Bx) (w : World) (hs : Boxes w (.slice a n cap) n V) (hn : n ≤ 1024) (hr : allR (bls V n) = false) (KR : Hid (∀ (b : Bx) w, Calls Try.prog 19 #[.agg #[.int .i64 b.1.1, .int .i64 b.1.2.1, .int .i64 b.1.2.2, .int .i64 b.2.1, .int .i64 b.2.2.1, .int .i64 b.2.2.2]] w fun en w' => en = .returned (.bool (bRight b)) ∧ Below w.heap.size w w')) :
    Calls Try.prog 10 #[.slice a n cap] w fun e w' => e = .returned (.tuple #[.agg #[.int .i64 0, .int .i64 0, .int .i64 0, .int .i64 0], .bool false]) ∧ Below w.heap.size w w' := by
  have HS := Lib.hid hs
  have t1 : decide ((1024 : Int) < n) = false := decide_eq_false (by omega)
  clear hs
  go_enter Try.func10, Try.ntmps10
  go_upto_region 1 with (fail)
  obtain ⟨W1, hW1⟩ : ∃ W, W = w.alloc (.cells #[.int .i64 0, .int .i64 0, .int .i64 0, .int .i64 0] 24) := ⟨_, rfl⟩
  obtain ⟨k_r, B1⟩ := st1 hW1
  rw [← hW1]
  clear hW1
  obtain ⟨c_r_0, c_r_1, c_r_2, c_r_3⟩ := bwc4 (k_r)
  obtain ⟨f_r_0, f_r_1, f_r_2, f_r_3⟩ := bwf4 (k_r)
  obtain ⟨p1, hp1⟩ : ∃ p : BW W1, p.w = W1 := ⟨BW.start W1, rfl⟩
  rw [← hp1]
  clear hp1
  go_upto_region 2 with (fail)
  obtain ⟨W2, hW2⟩ : ∃ W, W = p1.w.alloc (.cells #[.int .i64 0, .int .i64 0, .int .i64 0, .int .i64 0] 24) := ⟨_, rfl⟩
  have B2 : Below w.heap.size w W2 := by rw [hW2]; exact (bw_below B1 p1).alloc (bw_below B1 p1).size _
  have l_e : w.heap.size < p1.w.heap.size := (k_r.below p1.h).lt
  have o_e : w.heap.size ≤ p1.w.heap.size := (bw_below B1 p1).size
  have k_r := bka hW2 (k_r.below p1.h)
  have k_e := bkn hW2
  rw [← hW2]
  clear hW2
  clear B1
  clear c_r_0 c_r_1 c_r_2 c_r_3 f_r_0 f_r_1 f_r_2 f_r_3
  generalize p1.w.heap.size = g_e at *
  obtain ⟨c_r_0, c_r_1, c_r_2, c_r_3⟩ := bwc4 (k_r)
  obtain ⟨f_r_0, f_r_1, f_r_2, f_r_3⟩ := bwf4 (k_r)
  obtain ⟨c_e_0, c_e_1, c_e_2, c_e_3⟩ := bwc4 (k_e)
  obtain ⟨p2, hp2⟩ : ∃ p : BW W2, p.w = W2 := ⟨BW.start W2, rfl⟩
  rw [← hp2]
  clear hp2
  go_wp2
  go_loopw [7] (fun i wr => ∃ (k : Nat) (q : BW W2), k ≤ n ∧ i = .int .i64 k ∧ wr = q.w ∧ ∀ j, j < k → bRight (V j) = true) (fun i _ => n - (intOf i).toNat)
  case atStart => exact ⟨0, p2, by omega, rfl, rfl, fun j h => absurd h (by omega)⟩
  case round =>
    obtain ⟨k, p3, hk, rfl, rfl, hall⟩ := hrel
    have HALL := Lib.hid hall
    clear hall
    by_cases hlt : k < n
    · have KRk := Lib.hid (fun w => KR.out (V k) w)
      obtain ⟨_, _, hsl, _, hS⟩ := HS.out
      cases hsl
      obtain ⟨bb, off, rfl, hbb, hcell⟩ := hS.resolve_left (by omega)
      have x0 : w.cell? ⟨bb, off + k * 6, none⟩ = some (.int .i64 (V k).1.1) := hcell k hlt 0 (by omega)
      have x1 : w.cell? ⟨bb, off + k * 6 + 1, none⟩ = some (.int .i64 (V k).1.2.1) := hcell k hlt 1 (by omega)
      have x2 : w.cell? ⟨bb, off + k * 6 + 2, none⟩ = some (.int .i64 (V k).1.2.2) := hcell k hlt 2 (by omega)
      have x3 : w.cell? ⟨bb, off + k * 6 + 3, none⟩ = some (.int .i64 (V k).2.1) := hcell k hlt 3 (by omega)
      have x4 : w.cell? ⟨bb, off + k * 6 + 4, none⟩ = some (.int .i64 (V k).2.2.1) := hcell k hlt 4 (by omega)
      have x5 : w.cell? ⟨bb, off + k * 6 + 5, none⟩ = some (.int .i64 (V k).2.2.2) := hcell k hlt 5 (by omega)
      clear hcell hS
      change Hid (∀ w, Calls Try.prog 19 #[.agg #[.int .i64 (V k).1.1, .int .i64 (V k).1.2.1, .int .i64 (V k).1.2.2, .int .i64 (V k).2.1, .int .i64 (V k).2.2.1, .int .i64 (V k).2.2.2]] w fun en w' => en = .returned (.bool (bRight (V k))) ∧ Below w.heap.size w w') at KRk
      obtain ⟨z, hz⟩ : ∃ z, z = bRight (V k) := ⟨_, rfl⟩
      rw [← hz] at KRk
      obtain ⟨vk, hvk⟩ : ∃ vk, vk = V k := ⟨_, rfl⟩
      rw [← hvk] at x0 x1 x2 x3 x4 x5 KRk hz
      have HVK := Lib.hid hvk
      clear hvk
      obtain ⟨⟨v1, v2, v3⟩, v4, v5, v6⟩ := vk
      dsimp only at x0 x1 x2 x3 x4 x5 KRk
      have HZ := Lib.hid hz
      clear hz
      have c_e0 : ∀ p : BW W2, p.w.cell? ⟨bb, off + k * 6, none⟩ = some (.int .i64 v1) := bw_cell ((B2.cell (p := ⟨bb, off + k * 6, none⟩) hbb).trans x0)
      have c_e1 : ∀ p : BW W2, p.w.cell? ⟨bb, off + k * 6 + 1, none⟩ = some (.int .i64 v2) := bw_cell ((B2.cell (p := ⟨bb, off + k * 6 + 1, none⟩) hbb).trans x1)
      have c_e2 : ∀ p : BW W2, p.w.cell? ⟨bb, off + k * 6 + 2, none⟩ = some (.int .i64 v3) := bw_cell ((B2.cell (p := ⟨bb, off + k * 6 + 2, none⟩) hbb).trans x2)
      have c_e3 : ∀ p : BW W2, p.w.cell? ⟨bb, off + k * 6 + 3, none⟩ = some (.int .i64 v4) := bw_cell ((B2.cell (p := ⟨bb, off + k * 6 + 3, none⟩) hbb).trans x3)
      have c_e4 : ∀ p : BW W2, p.w.cell? ⟨bb, off + k * 6 + 4, none⟩ = some (.int .i64 v5) := bw_cell ((B2.cell (p := ⟨bb, off + k * 6 + 4, none⟩) hbb).trans x4)
      have c_e5 : ∀ p : BW W2, p.w.cell? ⟨bb, off + k * 6 + 5, none⟩ = some (.int .i64 v6) := bw_cell ((B2.cell (p := ⟨bb, off + k * 6 + 5, none⟩) hbb).trans x5)
      cases z with
      | false =>
        clear HS
        go_wp2_with (first
          | (go_at_call 19; (first | (with_reducible refine (bw_call KRk.out _).mono ?_)); rintro e w' ⟨rfl, q, rfl⟩))
        have kr := bkp4 (k_r.below q.h) (.int .i64 0) (.int .i64 0) (.int .i64 0) (.int .i64 0)
        obtain ⟨rc0, rc1, rc2, rc3⟩ := rwc4 kr
        exact bodyPost_ret (v := .tuple #[.agg #[.int .i64 0, .int .i64 0, .int .i64 0, .int .i64 0], .bool false]) (by simp [results, Try.results10, go_sem, rc0, rc1, rc2, rc3]) rfl ⟨rfl, blp4 (bw_below B2 q) (by omega)⟩
      | true =>
        go_wp2_with (first
          | (go_at_call 19; (first | (with_reducible refine (bw_call KRk.out _).mono ?_)); rintro e w' ⟨rfl, q, rfl⟩))
        go_roundw
        case rel => exact ⟨k + 1, q, by omega, by go_num, rfl, fun j hj => by
          by_cases e : j < k
          · exact HALL.out j e
          · obtain rfl : j = k := by omega
            rw [← HVK.out]; exact HZ.out.symm⟩
        case measure => simp [intOf]; omega
    · obtain rfl : k = n := by omega
      exfalso
      have : allR (bls V k) = true := by
        unfold allR
        rw [List.all_eq_true]
        intro b hb
        obtain ⟨j, hj, rfl⟩ := bls_mem.1 hb
        exact HALL.out j hj
      rw [this] at hr
      cases hr

set_option maxRecDepth 100000 in
set_option maxHeartbeats 4000000 in
theorem ref15_Best_empty (a : Option Addr) (cap : Nat) (w : World) :
    Calls Try.prog 10 #[.slice a 0 cap] w fun e w' => e = .returned (.tuple #[.agg #[.int .i64 0, .int .i64 0, .int .i64 0, .int .i64 0], .bool false]) ∧ Below w.heap.size w w' := by
  go_enter Try.func10, Try.ntmps10
  go_upto_region 1 with (fail)
  obtain ⟨W1, hW1⟩ : ∃ W, W = w.alloc (.cells #[.int .i64 0, .int .i64 0, .int .i64 0, .int .i64 0] 24) := ⟨_, rfl⟩
  obtain ⟨k_r, B1⟩ := st1 hW1
  rw [← hW1]
  clear hW1
  obtain ⟨c_r_0, c_r_1, c_r_2, c_r_3⟩ := bwc4 (k_r)
  obtain ⟨f_r_0, f_r_1, f_r_2, f_r_3⟩ := bwf4 (k_r)
  obtain ⟨p1, hp1⟩ : ∃ p : BW W1, p.w = W1 := ⟨BW.start W1, rfl⟩
  rw [← hp1]
  clear hp1
  go_upto_region 2 with (fail)
  obtain ⟨W2, hW2⟩ : ∃ W, W = p1.w.alloc (.cells #[.int .i64 0, .int .i64 0, .int .i64 0, .int .i64 0] 24) := ⟨_, rfl⟩
  have B2 : Below w.heap.size w W2 := by rw [hW2]; exact (bw_below B1 p1).alloc (bw_below B1 p1).size _
  have l_e : w.heap.size < p1.w.heap.size := (k_r.below p1.h).lt
  have o_e : w.heap.size ≤ p1.w.heap.size := (bw_below B1 p1).size
  have k_r := bka hW2 (k_r.below p1.h)
  have k_e := bkn hW2
  rw [← hW2]
  clear hW2
  clear B1
  clear c_r_0 c_r_1 c_r_2 c_r_3 f_r_0 f_r_1 f_r_2 f_r_3
  generalize p1.w.heap.size = g_e at *
  obtain ⟨c_r_0, c_r_1, c_r_2, c_r_3⟩ := bwc4 (k_r)
  obtain ⟨f_r_0, f_r_1, f_r_2, f_r_3⟩ := bwf4 (k_r)
  obtain ⟨c_e_0, c_e_1, c_e_2, c_e_3⟩ := bwc4 (k_e)
  obtain ⟨p2, hp2⟩ : ∃ p : BW W2, p.w = W2 := ⟨BW.start W2, rfl⟩
  rw [← hp2]
  clear hp2
  go_wp2
  refine wp_loop_rounds 1 ?_
  rw [rounds_succ]
  go_wp2
  refine wp_loop_rounds 1 ?_
  rw [rounds_succ]
  go_wp2
  have kr := bkp4 (k_r.below p2.h) (.int .i64 0) (.int .i64 0) (.int .i64 0) (.int .i64 0)
  obtain ⟨rc0, rc1, rc2, rc3⟩ := rwc4 kr
  exact bodyPost_ret (v := .tuple #[.agg #[.int .i64 0, .int .i64 0, .int .i64 0, .int .i64 0], .bool false]) (by simp [results, Try.results10, go_sem, rc0, rc1, rc2, rc3]) rfl ⟨rfl, blp4 (bw_below B2 p2) (by omega)⟩

set_option maxRecDepth 100000 in
set_option maxHeartbeats 4000000 in
theorem ref15_Best_yes (a : Option Addr) (n cap : Nat) (V : Nat → Bx) (w : World) (hs : Boxes w (.slice a n cap) n V) (hn : n ≤ 1024) (hpos : 0 < n) (HR : Hid (∀ k, k < n → bRight (V k) = true)) (KR : Hid (∀ (b : Bx) w, Calls Try.prog 19 #[.agg #[.int .i64 b.1.1, .int .i64 b.1.2.1, .int .i64 b.1.2.2, .int .i64 b.2.1, .int .i64 b.2.2.1, .int .i64 b.2.2.2]] w fun en w' => en = .returned (.bool (bRight b)) ∧ Below w.heap.size w w')) (KM : Hid (∀ (k j : Nat) w, Calls Try.prog 25 #[.agg #[.int .i64 (V j).1.1, .int .i64 (V j).1.2.1, .int .i64 (V j).1.2.2, .int .i64 (V j).2.1, .int .i64 (V j).2.2.1, .int .i64 (V j).2.2.2], .int .i64 (k : Int)] w fun en w' => en = .returned (.int .i64 (bMid (V j) k)) ∧ Below w.heap.size w w')) (KC : Hid (∀ (k j : Nat) X, k < 3 → j < 8 → Below w.heap.size w X → Calls Try.prog 8 #[.agg #[.int .i64 (k : Int), .int .i64 (j : Int), .int .i64 (mnAt V k n), .int .i64 (mxAt V k n)], .slice a n cap] X fun e w' => e = .returned (.tuple #[.int .i64 (sCost k (mnAt V k n) (mxAt V k n) j (bls V n)), .bool (sOk k (mnAt V k n) (mxAt V k n) j (bls V n))]) ∧ Below X.heap.size X w')) :
    Calls Try.prog 10 #[.slice a n cap] w fun e w' => e = .returned (.tuple #[.agg #[.int .i64 (bOut V n 3).1.1, .int .i64 (bOut V n 3).1.2.1, .int .i64 (bOut V n 3).1.2.2.1, .int .i64 (bOut V n 3).1.2.2.2], .bool (bOut V n 3).2.2]) ∧ Below w.heap.size w w' := by
  have HS := Lib.hid hs
  have t1 : decide ((1024 : Int) < n) = false := decide_eq_false (by omega)
  clear hs
  go_enter Try.func10, Try.ntmps10
  go_upto_region 1 with (fail)
  obtain ⟨W1, hW1⟩ : ∃ W, W = w.alloc (.cells #[.int .i64 0, .int .i64 0, .int .i64 0, .int .i64 0] 24) := ⟨_, rfl⟩
  obtain ⟨k_r, B1⟩ := st1 hW1
  rw [← hW1]
  clear hW1
  obtain ⟨c_r_0, c_r_1, c_r_2, c_r_3⟩ := bwc4 (k_r)
  obtain ⟨f_r_0, f_r_1, f_r_2, f_r_3⟩ := bwf4 (k_r)
  obtain ⟨p1, hp1⟩ : ∃ p : BW W1, p.w = W1 := ⟨BW.start W1, rfl⟩
  rw [← hp1]
  clear hp1
  go_upto_region 2 with (fail)
  obtain ⟨W2, hW2⟩ : ∃ W, W = p1.w.alloc (.cells #[.int .i64 0, .int .i64 0, .int .i64 0, .int .i64 0] 24) := ⟨_, rfl⟩
  have B2 : Below w.heap.size w W2 := by rw [hW2]; exact (bw_below B1 p1).alloc (bw_below B1 p1).size _
  have l_e : w.heap.size < p1.w.heap.size := (k_r.below p1.h).lt
  have o_e : w.heap.size ≤ p1.w.heap.size := (bw_below B1 p1).size
  have k_r := bka hW2 (k_r.below p1.h)
  have k_e := bkn hW2
  rw [← hW2]
  clear hW2
  clear B1
  clear c_r_0 c_r_1 c_r_2 c_r_3 f_r_0 f_r_1 f_r_2 f_r_3
  generalize p1.w.heap.size = g_e at *
  obtain ⟨c_r_0, c_r_1, c_r_2, c_r_3⟩ := bwc4 (k_r)
  obtain ⟨c_e_0, c_e_1, c_e_2, c_e_3⟩ := bwc4 (k_e)
  obtain ⟨p2, hp2⟩ : ∃ p : BW W2, p.w = W2 := ⟨BW.start W2, rfl⟩
  rw [← hp2]
  clear hp2
  go_wp2
  go_loopw [7] (fun i wr => ∃ (k : Nat) (q : BW W2), k ≤ n ∧ i = .int .i64 k ∧ wr = q.w ∧ ∀ j, j < k → bRight (V j) = true) (fun i _ => n - (intOf i).toNat)
  case atStart => exact ⟨0, p2, by omega, rfl, rfl, fun j h => absurd h (by omega)⟩
  case round =>
    obtain ⟨k, p3, hk, rfl, rfl, hall⟩ := hrel
    have HALL := Lib.hid hall
    clear hall
    by_cases hlt : k < n
    · have KRk := Lib.hid (fun w => KR.out (V k) w)
      obtain ⟨_, _, hsl, _, hS⟩ := HS.out
      cases hsl
      obtain ⟨bb, off, rfl, hbb, hcell⟩ := hS.resolve_left (by omega)
      have x0 : w.cell? ⟨bb, off + k * 6, none⟩ = some (.int .i64 (V k).1.1) := hcell k hlt 0 (by omega)
      have x1 : w.cell? ⟨bb, off + k * 6 + 1, none⟩ = some (.int .i64 (V k).1.2.1) := hcell k hlt 1 (by omega)
      have x2 : w.cell? ⟨bb, off + k * 6 + 2, none⟩ = some (.int .i64 (V k).1.2.2) := hcell k hlt 2 (by omega)
      have x3 : w.cell? ⟨bb, off + k * 6 + 3, none⟩ = some (.int .i64 (V k).2.1) := hcell k hlt 3 (by omega)
      have x4 : w.cell? ⟨bb, off + k * 6 + 4, none⟩ = some (.int .i64 (V k).2.2.1) := hcell k hlt 4 (by omega)
      have x5 : w.cell? ⟨bb, off + k * 6 + 5, none⟩ = some (.int .i64 (V k).2.2.2) := hcell k hlt 5 (by omega)
      clear hcell hS
      change Hid (∀ w, Calls Try.prog 19 #[.agg #[.int .i64 (V k).1.1, .int .i64 (V k).1.2.1, .int .i64 (V k).1.2.2, .int .i64 (V k).2.1, .int .i64 (V k).2.2.1, .int .i64 (V k).2.2.2]] w fun en w' => en = .returned (.bool (bRight (V k))) ∧ Below w.heap.size w w') at KRk
      obtain ⟨z, hz⟩ : ∃ z, z = bRight (V k) := ⟨_, rfl⟩
      rw [← hz] at KRk
      obtain ⟨vk, hvk⟩ : ∃ vk, vk = V k := ⟨_, rfl⟩
      rw [← hvk] at x0 x1 x2 x3 x4 x5 KRk hz
      have HVK := Lib.hid hvk
      clear hvk
      obtain ⟨⟨v1, v2, v3⟩, v4, v5, v6⟩ := vk
      dsimp only at x0 x1 x2 x3 x4 x5 KRk
      have HZ := Lib.hid hz
      clear hz
      have c_e0 : ∀ p : BW W2, p.w.cell? ⟨bb, off + k * 6, none⟩ = some (.int .i64 v1) := bw_cell ((B2.cell (p := ⟨bb, off + k * 6, none⟩) hbb).trans x0)
      have c_e1 : ∀ p : BW W2, p.w.cell? ⟨bb, off + k * 6 + 1, none⟩ = some (.int .i64 v2) := bw_cell ((B2.cell (p := ⟨bb, off + k * 6 + 1, none⟩) hbb).trans x1)
      have c_e2 : ∀ p : BW W2, p.w.cell? ⟨bb, off + k * 6 + 2, none⟩ = some (.int .i64 v3) := bw_cell ((B2.cell (p := ⟨bb, off + k * 6 + 2, none⟩) hbb).trans x2)
      have c_e3 : ∀ p : BW W2, p.w.cell? ⟨bb, off + k * 6 + 3, none⟩ = some (.int .i64 v4) := bw_cell ((B2.cell (p := ⟨bb, off + k * 6 + 3, none⟩) hbb).trans x3)
      have c_e4 : ∀ p : BW W2, p.w.cell? ⟨bb, off + k * 6 + 4, none⟩ = some (.int .i64 v5) := bw_cell ((B2.cell (p := ⟨bb, off + k * 6 + 4, none⟩) hbb).trans x4)
      have c_e5 : ∀ p : BW W2, p.w.cell? ⟨bb, off + k * 6 + 5, none⟩ = some (.int .i64 v6) := bw_cell ((B2.cell (p := ⟨bb, off + k * 6 + 5, none⟩) hbb).trans x5)
      cases z with
      | false =>
        exact absurd (HR.out k hlt) (by rw [← HVK.out, ← HZ.out]; simp)
      | true =>
        go_wp2_with (first
          | (go_at_call 19; (first | (with_reducible refine (bw_call KRk.out _).mono ?_)); rintro e w' ⟨rfl, q, rfl⟩))
        go_roundw
        case rel => exact ⟨k + 1, q, by omega, by go_num, rfl, fun j hj => by
          by_cases e : j < k
          · exact HALL.out j e
          · obtain rfl : j = k := by omega
            rw [← HVK.out]; exact HZ.out.symm⟩
        case measure => simp [intOf]; omega
    · obtain rfl : k = n := by omega
      clear HALL HR KR
      have BW3 : Below w.heap.size w p3.w := bw_below B2 p3
      have k_r := k_r.below p3.h
      have k_e := k_e.below p3.h
      clear B2
      go_wp2
      go_loopw [5, 6, 8] (fun lv fv i wr => ∃ (ka : Nat) (e1 e2 e3 e4 ls : Int) (fd : Bool), ka ≤ 3 ∧ i = .int .i64 ka ∧ ((e1, e2, e3, e4), ls, fd) = bOut V k ka ∧ lv = .int .i64 ls ∧ fv = .bool fd ∧ Bk wr w.heap.size 24 #[.int .i64 0, .int .i64 0, .int .i64 0, .int .i64 0] ∧ Bk wr g_e 24 #[.int .i64 e1, .int .i64 e2, .int .i64 e3, .int .i64 e4] ∧ Below w.heap.size w wr) (fun _ _ i _ => 3 - (intOf i).toNat)
      case atStart => exact ⟨0, 0, 0, 0, 0, 0, false, by omega, rfl, rfl, rfl, rfl, k_r, k_e, BW3⟩
      case round =>
        clear k_r k_e BW3
        obtain ⟨ka, e1, e2, e3, e4, ls, fd, hka, rfl, hst, rfl, rfl, k_r, k_e, BO⟩ := hrel
        by_cases hk3 : ka < 3
        · have hnx : bOut V k (ka + 1) = bIn ka (mnV V k ka) (mxV V k ka) (bls V k) (bOut V k ka) 7 := rfl
          rw [← hst] at hnx
          have hmn : mnV V k ka = mnAt V ka k ∧ mxV V k ka = mxAt V ka k := by unfold mnV mxV; rw [if_neg (by omega), if_neg (by omega)]; exact ⟨rfl, rfl⟩
          rw [hmn.1, hmn.2] at hnx
          have KCk := Lib.hid (fun (j : Nat) X (hj : j < 8) hX => KC.out ka j X hk3 hj hX)
          have HST := Lib.hid hst
          have HNX := Lib.hid hnx
          have HKA := Lib.hid hk3
          have KMk := Lib.hid (fun j w => KM.out ka j w)
          have HP := Lib.hid hpos
          have tk : decide ((ka : Int) < 3) = true := decide_eq_true (by omega)
          have tp : decide ((0 : Int) < (k : Int)) = true := decide_eq_true (by omega)
          clear hst hnx hmn
          have KM0 := Lib.hid (fun w => KMk.out 0 w)
          obtain ⟨bb, off, rfl, hbb, x0, x1, x2, x3, x4, x5⟩ := boxes_at HS.out hpos
          rw [Nat.zero_mul, Nat.add_zero] at x0 x1 x2 x3 x4 x5
          have HMI := Lib.hid (show mnAt V ka 0 = bMid (V 0) ka ∧ mxAt V ka 0 = bMid (V 0) ka from ⟨rfl, rfl⟩)
          change Hid (∀ w, Calls Try.prog 25 #[.agg #[.int .i64 (V 0).1.1, .int .i64 (V 0).1.2.1, .int .i64 (V 0).1.2.2, .int .i64 (V 0).2.1, .int .i64 (V 0).2.2.1, .int .i64 (V 0).2.2.2], .int .i64 (ka : Int)] w fun en w' => en = .returned (.int .i64 (bMid (V 0) ka)) ∧ Below w.heap.size w w') at KM0
          obtain ⟨md, hmd⟩ : ∃ m, m = bMid (V 0) ka := ⟨_, rfl⟩
          rw [← hmd] at KM0 HMI
          clear hmd
          obtain ⟨vk, hvk⟩ : ∃ vk, vk = V 0 := ⟨_, rfl⟩
          rw [← hvk] at x0 x1 x2 x3 x4 x5 KM0
          clear hvk
          obtain ⟨⟨v1, v2, v3⟩, v4, v5, v6⟩ := vk
          dsimp only at x0 x1 x2 x3 x4 x5 KM0
          have c_e0 : ∀ p : BW wr, p.w.cell? ⟨bb, off, none⟩ = some (.int .i64 v1) := bw_cell ((BO.cell (p := ⟨bb, off, none⟩) hbb).trans x0)
          have c_e1 : ∀ p : BW wr, p.w.cell? ⟨bb, off + 1, none⟩ = some (.int .i64 v2) := bw_cell ((BO.cell (p := ⟨bb, off + 1, none⟩) hbb).trans x1)
          have c_e2 : ∀ p : BW wr, p.w.cell? ⟨bb, off + 2, none⟩ = some (.int .i64 v3) := bw_cell ((BO.cell (p := ⟨bb, off + 2, none⟩) hbb).trans x2)
          have c_e3 : ∀ p : BW wr, p.w.cell? ⟨bb, off + 3, none⟩ = some (.int .i64 v4) := bw_cell ((BO.cell (p := ⟨bb, off + 3, none⟩) hbb).trans x3)
          have c_e4 : ∀ p : BW wr, p.w.cell? ⟨bb, off + 4, none⟩ = some (.int .i64 v5) := bw_cell ((BO.cell (p := ⟨bb, off + 4, none⟩) hbb).trans x4)
          have c_e5 : ∀ p : BW wr, p.w.cell? ⟨bb, off + 5, none⟩ = some (.int .i64 v6) := bw_cell ((BO.cell (p := ⟨bb, off + 5, none⟩) hbb).trans x5)
          obtain ⟨pw, hpw⟩ : ∃ p : BW wr, p.w = wr := ⟨BW.start wr, rfl⟩
          rw [← hpw]
          clear hpw
          go_upto_region 12 with (fail)
          refine wp_region_bw (by kernel_rfl) (by kernel_rfl) ?_
          repeat (go_big_quiet_step (first
            | (go_at_call 25; (first | (with_reducible exact bw_call KM0.out _)))))
          refine wpQuiet_nil ?_
          intro _ hw'
          obtain ⟨q, rfl⟩ := hw'
          clear c_e0 x0 c_e1 x1 c_e2 x2 c_e3 x3 c_e4 x4 c_e5 x5
          go_wp2
          go_loopw [9, 10, 11] (fun lo hi i wr' => ∃ (j : Nat) (q : BW wr), j ≤ k ∧ i = .int .i64 j ∧ lo = .int .i64 (mnAt V ka j) ∧ hi = .int .i64 (mxAt V ka j) ∧ wr' = q.w) (fun _ _ i _ => k - (intOf i).toNat)
          case atStart => exact ⟨0, q, by omega, rfl, by rw [HMI.out.1], by rw [HMI.out.2], rfl⟩
          case round =>
            obtain ⟨j, p5, hj, rfl, rfl, rfl, rfl⟩ := hrel
            have tj0 : j ≤ 1024 := by omega
            by_cases hjk : j < k
            · obtain ⟨_, _, hsl, hbb, x0, x1, x2, x3, x4, x5⟩ := boxes_at HS.out hjk
              cases hsl
              have KMj := Lib.hid (fun w => KMk.out j w)
              change Hid (∀ w, Calls Try.prog 25 #[.agg #[.int .i64 (V j).1.1, .int .i64 (V j).1.2.1, .int .i64 (V j).1.2.2, .int .i64 (V j).2.1, .int .i64 (V j).2.2.1, .int .i64 (V j).2.2.2], .int .i64 (ka : Int)] w fun en w' => en = .returned (.int .i64 (bMid (V j) ka)) ∧ Below w.heap.size w w') at KMj
              have HMS := Lib.hid (show mnAt V ka (j + 1) = min (mnAt V ka j) (bMid (V j) ka) ∧ mxAt V ka (j + 1) = max (mxAt V ka j) (bMid (V j) ka) from ⟨rfl, rfl⟩)
              obtain ⟨md2, hmd⟩ : ∃ m, m = bMid (V j) ka := ⟨_, rfl⟩
              rw [← hmd] at KMj HMS
              clear hmd
              obtain ⟨vk, hvk⟩ : ∃ vk, vk = V j := ⟨_, rfl⟩
              rw [← hvk] at x0 x1 x2 x3 x4 x5 KMj
              clear hvk
              obtain ⟨⟨v1, v2, v3⟩, v4, v5, v6⟩ := vk
              dsimp only at x0 x1 x2 x3 x4 x5 KMj
              obtain ⟨ml, hml⟩ : ∃ m, m = mnAt V ka j := ⟨_, rfl⟩
              obtain ⟨mh, hmh⟩ : ∃ m, m = mxAt V ka j := ⟨_, rfl⟩
              rw [← hml, ← hmh] at HMS ⊢
              clear hml hmh KM0 HMI
              have c_e0 : ∀ p : BW wr, p.w.cell? ⟨bb, off + j * 6, none⟩ = some (.int .i64 v1) := bw_cell ((BO.cell (p := ⟨bb, off + j * 6, none⟩) hbb).trans x0)
              have c_e1 : ∀ p : BW wr, p.w.cell? ⟨bb, off + j * 6 + 1, none⟩ = some (.int .i64 v2) := bw_cell ((BO.cell (p := ⟨bb, off + j * 6 + 1, none⟩) hbb).trans x1)
              have c_e2 : ∀ p : BW wr, p.w.cell? ⟨bb, off + j * 6 + 2, none⟩ = some (.int .i64 v3) := bw_cell ((BO.cell (p := ⟨bb, off + j * 6 + 2, none⟩) hbb).trans x2)
              have c_e3 : ∀ p : BW wr, p.w.cell? ⟨bb, off + j * 6 + 3, none⟩ = some (.int .i64 v4) := bw_cell ((BO.cell (p := ⟨bb, off + j * 6 + 3, none⟩) hbb).trans x3)
              have c_e4 : ∀ p : BW wr, p.w.cell? ⟨bb, off + j * 6 + 4, none⟩ = some (.int .i64 v5) := bw_cell ((BO.cell (p := ⟨bb, off + j * 6 + 4, none⟩) hbb).trans x4)
              have c_e5 : ∀ p : BW wr, p.w.cell? ⟨bb, off + j * 6 + 5, none⟩ = some (.int .i64 v6) := bw_cell ((BO.cell (p := ⟨bb, off + j * 6 + 5, none⟩) hbb).trans x5)
              go_wp2_with (first
                | (go_at_call 25; (with_reducible refine (bw_call KMj.out _).mono ?_); rintro e w' ⟨rfl, q, rfl⟩))
              go_roundw
              case rel => exact ⟨j + 1, _, by omega, by go_num, by rw [HMS.out.1], by rw [HMS.out.2], rfl⟩
              case measure => simp [intOf]; omega
            · obtain rfl : j = k := by omega
              clear KM0 HMI KMk KM
              obtain ⟨lo, hlo⟩ : ∃ m, m = mnAt V ka j := ⟨_, rfl⟩
              obtain ⟨hi, hhi⟩ : ∃ m, m = mxAt V ka j := ⟨_, rfl⟩
              change Hid (∀ (i : Nat) X, i < 8 → Below w.heap.size w X → Calls Try.prog 8 #[.agg #[.int .i64 (ka : Int), .int .i64 (i : Int), .int .i64 (mnAt V ka j), .int .i64 (mxAt V ka j)], .slice (some ⟨bb, off, none⟩) j cap] X fun e w' => e = .returned (.tuple #[.int .i64 (sCost ka (mnAt V ka j) (mxAt V ka j) i (bls V j)), .bool (sOk ka (mnAt V ka j) (mxAt V ka j) i (bls V j))]) ∧ Below X.heap.size X w') at KCk
              rw [← hlo, ← hhi] at HNX KCk ⊢
              clear hlo hhi
              obtain ⟨l, hl⟩ : ∃ l, l = bls V j := ⟨_, rfl⟩
              rw [← hl] at KCk HNX
              clear hl
              have k_r := k_r.below p5.h
              have k_e := k_e.below p5.h
              have B5 := bw_below BO p5
              obtain ⟨W5, hW5⟩ : ∃ W, W = p5.w := ⟨_, rfl⟩
              rw [← hW5] at k_r k_e B5 ⊢
              clear hW5
              go_wp2
              go_loopw [5, 6, 12] (fun lv fv jv wr => ∃ (i : Nat) (d1 d2 d3 d4 lt : Int) (fe : Bool), 1 ≤ i ∧ i ≤ 8 ∧ jv = .int .i64 i ∧ ((d1, d2, d3, d4), lt, fe) = bIn ka lo hi l (((e1, e2, e3, e4), ls, fd)) (i - 1) ∧ lv = .int .i64 lt ∧ fv = .bool fe ∧ Bk wr w.heap.size 24 #[.int .i64 0, .int .i64 0, .int .i64 0, .int .i64 0] ∧ Bk wr g_e 24 #[.int .i64 d1, .int .i64 d2, .int .i64 d3, .int .i64 d4] ∧ Below w.heap.size w wr) (fun _ _ j _ => 8 - (intOf j).toNat)
              case atStart => exact ⟨1, _, _, _, _, _, _, by omega, by omega, rfl, rfl, rfl, rfl, k_r, k_e, B5⟩
              case round =>
                clear k_r k_e B5
                obtain ⟨i, d1, d2, d3, d4, lt, fe, h1, h8, rfl, hbi, rfl, rfl, k_r, k_e, BO⟩ := hrel
                by_cases hlh : lo < hi
                · have tlh : decide (lo < hi) = true := decide_eq_true hlh
                  clear hlh
                  by_cases hi8 : i < 8
                  · have KA := Lib.hid (fun X hX => KCk.out i X hi8 hX)
                    have hsc : sOk ka lo hi i l = true → sVal ka lo hi i l = sCost ka lo hi i l := fun h => by unfold sCost; rw [if_pos h]
                    have hst : bIn ka lo hi l (((e1, e2, e3, e4), ls, fd)) (i + 1 - 1) = bTry (sOk ka lo hi i l) (sVal ka lo hi i l) (ka, i, lo, hi) (bIn ka lo hi l (((e1, e2, e3, e4), ls, fd)) (i - 1)) := by
                      obtain ⟨m, rfl⟩ : ∃ m, i = m + 1 := ⟨i - 1, by omega⟩
                      rfl
                    rw [← hbi] at hst
                    obtain ⟨ok, hok⟩ : ∃ ok, ok = sOk ka lo hi i l := ⟨_, rfl⟩
                    obtain ⟨sv, hsv⟩ : ∃ sv, sv = sVal ka lo hi i l := ⟨_, rfl⟩
                    obtain ⟨c, hc⟩ : ∃ c, c = sCost ka lo hi i l := ⟨_, rfl⟩
                    rw [← hok, ← hsv] at hst
                    change Hid (∀ X, Below w.heap.size w X → Calls Try.prog 8 #[.agg #[.int .i64 (ka : Int), .int .i64 (i : Int), .int .i64 lo, .int .i64 hi], .slice (some ⟨bb, off, none⟩) j cap] X fun e w' => e = .returned (.tuple #[.int .i64 (sCost ka lo hi i l), .bool (sOk ka lo hi i l)]) ∧ Below X.heap.size X w') at KA
                    rw [← hc, ← hok] at KA
                    rw [← hok, ← hsv, ← hc] at hsc
                    have HBI := Lib.hid hst
                    have HSC := Lib.hid hsc
                    clear hok hsv hc hst hsc hbi
                    have ti : decide ((i : Int) < 8) = true := decide_eq_true (by omega)
                    cases ok with
                    | false =>
                      have B6 := BO
                      have HR2 := Lib.hid (show ((d1, d2, d3, d4), lt, fe) = bIn ka lo hi l ((e1, e2, e3, e4), ls, fd) (i + 1 - 1) from by rw [HBI.out]; unfold bTry; rw [if_neg (by simp)])
                      clear HBI
                      obtain ⟨c_r_0, c_r_1, c_r_2, c_r_3⟩ := bwc4 (k_r)
                      obtain ⟨c_e_0, c_e_1, c_e_2, c_e_3⟩ := bwc4 (k_e)
                      obtain ⟨p6, hp6⟩ : ∃ p : BW wr, p.w = wr := ⟨BW.start wr, rfl⟩
                      rw [← hp6]
                      clear hp6
                      go_upto_region 22 with (fail)
                      obtain ⟨W7, hW7⟩ : ∃ W, W = p6.w.alloc (.cells #[.int .i64 ((ka : Int)), .int .i64 ((i : Int)), .int .i64 lo, .int .i64 hi] 24) := ⟨_, rfl⟩
                      have B7 : Below w.heap.size w W7 := by rw [hW7]; exact (bw_below B6 p6).alloc (bw_below B6 p6).size _
                      have l_s : g_e < p6.w.heap.size := (k_e.below p6.h).lt
                      have o_s : w.heap.size ≤ p6.w.heap.size := (bw_below B6 p6).size
                      have l_s_r : w.heap.size < p6.w.heap.size := (k_r.below p6.h).lt
                      have k_r := bka hW7 (k_r.below p6.h)
                      have k_e := bka hW7 (k_e.below p6.h)
                      have k_s := bkn hW7
                      rw [← hW7]
                      clear hW7
                      clear B6
                      clear c_r_0 c_r_1 c_r_2 c_r_3 c_e_0 c_e_1 c_e_2 c_e_3
                      generalize p6.w.heap.size = g_s at *
                      obtain ⟨c_r_0, c_r_1, c_r_2, c_r_3⟩ := bwc4 (k_r)
                      obtain ⟨c_e_0, c_e_1, c_e_2, c_e_3⟩ := bwc4 (k_e)
                      obtain ⟨f_e_0, f_e_1, f_e_2, f_e_3⟩ := bwf4 (k_e)
                      obtain ⟨c_s_0, c_s_1, c_s_2, c_s_3⟩ := bwc4 (k_s)
                      obtain ⟨p7, hp7⟩ : ∃ p : BW W7, p.w = W7 := ⟨BW.start W7, rfl⟩
                      rw [← hp7]
                      clear hp7
                      go_wp2_with (go_at_call 8; refine (KA.out _ (bw_below B7 _)).mono ?_; rintro e w1 ⟨rfl, hb⟩; obtain ⟨q, rfl⟩ := bw_take hb)
                      go_roundw
                      case rel => exact ⟨i + 1, _, _, _, _, _, _, by omega, by omega, by go_num, HR2.out, rfl, rfl, k_r.below q.h, k_e.below q.h, bw_below B7 q⟩
                      case measure => simp [intOf]; omega
                    | true =>
                      cases fe with
                      | false =>
                        have B6 := BO
                        have HR2 := Lib.hid (show (((ka : Int), (i : Int), lo, hi), c, true) = bIn ka lo hi l ((e1, e2, e3, e4), ls, fd) (i + 1 - 1) from by rw [HBI.out, HSC.out rfl]; unfold bTry; rw [if_pos (by exact ⟨rfl, .inl rfl⟩)])
                        clear HBI
                        obtain ⟨c_r_0, c_r_1, c_r_2, c_r_3⟩ := bwc4 (k_r)
                        obtain ⟨c_e_0, c_e_1, c_e_2, c_e_3⟩ := bwc4 (k_e)
                        obtain ⟨p6, hp6⟩ : ∃ p : BW wr, p.w = wr := ⟨BW.start wr, rfl⟩
                        rw [← hp6]
                        clear hp6
                        go_upto_region 22 with (fail)
                        obtain ⟨W7, hW7⟩ : ∃ W, W = p6.w.alloc (.cells #[.int .i64 ((ka : Int)), .int .i64 ((i : Int)), .int .i64 lo, .int .i64 hi] 24) := ⟨_, rfl⟩
                        have B7 : Below w.heap.size w W7 := by rw [hW7]; exact (bw_below B6 p6).alloc (bw_below B6 p6).size _
                        have l_s : g_e < p6.w.heap.size := (k_e.below p6.h).lt
                        have o_s : w.heap.size ≤ p6.w.heap.size := (bw_below B6 p6).size
                        have l_s_r : w.heap.size < p6.w.heap.size := (k_r.below p6.h).lt
                        have k_r := bka hW7 (k_r.below p6.h)
                        have k_e := bka hW7 (k_e.below p6.h)
                        have k_s := bkn hW7
                        rw [← hW7]
                        clear hW7
                        clear B6
                        clear c_r_0 c_r_1 c_r_2 c_r_3 c_e_0 c_e_1 c_e_2 c_e_3
                        generalize p6.w.heap.size = g_s at *
                        obtain ⟨c_r_0, c_r_1, c_r_2, c_r_3⟩ := bwc4 (k_r)
                        obtain ⟨c_e_0, c_e_1, c_e_2, c_e_3⟩ := bwc4 (k_e)
                        obtain ⟨f_e_0, f_e_1, f_e_2, f_e_3⟩ := bwf4 (k_e)
                        obtain ⟨c_s_0, c_s_1, c_s_2, c_s_3⟩ := bwc4 (k_s)
                        obtain ⟨p7, hp7⟩ : ∃ p : BW W7, p.w = W7 := ⟨BW.start W7, rfl⟩
                        rw [← hp7]
                        clear hp7
                        go_wp2_with (go_at_call 8; refine (KA.out _ (bw_below B7 _)).mono ?_; rintro e w1 ⟨rfl, hb⟩; obtain ⟨q, rfl⟩ := bw_take hb)
                        go_roundw
                        case rel => exact ⟨i + 1, _, _, _, _, _, _, by omega, by omega, by go_num, HR2.out, rfl, rfl, bko4 (k_r.below q.h) (by omega), bkp4 (k_e.below q.h) _ _ _ _, blp4 (bw_below B7 q) (by omega)⟩
                        case measure => simp [intOf]; omega
                      | true =>
                        by_cases hlc : c < lt
                        · have tc : decide (c < lt) = true := decide_eq_true hlc
                          have B6 := BO
                          have HR2 := Lib.hid (show (((ka : Int), (i : Int), lo, hi), c, true) = bIn ka lo hi l ((e1, e2, e3, e4), ls, fd) (i + 1 - 1) from by rw [HBI.out, HSC.out rfl]; unfold bTry; rw [if_pos (by exact ⟨rfl, .inr hlc⟩)])
                          clear HBI
                          clear hlc
                          obtain ⟨c_r_0, c_r_1, c_r_2, c_r_3⟩ := bwc4 (k_r)
                          obtain ⟨c_e_0, c_e_1, c_e_2, c_e_3⟩ := bwc4 (k_e)
                          obtain ⟨p6, hp6⟩ : ∃ p : BW wr, p.w = wr := ⟨BW.start wr, rfl⟩
                          rw [← hp6]
                          clear hp6
                          go_upto_region 22 with (fail)
                          obtain ⟨W7, hW7⟩ : ∃ W, W = p6.w.alloc (.cells #[.int .i64 ((ka : Int)), .int .i64 ((i : Int)), .int .i64 lo, .int .i64 hi] 24) := ⟨_, rfl⟩
                          have B7 : Below w.heap.size w W7 := by rw [hW7]; exact (bw_below B6 p6).alloc (bw_below B6 p6).size _
                          have l_s : g_e < p6.w.heap.size := (k_e.below p6.h).lt
                          have o_s : w.heap.size ≤ p6.w.heap.size := (bw_below B6 p6).size
                          have l_s_r : w.heap.size < p6.w.heap.size := (k_r.below p6.h).lt
                          have k_r := bka hW7 (k_r.below p6.h)
                          have k_e := bka hW7 (k_e.below p6.h)
                          have k_s := bkn hW7
                          rw [← hW7]
                          clear hW7
                          clear B6
                          clear c_r_0 c_r_1 c_r_2 c_r_3 c_e_0 c_e_1 c_e_2 c_e_3
                          generalize p6.w.heap.size = g_s at *
                          obtain ⟨c_r_0, c_r_1, c_r_2, c_r_3⟩ := bwc4 (k_r)
                          obtain ⟨c_e_0, c_e_1, c_e_2, c_e_3⟩ := bwc4 (k_e)
                          obtain ⟨f_e_0, f_e_1, f_e_2, f_e_3⟩ := bwf4 (k_e)
                          obtain ⟨c_s_0, c_s_1, c_s_2, c_s_3⟩ := bwc4 (k_s)
                          obtain ⟨p7, hp7⟩ : ∃ p : BW W7, p.w = W7 := ⟨BW.start W7, rfl⟩
                          rw [← hp7]
                          clear hp7
                          go_wp2_with (go_at_call 8; refine (KA.out _ (bw_below B7 _)).mono ?_; rintro e w1 ⟨rfl, hb⟩; obtain ⟨q, rfl⟩ := bw_take hb)
                          go_roundw
                          case rel => exact ⟨i + 1, _, _, _, _, _, _, by omega, by omega, by go_num, HR2.out, rfl, rfl, bko4 (k_r.below q.h) (by omega), bkp4 (k_e.below q.h) _ _ _ _, blp4 (bw_below B7 q) (by omega)⟩
                          case measure => simp [intOf]; omega
                        · have tc : decide (c < lt) = false := decide_eq_false hlc
                          have B6 := BO
                          have HR2 := Lib.hid (show ((d1, d2, d3, d4), lt, true) = bIn ka lo hi l ((e1, e2, e3, e4), ls, fd) (i + 1 - 1) from by rw [HBI.out, HSC.out rfl]; unfold bTry; rw [if_neg (by rintro ⟨_, h | h⟩ <;> first | exact hlc h | cases h)])
                          clear HBI
                          clear hlc
                          obtain ⟨c_r_0, c_r_1, c_r_2, c_r_3⟩ := bwc4 (k_r)
                          obtain ⟨c_e_0, c_e_1, c_e_2, c_e_3⟩ := bwc4 (k_e)
                          obtain ⟨p6, hp6⟩ : ∃ p : BW wr, p.w = wr := ⟨BW.start wr, rfl⟩
                          rw [← hp6]
                          clear hp6
                          go_upto_region 22 with (fail)
                          obtain ⟨W7, hW7⟩ : ∃ W, W = p6.w.alloc (.cells #[.int .i64 ((ka : Int)), .int .i64 ((i : Int)), .int .i64 lo, .int .i64 hi] 24) := ⟨_, rfl⟩
                          have B7 : Below w.heap.size w W7 := by rw [hW7]; exact (bw_below B6 p6).alloc (bw_below B6 p6).size _
                          have l_s : g_e < p6.w.heap.size := (k_e.below p6.h).lt
                          have o_s : w.heap.size ≤ p6.w.heap.size := (bw_below B6 p6).size
                          have l_s_r : w.heap.size < p6.w.heap.size := (k_r.below p6.h).lt
                          have k_r := bka hW7 (k_r.below p6.h)
                          have k_e := bka hW7 (k_e.below p6.h)
                          have k_s := bkn hW7
                          rw [← hW7]
                          clear hW7
                          clear B6
                          clear c_r_0 c_r_1 c_r_2 c_r_3 c_e_0 c_e_1 c_e_2 c_e_3
                          generalize p6.w.heap.size = g_s at *
                          obtain ⟨c_r_0, c_r_1, c_r_2, c_r_3⟩ := bwc4 (k_r)
                          obtain ⟨c_e_0, c_e_1, c_e_2, c_e_3⟩ := bwc4 (k_e)
                          obtain ⟨f_e_0, f_e_1, f_e_2, f_e_3⟩ := bwf4 (k_e)
                          obtain ⟨c_s_0, c_s_1, c_s_2, c_s_3⟩ := bwc4 (k_s)
                          obtain ⟨p7, hp7⟩ : ∃ p : BW W7, p.w = W7 := ⟨BW.start W7, rfl⟩
                          rw [← hp7]
                          clear hp7
                          go_wp2_with (go_at_call 8; refine (KA.out _ (bw_below B7 _)).mono ?_; rintro e w1 ⟨rfl, hb⟩; obtain ⟨q, rfl⟩ := bw_take hb)
                          go_roundw
                          case rel => exact ⟨i + 1, _, _, _, _, _, _, by omega, by omega, by go_num, HR2.out, rfl, rfl, k_r.below q.h, k_e.below q.h, bw_below B7 q⟩
                          case measure => simp [intOf]; omega
                  · obtain rfl : i = 8 := by omega
                    have ti : decide (((8 : Nat) : Int) < 8) = false := decide_eq_false (by omega)
                    have HR2 := Lib.hid hbi
                    clear hbi
                    go_wp2
                    go_roundw
                    case rel => exact ⟨ka + 1, d1, d2, d3, d4, lt, fe, by have := HKA.out; omega, by go_num, (by rw [HNX.out]; exact HR2.out), rfl, rfl, k_r, k_e, BO⟩
                    case measure => simp [intOf]; have := HKA.out; omega
                · have tlh : decide (lo < hi) = false := decide_eq_false hlh
                  have HLH := Lib.hid hlh
                  clear hlh
                  by_cases hi8 : i < 8
                  · have ti : decide ((i : Int) < 8) = true := decide_eq_true (by omega)
                    have HR2 := Lib.hid hbi
                    clear hbi
                    go_wp2
                    go_roundw
                    case rel => exact ⟨ka + 1, d1, d2, d3, d4, lt, fe, by have := HKA.out; omega, by go_num, (by rw [HNX.out]; rw [bIn_flat (by have := HLH.out; omega)]; rw [HR2.out]; exact bIn_flat (by have := HLH.out; omega) _), rfl, rfl, k_r, k_e, BO⟩
                    case measure => simp [intOf]; have := HKA.out; omega
                  · have ti : decide ((i : Int) < 8) = false := decide_eq_false (by omega)
                    have HR2 := Lib.hid hbi
                    clear hbi
                    go_wp2
                    go_roundw
                    case rel => exact ⟨ka + 1, d1, d2, d3, d4, lt, fe, by have := HKA.out; omega, by go_num, (by rw [HNX.out]; rw [bIn_flat (by have := HLH.out; omega)]; rw [HR2.out]; exact bIn_flat (by have := HLH.out; omega) _), rfl, rfl, k_r, k_e, BO⟩
                    case measure => simp [intOf]; have := HKA.out; omega
        · obtain rfl : ka = 3 := by omega
          have HR2 := Lib.hid hst
          clear hst
          have tk : decide (((3 : Nat) : Int) < 3) = false := decide_eq_false (by omega)
          have B3 := BO
          obtain ⟨c_r_0, c_r_1, c_r_2, c_r_3⟩ := bwc4 (k_r)
          obtain ⟨f_r_0, f_r_1, f_r_2, f_r_3⟩ := bwf4 (k_r)
          obtain ⟨c_e_0, c_e_1, c_e_2, c_e_3⟩ := bwc4 (k_e)
          obtain ⟨p3, hp3⟩ : ∃ p : BW wr, p.w = wr := ⟨BW.start wr, rfl⟩
          rw [← hp3]
          clear hp3
          go_wp2
          have kr := bkp4 (k_r.below p3.h) (.int .i64 e1) (.int .i64 e2) (.int .i64 e3) (.int .i64 e4)
          obtain ⟨rc0, rc1, rc2, rc3⟩ := rwc4 kr
          exact bodyPost_ret (v := .tuple #[.agg #[.int .i64 e1, .int .i64 e2, .int .i64 e3, .int .i64 e4], .bool fd]) (by simp [results, Try.results10, go_sem, rc0, rc1, rc2, rc3]) rfl ⟨by rw [← HR2.out], blp4 (bw_below B3 p3) (by omega)⟩

theorem ref15_Best (a : Option Addr) (n cap : Nat) (V : Nat → Bx) (w : World) (hs : Boxes w (.slice a n cap) n V) (hn : n ≤ 1024) :
    Calls Try.prog 10 #[.slice a n cap] w fun e w' => e = .returned (.tuple #[.agg #[.int .i64 (bBest V n).1.1, .int .i64 (bBest V n).1.2.1, .int .i64 (bBest V n).1.2.2.1, .int .i64 (bBest V n).1.2.2.2], .bool (bBest V n).2]) ∧ Below w.heap.size w w' := by
  have KR := Lib.hid (fun (b : Bx) w => ref10_Right b.1.1 b.1.2.1 b.1.2.2 b.2.1 b.2.2.1 b.2.2.2 w)
  by_cases h0 : n = 0
  · subst h0
    have h : bBest V 0 = ((0, 0, 0, 0), false) := by
      unfold bBest
      rw [bOut_none]
      split <;> rfl
    rw [h]
    exact ref15_Best_empty a cap w
  cases hr : allR (bls V n) with
  | false =>
    have h : bBest V n = ((0, 0, 0, 0), false) := by
      unfold bBest bestOk
      rw [hr, Bool.and_false]
      rfl
    rw [h]
    exact ref15_Best_none a n cap V w hs hn hr KR
  | true =>
    have h : bBest V n = ((bOut V n 3).1, (bOut V n 3).2.2) := by
      unfold bBest bestOk
      rw [hr, decide_eq_true hn]
      rfl
    rw [h]
    unfold allR at hr
    rw [List.all_eq_true] at hr
    exact ref15_Best_yes a n cap V w hs hn (by omega) (Lib.hid (fun k hk => hr _ (bls_mem.2 ⟨k, hk, rfl⟩))) KR (Lib.hid (fun k j w => ref10_Mid _ _ _ _ _ _ (k : Int) w)) (Lib.hid (fun k j X hk hj hX => by
      have hm := mnAt_in V (k : Int) n
      exact ref15_Cost a n cap V k j (mnAt V k n) (mxAt V k n) X (hs.below hX (Nat.le_refl _)) (by unfold I64; omega) (by unfold I64; omega) (by unfold I64; omega) hn))

end Go.Proofs.Ytfdolgdfadipeaa
