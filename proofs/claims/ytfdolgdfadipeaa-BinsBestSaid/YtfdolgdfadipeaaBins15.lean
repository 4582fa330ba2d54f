/- Contracts of package bins: Sides, Cost, Best. -/
import Derived.Test.YtfdolgdfadipeaaBinsm15
import Derived.Deep.DeepCutAuto
namespace Go.Proofs.Ytfdolgdfadipeaa
open Go.RowKit Go.Proofs.Sky
set_option linter.unusedVariables false
set_option linter.unusedSimpArgs false

set_option maxRecDepth 100000 in
set_option maxHeartbeats 4000000 in
theorem bins_Sides (a : Option Addr) (n cap : Nat) (V : Nat → Bx) (ax at_ lo hi : Int) (w : World) (hs : Boxes w (.slice a n cap) n V) (hx : I64 ax) (hl : I64 lo) (hh : I64 hi) (hn : n ≤ 1024) :
    Calls Try.prog 11 #[.agg #[.int .i64 ax, .int .i64 at_, .int .i64 lo, .int .i64 hi], .slice a n cap] w fun e w' => ∃ u v, e = .returned (.tuple #[u, v]) ∧ Ints w' w.heap.size u (ix (isL ax lo hi at_) V n) ∧ Ints w' w.heap.size v (ix (fun b => !isL ax lo hi at_ b) V n) ∧ Below w.heap.size w w' := by
  have HS := Lib.hid hs
  have KLH := Lib.hid (fun (b : Bx) w => bins_Left ax at_ lo hi b.1.1 b.1.2.1 b.1.2.2 b.2.1 b.2.2.1 b.2.2.2 w hx hl hh)
  obtain ⟨i0, hi0, hz0, hz1, hz2⟩ := info_parts int_info15
  clear hs hx hl hh
  go_enter Try.func11, Try.ntmps11
  go_upto_region 1 with (fail)
  obtain ⟨W1, hW1⟩ : ∃ W, W = w.alloc (.cells #[.int .i64 ax, .int .i64 at_, .int .i64 lo, .int .i64 hi] 30) := ⟨_, rfl⟩
  obtain ⟨k_s, B1⟩ := st1 hW1
  rw [← hW1]
  clear hW1
  go_wp2
  go_loopw [6, 7, 12] (fun u v i wr => ∃ k : Nat, k ≤ n ∧ i = .int .i64 k ∧ Bk wr w.heap.size 30 #[.int .i64 ax, .int .i64 at_, .int .i64 lo, .int .i64 hi] ∧ Ints wr (w.heap.size + 1) u (ix (isL ax lo hi at_) V k) ∧ Ints wr (w.heap.size + 1) v (ix (fun b => !isL ax lo hi at_ b) V k) ∧ Apart2 u v ∧ Below w.heap.size w wr ∧ w.heap.size + 1 ≤ wr.heap.size) (fun u v i _ => n - (intOf i).toNat)
  case atStart => exact ⟨0, by omega, rfl, k_s, World.ownsRow_nil _ _ _ _, World.ownsRow_nil _ _ _ _, (fun j h => by cases h), B1, k_s.lt⟩
  case round =>
    clear k_s B1
    obtain ⟨k, hk, rfl, k_s, hu, hv, hap, BO, hsz⟩ := hrel
    by_cases hlt : k < n
    · have KL := Lib.hid (fun w => KLH.out (V k) w)
      obtain ⟨_, _, hsl, _, hS⟩ := HS.out
      cases hsl
      obtain ⟨bb, off, rfl, hbb, hcell⟩ := hS.resolve_left (by omega)
      have x0 : w.cell? ⟨bb, off + k * 6, none⟩ = some (.int .i64 (V k).1.1) := hcell k hlt 0 (by omega)
      have x1 : w.cell? ⟨bb, off + k * 6 + 1, none⟩ = some (.int .i64 (V k).1.2.1) := hcell k hlt 1 (by omega)
      have x2 : w.cell? ⟨bb, off + k * 6 + 2, none⟩ = some (.int .i64 (V k).1.2.2) := hcell k hlt 2 (by omega)
      have x3 : w.cell? ⟨bb, off + k * 6 + 3, none⟩ = some (.int .i64 (V k).2.1) := hcell k hlt 3 (by omega)
      have x4 : w.cell? ⟨bb, off + k * 6 + 4, none⟩ = some (.int .i64 (V k).2.2.1) := hcell k hlt 4 (by omega)
      have x5 : w.cell? ⟨bb, off + k * 6 + 5, none⟩ = some (.int .i64 (V k).2.2.2) := hcell k hlt 5 (by omega)
      clear hcell hS
      change Hid (∀ w, Calls Try.prog 15 #[.agg #[.int .i64 ax, .int .i64 at_, .int .i64 lo, .int .i64 hi], .agg #[.int .i64 (V k).1.1, .int .i64 (V k).1.2.1, .int .i64 (V k).1.2.2, .int .i64 (V k).2.1, .int .i64 (V k).2.2.1, .int .i64 (V k).2.2.2]] w fun en w' => en = .returned (.bool (isL ax lo hi at_ (V k))) ∧ Below w.heap.size w w') at KL
      obtain ⟨z, hz⟩ : ∃ z, z = isL ax lo hi at_ (V k) := ⟨_, rfl⟩
      rw [← hz] at KL
      clear KLH
      obtain ⟨vk, hvk⟩ : ∃ vk, vk = V k := ⟨_, rfl⟩
      rw [← hvk] at x0 x1 x2 x3 x4 x5 KL hz
      have HVK := Lib.hid hvk
      clear hvk
      obtain ⟨⟨v1, v2, v3⟩, v4, v5, v6⟩ := vk
      dsimp only at x0 x1 x2 x3 x4 x5 KL
      have HZ := Lib.hid hz
      clear hz
      cases z with
      | true =>
        have B1 := BO
        obtain ⟨c_s_0, c_s_1, c_s_2, c_s_3⟩ := bwc4 (k_s)
        have c_e0 : ∀ p : BW wr, p.w.cell? ⟨bb, off + k * 6, none⟩ = some (.int .i64 v1) := bw_cell ((B1.cell (p := ⟨bb, off + k * 6, none⟩) hbb).trans x0)
        have c_e1 : ∀ p : BW wr, p.w.cell? ⟨bb, off + k * 6 + 1, none⟩ = some (.int .i64 v2) := bw_cell ((B1.cell (p := ⟨bb, off + k * 6 + 1, none⟩) hbb).trans x1)
        have c_e2 : ∀ p : BW wr, p.w.cell? ⟨bb, off + k * 6 + 2, none⟩ = some (.int .i64 v3) := bw_cell ((B1.cell (p := ⟨bb, off + k * 6 + 2, none⟩) hbb).trans x2)
        have c_e3 : ∀ p : BW wr, p.w.cell? ⟨bb, off + k * 6 + 3, none⟩ = some (.int .i64 v4) := bw_cell ((B1.cell (p := ⟨bb, off + k * 6 + 3, none⟩) hbb).trans x3)
        have c_e4 : ∀ p : BW wr, p.w.cell? ⟨bb, off + k * 6 + 4, none⟩ = some (.int .i64 v5) := bw_cell ((B1.cell (p := ⟨bb, off + k * 6 + 4, none⟩) hbb).trans x4)
        have c_e5 : ∀ p : BW wr, p.w.cell? ⟨bb, off + k * 6 + 5, none⟩ = some (.int .i64 v6) := bw_cell ((B1.cell (p := ⟨bb, off + k * 6 + 5, none⟩) hbb).trans x5)
        obtain ⟨p1, hp1⟩ : ∃ p : BW wr, p.w = wr := ⟨BW.start wr, rfl⟩
        rw [← hp1]
        clear hp1
        go_upto_region 5 with (fail)
        obtain ⟨W2, hW2⟩ : ∃ W, W = p1.w.alloc (.cells #[.int .i64 v1, .int .i64 v2, .int .i64 v3, .int .i64 v4, .int .i64 v5, .int .i64 v6] 31) := ⟨_, rfl⟩
        have B2 : Below w.heap.size w W2 := by rw [hW2]; exact (bw_below B1 p1).alloc (bw_below B1 p1).size _
        have l_b : w.heap.size < p1.w.heap.size := (k_s.below p1.h).lt
        have o_b : w.heap.size ≤ p1.w.heap.size := (bw_below B1 p1).size
        have k_s := bka hW2 (k_s.below p1.h)
        have hu := ints_alloc hW2 (hu.below p1.h)
        have hv := ints_alloc hW2 (hv.below p1.h)
        have k_b := bkn hW2
        rw [← hW2]
        clear hW2
        clear B1
        clear c_s_0 c_s_1 c_s_2 c_s_3 c_e0 c_e1 c_e2 c_e3 c_e4 c_e5
        generalize p1.w.heap.size = g_b at *
        obtain ⟨c_s_0, c_s_1, c_s_2, c_s_3⟩ := bwc4 (k_s)
        obtain ⟨c_b_0, c_b_1, c_b_2, c_b_3, c_b_4, c_b_5⟩ := bwc6 (k_b)
        obtain ⟨p2, hp2⟩ : ∃ p : BW W2, p.w = W2 := ⟨BW.start W2, rfl⟩
        rw [← hp2]
        clear hp2
        go_upto_region 6 with (first
          | (go_at_call 15; (first | (with_reducible refine (bw_call KL.out _).mono ?_)); rintro e w' ⟨rfl, q, rfl⟩))
        have hu := hu.below q.h
        have hv := hv.below q.h
        have k_s := k_s.below q.h
        have hsz2 := (bw_below B2 q).size
        have BQ := bw_below B2 q
        have hlu : (ix (isL ax lo hi at_) V k).length ≤ k := ix_le _ _ _
        have hlv : (ix (fun b => !isL ax lo hi at_ b) V k).length ≤ k := ix_le _ _ _
        have hlq : w.heap.size + 1 ≤ q.w.heap.size := k_s.lt
        go_wp2_with (at_builtin; refine wpList_append_at rfl _ _ 41 rfl (w.heap.size + 1) 3 i0 (.int .i64 0) 1 8 Try.underlying41 hi0 hz0 hz1 hz2 rfl (by decide) _ _ _ rfl (World.ownsRow.alloc hu _) ⟨q.w.heap.size, 0, none⟩ 1 1 [.int .i64 (k : Int)] rfl rfl ?g1 ?g2 ?g3 ?g4 ?g5 ?_)
        case g1 => exact cell_one_new _ _ _
        case g2 => intro u hu; simp only [List.mem_cons, List.not_mem_nil, or_false] at hu; rw [hu]; rfl
        case g3 => unfold maxLen; omega
        case g4 => omega
        case g5 => simp; omega
        intro v' w1 hown hgrow hat
        obtain ⟨r1, r2, r3⟩ := Ints.put hown (World.ownsRow.alloc hv _) hap hgrow (by simpa using hat)
        have hk1 : Bk w1 w.heap.size 30 #[.int .i64 ax, .int .i64 at_, .int .i64 lo, .int .i64 hi] := Bk.grown (k_s.alloc _) hgrow (fun e => by have := (World.ownsRow.lt hu _ e.symm).1; omega)
        have hb1 : Below w.heap.size w w1 := (BQ.alloc (by omega) _).grown hgrow (by simp; omega) (fun j ej => by have := (World.ownsRow.lt hu _ ej).1; omega)
        have hs1 : w.heap.size + 1 ≤ w1.heap.size := hk1.lt
        have eu : ix (isL ax lo hi at_) V (k + 1) = ix (isL ax lo hi at_) V k ++ [k] := by rw [ix_succ, ← HVK.out, if_pos (by rw [← HZ.out]; first | done | decide)]
        have ev : ix (fun b => !isL ax lo hi at_ b) V (k + 1) = ix (fun b => !isL ax lo hi at_ b) V k ++ [] := by rw [ix_succ, ← HVK.out, if_neg (by rw [← HZ.out]; first | done | decide)]
        go_wp2
        go_roundw
        case rel => exact ⟨k + 1, by omega, by go_num, hk1, (by rw [eu]; exact r1), (by rw [ev]; exact (by rw [List.append_nil]; exact r2)), r3, hb1, hs1⟩
        case measure => simp [intOf]; omega
      | false =>
        have B1 := BO
        obtain ⟨c_s_0, c_s_1, c_s_2, c_s_3⟩ := bwc4 (k_s)
        have c_e0 : ∀ p : BW wr, p.w.cell? ⟨bb, off + k * 6, none⟩ = some (.int .i64 v1) := bw_cell ((B1.cell (p := ⟨bb, off + k * 6, none⟩) hbb).trans x0)
        have c_e1 : ∀ p : BW wr, p.w.cell? ⟨bb, off + k * 6 + 1, none⟩ = some (.int .i64 v2) := bw_cell ((B1.cell (p := ⟨bb, off + k * 6 + 1, none⟩) hbb).trans x1)
        have c_e2 : ∀ p : BW wr, p.w.cell? ⟨bb, off + k * 6 + 2, none⟩ = some (.int .i64 v3) := bw_cell ((B1.cell (p := ⟨bb, off + k * 6 + 2, none⟩) hbb).trans x2)
        have c_e3 : ∀ p : BW wr, p.w.cell? ⟨bb, off + k * 6 + 3, none⟩ = some (.int .i64 v4) := bw_cell ((B1.cell (p := ⟨bb, off + k * 6 + 3, none⟩) hbb).trans x3)
        have c_e4 : ∀ p : BW wr, p.w.cell? ⟨bb, off + k * 6 + 4, none⟩ = some (.int .i64 v5) := bw_cell ((B1.cell (p := ⟨bb, off + k * 6 + 4, none⟩) hbb).trans x4)
        have c_e5 : ∀ p : BW wr, p.w.cell? ⟨bb, off + k * 6 + 5, none⟩ = some (.int .i64 v6) := bw_cell ((B1.cell (p := ⟨bb, off + k * 6 + 5, none⟩) hbb).trans x5)
        obtain ⟨p1, hp1⟩ : ∃ p : BW wr, p.w = wr := ⟨BW.start wr, rfl⟩
        rw [← hp1]
        clear hp1
        go_upto_region 5 with (fail)
        obtain ⟨W2, hW2⟩ : ∃ W, W = p1.w.alloc (.cells #[.int .i64 v1, .int .i64 v2, .int .i64 v3, .int .i64 v4, .int .i64 v5, .int .i64 v6] 31) := ⟨_, rfl⟩
        have B2 : Below w.heap.size w W2 := by rw [hW2]; exact (bw_below B1 p1).alloc (bw_below B1 p1).size _
        have l_b : w.heap.size < p1.w.heap.size := (k_s.below p1.h).lt
        have o_b : w.heap.size ≤ p1.w.heap.size := (bw_below B1 p1).size
        have k_s := bka hW2 (k_s.below p1.h)
        have hu := ints_alloc hW2 (hu.below p1.h)
        have hv := ints_alloc hW2 (hv.below p1.h)
        have k_b := bkn hW2
        rw [← hW2]
        clear hW2
        clear B1
        clear c_s_0 c_s_1 c_s_2 c_s_3 c_e0 c_e1 c_e2 c_e3 c_e4 c_e5
        generalize p1.w.heap.size = g_b at *
        obtain ⟨c_s_0, c_s_1, c_s_2, c_s_3⟩ := bwc4 (k_s)
        obtain ⟨c_b_0, c_b_1, c_b_2, c_b_3, c_b_4, c_b_5⟩ := bwc6 (k_b)
        obtain ⟨p2, hp2⟩ : ∃ p : BW W2, p.w = W2 := ⟨BW.start W2, rfl⟩
        rw [← hp2]
        clear hp2
        go_upto_region 7 with (first
          | (go_at_call 15; (first | (with_reducible refine (bw_call KL.out _).mono ?_)); rintro e w' ⟨rfl, q, rfl⟩))
        have hu := hu.below q.h
        have hv := hv.below q.h
        have k_s := k_s.below q.h
        have hsz2 := (bw_below B2 q).size
        have BQ := bw_below B2 q
        have hlu : (ix (isL ax lo hi at_) V k).length ≤ k := ix_le _ _ _
        have hlv : (ix (fun b => !isL ax lo hi at_ b) V k).length ≤ k := ix_le _ _ _
        have hlq : w.heap.size + 1 ≤ q.w.heap.size := k_s.lt
        go_wp2_with (at_builtin; refine wpList_append_at rfl _ _ 41 rfl (w.heap.size + 1) 3 i0 (.int .i64 0) 1 8 Try.underlying41 hi0 hz0 hz1 hz2 rfl (by decide) _ _ _ rfl (World.ownsRow.alloc hv _) ⟨q.w.heap.size, 0, none⟩ 1 1 [.int .i64 (k : Int)] rfl rfl ?g1 ?g2 ?g3 ?g4 ?g5 ?_)
        case g1 => exact cell_one_new _ _ _
        case g2 => intro u hu; simp only [List.mem_cons, List.not_mem_nil, or_false] at hu; rw [hu]; rfl
        case g3 => unfold maxLen; omega
        case g4 => omega
        case g5 => simp; omega
        intro v' w1 hown hgrow hat
        obtain ⟨r1, r2, r3⟩ := Ints.put hown (World.ownsRow.alloc hu _) hap.symm hgrow (by simpa using hat)
        have hk1 : Bk w1 w.heap.size 30 #[.int .i64 ax, .int .i64 at_, .int .i64 lo, .int .i64 hi] := Bk.grown (k_s.alloc _) hgrow (fun e => by have := (World.ownsRow.lt hv _ e.symm).1; omega)
        have hb1 : Below w.heap.size w w1 := (BQ.alloc (by omega) _).grown hgrow (by simp; omega) (fun j ej => by have := (World.ownsRow.lt hv _ ej).1; omega)
        have hs1 : w.heap.size + 1 ≤ w1.heap.size := hk1.lt
        have eu : ix (isL ax lo hi at_) V (k + 1) = ix (isL ax lo hi at_) V k ++ [] := by rw [ix_succ, ← HVK.out, if_neg (by rw [← HZ.out]; first | done | decide)]
        have ev : ix (fun b => !isL ax lo hi at_ b) V (k + 1) = ix (fun b => !isL ax lo hi at_ b) V k ++ [k] := by rw [ix_succ, ← HVK.out, if_pos (by rw [← HZ.out]; first | done | decide)]
        go_wp2
        go_roundw
        case rel => exact ⟨k + 1, by omega, by go_num, hk1, (by rw [eu]; exact (by rw [List.append_nil]; exact r2)), (by rw [ev]; exact r1), r3.symm, hb1, hs1⟩
        case measure => simp [intOf]; omega
    · obtain rfl : k = n := by omega
      go_wp2
      go_ret2
      exact ⟨_, _, rfl, hu.mono (by omega), hv.mono (by omega), BO⟩

set_option maxRecDepth 100000 in
set_option maxHeartbeats 4000000 in
theorem bins_Cost_many (a : Option Addr) (n cap : Nat) (ax at_ lo hi : Int) (w : World) (hn : 1024 < n) :
    Calls Try.prog 6 #[.agg #[.int .i64 ax, .int .i64 at_, .int .i64 lo, .int .i64 hi], .slice a n cap] w fun e w' => e = .returned (.tuple #[.int .i64 0, .bool false]) ∧ Below w.heap.size w w' := by
  have t1 : decide ((1024 : Int) < n) = true := decide_eq_true (by omega)
  clear hn
  go_enter Try.func6, Try.ntmps6
  go_upto_region 1 with (fail)
  obtain ⟨W1, hW1⟩ : ∃ W, W = w.alloc (.cells #[.int .i64 ax, .int .i64 at_, .int .i64 lo, .int .i64 hi] 30) := ⟨_, rfl⟩
  obtain ⟨k_s, B1⟩ := st1 hW1
  rw [← hW1]
  clear hW1
  obtain ⟨c_s_0, c_s_1, c_s_2, c_s_3⟩ := bwc4 (k_s)
  obtain ⟨p1, hp1⟩ : ∃ p : BW W1, p.w = W1 := ⟨BW.start W1, rfl⟩
  rw [← hp1]
  clear hp1
  go_wp2
  go_ret2
  exact ⟨rfl, bw_below B1 _⟩

set_option maxRecDepth 100000 in
set_option maxHeartbeats 4000000 in
theorem bins_Cost_low (a : Option Addr) (n cap : Nat) (ax at_ lo hi : Int) (w : World) (hn : n ≤ 1024) (ha : at_ < 1) :
    Calls Try.prog 6 #[.agg #[.int .i64 ax, .int .i64 at_, .int .i64 lo, .int .i64 hi], .slice a n cap] w fun e w' => e = .returned (.tuple #[.int .i64 0, .bool false]) ∧ Below w.heap.size w w' := by
  have t1 : decide ((1024 : Int) < n) = false := decide_eq_false (by omega)
  have t2 : decide (at_ < 1) = true := decide_eq_true ha
  clear hn ha
  go_enter Try.func6, Try.ntmps6
  go_upto_region 1 with (fail)
  obtain ⟨W1, hW1⟩ : ∃ W, W = w.alloc (.cells #[.int .i64 ax, .int .i64 at_, .int .i64 lo, .int .i64 hi] 30) := ⟨_, rfl⟩
  obtain ⟨k_s, B1⟩ := st1 hW1
  rw [← hW1]
  clear hW1
  obtain ⟨c_s_0, c_s_1, c_s_2, c_s_3⟩ := bwc4 (k_s)
  obtain ⟨p1, hp1⟩ : ∃ p : BW W1, p.w = W1 := ⟨BW.start W1, rfl⟩
  rw [← hp1]
  clear hp1
  go_wp2
  go_ret2
  exact ⟨rfl, bw_below B1 _⟩

set_option maxRecDepth 100000 in
set_option maxHeartbeats 4000000 in
theorem bins_Cost_high (a : Option Addr) (n cap : Nat) (ax at_ lo hi : Int) (w : World) (hn : n ≤ 1024) (ha : 8 ≤ at_) :
    Calls Try.prog 6 #[.agg #[.int .i64 ax, .int .i64 at_, .int .i64 lo, .int .i64 hi], .slice a n cap] w fun e w' => e = .returned (.tuple #[.int .i64 0, .bool false]) ∧ Below w.heap.size w w' := by
  have t1 : decide ((1024 : Int) < n) = false := decide_eq_false (by omega)
  have t2 : decide (at_ < 1) = false := decide_eq_false (by omega)
  have t3 : decide (8 ≤ at_) = true := decide_eq_true ha
  clear hn ha
  go_enter Try.func6, Try.ntmps6
  go_upto_region 1 with (fail)
  obtain ⟨W1, hW1⟩ : ∃ W, W = w.alloc (.cells #[.int .i64 ax, .int .i64 at_, .int .i64 lo, .int .i64 hi] 30) := ⟨_, rfl⟩
  obtain ⟨k_s, B1⟩ := st1 hW1
  rw [← hW1]
  clear hW1
  obtain ⟨c_s_0, c_s_1, c_s_2, c_s_3⟩ := bwc4 (k_s)
  obtain ⟨p1, hp1⟩ : ∃ p : BW W1, p.w = W1 := ⟨BW.start W1, rfl⟩
  rw [← hp1]
  clear hp1
  go_wp2
  go_ret2
  exact ⟨rfl, bw_below B1 _⟩

set_option maxRecDepth 100000 in
set_option maxHeartbeats 4000000 in
theorem bins_Cost_none (a : Option Addr) (n cap : Nat) (ax at_ lo hi : Int) (w : World) (hn : n ≤ 1024) (h1 : 1 ≤ at_) (h8 : at_ < 8) (KB : Hid (∀ X, Below w.heap.size w X → Calls Try.prog 20 #[.slice a n cap, .int .i64 ax, .int .i64 lo, .int .i64 hi] X fun e w' => e = .returned (.tuple #[.agg (GA (fun _ : Nat => g0)), .bool false]) ∧ Below X.heap.size X w')) :
    Calls Try.prog 6 #[.agg #[.int .i64 ax, .int .i64 at_, .int .i64 lo, .int .i64 hi], .slice a n cap] w fun e w' => e = .returned (.tuple #[.int .i64 0, .bool false]) ∧ Below w.heap.size w w' := by
  have t1 : decide ((1024 : Int) < n) = false := decide_eq_false (by omega)
  have t2 : decide (at_ < 1) = false := decide_eq_false (by omega)
  have t3 : decide (8 ≤ at_) = false := decide_eq_false (by omega)
  clear hn h1 h8
  go_enter Try.func6, Try.ntmps6
  go_upto_region 1 with (fail)
  obtain ⟨W1, hW1⟩ : ∃ W, W = w.alloc (.cells #[.int .i64 ax, .int .i64 at_, .int .i64 lo, .int .i64 hi] 30) := ⟨_, rfl⟩
  obtain ⟨k_s, B1⟩ := st1 hW1
  rw [← hW1]
  clear hW1
  obtain ⟨c_s_0, c_s_1, c_s_2, c_s_3⟩ := bwc4 (k_s)
  obtain ⟨p1, hp1⟩ : ∃ p : BW W1, p.w = W1 := ⟨BW.start W1, rfl⟩
  rw [← hp1]
  clear hp1
  repeat ((fail_if_success (guard_target = Code.wp _ (Code.region 4 _ _) _ _ _)); first | (go_at_call 20; refine (KB.out _ (bw_below B1 _)).mono ?_; rintro e w1 ⟨rfl, hb⟩; obtain ⟨q, rfl⟩ := bw_take hb; dsimp only) | ((with_reducible refine gwp_store_new (H := (fun _ : Nat => g0)) ?hx ?hy ?hc ?_); (case hx => first | rfl | (rw [← hs_one]; rfl)); (case hy => rfl); (case hc => rfl)) | go_values | go_skip | go_guarded | go_step | go_upon)
  try simp only [Act.put, List.setIfInBounds_toArray, List.set_cons_zero, List.set_cons_succ]
  go_wp2
  go_ret2
  exact ⟨rfl, (bw_below B1 q).alloc (bw_below B1 q).size _⟩

set_option maxRecDepth 100000 in
set_option maxHeartbeats 4000000 in
theorem bins_Cost_yes (a : Option Addr) (n cap : Nat) (ax lo hi c : Int) (m : Nat) (ok : Bool) (l : List Bx) (w : World) (hn : n ≤ 1024) (h1 : 1 ≤ m) (h8 : m < 8) (KB : Hid (∀ X, Below w.heap.size w X → Calls Try.prog 20 #[.slice a n cap, .int .i64 ax, .int .i64 lo, .int .i64 hi] X fun e w' => e = .returned (.tuple #[.agg (GA (fun j : Nat => gL (isB ax lo hi j) l)), .bool true]) ∧ Below X.heap.size X w')) (KP : Hid (∀ w, Calls Try.prog 21 #[.agg (GA (fun j : Nat => gL (isB ax lo hi j) l))] w fun e w' => e = .returned (.tuple #[.agg (GA (fun j : Nat => gL (isL ax lo hi j) l)), .agg (GA (fun j : Nat => gL (isR ax lo hi j) l))]) ∧ Below w.heap.size w w')) (KA : Hid (∀ w, Calls Try.prog 22 #[.agg (gcells (gL (isL ax lo hi m) l)).toArray, .agg (gcells (gL (isR ax lo hi m) l)).toArray] w fun e w' => e = .returned (.tuple #[.int .i64 c, .bool ok]) ∧ Below w.heap.size w w')) :
    Calls Try.prog 6 #[.agg #[.int .i64 ax, .int .i64 (m : Int), .int .i64 lo, .int .i64 hi], .slice a n cap] w fun e w' => e = .returned (.tuple #[.int .i64 c, .bool ok]) ∧ Below w.heap.size w w' := by
  have t1 : decide ((1024 : Int) < n) = false := decide_eq_false (by omega)
  have t2 : decide ((m : Int) < 1) = false := decide_eq_false (by omega)
  have t3 : decide (8 ≤ (m : Int)) = false := decide_eq_false (by omega)
  clear hn h1
  go_enter Try.func6, Try.ntmps6
  go_upto_region 1 with (fail)
  obtain ⟨W1, hW1⟩ : ∃ W, W = w.alloc (.cells #[.int .i64 ax, .int .i64 ((m : Int)), .int .i64 lo, .int .i64 hi] 30) := ⟨_, rfl⟩
  obtain ⟨k_s, B1⟩ := st1 hW1
  rw [← hW1]
  clear hW1
  obtain ⟨c_s_0, c_s_1, c_s_2, c_s_3⟩ := bwc4 (k_s)
  obtain ⟨p1, hp1⟩ : ∃ p : BW W1, p.w = W1 := ⟨BW.start W1, rfl⟩
  rw [← hp1]
  clear hp1
  repeat ((fail_if_success (guard_target = Code.wp _ (Code.region 4 _ _) _ _ _)); first | (go_at_call 20; refine (KB.out _ (bw_below B1 _)).mono ?_; rintro e w1 ⟨rfl, hb⟩; obtain ⟨q, rfl⟩ := bw_take hb; dsimp only) | ((with_reducible refine gwp_store_new (H := (fun j : Nat => gL (isB ax lo hi j) l)) ?hx ?hy ?hc ?_); (case hx => first | rfl | (rw [← hs_one]; rfl)); (case hy => rfl); (case hc => rfl)) | go_values | go_skip | go_guarded | go_step | go_upon)
  try simp only [Act.put, List.setIfInBounds_toArray, List.set_cons_zero, List.set_cons_succ]
  obtain ⟨W2, hW2⟩ : ∃ W, W = q.w.alloc (.cells (GA (fun j : Nat => gL (isB ax lo hi j) l)) 56) := ⟨_, rfl⟩
  have B2 : Below w.heap.size w W2 := by rw [hW2]; exact (bw_below B1 q).alloc (bw_below B1 q).size _
  have l_g : w.heap.size < q.w.heap.size := (k_s.below q.h).lt
  have o_g : w.heap.size ≤ q.w.heap.size := (bw_below B1 q).size
  have k_s := bka hW2 (k_s.below q.h)
  have k_g := bkn hW2
  rw [← hW2]
  clear hW2
  clear B1
  clear c_s_0 c_s_1 c_s_2 c_s_3
  generalize q.w.heap.size = g_g at *
  obtain ⟨c_s_0, c_s_1, c_s_2, c_s_3⟩ := bwc4 (k_s)
  obtain ⟨p2, hp2⟩ : ∃ p : BW W2, p.w = W2 := ⟨BW.start W2, rfl⟩
  rw [← hp2]
  clear hp2
  repeat ((fail_if_success (guard_target = Code.wp _ (Code.region 7 _ _) _ _ _)); first | ((with_reducible refine gwp_load_all (g := g_g) ?hx (k_g.below (BW.h _)) ?_); (case hx => rfl)) | (go_at_call 21; (with_reducible refine (bw_call KP.out _).mono ?_); rintro e w' ⟨rfl, q, rfl⟩; dsimp only) | ((with_reducible refine gwp_store_new (H := (fun j : Nat => gL (isR ax lo hi j) l)) ?hx ?hy ?hc ?_); (case hx => first | rfl | (rw [← hs_one]; rfl)); (case hy => rfl); (case hc => rfl)) | ((with_reducible refine gwp_store_elder (H := (fun j : Nat => gL (isL ax lo hi j) l)) ?hx ?hy ?hc ?_); (case hx => rfl); (case hy => rfl); (case hc => rfl)) | go_values | go_skip | go_guarded | go_step | go_upon)
  try simp only [Act.put, List.setIfInBounds_toArray, List.set_cons_zero, List.set_cons_succ]
  obtain ⟨W9, hW9⟩ : ∃ W, W = (q.w.alloc (.cells (GA (fun j : Nat => gL (isL ax lo hi j) l)) 56)).alloc (.cells (GA (fun j : Nat => gL (isR ax lo hi j) l)) 56) := ⟨_, rfl⟩
  have k_b : Bk W9 q.w.heap.size 56 (GA (fun j : Nat => gL (isL ax lo hi j) l)) := by rw [hW9]; exact (Bk.new _ _ _).alloc _
  have k_o : Bk W9 (q.w.heap.size + 1) 56 (GA (fun j : Nat => gL (isR ax lo hi j) l)) := by rw [hW9]; exact Bk.new_at _ _ _ _ (by simp)
  have k_s := ((k_s.below q.h).alloc (.cells (GA (fun j : Nat => gL (isL ax lo hi j) l)) 56)).alloc (.cells (GA (fun j : Nat => gL (isR ax lo hi j) l)) 56)
  rw [← hW9] at k_s
  have BP := bw_below B2 q
  have B9 : Below w.heap.size w W9 := by rw [hW9]; exact (BP.alloc BP.size _).alloc (Nat.le_trans BP.size (by simp)) _
  rw [← hW9]
  clear hW9
  clear c_s_0 c_s_1 c_s_2 c_s_3
  obtain ⟨x, hx⟩ : ∃ x, x = gL (isL ax lo hi m) l := ⟨_, rfl⟩
  obtain ⟨y, hy⟩ : ∃ y, y = gL (isR ax lo hi m) l := ⟨_, rfl⟩
  rw [← hx, ← hy] at KA
  have c_x := group_bw k_b h8
  have c_y := group_bw k_o h8
  try dsimp only at c_x c_y
  rw [← hx] at c_x
  rw [← hy] at c_y
  clear hx hy
  obtain ⟨⟨⟨x1, x2, x3⟩, x4, x5, x6⟩, xn⟩ := x
  obtain ⟨⟨⟨y1, y2, y3⟩, y4, y5, y6⟩, yn⟩ := y
  change Hid (∀ w, Calls Try.prog 22 #[.agg #[.int .i64 x1, .int .i64 x2, .int .i64 x3, .int .i64 x4, .int .i64 x5, .int .i64 x6, .int .i64 xn], .agg #[.int .i64 y1, .int .i64 y2, .int .i64 y3, .int .i64 y4, .int .i64 y5, .int .i64 y6, .int .i64 yn]] w fun e w' => e = .returned (.tuple #[.int .i64 c, .bool ok]) ∧ Below w.heap.size w w') at KA
  obtain ⟨c_x0, c_x1, c_x2, c_x3, c_x4, c_x5, c_x6⟩ := c_x
  obtain ⟨c_y0, c_y1, c_y2, c_y3, c_y4, c_y5, c_y6⟩ := c_y
  dsimp only at c_x0 c_x1 c_x2 c_x3 c_x4 c_x5 c_x6 c_y0 c_y1 c_y2 c_y3 c_y4 c_y5 c_y6
  have i1 := ga_index q.w.heap.size m h8
  have i2 := ga_index (q.w.heap.size + 1) m h8
  obtain ⟨c_s0, c_s1, c_s2, c_s3⟩ := bwc4 k_s
  obtain ⟨pw, hpw⟩ : ∃ p : BW W9, p.w = W9 := ⟨BW.start W9, rfl⟩
  rw [← hpw]
  clear hpw
  refine wp_region_bw (by kernel_rfl) (by kernel_rfl) ?_
  repeat (go_big_quiet_step (first
    | (go_at_call 22; (first | (with_reducible exact bw_call KA.out _)))))
  refine wpQuiet_nil ?_
  intro _ hw'
  obtain ⟨q, rfl⟩ := hw'
  go_wp2
  go_ret2
  exact ⟨rfl, bw_below B9 _⟩

theorem apart_is {ax lo hi a : Int} {l : List Bx} (h : allBin ax lo hi l = true) (hn : l.length ≤ 1024) :
    (if (gL (isL ax lo hi a) l).2 ≠ 0 ∧ (gL (isR ax lo hi a) l).2 ≠ 0 then gCost (gL (isL ax lo hi a) l) + gCost (gL (isR ax lo hi a) l) else 0) = sCost ax lo hi a l ∧
    decide ((gL (isL ax lo hi a) l).2 ≠ 0 ∧ (gL (isR ax lo hi a) l).2 ≠ 0) = sOk ax lo hi a l := by
  rw [gOthers_not (allBin_iff.1 h)]
  have e : decide ((gL (isL ax lo hi a) l).2 ≠ 0 ∧ (gL (fun b => !isL ax lo hi a b) l).2 ≠ 0) = sOk ax lo hi a l := by
    rw [Bool.eq_iff_iff, sOk_iff, decide_eq_true_eq]
    exact ⟨fun k => ⟨hn, allBin_iff.1 h, k⟩, fun k => k.2.2⟩
  refine ⟨?_, e⟩
  unfold sCost sVal
  rw [← e]
  simp only [decide_eq_true_eq]

theorem sOk_none {ax lo hi a : Int} {l : List Bx} (h : sOk ax lo hi a l = false) : sCost ax lo hi a l = 0 := by
  unfold sCost; rw [h]; rfl

theorem bins_Cost (a : Option Addr) (n cap : Nat) (V : Nat → Bx) (ax at_ lo hi : Int) (w : World) (hs : Boxes w (.slice a n cap) n V) (hx : I64 ax) (hl : I64 lo) (hh : I64 hi) :
    Calls Try.prog 6 #[.agg #[.int .i64 ax, .int .i64 at_, .int .i64 lo, .int .i64 hi], .slice a n cap] w fun e w' => e = .returned (.tuple #[.int .i64 (sCost ax lo hi at_ (bls V n)), .bool (sOk ax lo hi at_ (bls V n))]) ∧ Below w.heap.size w w' := by
  by_cases hn : 1024 < n
  · have h : sOk ax lo hi at_ (bls V n) = false := by
      cases e : sOk ax lo hi at_ (bls V n) with
      | false => rfl
      | true => have := (sOk_iff.1 e).1; rw [bls_len] at this; omega
    rw [sOk_none h, h]
    exact bins_Cost_many a n cap ax at_ lo hi w hn
  have hn : n ≤ 1024 := by omega
  by_cases h1 : at_ < 1
  · have h : sOk ax lo hi at_ (bls V n) = false := by
      cases e : sOk ax lo hi at_ (bls V n) with
      | false => rfl
      | true => have := (sOk_at e).1; omega
    rw [sOk_none h, h]
    exact bins_Cost_low a n cap ax at_ lo hi w hn h1
  by_cases h8 : 8 ≤ at_
  · have h : sOk ax lo hi at_ (bls V n) = false := by
      cases e : sOk ax lo hi at_ (bls V n) with
      | false => rfl
      | true => have := (sOk_at e).2; omega
    rw [sOk_none h, h]
    exact bins_Cost_high a n cap ax at_ lo hi w hn h8
  have KB := fun X (hX : Below w.heap.size w X) => bins_binned a n cap V ax lo hi X (hs.below hX (Nat.le_refl _)) hx hl hh hn
  cases hb : allBin ax lo hi (bls V n) with
  | false =>
    have h : sOk ax lo hi at_ (bls V n) = false := by unfold sOk; rw [hb]; simp
    rw [sOk_none h, h]
    simp only [hb, Bool.false_eq_true, if_false] at KB
    exact bins_Cost_none a n cap ax at_ lo hi w hn (by omega) (by omega) (Lib.hid KB)
  | true =>
    simp only [hb, if_true] at KB
    obtain ⟨m, rfl⟩ : ∃ m : Nat, at_ = m := ⟨at_.toNat, by omega⟩
    obtain ⟨e1, e2⟩ := apart_is (a := (m : Int)) hb (by rw [bls_len]; exact hn)
    rw [← e1, ← e2]
    have hle : ∀ p, (gL p (bls V n)).2 ≤ 1024 := fun p => Nat.le_trans (gL_le _ _) (by rw [bls_len]; exact hn)
    exact bins_Cost_yes a n cap ax lo hi _ m _ (bls V n) w hn (by omega) (by omega) (Lib.hid KB) (Lib.hid (fun w => bins_parted (bls V n) ax lo hi w (allBin_iff.1 hb) (by rw [bls_len]; exact hn))) (Lib.hid (fun w => bins_apart _ _ w (hle _) (hle _)))

set_option maxRecDepth 100000 in
set_option maxHeartbeats 4000000 in
theorem bins_Best_many (a : Option Addr) (n cap : Nat)  (w : World) (hn : 1024 < n) :
    Calls Try.prog 9 #[.slice a n cap] w fun e w' => e = .returned (.tuple #[.agg #[.int .i64 0, .int .i64 0, .int .i64 0, .int .i64 0], .bool false]) ∧ Below w.heap.size w w' := by
  have t1 : decide ((1024 : Int) < n) = true := decide_eq_true (by omega)
  clear hn
  go_enter Try.func9, Try.ntmps9
  go_upto_region 1 with (fail)
  obtain ⟨W1, hW1⟩ : ∃ W, W = w.alloc (.cells #[.int .i64 0, .int .i64 0, .int .i64 0, .int .i64 0] 30) := ⟨_, rfl⟩
  obtain ⟨k_r, B1⟩ := st1 hW1
  rw [← hW1]
  clear hW1
  obtain ⟨c_r_0, c_r_1, c_r_2, c_r_3⟩ := bwc4 (k_r)
  obtain ⟨f_r_0, f_r_1, f_r_2, f_r_3⟩ := bwf4 (k_r)
  obtain ⟨p1, hp1⟩ : ∃ p : BW W1, p.w = W1 := ⟨BW.start W1, rfl⟩
  rw [← hp1]
  clear hp1
  go_wp2
  have kr := bkp4 (k_r.below p1.h) (.int .i64 0) (.int .i64 0) (.int .i64 0) (.int .i64 0)
  obtain ⟨rc0, rc1, rc2, rc3⟩ := rwc4 kr
  exact bodyPost_ret (v := .tuple #[.agg #[.int .i64 0, .int .i64 0, .int .i64 0, .int .i64 0], .bool false]) (by simp [results, Try.results9, go_sem, rc0, rc1, rc2, rc3]) rfl ⟨rfl, blp4 (bw_below B1 p1) (by omega)⟩

set_option maxRecDepth 100000 in
set_option maxHeartbeats 4000000 in
theorem bins_Best_none (a : Option Addr) (n cap : Nat) (V : Nat → Bx) (w : World) (hn : n ≤ 1024) (KS : Hid (∀ (k : Nat) X, Below w.heap.size w X → k < 3 → Calls Try.prog 24 #[.slice a n cap, .int .i64 (k : Int)] X fun e w' => e = .returned (.tuple #[.int .i64 (mnV V n k), .int .i64 (mxV V n k)]) ∧ Below X.heap.size X w')) (KB : Hid (∀ (k : Nat) X, k < 3 → Below w.heap.size w X → Calls Try.prog 20 #[.slice a n cap, .int .i64 (k : Int), .int .i64 (mnV V n k), .int .i64 (mxV V n k)] X fun e w' => e = .returned (.tuple #[.agg (GA (fun _ : Nat => g0)), .bool false]) ∧ Below X.heap.size X w')) :
    Calls Try.prog 9 #[.slice a n cap] w fun e w' => e = .returned (.tuple #[.agg #[.int .i64 0, .int .i64 0, .int .i64 0, .int .i64 0], .bool false]) ∧ Below w.heap.size w w' := by
  have t1 : decide ((1024 : Int) < n) = false := decide_eq_false (by omega)
  clear hn
  have KSk := Lib.hid (fun X hX => KS.out 0 X hX (by omega))
  have KBk := Lib.hid (fun X hX => KB.out 0 X (by omega) hX)
  change Hid (∀ X, Below w.heap.size w X → Calls Try.prog 24 #[.slice a n cap, .int .i64 0] X fun e w' => e = .returned (.tuple #[.int .i64 (mnV V n (0 : Nat)), .int .i64 (mxV V n (0 : Nat))]) ∧ Below X.heap.size X w') at KSk
  change Hid (∀ X, Below w.heap.size w X → Calls Try.prog 20 #[.slice a n cap, .int .i64 0, .int .i64 (mnV V n (0 : Nat)), .int .i64 (mxV V n (0 : Nat))] X fun e w' => e = .returned (.tuple #[.agg (GA (fun _ : Nat => g0)), .bool false]) ∧ Below X.heap.size X w') at KBk
  obtain ⟨lo, hlo⟩ : ∃ m, m = mnV V n (0 : Nat) := ⟨_, rfl⟩
  obtain ⟨hi, hhi⟩ : ∃ m, m = mxV V n (0 : Nat) := ⟨_, rfl⟩
  rw [← hlo, ← hhi] at KSk KBk
  clear hlo hhi KS KB
  go_enter Try.func9, Try.ntmps9
  go_upto_region 1 with (fail)
  obtain ⟨W1, hW1⟩ : ∃ W, W = w.alloc (.cells #[.int .i64 0, .int .i64 0, .int .i64 0, .int .i64 0] 30) := ⟨_, rfl⟩
  obtain ⟨k_r, B1⟩ := st1 hW1
  rw [← hW1]
  clear hW1
  obtain ⟨c_r_0, c_r_1, c_r_2, c_r_3⟩ := bwc4 (k_r)
  obtain ⟨f_r_0, f_r_1, f_r_2, f_r_3⟩ := bwf4 (k_r)
  obtain ⟨p1, hp1⟩ : ∃ p : BW W1, p.w = W1 := ⟨BW.start W1, rfl⟩
  rw [← hp1]
  clear hp1
  go_upto_region 4 with (fail)
  obtain ⟨W2, hW2⟩ : ∃ W, W = p1.w.alloc (.cells #[.int .i64 0, .int .i64 0, .int .i64 0, .int .i64 0] 30) := ⟨_, rfl⟩
  have B2 : Below w.heap.size w W2 := by rw [hW2]; exact (bw_below B1 p1).alloc (bw_below B1 p1).size _
  have l_e : w.heap.size < p1.w.heap.size := (k_r.below p1.h).lt
  have o_e : w.heap.size ≤ p1.w.heap.size := (bw_below B1 p1).size
  have k_r := bka hW2 (k_r.below p1.h)
  have k_e := bkn hW2
  rw [← hW2]
  clear hW2
  clear B1
  clear c_r_0 c_r_1 c_r_2 c_r_3 f_r_0 f_r_1 f_r_2 f_r_3
  generalize p1.w.heap.size = g_e at *
  obtain ⟨c_r_0, c_r_1, c_r_2, c_r_3⟩ := bwc4 (k_r)
  obtain ⟨f_r_0, f_r_1, f_r_2, f_r_3⟩ := bwf4 (k_r)
  obtain ⟨c_e_0, c_e_1, c_e_2, c_e_3⟩ := bwc4 (k_e)
  obtain ⟨p2, hp2⟩ : ∃ p : BW W2, p.w = W2 := ⟨BW.start W2, rfl⟩
  rw [← hp2]
  clear hp2
  go_wp2
  refine wp_loop_rounds 1 ?_
  rw [rounds_succ]
  repeat ((fail_if_success (guard_target = Code.wp _ (Code.region 9 _ _) _ _ _)); first | (go_at_call 24; refine (KSk.out _ (bw_below B2 _)).mono ?_; rintro e w1 ⟨rfl, hb⟩; obtain ⟨q, rfl⟩ := bw_take hb; dsimp only) | (go_at_call 20; refine (KBk.out _ (bw_below B2 _)).mono ?_; rintro e w1 ⟨rfl, hb⟩; obtain ⟨q, rfl⟩ := bw_take hb; dsimp only) | ((with_reducible refine gwp_store_new (H := (fun _ : Nat => g0)) ?hx ?hy ?hc ?_); (case hx => first | rfl | (rw [← hs_one]; rfl)); (case hy => rfl); (case hc => rfl)) | go_values | go_skip | go_guarded | go_step | go_upon)
  try simp only [Act.put, List.setIfInBounds_toArray, List.set_cons_zero, List.set_cons_succ]
  obtain ⟨W3, hW3⟩ : ∃ W, W = q.w.alloc (.cells (GA (fun _ : Nat => g0)) 56) := ⟨_, rfl⟩
  have B3 : Below w.heap.size w W3 := by rw [hW3]; exact (bw_below B2 q).alloc (bw_below B2 q).size _
  have l_g : g_e < q.w.heap.size := (k_e.below q.h).lt
  have o_g : w.heap.size ≤ q.w.heap.size := (bw_below B2 q).size
  have k_r := bka hW3 (k_r.below q.h)
  have k_e := bka hW3 (k_e.below q.h)
  have k_g := bkn hW3
  rw [← hW3]
  clear hW3
  clear B2
  clear c_r_0 c_r_1 c_r_2 c_r_3 f_r_0 f_r_1 f_r_2 f_r_3 c_e_0 c_e_1 c_e_2 c_e_3
  generalize q.w.heap.size = g_g at *
  obtain ⟨c_r_0, c_r_1, c_r_2, c_r_3⟩ := bwc4 (k_r)
  obtain ⟨f_r_0, f_r_1, f_r_2, f_r_3⟩ := bwf4 (k_r)
  obtain ⟨c_e_0, c_e_1, c_e_2, c_e_3⟩ := bwc4 (k_e)
  obtain ⟨p3, hp3⟩ : ∃ p : BW W3, p.w = W3 := ⟨BW.start W3, rfl⟩
  rw [← hp3]
  clear hp3
  go_wp2
  have kr := bkp4 (k_r.below p3.h) (.int .i64 0) (.int .i64 0) (.int .i64 0) (.int .i64 0)
  obtain ⟨rc0, rc1, rc2, rc3⟩ := rwc4 kr
  exact bodyPost_ret (v := .tuple #[.agg #[.int .i64 0, .int .i64 0, .int .i64 0, .int .i64 0], .bool false]) (by simp [results, Try.results9, go_sem, rc0, rc1, rc2, rc3]) rfl ⟨rfl, blp4 (bw_below B3 p3) (by omega)⟩

set_option maxRecDepth 100000 in
set_option maxHeartbeats 4000000 in
theorem bins_Best_yes (a : Option Addr) (n cap : Nat) (V : Nat → Bx) (w : World) (hn : n ≤ 1024) (hall : ∀ k : Nat, k < 3 → allBin k (mnV V n k) (mxV V n k) (bls V n) = true) (KS : Hid (∀ (k : Nat) X, Below w.heap.size w X → k < 3 → Calls Try.prog 24 #[.slice a n cap, .int .i64 (k : Int)] X fun e w' => e = .returned (.tuple #[.int .i64 (mnV V n k), .int .i64 (mxV V n k)]) ∧ Below X.heap.size X w')) (KB : Hid (∀ (k : Nat) X, k < 3 → Below w.heap.size w X → Calls Try.prog 20 #[.slice a n cap, .int .i64 (k : Int), .int .i64 (mnV V n k), .int .i64 (mxV V n k)] X fun e w' => e = .returned (.tuple #[.agg (GA (fun j : Nat => gL (isB k (mnV V n k) (mxV V n k) j) (bls V n))), .bool true]) ∧ Below X.heap.size X w')) :
    Calls Try.prog 9 #[.slice a n cap] w fun e w' => e = .returned (.tuple #[.agg #[.int .i64 (bOut V n 3).1.1, .int .i64 (bOut V n 3).1.2.1, .int .i64 (bOut V n 3).1.2.2.1, .int .i64 (bOut V n 3).1.2.2.2], .bool (bOut V n 3).2.2]) ∧ Below w.heap.size w w' := by
  have t1 : decide ((1024 : Int) < n) = false := decide_eq_false (by omega)
  have HA := Lib.hid hall
  have HN := Lib.hid hn
  clear hn hall
  go_enter Try.func9, Try.ntmps9
  go_upto_region 1 with (fail)
  obtain ⟨W1, hW1⟩ : ∃ W, W = w.alloc (.cells #[.int .i64 0, .int .i64 0, .int .i64 0, .int .i64 0] 30) := ⟨_, rfl⟩
  obtain ⟨k_r, B1⟩ := st1 hW1
  rw [← hW1]
  clear hW1
  obtain ⟨c_r_0, c_r_1, c_r_2, c_r_3⟩ := bwc4 (k_r)
  obtain ⟨f_r_0, f_r_1, f_r_2, f_r_3⟩ := bwf4 (k_r)
  obtain ⟨p1, hp1⟩ : ∃ p : BW W1, p.w = W1 := ⟨BW.start W1, rfl⟩
  rw [← hp1]
  clear hp1
  go_upto_region 4 with (fail)
  obtain ⟨W2, hW2⟩ : ∃ W, W = p1.w.alloc (.cells #[.int .i64 0, .int .i64 0, .int .i64 0, .int .i64 0] 30) := ⟨_, rfl⟩
  have B2 : Below w.heap.size w W2 := by rw [hW2]; exact (bw_below B1 p1).alloc (bw_below B1 p1).size _
  have l_e : w.heap.size < p1.w.heap.size := (k_r.below p1.h).lt
  have o_e : w.heap.size ≤ p1.w.heap.size := (bw_below B1 p1).size
  have k_r := bka hW2 (k_r.below p1.h)
  have k_e := bkn hW2
  rw [← hW2]
  clear hW2
  clear B1
  clear c_r_0 c_r_1 c_r_2 c_r_3 f_r_0 f_r_1 f_r_2 f_r_3
  generalize p1.w.heap.size = g_e at *
  obtain ⟨c_r_0, c_r_1, c_r_2, c_r_3⟩ := bwc4 (k_r)
  obtain ⟨c_e_0, c_e_1, c_e_2, c_e_3⟩ := bwc4 (k_e)
  obtain ⟨p2, hp2⟩ : ∃ p : BW W2, p.w = W2 := ⟨BW.start W2, rfl⟩
  rw [← hp2]
  clear hp2
  clear c_r_0 c_r_1 c_r_2 c_r_3 c_e_0 c_e_1 c_e_2 c_e_3
  have hge : w.heap.size < g_e := l_e
  go_wp2
  go_loopw [5, 6, 22] (fun lv fv i wr => ∃ (k : Nat) (e1 e2 e3 e4 ls : Int) (fd : Bool), k ≤ 3 ∧ i = .int .i64 k ∧ ((e1, e2, e3, e4), ls, fd) = bOut V n k ∧ lv = .int .i64 ls ∧ fv = .bool fd ∧ Bk wr w.heap.size 30 #[.int .i64 0, .int .i64 0, .int .i64 0, .int .i64 0] ∧ Bk wr g_e 30 #[.int .i64 e1, .int .i64 e2, .int .i64 e3, .int .i64 e4] ∧ Below w.heap.size w wr) (fun _ _ i _ => 3 - (intOf i).toNat)
  case atStart => exact ⟨0, 0, 0, 0, 0, 0, false, by omega, rfl, rfl, rfl, rfl, k_r.below (BW.h _), k_e.below (BW.h _), bw_below B2 _⟩
  case round =>
    clear k_r k_e B2
    obtain ⟨k, e1, e2, e3, e4, ls, fd, hk, rfl, hst, rfl, rfl, k_r, k_e, BO⟩ := hrel
    by_cases hlt : k < 3
    · have hall := HA.out k hlt
      have KSk := Lib.hid (fun X hX => KS.out k X hX hlt)
      have KBk := Lib.hid (fun X hX => KB.out k X hlt hX)
      have hin := mnV_in V n k
      have hnx : bOut V n (k + 1) = bIn k (mnV V n k) (mxV V n k) (bls V n) (bOut V n k) 7 := rfl
      rw [← hst] at hnx
      change Hid (∀ X, Below w.heap.size w X → Calls Try.prog 24 #[.slice a n cap, .int .i64 (k : Int)] X fun e w' => e = .returned (.tuple #[.int .i64 (mnV V n k), .int .i64 (mxV V n k)]) ∧ Below X.heap.size X w') at KSk
      change Hid (∀ X, Below w.heap.size w X → Calls Try.prog 20 #[.slice a n cap, .int .i64 (k : Int), .int .i64 (mnV V n k), .int .i64 (mxV V n k)] X fun e w' => e = .returned (.tuple #[.agg (GA (fun j : Nat => gL (isB k (mnV V n k) (mxV V n k) j) (bls V n))), .bool true]) ∧ Below X.heap.size X w') at KBk
      obtain ⟨lo, hlo⟩ : ∃ m, m = mnV V n k := ⟨_, rfl⟩
      obtain ⟨hi, hhi⟩ : ∃ m, m = mxV V n k := ⟨_, rfl⟩
      rw [← hlo, ← hhi] at KSk KBk hall hin hnx
      clear hlo hhi
      obtain ⟨l, hl⟩ : ∃ l, l = bls V n := ⟨_, rfl⟩
      have hll : l.length ≤ 1024 := by rw [hl, bls_len]; exact HN.out
      rw [← hl] at KBk hall hnx
      clear hl
      have HALL := Lib.hid hall
      have HST := Lib.hid hst
      have HNX := Lib.hid hnx
      have HLL := Lib.hid hll
      have KP := Lib.hid (fun w => bins_parted l k lo hi w (allBin_iff.1 hall) hll)
      clear hall hst hnx hll hin
      have B3 := BO
      clear BO
      obtain ⟨c_r_0, c_r_1, c_r_2, c_r_3⟩ := bwc4 (k_r)
      obtain ⟨c_e_0, c_e_1, c_e_2, c_e_3⟩ := bwc4 (k_e)
      obtain ⟨p3, hp3⟩ : ∃ p : BW wr, p.w = wr := ⟨BW.start wr, rfl⟩
      rw [← hp3]
      clear hp3
      repeat ((fail_if_success (guard_target = Code.wp _ (Code.region 9 _ _) _ _ _)); first | (go_at_call 24; refine (KSk.out _ (bw_below B3 _)).mono ?_; rintro e w1 ⟨rfl, hb⟩; obtain ⟨q, rfl⟩ := bw_take hb; dsimp only) | (go_at_call 20; refine (KBk.out _ (bw_below B3 _)).mono ?_; rintro e w1 ⟨rfl, hb⟩; obtain ⟨q, rfl⟩ := bw_take hb; dsimp only) | ((with_reducible refine gwp_store_new (H := (fun j : Nat => gL (isB k lo hi j) l)) ?hx ?hy ?hc ?_); (case hx => first | rfl | (rw [← hs_one]; rfl)); (case hy => rfl); (case hc => rfl)) | go_values | go_skip | go_guarded | go_step | go_upon)
      try simp only [Act.put, List.setIfInBounds_toArray, List.set_cons_zero, List.set_cons_succ]
      obtain ⟨W4, hW4⟩ : ∃ W, W = q.w.alloc (.cells (GA (fun j : Nat => gL (isB k lo hi j) l)) 56) := ⟨_, rfl⟩
      have B4 : Below w.heap.size w W4 := by rw [hW4]; exact (bw_below B3 q).alloc (bw_below B3 q).size _
      have l_g : g_e < q.w.heap.size := (k_e.below q.h).lt
      have o_g : w.heap.size ≤ q.w.heap.size := (bw_below B3 q).size
      have l_g_r : w.heap.size < q.w.heap.size := (k_r.below q.h).lt
      have k_r := bka hW4 (k_r.below q.h)
      have k_e := bka hW4 (k_e.below q.h)
      have k_g := bkn hW4
      rw [← hW4]
      clear hW4
      clear B3
      clear c_r_0 c_r_1 c_r_2 c_r_3 c_e_0 c_e_1 c_e_2 c_e_3
      generalize q.w.heap.size = g_g at *
      obtain ⟨c_r_0, c_r_1, c_r_2, c_r_3⟩ := bwc4 (k_r)
      obtain ⟨c_e_0, c_e_1, c_e_2, c_e_3⟩ := bwc4 (k_e)
      obtain ⟨p4, hp4⟩ : ∃ p : BW W4, p.w = W4 := ⟨BW.start W4, rfl⟩
      rw [← hp4]
      clear hp4
      repeat ((fail_if_success (guard_target = Code.wp _ (Code.region 12 _ _) _ _ _)); first | ((with_reducible refine gwp_load_all (g := g_g) ?hx (k_g.below (BW.h _)) ?_); (case hx => rfl)) | (go_at_call 21; (with_reducible refine (bw_call KP.out _).mono ?_); rintro e w' ⟨rfl, q, rfl⟩; dsimp only) | ((with_reducible refine gwp_store_new (H := (fun j : Nat => gL (isR k lo hi j) l)) ?hx ?hy ?hc ?_); (case hx => first | rfl | (rw [← hs_one]; rfl)); (case hy => rfl); (case hc => rfl)) | ((with_reducible refine gwp_store_elder (H := (fun j : Nat => gL (isL k lo hi j) l)) ?hx ?hy ?hc ?_); (case hx => rfl); (case hy => rfl); (case hc => rfl)) | go_values | go_skip | go_guarded | go_step | go_upon)
      try simp only [Act.put, List.setIfInBounds_toArray, List.set_cons_zero, List.set_cons_succ]
      obtain ⟨W9, hW9⟩ : ∃ W, W = (q.w.alloc (.cells (GA (fun j : Nat => gL (isL k lo hi j) l)) 56)).alloc (.cells (GA (fun j : Nat => gL (isR k lo hi j) l)) 56) := ⟨_, rfl⟩
      have k_b : Bk W9 q.w.heap.size 56 (GA (fun j : Nat => gL (isL k lo hi j) l)) := by rw [hW9]; exact (Bk.new _ _ _).alloc _
      have k_o : Bk W9 (q.w.heap.size + 1) 56 (GA (fun j : Nat => gL (isR k lo hi j) l)) := by rw [hW9]; exact Bk.new_at _ _ _ _ (by simp)
      have l_b : g_e < q.w.heap.size := (k_e.below q.h).lt
      have k_r := ((k_r.below q.h).alloc (.cells (GA (fun j : Nat => gL (isL k lo hi j) l)) 56)).alloc (.cells (GA (fun j : Nat => gL (isR k lo hi j) l)) 56)
      have k_e := ((k_e.below q.h).alloc (.cells (GA (fun j : Nat => gL (isL k lo hi j) l)) 56)).alloc (.cells (GA (fun j : Nat => gL (isR k lo hi j) l)) 56)
      rw [← hW9] at k_r k_e
      have BP := bw_below B4 q
      have B9 : Below w.heap.size w W9 := by rw [hW9]; exact (BP.alloc BP.size _).alloc (Nat.le_trans BP.size (by simp)) _
      rw [← hW9]
      clear hW9 BP B4
      clear c_r_0 c_r_1 c_r_2 c_r_3 c_e_0 c_e_1 c_e_2 c_e_3
      obtain ⟨g_o, hgo⟩ : ∃ g, g = q.w.heap.size + 1 := ⟨_, rfl⟩
      rw [← hgo] at k_o ⊢
      have l_o : q.w.heap.size < g_o := by omega
      clear hgo
      generalize q.w.heap.size = g_b at *
      go_wp2
      go_loopw [5, 6, 14] (fun lv fv jv wr => ∃ (j : Nat) (d1 d2 d3 d4 lt : Int) (fe : Bool), 1 ≤ j ∧ j ≤ 8 ∧ jv = .int .i64 j ∧ ((d1, d2, d3, d4), lt, fe) = bIn k lo hi l (((e1, e2, e3, e4), ls, fd)) (j - 1) ∧ lv = .int .i64 lt ∧ fv = .bool fe ∧ Bk wr w.heap.size 30 #[.int .i64 0, .int .i64 0, .int .i64 0, .int .i64 0] ∧ Bk wr g_e 30 #[.int .i64 d1, .int .i64 d2, .int .i64 d3, .int .i64 d4] ∧ Bk wr g_b 56 (GA (fun j : Nat => gL (isL k lo hi j) l)) ∧ Bk wr g_o 56 (GA (fun j : Nat => gL (isR k lo hi j) l)) ∧ Below w.heap.size w wr) (fun _ _ j _ => 8 - (intOf j).toNat)
      case atStart => exact ⟨1, _, _, _, _, _, _, by omega, by omega, rfl, rfl, rfl, rfl, k_r, k_e, k_b, k_o, B9⟩
      case round =>
        clear k_r k_e k_b k_o B9
        obtain ⟨j, d1, d2, d3, d4, lt, fe, h1, h8, rfl, hbi, rfl, rfl, k_r, k_e, k_b, k_o, BO⟩ := hrel
        by_cases hj : j < 8
        · obtain ⟨ap1, ap2⟩ := apart_is (a := (j : Int)) HALL.out HLL.out
          have KA := Lib.hid (fun w => bins_apart (gL (isL k lo hi j) l) (gL (isR k lo hi j) l) w (Nat.le_trans (gL_le _ _) HLL.out) (Nat.le_trans (gL_le _ _) HLL.out))
          rw [ap1, ap2] at KA
          have hsc : sOk k lo hi j l = true → sVal k lo hi j l = sCost k lo hi j l := fun h => by unfold sCost; rw [if_pos h]
          have hst : bIn k lo hi l (((e1, e2, e3, e4), ls, fd)) (j + 1 - 1) = bTry (sOk k lo hi j l) (sVal k lo hi j l) (k, j, lo, hi) (bIn k lo hi l (((e1, e2, e3, e4), ls, fd)) (j - 1)) := by
            obtain ⟨m, rfl⟩ : ∃ m, j = m + 1 := ⟨j - 1, by omega⟩
            rfl
          rw [← hbi] at hst
          obtain ⟨ok, hok⟩ : ∃ ok, ok = sOk k lo hi j l := ⟨_, rfl⟩
          obtain ⟨sv, hsv⟩ : ∃ sv, sv = sVal k lo hi j l := ⟨_, rfl⟩
          obtain ⟨c, hc⟩ : ∃ c, c = sCost k lo hi j l := ⟨_, rfl⟩
          rw [← hok, ← hsv] at hst
          rw [← hc, ← hok] at KA
          rw [← hok, ← hsv, ← hc] at hsc
          have HBI := Lib.hid hst
          have HSC := Lib.hid hsc
          have j8 : j < 8 := hj
          clear hok hsv hc hst hsc hbi ap1 ap2
          obtain ⟨x, hx⟩ : ∃ x, x = gL (isL k lo hi j) l := ⟨_, rfl⟩
          obtain ⟨y, hy⟩ : ∃ y, y = gL (isR k lo hi j) l := ⟨_, rfl⟩
          rw [← hx, ← hy] at KA
          have c_x := group_bw k_b j8
          have c_y := group_bw k_o j8
          try dsimp only at c_x c_y
          rw [← hx] at c_x
          rw [← hy] at c_y
          clear hx hy
          obtain ⟨⟨⟨x1, x2, x3⟩, x4, x5, x6⟩, xn⟩ := x
          obtain ⟨⟨⟨y1, y2, y3⟩, y4, y5, y6⟩, yn⟩ := y
          change Hid (∀ w, Calls Try.prog 22 #[.agg #[.int .i64 x1, .int .i64 x2, .int .i64 x3, .int .i64 x4, .int .i64 x5, .int .i64 x6, .int .i64 xn], .agg #[.int .i64 y1, .int .i64 y2, .int .i64 y3, .int .i64 y4, .int .i64 y5, .int .i64 y6, .int .i64 yn]] w fun e w' => e = .returned (.tuple #[.int .i64 c, .bool ok]) ∧ Below w.heap.size w w') at KA
          obtain ⟨c_x0, c_x1, c_x2, c_x3, c_x4, c_x5, c_x6⟩ := c_x
          obtain ⟨c_y0, c_y1, c_y2, c_y3, c_y4, c_y5, c_y6⟩ := c_y
          dsimp only at c_x0 c_x1 c_x2 c_x3 c_x4 c_x5 c_x6 c_y0 c_y1 c_y2 c_y3 c_y4 c_y5 c_y6
          have i1 := ga_index g_b j j8
          have i2 := ga_index g_o j j8
          have tj : decide ((j : Int) < 8) = true := decide_eq_true (by omega)
          cases ok with
          | false =>
            have B4 := BO
            have HR := Lib.hid (show ((d1, d2, d3, d4), lt, fe) = bIn k lo hi l ((e1, e2, e3, e4), ls, fd) (j + 1 - 1) from by rw [HBI.out]; unfold bTry; rw [if_neg (by simp)])
            clear HBI
            obtain ⟨c_e_0, c_e_1, c_e_2, c_e_3⟩ := bwc4 (k_e)
            obtain ⟨f_e_0, f_e_1, f_e_2, f_e_3⟩ := bwf4 (k_e)
            obtain ⟨p4, hp4⟩ : ∃ p : BW wr, p.w = wr := ⟨BW.start wr, rfl⟩
            rw [← hp4]
            clear hp4
            go_upto_region 15 with (fail)
            refine wp_region_bw (by kernel_rfl) (by kernel_rfl) ?_
            repeat (go_big_quiet_step (first
              | (go_at_call 22; (first | (with_reducible exact bw_call KA.out _)))))
            refine wpQuiet_nil ?_
            intro _ hw'
            obtain ⟨q, rfl⟩ := hw'
            go_wp2
            go_roundw
            case rel => exact ⟨j + 1, _, _, _, _, _, _, by omega, by omega, by go_num, HR.out, rfl, rfl, k_r.below q.h, k_e.below q.h, k_b.below q.h, k_o.below q.h, bw_below B4 q⟩
            case measure => simp [intOf]; omega
          | true =>
            cases fe with
            | false =>
              have B4 := BO
              have HR := Lib.hid (show (((k : Int), (j : Int), lo, hi), c, true) = bIn k lo hi l ((e1, e2, e3, e4), ls, fd) (j + 1 - 1) from by rw [HBI.out, HSC.out rfl]; unfold bTry; rw [if_pos (by exact ⟨rfl, .inl rfl⟩)])
              clear HBI
              obtain ⟨c_e_0, c_e_1, c_e_2, c_e_3⟩ := bwc4 (k_e)
              obtain ⟨f_e_0, f_e_1, f_e_2, f_e_3⟩ := bwf4 (k_e)
              obtain ⟨p4, hp4⟩ : ∃ p : BW wr, p.w = wr := ⟨BW.start wr, rfl⟩
              rw [← hp4]
              clear hp4
              go_upto_region 15 with (fail)
              refine wp_region_bw (by kernel_rfl) (by kernel_rfl) ?_
              repeat (go_big_quiet_step (first
                | (go_at_call 22; (first | (with_reducible exact bw_call KA.out _)))))
              refine wpQuiet_nil ?_
              intro _ hw'
              obtain ⟨q, rfl⟩ := hw'
              go_wp2
              go_roundw
              case rel => exact ⟨j + 1, _, _, _, _, _, _, by omega, by omega, by go_num, HR.out, rfl, rfl, bko4 (k_r.below q.h) (by omega), bkp4 (k_e.below q.h) _ _ _ _, bko4 (k_b.below q.h) (by omega), bko4 (k_o.below q.h) (by omega), blp4 (bw_below B4 q) (by omega)⟩
              case measure => simp [intOf]; omega
            | true =>
              by_cases hlc : c < lt
              · have tc : decide (c < lt) = true := decide_eq_true hlc
                have B4 := BO
                have HR := Lib.hid (show (((k : Int), (j : Int), lo, hi), c, true) = bIn k lo hi l ((e1, e2, e3, e4), ls, fd) (j + 1 - 1) from by rw [HBI.out, HSC.out rfl]; unfold bTry; rw [if_pos (by exact ⟨rfl, .inr hlc⟩)])
                clear HBI
                clear hlc
                obtain ⟨c_e_0, c_e_1, c_e_2, c_e_3⟩ := bwc4 (k_e)
                obtain ⟨f_e_0, f_e_1, f_e_2, f_e_3⟩ := bwf4 (k_e)
                obtain ⟨p4, hp4⟩ : ∃ p : BW wr, p.w = wr := ⟨BW.start wr, rfl⟩
                rw [← hp4]
                clear hp4
                go_upto_region 15 with (fail)
                refine wp_region_bw (by kernel_rfl) (by kernel_rfl) ?_
                repeat (go_big_quiet_step (first
                  | (go_at_call 22; (first | (with_reducible exact bw_call KA.out _)))))
                refine wpQuiet_nil ?_
                intro _ hw'
                obtain ⟨q, rfl⟩ := hw'
                go_wp2
                go_roundw
                case rel => exact ⟨j + 1, _, _, _, _, _, _, by omega, by omega, by go_num, HR.out, rfl, rfl, bko4 (k_r.below q.h) (by omega), bkp4 (k_e.below q.h) _ _ _ _, bko4 (k_b.below q.h) (by omega), bko4 (k_o.below q.h) (by omega), blp4 (bw_below B4 q) (by omega)⟩
                case measure => simp [intOf]; omega
              · have tc : decide (c < lt) = false := decide_eq_false hlc
                have B4 := BO
                have HR := Lib.hid (show ((d1, d2, d3, d4), lt, true) = bIn k lo hi l ((e1, e2, e3, e4), ls, fd) (j + 1 - 1) from by rw [HBI.out, HSC.out rfl]; unfold bTry; rw [if_neg (by rintro ⟨_, h | h⟩ <;> first | exact hlc h | cases h)])
                clear HBI
                clear hlc
                obtain ⟨c_e_0, c_e_1, c_e_2, c_e_3⟩ := bwc4 (k_e)
                obtain ⟨f_e_0, f_e_1, f_e_2, f_e_3⟩ := bwf4 (k_e)
                obtain ⟨p4, hp4⟩ : ∃ p : BW wr, p.w = wr := ⟨BW.start wr, rfl⟩
                rw [← hp4]
                clear hp4
                go_upto_region 15 with (fail)
                refine wp_region_bw (by kernel_rfl) (by kernel_rfl) ?_
                repeat (go_big_quiet_step (first
                  | (go_at_call 22; (first | (with_reducible exact bw_call KA.out _)))))
                refine wpQuiet_nil ?_
                intro _ hw'
                obtain ⟨q, rfl⟩ := hw'
                go_wp2
                go_roundw
                case rel => exact ⟨j + 1, _, _, _, _, _, _, by omega, by omega, by go_num, HR.out, rfl, rfl, k_r.below q.h, k_e.below q.h, k_b.below q.h, k_o.below q.h, bw_below B4 q⟩
                case measure => simp [intOf]; omega
        · obtain rfl : j = 8 := by omega
          have HR := Lib.hid hbi
          clear hbi
          have tj : decide (((8 : Nat) : Int) < 8) = false := decide_eq_false (by omega)
          go_wp2
          go_roundw
          case rel => exact ⟨k + 1, d1, d2, d3, d4, lt, fe, by omega, by go_num, (by rw [HNX.out]; exact HR.out), rfl, rfl, k_r, k_e, BO⟩
          case measure => simp [intOf]; omega
    · obtain rfl : k = 3 := by omega
      have HR := Lib.hid hst
      clear hst
      have B3 := BO
      obtain ⟨c_r_0, c_r_1, c_r_2, c_r_3⟩ := bwc4 (k_r)
      obtain ⟨f_r_0, f_r_1, f_r_2, f_r_3⟩ := bwf4 (k_r)
      obtain ⟨c_e_0, c_e_1, c_e_2, c_e_3⟩ := bwc4 (k_e)
      obtain ⟨p3, hp3⟩ : ∃ p : BW wr, p.w = wr := ⟨BW.start wr, rfl⟩
      rw [← hp3]
      clear hp3
      go_wp2
      have kr := bkp4 (k_r.below p3.h) (.int .i64 e1) (.int .i64 e2) (.int .i64 e3) (.int .i64 e4)
      obtain ⟨rc0, rc1, rc2, rc3⟩ := rwc4 kr
      exact bodyPost_ret (v := .tuple #[.agg #[.int .i64 e1, .int .i64 e2, .int .i64 e3, .int .i64 e4], .bool fd]) (by simp [results, Try.results9, go_sem, rc0, rc1, rc2, rc3]) rfl ⟨by rw [← HR.out], blp4 (bw_below B3 p3) (by omega)⟩

theorem bins_Best (a : Option Addr) (n cap : Nat) (V : Nat → Bx) (w : World) (hs : Boxes w (.slice a n cap) n V) :
    Calls Try.prog 9 #[.slice a n cap] w fun e w' => e = .returned (.tuple #[.agg #[.int .i64 (bBest V n).1.1, .int .i64 (bBest V n).1.2.1, .int .i64 (bBest V n).1.2.2.1, .int .i64 (bBest V n).1.2.2.2], .bool (bBest V n).2]) ∧ Below w.heap.size w w' := by
  by_cases hn : 1024 < n
  · have h : bBest V n = ((0, 0, 0, 0), false) := by
      unfold bBest bestOk
      rw [decide_eq_false (by omega)]
      rfl
    rw [h]
    exact bins_Best_many a n cap w hn
  have hn : n ≤ 1024 := by omega
  have hi : ∀ k : Nat, k < 3 → I64 (k : Int) := fun k h => by unfold I64; omega
  have KS := Lib.hid (fun (k : Nat) X (hX : Below w.heap.size w X) (h : k < 3) => bins_span a n cap V k X (hs.below hX (Nat.le_refl _)) (hi k h) (by omega))
  have hm := fun k : Nat => mnV_in V n k
  have KB := fun (k : Nat) X (h : k < 3) (hX : Below w.heap.size w X) => bins_binned a n cap V k (mnV V n k) (mxV V n k) X (hs.below hX (Nat.le_refl _)) (hi k h) (by have := hm k; unfold I64; omega) (by have := hm k; unfold I64; omega) hn
  have hA : ∀ k : Nat, k < 3 → allBin k (mnV V n k) (mxV V n k) (bls V n) = allR (bls V n) := fun k h => allBin_mid (by omega) (by omega)
  cases hr : allR (bls V n) with
  | false =>
    have h : bBest V n = ((0, 0, 0, 0), false) := by
      unfold bBest bestOk
      rw [hr, Bool.and_false]
      rfl
    rw [h]
    exact bins_Best_none a n cap V w hn KS (Lib.hid (fun k X h hX => by
      have := KB k X h hX
      rw [hA k h, hr] at this
      exact this))
  | true =>
    have h : bBest V n = ((bOut V n 3).1, (bOut V n 3).2.2) := by
      unfold bBest bestOk
      rw [hr, decide_eq_true hn]
      rfl
    rw [h]
    exact bins_Best_yes a n cap V w hn (fun k h => by rw [hA k h, hr]) KS (Lib.hid (fun k X h hX => by
      have := KB k X h hX
      rw [hA k h, hr] at this
      exact this))

end Go.Proofs.Ytfdolgdfadipeaa
