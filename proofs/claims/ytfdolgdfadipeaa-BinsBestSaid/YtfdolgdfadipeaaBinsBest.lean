/- The walk of the statement BinsBest. -/
import Derived.Test.YtfdolgdfadipeaaBins15
import Derived.Test.YtfdolgdfadipeaaRefb15
import Derived.Test.YtfdolgdfadipeaaAwake15
import Derived.Deep.DeepCutAuto
import Derived.Deep.RegionHeld3
namespace Go.Proofs.Ytfdolgdfadipeaa
open Go.RowKit Go.Proofs.Sky
set_option linter.unusedVariables false
set_option linter.unusedSimpArgs false

theorem below_drew16 {n : Nat} {w X : World} (h : Below n w X) : Below n w X.drew := h.trans ⟨rfl, rfl, rfl, Nat.le_refl _, fun _ _ => rfl⟩

set_option maxRecDepth 100000 in
set_option maxHeartbeats 8000000 in
theorem best_no (a : Option Addr) (n cap f : Nat) (w : World) (hn : 16 < n) (KW : Hid (∀ w, Calls Try.prog 5 #[] w fun en w' => en = .returned (.bool true) ∧ Below w.heap.size w w')) :
    Calls Try.prog 4 #[.slice a n cap, .int .u8 (f : Int)] w fun e w' => e = .returned (.bool true) ∧ Below w.heap.size w w' := by
  have t1 : decide ((16 : Int) < n) = true := decide_eq_true (by omega)
  clear hn
  go_enter Try.func4, Try.ntmps4
  go_wp2_with (go_at_call 5; refine (KW.out _).mono ?_; rintro e w1 ⟨rfl, hb⟩)
  go_ret
  exact ⟨rfl, hb⟩

set_option maxRecDepth 100000 in
set_option maxHeartbeats 8000000 in
theorem best_bad (a : Option Addr) (n cap : Nat) (V : Nat → Bx) (f : Nat)  (w : World) (hs : Boxes w (.slice a n cap) n V) (hf : f ≤ 255) (hn : n ≤ 16) (hr : ∃ k, k < n ∧ bRight (V k) = false) (KR : Hid (∀ (k : Nat) w, Calls Try.prog 19 #[.agg #[.int .i64 (V k).1.1, .int .i64 (V k).1.2.1, .int .i64 (V k).1.2.2, .int .i64 (V k).2.1, .int .i64 (V k).2.2.1, .int .i64 (V k).2.2.2]] w fun en w' => en = .returned (.bool (bRight (V k))) ∧ Below w.heap.size w w')) (KW : Hid (∀ w, Calls Try.prog 5 #[] w fun en w' => en = .returned (.bool true) ∧ Below w.heap.size w w')) :
    Calls Try.prog 4 #[.slice a n cap, .int .u8 (f : Int)] w fun e w' => e = .returned (.bool true) ∧ Below w.heap.size w w' := by
  have HS := Lib.hid hs
  have t1 : decide ((16 : Int) < n) = false := decide_eq_false (by omega)
  clear hs
  go_enter Try.func4, Try.ntmps4
  go_wp2
  go_loopw [5] (fun i wr => ∃ k : Nat, k ≤ n ∧ i = .int .i64 k ∧ Below w.heap.size w wr ∧ ∀ j, j < k → bRight (V j) = true) (fun i _ => n - (intOf i).toNat)
  case atStart => exact ⟨0, by omega, rfl, Below.refl _ _, fun j h => absurd h (by omega)⟩
  case round =>
    obtain ⟨k, hk, rfl, BO, hall⟩ := hrel
    have HALL := Lib.hid hall
    clear hall
    by_cases hlt : k < n
    · have KRk := Lib.hid (fun w => KR.out k w)
      obtain ⟨bb, off, rfl, hbb, x0, x1, x2, x3, x4, x5⟩ := boxes_at HS.out hlt
      change Hid (∀ w, Calls Try.prog 19 #[.agg #[.int .i64 (V k).1.1, .int .i64 (V k).1.2.1, .int .i64 (V k).1.2.2, .int .i64 (V k).2.1, .int .i64 (V k).2.2.1, .int .i64 (V k).2.2.2]] w fun en w' => en = .returned (.bool (bRight (V k))) ∧ Below w.heap.size w w') at KRk
      obtain ⟨z, hz⟩ : ∃ z, z = bRight (V k) := ⟨_, rfl⟩
      rw [← hz] at KRk
      have HZ := Lib.hid hz
      clear hz
      obtain ⟨vk, hvk⟩ : ∃ vk, vk = V k := ⟨_, rfl⟩
      rw [← hvk] at x0 x1 x2 x3 x4 x5 KRk
      clear hvk
      obtain ⟨⟨v1, v2, v3⟩, v4, v5, v6⟩ := vk
      dsimp only at x0 x1 x2 x3 x4 x5 KRk
      have x0 : wr.cell? ⟨bb, off + k * 6, none⟩ = some (.int .i64 v1) := (BO.cell (p := ⟨bb, off + k * 6, none⟩) hbb).trans x0
      have x1 : wr.cell? ⟨bb, off + k * 6 + 1, none⟩ = some (.int .i64 v2) := (BO.cell (p := ⟨bb, off + k * 6 + 1, none⟩) hbb).trans x1
      have x2 : wr.cell? ⟨bb, off + k * 6 + 2, none⟩ = some (.int .i64 v3) := (BO.cell (p := ⟨bb, off + k * 6 + 2, none⟩) hbb).trans x2
      have x3 : wr.cell? ⟨bb, off + k * 6 + 3, none⟩ = some (.int .i64 v4) := (BO.cell (p := ⟨bb, off + k * 6 + 3, none⟩) hbb).trans x3
      have x4 : wr.cell? ⟨bb, off + k * 6 + 4, none⟩ = some (.int .i64 v5) := (BO.cell (p := ⟨bb, off + k * 6 + 4, none⟩) hbb).trans x4
      have x5 : wr.cell? ⟨bb, off + k * 6 + 5, none⟩ = some (.int .i64 v6) := (BO.cell (p := ⟨bb, off + k * 6 + 5, none⟩) hbb).trans x5
      cases z with
      | false =>
        go_wp2_with (first | (go_at_call 19; (with_reducible refine (KRk.out _).mono ?_); rintro e w' ⟨rfl, hb⟩) | (go_at_call 5; refine (KW.out _).mono ?_; rintro e w1 ⟨rfl, hb2⟩))
        go_ret
        exact ⟨rfl, (BO.trans (hb.mono BO.size)).trans (hb2.mono (Nat.le_trans BO.size hb.size))⟩
      | true =>
        go_wp2_with (go_at_call 19; (with_reducible refine (KRk.out _).mono ?_); rintro e w' ⟨rfl, hb⟩)
        go_roundw
        case rel => exact ⟨k + 1, by omega, by go_num, BO.trans (hb.mono BO.size), fun j hj => by
          by_cases e : j < k
          · exact HALL.out j e
          · obtain rfl : j = k := by omega
            exact HZ.out.symm⟩
        case measure => simp [intOf]; omega
    · obtain rfl : k = n := by omega
      obtain ⟨j, hj, hjr⟩ := hr
      rw [HALL.out j hj] at hjr
      cases hjr

set_option maxRecDepth 100000 in
set_option maxHeartbeats 8000000 in
theorem best_none (a : Option Addr) (n cap : Nat) (V : Nat → Bx) (f : Nat)  (w : World) (hs : Boxes w (.slice a n cap) n V) (hf : f ≤ 255) (hn : n ≤ 16) (HR : Hid (∀ k, k < n → bRight (V k) = true)) (KR : Hid (∀ (k : Nat) w, Calls Try.prog 19 #[.agg #[.int .i64 (V k).1.1, .int .i64 (V k).1.2.1, .int .i64 (V k).1.2.2, .int .i64 (V k).2.1, .int .i64 (V k).2.2.1, .int .i64 (V k).2.2.2]] w fun en w' => en = .returned (.bool (bRight (V k))) ∧ Below w.heap.size w w')) (KO : Hid (∀ X, Below w.heap.size w X → Calls Try.prog 7 #[.slice a n cap] X fun e w' => ∃ u cp, e = .returned (.slice u n cp) ∧ Boxes w' (.slice u n cp) n V ∧ Below X.heap.size X w')) (KT : Hid (∀ u cp X, Boxes X (.slice u n cp) n (fun i => V ((n - 1 - i + f) % n)) → Calls Try.prog 7 #[.slice u n cp] X fun e w' => ∃ x cq, e = .returned (.slice x n cq) ∧ Boxes w' (.slice x n cq) n (fun i => V ((n - 1 - i + f) % n)) ∧ Below X.heap.size X w')) (KB : Hid (∀ u cp X, Boxes X (.slice u n cp) n V → Calls Try.prog 9 #[.slice u n cp] X fun e w' => e = .returned (.tuple #[.agg #[.int .i64 0, .int .i64 0, .int .i64 0, .int .i64 0], .bool false]) ∧ Below X.heap.size X w')) (KBT : Hid (∀ u cp X, Boxes X (.slice u n cp) n (fun i => V ((n - 1 - i + f) % n)) → Calls Try.prog 9 #[.slice u n cp] X fun e w' => e = .returned (.tuple #[.agg #[.int .i64 0, .int .i64 0, .int .i64 0, .int .i64 0], .bool false]) ∧ Below X.heap.size X w')) (KW : Hid (∀ w, Calls Try.prog 5 #[] w fun en w' => en = .returned (.bool true) ∧ Below w.heap.size w w')) :
    Calls Try.prog 4 #[.slice a n cap, .int .u8 (f : Int)] w fun e w' => e = .returned (.bool true) ∧ Below w.heap.size w w' := by
  have HS := Lib.hid hs
  have t1 : decide ((16 : Int) < n) = false := decide_eq_false (by omega)
  clear hs
  go_enter Try.func4, Try.ntmps4
  go_wp2
  go_loopw [5] (fun i wr => ∃ k : Nat, k ≤ n ∧ i = .int .i64 k ∧ Below w.heap.size w wr ∧ ∀ j, j < k → bRight (V j) = true) (fun i _ => n - (intOf i).toNat)
  case atStart => exact ⟨0, by omega, rfl, Below.refl _ _, fun j h => absurd h (by omega)⟩
  case round =>
    obtain ⟨k, hk, rfl, BO, hall⟩ := hrel
    have HALL := Lib.hid hall
    clear hall
    by_cases hlt : k < n
    · have KRk := Lib.hid (fun w => KR.out k w)
      obtain ⟨bb, off, rfl, hbb, x0, x1, x2, x3, x4, x5⟩ := boxes_at HS.out hlt
      change Hid (∀ w, Calls Try.prog 19 #[.agg #[.int .i64 (V k).1.1, .int .i64 (V k).1.2.1, .int .i64 (V k).1.2.2, .int .i64 (V k).2.1, .int .i64 (V k).2.2.1, .int .i64 (V k).2.2.2]] w fun en w' => en = .returned (.bool (bRight (V k))) ∧ Below w.heap.size w w') at KRk
      obtain ⟨z, hz⟩ : ∃ z, z = bRight (V k) := ⟨_, rfl⟩
      rw [← hz] at KRk
      have HZ := Lib.hid hz
      clear hz
      obtain ⟨vk, hvk⟩ : ∃ vk, vk = V k := ⟨_, rfl⟩
      rw [← hvk] at x0 x1 x2 x3 x4 x5 KRk
      clear hvk
      obtain ⟨⟨v1, v2, v3⟩, v4, v5, v6⟩ := vk
      dsimp only at x0 x1 x2 x3 x4 x5 KRk
      have x0 : wr.cell? ⟨bb, off + k * 6, none⟩ = some (.int .i64 v1) := (BO.cell (p := ⟨bb, off + k * 6, none⟩) hbb).trans x0
      have x1 : wr.cell? ⟨bb, off + k * 6 + 1, none⟩ = some (.int .i64 v2) := (BO.cell (p := ⟨bb, off + k * 6 + 1, none⟩) hbb).trans x1
      have x2 : wr.cell? ⟨bb, off + k * 6 + 2, none⟩ = some (.int .i64 v3) := (BO.cell (p := ⟨bb, off + k * 6 + 2, none⟩) hbb).trans x2
      have x3 : wr.cell? ⟨bb, off + k * 6 + 3, none⟩ = some (.int .i64 v4) := (BO.cell (p := ⟨bb, off + k * 6 + 3, none⟩) hbb).trans x3
      have x4 : wr.cell? ⟨bb, off + k * 6 + 4, none⟩ = some (.int .i64 v5) := (BO.cell (p := ⟨bb, off + k * 6 + 4, none⟩) hbb).trans x4
      have x5 : wr.cell? ⟨bb, off + k * 6 + 5, none⟩ = some (.int .i64 v6) := (BO.cell (p := ⟨bb, off + k * 6 + 5, none⟩) hbb).trans x5
      cases z with
      | false =>
        exact absurd (HR.out k hlt) (by rw [← HZ.out]; simp)
      | true =>
        go_wp2_with (go_at_call 19; (with_reducible refine (KRk.out _).mono ?_); rintro e w' ⟨rfl, hb⟩)
        go_roundw
        case rel => exact ⟨k + 1, by omega, by go_num, BO.trans (hb.mono BO.size), fun j hj => by
          by_cases e : j < k
          · exact HALL.out j e
          · obtain rfl : j = k := by omega
            exact HZ.out.symm⟩
        case measure => simp [intOf]; omega
    · obtain rfl : k = n := by omega
      clear HALL KR HR
      have B1 := BO
      clear BO
      obtain ⟨p1, hp1⟩ : ∃ p : BW wr, p.w = wr := ⟨BW.start wr, rfl⟩
      rw [← hp1]
      clear hp1
      go_upto_region 9 with (first
        | (go_at_call 7; (first | (refine (KO.out _ (bw_below B1 _)).mono ?_) | (refine (KO.out _ (below_drew16 (bw_below B1 _))).mono ?_)); rintro e w1 ⟨u, cp, rfl, hbx, hb⟩; (first | obtain ⟨q, rfl⟩ := bw_take_drew hb | obtain ⟨q, rfl⟩ := bw_take hb))
        | (go_at_call 9; (first | (refine (KB.out _ _ _ hbx).mono ?_) | (refine (KB.out _ _ (World.drew _) hbx).mono ?_)); rintro e w1 ⟨rfl, hb⟩; (first | obtain ⟨q, rfl⟩ := bw_take_drew hb | obtain ⟨q, rfl⟩ := bw_take hb)))
      obtain ⟨W2, hW2⟩ : ∃ W, W = q.w.alloc (.cells #[.int .i64 0, .int .i64 0, .int .i64 0, .int .i64 0] 30) := ⟨_, rfl⟩
      have o_s : w.heap.size ≤ q.w.heap.size := (bw_below B1 q).size
      have k_s := bkn hW2
      have B2 : Below w.heap.size w W2 := by rw [hW2]; exact (bw_below B1 q).alloc (bw_below B1 q).size _
      rw [← hW2]
      clear hW2 B1
      generalize q.w.heap.size = g_s at *
      obtain ⟨i0, hi0, hz0, hz1, hz2⟩ := info_parts rbox_info15
      go_wp2
      go_loopw [8, 9] (fun u i wr => ∃ j : Nat, j ≤ k ∧ i = .int .i64 j ∧ wr.ownsRow W2.heap.size 28 6 u j ((bls (fun i => V ((k - 1 - i + f) % k)) j).flatMap bcells) ∧ Below W2.heap.size W2 wr) (fun _ i _ => k - (intOf i).toNat)
      case atStart => exact ⟨0, by omega, rfl, World.ownsRow_nil _ _ _ _, Below.refl _ _⟩
      case round =>
        obtain ⟨j, hj, rfl, hown, BO⟩ := hrel
        have BW3 : Below w.heap.size w wr := B2.trans (BO.mono B2.size)
        by_cases hjk : j < k
        · have eu : (bls (fun i => V ((k - 1 - i + f) % k)) (j + 1)).flatMap bcells = (bls (fun i => V ((k - 1 - i + f) % k)) j).flatMap bcells ++ bcells (V ((k - 1 - j + f) % k)) := by rw [bls_succ, List.flatMap_append]; simp
          have hzk : (k - 1 - j + f) % k < k := Nat.mod_lt _ (by omega)
          have ez : Int.tmod ((k : Int) - 1 - (j : Int) + (f : Int)) (k : Int) = (((k - 1 - j + f) % k : Nat) : Int) := by
            rw [show (k : Int) - 1 - (j : Int) + (f : Int) = ((k - 1 - j + f : Nat) : Int) by omega]
            rw [Int.tmod_eq_emod_of_nonneg (by omega)]
            rfl
          obtain ⟨z, hz⟩ : ∃ z, z = (k - 1 - j + f) % k := ⟨_, rfl⟩
          rw [← hz] at eu hzk ez
          clear hz
          obtain ⟨bb, off, rfl, hbb, x0, x1, x2, x3, x4, x5⟩ := boxes_at HS.out hzk
          obtain ⟨vk, hvk⟩ : ∃ vk, vk = V z := ⟨_, rfl⟩
          rw [← hvk] at x0 x1 x2 x3 x4 x5 eu
          clear hvk
          obtain ⟨⟨v1, v2, v3⟩, v4, v5, v6⟩ := vk
          dsimp only at x0 x1 x2 x3 x4 x5
          have EU := Lib.hid eu
          have hk0 : ¬ (k : Int) = 0 := by omega
          have hk0' : ¬ k = 0 := by omega
          clear eu
          have x0 : wr.cell? ⟨bb, off + z * 6, none⟩ = some (.int .i64 v1) := (BW3.cell (p := ⟨bb, off + z * 6, none⟩) hbb).trans x0
          have x1 : wr.cell? ⟨bb, off + z * 6 + 1, none⟩ = some (.int .i64 v2) := (BW3.cell (p := ⟨bb, off + z * 6 + 1, none⟩) hbb).trans x1
          have x2 : wr.cell? ⟨bb, off + z * 6 + 2, none⟩ = some (.int .i64 v3) := (BW3.cell (p := ⟨bb, off + z * 6 + 2, none⟩) hbb).trans x2
          have x3 : wr.cell? ⟨bb, off + z * 6 + 3, none⟩ = some (.int .i64 v4) := (BW3.cell (p := ⟨bb, off + z * 6 + 3, none⟩) hbb).trans x3
          have x4 : wr.cell? ⟨bb, off + z * 6 + 4, none⟩ = some (.int .i64 v5) := (BW3.cell (p := ⟨bb, off + z * 6 + 4, none⟩) hbb).trans x4
          have x5 : wr.cell? ⟨bb, off + z * 6 + 5, none⟩ = some (.int .i64 v6) := (BW3.cell (p := ⟨bb, off + z * 6 + 5, none⟩) hbb).trans x5
          have hszW := BO.size
          go_wp2_with (at_builtin; refine wpList_append_own _ rfl _ _ 22 rfl W2.heap.size 28 i0 (.agg #[.int .i64 0, .int .i64 0, .int .i64 0, .int .i64 0, .int .i64 0, .int .i64 0]) 6 48 Try.underlying22 hi0 hz0 hz1 hz2 rfl (by decide) _ _ _ rfl (hown.alloc _) ⟨wr.heap.size, 0, none⟩ 1 1 (bcells ((v1, v2, v3), v4, v5, v6)) rfl rfl ?g1 ?g2 ?g3 ?g4 ?g5 ?_)
          case g1 => exact cells_new15 _ _ _
          case g2 => intro u hu; simp only [bcells, List.mem_cons, List.not_mem_nil, or_false] at hu; rcases hu with rfl | rfl | rfl | rfl | rfl | rfl <;> rfl
          case g3 => unfold maxLen; omega
          case g4 => omega
          case g5 => simp; omega
          intro v' w1 hown' hgrow hne
          have hB1 : Below W2.heap.size W2 w1 := (BO.alloc BO.size _).grown hgrow (by simp; omega) (fun i ei => by have := (World.ownsRow.lt hown i ei).1; omega)
          have HO : Hid (w1.ownsRow W2.heap.size 28 6 v' (j + 1) ((bls (fun i => V ((k - 1 - i + f) % k)) (j + 1)).flatMap bcells)) := Lib.hid (by rw [EU.out]; exact hown')
          clear hown' hgrow hne hown
          go_wp2
          go_roundw
          case rel => exact ⟨j + 1, by omega, by go_num, HO.out, hB1⟩
          case measure => simp [intOf]; omega
        · obtain rfl : j = k := by omega
          obtain ⟨ot, ct, rfl, hbt⟩ := owns_boxes (by unfold maxLen; omega) hown
          clear hown hi0 hz0 hz1 hz2
          have k_s := k_s.below BO
          have B3 := BW3
          clear BO BW3 B2
          obtain ⟨c_s_0, c_s_1, c_s_2, c_s_3⟩ := bwc4 (k_s)
          obtain ⟨p3, hp3⟩ : ∃ p : BW wr, p.w = wr := ⟨BW.start wr, rfl⟩
          rw [← hp3]
          clear hp3
          have hbt := hbt.below p3.h (Nat.le_refl _)
          go_upto_region 15 with (first
            | (go_at_call 7; refine (KT.out _ _ _ hbt).mono ?_; rintro e w1 ⟨u, cp, rfl, hbx, hb⟩; obtain ⟨q, rfl⟩ := bw_take hb)
            | (go_at_call 9; refine (KBT.out _ _ _ hbx).mono ?_; rintro e w1 ⟨rfl, hb⟩; obtain ⟨q, rfl⟩ := bw_take hb))
          obtain ⟨W4, hW4⟩ : ∃ W, W = q.w.alloc (.cells #[.int .i64 0, .int .i64 0, .int .i64 0, .int .i64 0] 30) := ⟨_, rfl⟩
          have B4 : Below w.heap.size w W4 := by rw [hW4]; exact (bw_below B3 q).alloc (bw_below B3 q).size _
          have l_t : g_s < q.w.heap.size := (k_s.below q.h).lt
          have o_t : w.heap.size ≤ q.w.heap.size := (bw_below B3 q).size
          have k_s := bka hW4 (k_s.below q.h)
          have k_t := bkn hW4
          rw [← hW4]
          clear hW4
          clear B3
          clear c_s_0 c_s_1 c_s_2 c_s_3
          generalize q.w.heap.size = g_t at *
          obtain ⟨c_s_0, c_s_1, c_s_2, c_s_3⟩ := bwc4 (k_s)
          obtain ⟨c_t_0, c_t_1, c_t_2, c_t_3⟩ := bwc4 (k_t)
          obtain ⟨p4, hp4⟩ : ∃ p : BW W4, p.w = W4 := ⟨BW.start W4, rfl⟩
          rw [← hp4]
          clear hp4
          go_wp2_with (go_at_call 5; (refine (bw_call KW.out _).mono ?_); rintro e w' ⟨rfl, q, rfl⟩)
          go_ret
          exact ⟨rfl, bw_below B4 _⟩

set_option maxRecDepth 100000 in
set_option maxHeartbeats 8000000 in
theorem best_yes (a : Option Addr) (n cap : Nat) (V : Nat → Bx) (f : Nat) (f1 f2 f3 f4 : Int) (cs : Int → Int) (os : Int → Bool) (l1 l2 : List Nat) (w : World) (hs : Boxes w (.slice a n cap) n V) (hf : f ≤ 255) (hn : n ≤ 16) (HR : Hid (∀ k, k < n → bRight (V k) = true)) (h01 : 0 ≤ f1) (h02 : f1 ≤ 2) (h34 : f3 < f4) (hos : os f2 = true) (n1 : l1.length ≠ 0) (n2 : l2.length ≠ 0) (hsum : l1.length + l2.length = n) (hk1 : ∀ k ∈ l1, k ≤ 1048576) (hk2 : ∀ k ∈ l2, k ≤ 1048576) (HB : Hid (∀ j : Nat, 1 ≤ j → j ≤ 7 → os j = true → ¬ (cs j < cs f2) ∧ (cs j = cs f2 → f2 ≤ j))) (KR : Hid (∀ (k : Nat) w, Calls Try.prog 19 #[.agg #[.int .i64 (V k).1.1, .int .i64 (V k).1.2.1, .int .i64 (V k).1.2.2, .int .i64 (V k).2.1, .int .i64 (V k).2.2.1, .int .i64 (V k).2.2.2]] w fun en w' => en = .returned (.bool (bRight (V k))) ∧ Below w.heap.size w w')) (KO : Hid (∀ X, Below w.heap.size w X → Calls Try.prog 7 #[.slice a n cap] X fun e w' => ∃ u cp, e = .returned (.slice u n cp) ∧ Boxes w' (.slice u n cp) n V ∧ Below X.heap.size X w')) (KT : Hid (∀ u cp X, Boxes X (.slice u n cp) n (fun i => V ((n - 1 - i + f) % n)) → Calls Try.prog 7 #[.slice u n cp] X fun e w' => ∃ x cq, e = .returned (.slice x n cq) ∧ Boxes w' (.slice x n cq) n (fun i => V ((n - 1 - i + f) % n)) ∧ Below X.heap.size X w')) (KB : Hid (∀ u cp X, Boxes X (.slice u n cp) n V → Calls Try.prog 9 #[.slice u n cp] X fun e w' => e = .returned (.tuple #[.agg #[.int .i64 f1, .int .i64 f2, .int .i64 f3, .int .i64 f4], .bool true]) ∧ Below X.heap.size X w')) (KBT : Hid (∀ u cp X, Boxes X (.slice u n cp) n (fun i => V ((n - 1 - i + f) % n)) → Calls Try.prog 9 #[.slice u n cp] X fun e w' => e = .returned (.tuple #[.agg #[.int .i64 f1, .int .i64 f2, .int .i64 f3, .int .i64 f4], .bool true]) ∧ Below X.heap.size X w')) (KW : Hid (∀ w, Calls Try.prog 5 #[] w fun en w' => en = .returned (.bool true) ∧ Below w.heap.size w w')) (KC : Hid (∀ (at_ : Int) u cp X, Boxes X (.slice u n cp) n V → Calls Try.prog 6 #[.agg #[.int .i64 f1, .int .i64 at_, .int .i64 f3, .int .i64 f4], .slice u n cp] X fun e w' => e = .returned (.tuple #[.int .i64 (cs at_), .bool (os at_)]) ∧ Below X.heap.size X w')) (KS : Hid (∀ u cp X, Boxes X (.slice u n cp) n V → Calls Try.prog 11 #[.agg #[.int .i64 f1, .int .i64 f2, .int .i64 f3, .int .i64 f4], .slice u n cp] X fun e w' => ∃ x y, e = .returned (.tuple #[x, y]) ∧ Ints w' X.heap.size x l1 ∧ Ints w' X.heap.size y l2 ∧ Below X.heap.size X w')) :
    Calls Try.prog 4 #[.slice a n cap, .int .u8 (f : Int)] w fun e w' => e = .returned (.bool true) ∧ Below w.heap.size w w' := by
  have HS := Lib.hid hs
  have HF := Lib.hid (show (0 ≤ f1 ∧ f1 ≤ 2 ∧ f3 < f4) ∧ (l1.length ≠ 0 ∧ l2.length ≠ 0 ∧ l1.length + l2.length = n) from ⟨⟨h01, h02, h34⟩, n1, n2, hsum⟩)
  have HK1 := Lib.hid hk1
  have HK2 := Lib.hid hk2
  have KC0 := Lib.hid (KC.out f2)
  change Hid (∀ u cp X, Boxes X (.slice u n cp) n V → Calls Try.prog 6 #[.agg #[.int .i64 f1, .int .i64 f2, .int .i64 f3, .int .i64 f4], .slice u n cp] X fun e w' => e = .returned (.tuple #[.int .i64 (cs f2), .bool (os f2)]) ∧ Below X.heap.size X w') at KC0
  obtain ⟨c, hc⟩ : ∃ c, c = cs f2 := ⟨_, rfl⟩
  rw [hos, ← hc] at KC0
  rw [← hc] at HB
  clear hc hos h01 h02 h34 n1 n2 hsum hk1 hk2
  have t1 : decide ((16 : Int) < n) = false := decide_eq_false (by omega)
  clear hs
  go_enter Try.func4, Try.ntmps4
  go_wp2
  go_loopw [5] (fun i wr => ∃ k : Nat, k ≤ n ∧ i = .int .i64 k ∧ Below w.heap.size w wr ∧ ∀ j, j < k → bRight (V j) = true) (fun i _ => n - (intOf i).toNat)
  case atStart => exact ⟨0, by omega, rfl, Below.refl _ _, fun j h => absurd h (by omega)⟩
  case round =>
    obtain ⟨k, hk, rfl, BO, hall⟩ := hrel
    have HALL := Lib.hid hall
    clear hall
    by_cases hlt : k < n
    · have KRk := Lib.hid (fun w => KR.out k w)
      obtain ⟨bb, off, rfl, hbb, x0, x1, x2, x3, x4, x5⟩ := boxes_at HS.out hlt
      change Hid (∀ w, Calls Try.prog 19 #[.agg #[.int .i64 (V k).1.1, .int .i64 (V k).1.2.1, .int .i64 (V k).1.2.2, .int .i64 (V k).2.1, .int .i64 (V k).2.2.1, .int .i64 (V k).2.2.2]] w fun en w' => en = .returned (.bool (bRight (V k))) ∧ Below w.heap.size w w') at KRk
      obtain ⟨z, hz⟩ : ∃ z, z = bRight (V k) := ⟨_, rfl⟩
      rw [← hz] at KRk
      have HZ := Lib.hid hz
      clear hz
      obtain ⟨vk, hvk⟩ : ∃ vk, vk = V k := ⟨_, rfl⟩
      rw [← hvk] at x0 x1 x2 x3 x4 x5 KRk
      clear hvk
      obtain ⟨⟨v1, v2, v3⟩, v4, v5, v6⟩ := vk
      dsimp only at x0 x1 x2 x3 x4 x5 KRk
      have x0 : wr.cell? ⟨bb, off + k * 6, none⟩ = some (.int .i64 v1) := (BO.cell (p := ⟨bb, off + k * 6, none⟩) hbb).trans x0
      have x1 : wr.cell? ⟨bb, off + k * 6 + 1, none⟩ = some (.int .i64 v2) := (BO.cell (p := ⟨bb, off + k * 6 + 1, none⟩) hbb).trans x1
      have x2 : wr.cell? ⟨bb, off + k * 6 + 2, none⟩ = some (.int .i64 v3) := (BO.cell (p := ⟨bb, off + k * 6 + 2, none⟩) hbb).trans x2
      have x3 : wr.cell? ⟨bb, off + k * 6 + 3, none⟩ = some (.int .i64 v4) := (BO.cell (p := ⟨bb, off + k * 6 + 3, none⟩) hbb).trans x3
      have x4 : wr.cell? ⟨bb, off + k * 6 + 4, none⟩ = some (.int .i64 v5) := (BO.cell (p := ⟨bb, off + k * 6 + 4, none⟩) hbb).trans x4
      have x5 : wr.cell? ⟨bb, off + k * 6 + 5, none⟩ = some (.int .i64 v6) := (BO.cell (p := ⟨bb, off + k * 6 + 5, none⟩) hbb).trans x5
      cases z with
      | false =>
        exact absurd (HR.out k hlt) (by rw [← HZ.out]; simp)
      | true =>
        go_wp2_with (go_at_call 19; (with_reducible refine (KRk.out _).mono ?_); rintro e w' ⟨rfl, hb⟩)
        go_roundw
        case rel => exact ⟨k + 1, by omega, by go_num, BO.trans (hb.mono BO.size), fun j hj => by
          by_cases e : j < k
          · exact HALL.out j e
          · obtain rfl : j = k := by omega
            exact HZ.out.symm⟩
        case measure => simp [intOf]; omega
    · obtain rfl : k = n := by omega
      clear HALL KR HR
      have B1 := BO
      clear BO
      obtain ⟨p1, hp1⟩ : ∃ p : BW wr, p.w = wr := ⟨BW.start wr, rfl⟩
      rw [← hp1]
      clear hp1
      go_upto_region 9 with (first
        | (go_at_call 7; (first | (refine (KO.out _ (bw_below B1 _)).mono ?_) | (refine (KO.out _ (below_drew16 (bw_below B1 _))).mono ?_)); rintro e w1 ⟨u, cp, rfl, hbx, hb⟩; (first | obtain ⟨q, rfl⟩ := bw_take_drew hb | obtain ⟨q, rfl⟩ := bw_take hb))
        | (go_at_call 9; (first | (refine (KB.out _ _ _ hbx).mono ?_) | (refine (KB.out _ _ (World.drew _) hbx).mono ?_)); rintro e w1 ⟨rfl, hb⟩; (first | obtain ⟨q, rfl⟩ := bw_take_drew hb | obtain ⟨q, rfl⟩ := bw_take hb)))
      obtain ⟨W2, hW2⟩ : ∃ W, W = q.w.alloc (.cells #[.int .i64 f1, .int .i64 f2, .int .i64 f3, .int .i64 f4] 30) := ⟨_, rfl⟩
      have o_s : w.heap.size ≤ q.w.heap.size := (bw_below B1 q).size
      have k_s := bkn hW2
      have B2 : Below w.heap.size w W2 := by rw [hW2]; exact (bw_below B1 q).alloc (bw_below B1 q).size _
      rw [← hW2]
      clear hW2 B1
      generalize q.w.heap.size = g_s at *
      obtain ⟨i0, hi0, hz0, hz1, hz2⟩ := info_parts rbox_info15
      go_wp2
      go_loopw [8, 9] (fun u i wr => ∃ j : Nat, j ≤ k ∧ i = .int .i64 j ∧ wr.ownsRow W2.heap.size 28 6 u j ((bls (fun i => V ((k - 1 - i + f) % k)) j).flatMap bcells) ∧ Below W2.heap.size W2 wr) (fun _ i _ => k - (intOf i).toNat)
      case atStart => exact ⟨0, by omega, rfl, World.ownsRow_nil _ _ _ _, Below.refl _ _⟩
      case round =>
        obtain ⟨j, hj, rfl, hown, BO⟩ := hrel
        have BW3 : Below w.heap.size w wr := B2.trans (BO.mono B2.size)
        by_cases hjk : j < k
        · have eu : (bls (fun i => V ((k - 1 - i + f) % k)) (j + 1)).flatMap bcells = (bls (fun i => V ((k - 1 - i + f) % k)) j).flatMap bcells ++ bcells (V ((k - 1 - j + f) % k)) := by rw [bls_succ, List.flatMap_append]; simp
          have hzk : (k - 1 - j + f) % k < k := Nat.mod_lt _ (by omega)
          have ez : Int.tmod ((k : Int) - 1 - (j : Int) + (f : Int)) (k : Int) = (((k - 1 - j + f) % k : Nat) : Int) := by
            rw [show (k : Int) - 1 - (j : Int) + (f : Int) = ((k - 1 - j + f : Nat) : Int) by omega]
            rw [Int.tmod_eq_emod_of_nonneg (by omega)]
            rfl
          obtain ⟨z, hz⟩ : ∃ z, z = (k - 1 - j + f) % k := ⟨_, rfl⟩
          rw [← hz] at eu hzk ez
          clear hz
          obtain ⟨bb, off, rfl, hbb, x0, x1, x2, x3, x4, x5⟩ := boxes_at HS.out hzk
          obtain ⟨vk, hvk⟩ : ∃ vk, vk = V z := ⟨_, rfl⟩
          rw [← hvk] at x0 x1 x2 x3 x4 x5 eu
          clear hvk
          obtain ⟨⟨v1, v2, v3⟩, v4, v5, v6⟩ := vk
          dsimp only at x0 x1 x2 x3 x4 x5
          have EU := Lib.hid eu
          have hk0 : ¬ (k : Int) = 0 := by omega
          have hk0' : ¬ k = 0 := by omega
          clear eu
          have x0 : wr.cell? ⟨bb, off + z * 6, none⟩ = some (.int .i64 v1) := (BW3.cell (p := ⟨bb, off + z * 6, none⟩) hbb).trans x0
          have x1 : wr.cell? ⟨bb, off + z * 6 + 1, none⟩ = some (.int .i64 v2) := (BW3.cell (p := ⟨bb, off + z * 6 + 1, none⟩) hbb).trans x1
          have x2 : wr.cell? ⟨bb, off + z * 6 + 2, none⟩ = some (.int .i64 v3) := (BW3.cell (p := ⟨bb, off + z * 6 + 2, none⟩) hbb).trans x2
          have x3 : wr.cell? ⟨bb, off + z * 6 + 3, none⟩ = some (.int .i64 v4) := (BW3.cell (p := ⟨bb, off + z * 6 + 3, none⟩) hbb).trans x3
          have x4 : wr.cell? ⟨bb, off + z * 6 + 4, none⟩ = some (.int .i64 v5) := (BW3.cell (p := ⟨bb, off + z * 6 + 4, none⟩) hbb).trans x4
          have x5 : wr.cell? ⟨bb, off + z * 6 + 5, none⟩ = some (.int .i64 v6) := (BW3.cell (p := ⟨bb, off + z * 6 + 5, none⟩) hbb).trans x5
          have hszW := BO.size
          go_wp2_with (at_builtin; refine wpList_append_own _ rfl _ _ 22 rfl W2.heap.size 28 i0 (.agg #[.int .i64 0, .int .i64 0, .int .i64 0, .int .i64 0, .int .i64 0, .int .i64 0]) 6 48 Try.underlying22 hi0 hz0 hz1 hz2 rfl (by decide) _ _ _ rfl (hown.alloc _) ⟨wr.heap.size, 0, none⟩ 1 1 (bcells ((v1, v2, v3), v4, v5, v6)) rfl rfl ?g1 ?g2 ?g3 ?g4 ?g5 ?_)
          case g1 => exact cells_new15 _ _ _
          case g2 => intro u hu; simp only [bcells, List.mem_cons, List.not_mem_nil, or_false] at hu; rcases hu with rfl | rfl | rfl | rfl | rfl | rfl <;> rfl
          case g3 => unfold maxLen; omega
          case g4 => omega
          case g5 => simp; omega
          intro v' w1 hown' hgrow hne
          have hB1 : Below W2.heap.size W2 w1 := (BO.alloc BO.size _).grown hgrow (by simp; omega) (fun i ei => by have := (World.ownsRow.lt hown i ei).1; omega)
          have HO : Hid (w1.ownsRow W2.heap.size 28 6 v' (j + 1) ((bls (fun i => V ((k - 1 - i + f) % k)) (j + 1)).flatMap bcells)) := Lib.hid (by rw [EU.out]; exact hown')
          clear hown' hgrow hne hown
          go_wp2
          go_roundw
          case rel => exact ⟨j + 1, by omega, by go_num, HO.out, hB1⟩
          case measure => simp [intOf]; omega
        · obtain rfl : j = k := by omega
          obtain ⟨ot, ct, rfl, hbt⟩ := owns_boxes (by unfold maxLen; omega) hown
          clear hown hi0 hz0 hz1 hz2
          have k_s := k_s.below BO
          have B3 := BW3
          clear BO BW3 B2
          obtain ⟨c_s_0, c_s_1, c_s_2, c_s_3⟩ := bwc4 (k_s)
          obtain ⟨p3, hp3⟩ : ∃ p : BW wr, p.w = wr := ⟨BW.start wr, rfl⟩
          rw [← hp3]
          clear hp3
          have hbt := hbt.below p3.h (Nat.le_refl _)
          go_upto_region 15 with (first
            | (go_at_call 7; refine (KT.out _ _ _ hbt).mono ?_; rintro e w1 ⟨u, cp, rfl, hbx, hb⟩; obtain ⟨q, rfl⟩ := bw_take hb)
            | (go_at_call 9; refine (KBT.out _ _ _ hbx).mono ?_; rintro e w1 ⟨rfl, hb⟩; obtain ⟨q, rfl⟩ := bw_take hb))
          obtain ⟨W4, hW4⟩ : ∃ W, W = q.w.alloc (.cells #[.int .i64 f1, .int .i64 f2, .int .i64 f3, .int .i64 f4] 30) := ⟨_, rfl⟩
          have B4 : Below w.heap.size w W4 := by rw [hW4]; exact (bw_below B3 q).alloc (bw_below B3 q).size _
          have l_t : g_s < q.w.heap.size := (k_s.below q.h).lt
          have o_t : w.heap.size ≤ q.w.heap.size := (bw_below B3 q).size
          have k_s := bka hW4 (k_s.below q.h)
          have k_t := bkn hW4
          rw [← hW4]
          clear hW4
          clear B3
          clear c_s_0 c_s_1 c_s_2 c_s_3
          generalize q.w.heap.size = g_t at *
          obtain ⟨c_s_0, c_s_1, c_s_2, c_s_3⟩ := bwc4 (k_s)
          obtain ⟨c_t_0, c_t_1, c_t_2, c_t_3⟩ := bwc4 (k_t)
          obtain ⟨p4, hp4⟩ : ∃ p : BW W4, p.w = W4 := ⟨BW.start W4, rfl⟩
          rw [← hp4]
          clear hp4
          go_upto_region 19 with (fail)
          go_region_held3 (fun w' => w'.cell? ⟨g_s, 0, none⟩ = some (.int .i64 f1) ∧ w'.cell? ⟨g_s, 1, none⟩ = some (.int .i64 f2) ∧ w'.cell? ⟨g_s, 2, none⟩ = some (.int .i64 f3) ∧ w'.cell? ⟨g_s, 3, none⟩ = some (.int .i64 f4)) (first | with_reducible exact ⟨c_s_0 _, c_s_1 _, c_s_2 _, c_s_3 _⟩ | fail "KEEP") (first
            | (go_at_call 7; (first | (refine (KO.out _ (bw_below B4 _)).mono ?_) | (refine (KO.out _ (below_drew16 (bw_below B4 _))).mono ?_)); rintro e w1 ⟨u, cp, rfl, hbx, hb⟩; (first | obtain ⟨q, rfl⟩ := bw_take_drew hb | obtain ⟨q, rfl⟩ := bw_take hb))
            | (go_at_call 6; (first | (refine (KC0.out _ _ _ hbx).mono ?_) | (refine (KC0.out _ _ (World.drew _) hbx).mono ?_)); rintro e w1 ⟨rfl, hb⟩; (first | obtain ⟨q, rfl⟩ := bw_take_drew hb | obtain ⟨q, rfl⟩ := bw_take hb)))
          go_upto_region 20 with (fail)
          go_region_held3 (fun w' => w'.cell? ⟨g_s, 0, none⟩ = some (.int .i64 f1) ∧ w'.cell? ⟨g_s, 1, none⟩ = some (.int .i64 f2) ∧ w'.cell? ⟨g_s, 2, none⟩ = some (.int .i64 f3) ∧ w'.cell? ⟨g_s, 3, none⟩ = some (.int .i64 f4)) (first | with_reducible exact ⟨c_s_0 _, c_s_1 _, c_s_2 _, c_s_3 _⟩ | fail "KEEP") (first
            | (go_at_call 7; (first | (refine (KO.out _ (bw_below B4 _)).mono ?_) | (refine (KO.out _ (below_drew16 (bw_below B4 _))).mono ?_)); rintro e w1 ⟨u, cp, rfl, hbx, hb⟩; (first | obtain ⟨q, rfl⟩ := bw_take_drew hb | obtain ⟨q, rfl⟩ := bw_take hb))
            | (go_at_call 11; (first | (refine (KS.out _ _ _ hbx).mono ?_) | (refine (KS.out _ _ (World.drew _) hbx).mono ?_)); rintro e w1 ⟨x1, y1, rfl, hx1, hy1, hb⟩; (first | obtain ⟨q, rfl⟩ := bw_take_drew hb | obtain ⟨q, rfl⟩ := bw_take hb)))
          obtain ⟨o1, e1, rfl, gx1⟩ := Ints.slice hx1 HK1.out
          obtain ⟨o2, e2, rfl, gy1⟩ := Ints.slice hy1 HK2.out
          clear hx1 hy1 gx1 gy1
          obtain ⟨⟨h01, h02, h34⟩, n1, n2, hsum⟩ := HF.out
          have u1 : ((l1.length : Int) == 0) = false := by rw [beq_eq_false_iff_ne]; omega
          have u2 : ((l2.length : Int) == 0) = false := by rw [beq_eq_false_iff_ne]; omega
          have u3 : (l1.length : Int) + (l2.length : Int) = (j : Int) := by omega
          have u4 : decide (f4 ≤ f3) = false := decide_eq_false (by omega)
          have u5 : decide (f1 < 0) = false := decide_eq_false (by omega)
          have u6 : decide (2 < f1) = false := decide_eq_false (by omega)
          have u7 : l1.length ≤ 16 := by omega
          have u8 : l2.length ≤ 16 := by omega
          clear h01 h02 h34 n1 n2 hsum
          go_wp2
          go_loopw [16] (fun i wr => ∃ (m : Nat) (r : BW W4), 1 ≤ m ∧ m ≤ 8 ∧ i = .int .i64 m ∧ wr = r.w) (fun i _ => 8 - (intOf i).toNat)
          case atStart => exact ⟨1, _, by omega, by omega, rfl, rfl⟩
          case round =>
            obtain ⟨m, r, h1, h8, rfl, rfl⟩ := hrel
            by_cases hm : m < 8
            · have tm : decide ((m : Int) < 8) = true := decide_eq_true (by omega)
              have KCm := Lib.hid (KC.out (m : Int))
              have hb := HB.out m h1 (by omega)
              change Hid (∀ u cp X, Boxes X (.slice u j cp) j V → Calls Try.prog 6 #[.agg #[.int .i64 f1, .int .i64 (m : Int), .int .i64 f3, .int .i64 f4], .slice u j cp] X fun e w' => e = .returned (.tuple #[.int .i64 (cs m), .bool (os m)]) ∧ Below X.heap.size X w') at KCm
              obtain ⟨d, hd⟩ : ∃ d, d = cs m := ⟨_, rfl⟩
              obtain ⟨y, hy⟩ : ∃ y, y = os m := ⟨_, rfl⟩
              rw [← hd, ← hy] at KCm hb
              have HBM := Lib.hid hb
              clear hd hy hb KC HB
              go_upto_region 26 with (fail)
              go_region_held3 (fun w' => w'.cell? ⟨g_s, 0, none⟩ = some (.int .i64 f1) ∧ w'.cell? ⟨g_s, 1, none⟩ = some (.int .i64 f2) ∧ w'.cell? ⟨g_s, 2, none⟩ = some (.int .i64 f3) ∧ w'.cell? ⟨g_s, 3, none⟩ = some (.int .i64 f4)) (first | with_reducible exact ⟨c_s_0 _, c_s_1 _, c_s_2 _, c_s_3 _⟩ | fail "KEEP") (first
                | (go_at_call 7; (first | (refine (KO.out _ (bw_below B4 _)).mono ?_) | (refine (KO.out _ (below_drew16 (bw_below B4 _))).mono ?_)); rintro e w1 ⟨u, cp, rfl, hbx, hb⟩; (first | obtain ⟨q, rfl⟩ := bw_take_drew hb | obtain ⟨q, rfl⟩ := bw_take hb))
                | (go_at_call 6; (first | (refine (KCm.out _ _ _ hbx).mono ?_) | (refine (KCm.out _ _ (World.drew _) hbx).mono ?_)); rintro e w1 ⟨rfl, hb⟩; (first | obtain ⟨q, rfl⟩ := bw_take_drew hb | obtain ⟨q, rfl⟩ := bw_take hb)))
              cases y with
              | false =>
                go_wp2
                go_roundw
                case rel => exact ⟨m + 1, q, by omega, by omega, by go_num, rfl⟩
                case measure => simp [intOf]; omega
              | true =>
                obtain ⟨b1, b2⟩ := HBM.out rfl
                have e1 : decide (d < c) = false := decide_eq_false (by omega)
                by_cases hdc : d = c
                · have e2 : (d == c) = true := by rw [beq_iff_eq]; exact hdc
                  have e3 : decide ((m : Int) < f2) = false := decide_eq_false (by have := b2 hdc; omega)
                  clear b1 b2 hdc
                  go_wp2
                  go_roundw
                  case rel => exact ⟨m + 1, q, by omega, by omega, by go_num, rfl⟩
                  case measure => simp [intOf]; omega
                · have e2 : (d == c) = false := by rw [beq_eq_false_iff_ne]; exact hdc
                  clear b1 b2 hdc
                  go_wp2
                  go_roundw
                  case rel => exact ⟨m + 1, q, by omega, by omega, by go_num, rfl⟩
                  case measure => simp [intOf]; omega
            · obtain rfl : m = 8 := by omega
              go_wp2_with (go_at_call 5; (refine (bw_call KW.out _).mono ?_); rintro e w' ⟨rfl, q, rfl⟩)
              go_ret
              exact ⟨rfl, bw_below B4 _⟩

theorem u8_of_wf15 {a : Int} (h : (Lit.int .u8 a).wf = true) : 0 ≤ a ∧ a ≤ 255 := by
  simp [Lit.wf, IntKind.min, IntKind.max, IntKind.signed, IntKind.bits] at h
  omega

theorem law_BinsBest (a : Option Addr) (n cap : Nat) (V : Nat → Bx) (z : Int) (w : World) (hs : Boxes w (.slice a n cap) n V) (hz : 0 ≤ z ∧ z ≤ 255) :
    Calls Try.prog 4 #[.slice a n cap, .int .u8 z] w fun e w' => e = .returned (.bool true) ∧ Below w.heap.size w w' := by
  obtain ⟨f, rfl⟩ : ∃ f : Nat, z = f := ⟨z.toNat, by omega⟩
  have KW := Lib.hid (fun w => awake15 w)
  by_cases h1 : 16 < n
  · exact best_no a n cap f w h1 KW
  have hn : n ≤ 16 := by omega
  have KR := Lib.hid (fun (k : Nat) w => ref10_Right (V k).1.1 (V k).1.2.1 (V k).1.2.2 (V k).2.1 (V k).2.2.1 (V k).2.2.2 w)
  by_cases hb : ∃ k, k < n ∧ bRight (V k) = false
  · exact best_bad a n cap V f w hs (by omega) hn hb KR KW
  have HR := Lib.hid (show ∀ k, k < n → bRight (V k) = true from fun k hk => by
    cases e : bRight (V k) with
    | true => rfl
    | false => exact absurd ⟨k, hk, e⟩ hb)
  have hX : ∀ {X}, Below w.heap.size w X → Boxes X (.slice a n cap) n V := fun h => hs.below h (Nat.le_refl _)
  have KO := Lib.hid (fun X h => law15_of a n cap V X (hX h) (by omega))
  have KT := Lib.hid (fun u cp X h => law15_of u n cp (fun i => V ((n - 1 - i + f) % n)) X h (by omega))
  have KB := fun u cp X h => bins_Best u n cp V X h
  have KBT := fun u cp X h => bins_Best u n cp (fun i => V ((n - 1 - i + f) % n)) X h
  rw [bBest_perm (bls_turned V n f)] at KBT
  rcases bBest_spec V n with h | ⟨ka, k, ha, h, hlt, hok, hbest⟩
  · rw [h] at KB KBT
    exact best_none a n cap V f w hs (by omega) hn HR KR KO KT (Lib.hid KB) (Lib.hid KBT) KW
  · rw [h] at KB KBT
    have hin := mnV_in V n ka
    generalize mnV V n ka = lo at *
    generalize mxV V n ka = hi at *
    have hv : ∀ j : Int, sOk ka lo hi j (bls V n) = true → sCost ka lo hi j (bls V n) = sVal ka lo hi j (bls V n) := fun j e => by unfold sCost; rw [if_pos e]
    have hsk := sOk_iff.1 hok
    exact best_yes a n cap V f ka k lo hi (fun j => sCost ka lo hi j (bls V n)) (fun j => sOk ka lo hi j (bls V n)) (ix (isL ka lo hi k) V n) (ix (fun b => !isL ka lo hi k b) V n) w hs (by omega) hn HR (by omega) (by omega) hlt hok
      (by rw [ix_len]; exact hsk.2.2.1) (by rw [ix_len]; exact hsk.2.2.2) (ix_both _ _ _) (fun i hi => by have := ix_lt hi; omega) (fun i hi => by have := ix_lt hi; omega)
      (Lib.hid (fun j h1 h7 e => by
        have hj := hbest j h1 h7 e
        show ¬ (sCost ka lo hi j (bls V n) < sCost ka lo hi k (bls V n)) ∧ (sCost ka lo hi j (bls V n) = sCost ka lo hi k (bls V n) → (k : Int) ≤ j)
        rw [hv _ e, hv _ hok]
        exact hj))
      KR KO KT (Lib.hid KB) (Lib.hid KBT) KW
      (Lib.hid (fun at_ u cp X h => bins_Cost u n cp V ka at_ lo hi X h (by unfold I64; omega) (by unfold I64; omega) (by unfold I64; omega)))
      (Lib.hid (fun u cp X h => bins_Sides u n cp V ka k lo hi X h (by unfold I64; omega) (by unfold I64; omega) (by unfold I64; omega) (by omega)))

end Go.Proofs.Ytfdolgdfadipeaa
