/- Contracts of package pose: Turned, Sized, Moved, Then, Put, All. -/
import Derived.Test.YtnoaljfdbfbhmaaPosel08
import Derived.Test.YtnoaljfdbfbhmaaOwn
import Derived.Laws.AppendOwn
namespace Go.Proofs.Ytnoaljfdbfbhmaa
open Go.RowKit Go.Shelf Go.Proofs.Sky
set_option linter.unusedVariables false

theorem ps_sat {x : Int} (h : -9223372036854775808 ≤ x ∧ x ≤ 9223372036854775807) : sat x = x := by
  unfold sat; rw [if_neg (by omega), if_neg (by omega)]

theorem ps_row (r v : T3) : pRow r v = pRow v r := by
  unfold pRow vdot
  by_cases h : vnear r.1 r.2.1 r.2.2 = true ∧ vnear v.1 v.2.1 v.2.2 = true
  · rw [if_pos h, if_pos ⟨h.2, h.1⟩, Int.mul_comm r.1, Int.mul_comm r.2.1, Int.mul_comm r.2.2]
  · rw [if_neg h, if_neg (fun g => h ⟨g.2, g.1⟩)]

set_option maxRecDepth 100000 in
set_option maxHeartbeats 4000000 in
theorem pose_Turned_0 (h c s : Int) (w : World) (hT : Hid (∀ w, Calls Try.prog 26 #[.int .i64 h] w fun e w' => e = .returned (.tuple #[.int .i64 c, .int .i64 s]) ∧ Below w.heap.size w w')) (hs : -16384 ≤ s ∧ s ≤ 16384) :
    Calls Try.prog 12 #[.int .i64 0, .int .i64 h] w fun e w' => e = .returned (.agg #[.int .i64 16384, .int .i64 0, .int .i64 0, .int .i64 0, .int .i64 c, .int .i64 (-s), .int .i64 0, .int .i64 s, .int .i64 c, .int .i64 0, .int .i64 0, .int .i64 0]) ∧ Below w.heap.size w w' := by
  go_enter Try.func12, Try.ntmps12
  go_upto_region 1 with (fail)
  obtain ⟨W1, hW1⟩ : ∃ W, W = w.alloc (.cells #[.int .i64 0, .int .i64 0, .int .i64 0, .int .i64 0, .int .i64 0, .int .i64 0, .int .i64 0, .int .i64 0, .int .i64 0, .int .i64 0, .int .i64 0, .int .i64 0] 29) := ⟨_, rfl⟩
  have B1 : Below w.heap.size w W1 := by rw [hW1]; go_grown
  have k_r : Bk W1 (w.heap.size) 29 #[.int .i64 0, .int .i64 0, .int .i64 0, .int .i64 0, .int .i64 0, .int .i64 0, .int .i64 0, .int .i64 0, .int .i64 0, .int .i64 0, .int .i64 0, .int .i64 0] := by rw [hW1]; exact Bk.new _ _ _
  rw [← hW1]
  clear hW1
  have c_r_0 : ∀ p : BW W1, p.w.cell? ⟨w.heap.size, 0, none⟩ = some (.int .i64 0) := bw_cell (k_r.cell rfl)
  have c_r_1 : ∀ p : BW W1, p.w.cell? ⟨w.heap.size, 1, none⟩ = some (.int .i64 0) := bw_cell (k_r.cell rfl)
  have c_r_2 : ∀ p : BW W1, p.w.cell? ⟨w.heap.size, 2, none⟩ = some (.int .i64 0) := bw_cell (k_r.cell rfl)
  have c_r_3 : ∀ p : BW W1, p.w.cell? ⟨w.heap.size, 3, none⟩ = some (.int .i64 0) := bw_cell (k_r.cell rfl)
  have c_r_4 : ∀ p : BW W1, p.w.cell? ⟨w.heap.size, 4, none⟩ = some (.int .i64 0) := bw_cell (k_r.cell rfl)
  have c_r_5 : ∀ p : BW W1, p.w.cell? ⟨w.heap.size, 5, none⟩ = some (.int .i64 0) := bw_cell (k_r.cell rfl)
  have c_r_6 : ∀ p : BW W1, p.w.cell? ⟨w.heap.size, 6, none⟩ = some (.int .i64 0) := bw_cell (k_r.cell rfl)
  have c_r_7 : ∀ p : BW W1, p.w.cell? ⟨w.heap.size, 7, none⟩ = some (.int .i64 0) := bw_cell (k_r.cell rfl)
  have c_r_8 : ∀ p : BW W1, p.w.cell? ⟨w.heap.size, 8, none⟩ = some (.int .i64 0) := bw_cell (k_r.cell rfl)
  have c_r_9 : ∀ p : BW W1, p.w.cell? ⟨w.heap.size, 9, none⟩ = some (.int .i64 0) := bw_cell (k_r.cell rfl)
  have c_r_10 : ∀ p : BW W1, p.w.cell? ⟨w.heap.size, 10, none⟩ = some (.int .i64 0) := bw_cell (k_r.cell rfl)
  have c_r_11 : ∀ p : BW W1, p.w.cell? ⟨w.heap.size, 11, none⟩ = some (.int .i64 0) := bw_cell (k_r.cell rfl)
  obtain ⟨p1, hp1⟩ : ∃ p : BW W1, p.w = W1 := ⟨BW.start W1, rfl⟩
  rw [← hp1]
  clear hp1
  go_upto_region 2 with (first
    | (go_at_call 26; (first | (with_reducible refine (bw_call hT.out _).mono ?_)); rintro e w' ⟨rfl, q, rfl⟩))
  obtain ⟨W2, hW2⟩ : ∃ W, W = (q.w.alloc (.cells #[.int .i64 c] 3)).alloc (.cells #[.int .i64 s] 3) := ⟨_, rfl⟩
  have B2 : Below w.heap.size w W2 := by rw [hW2]; exact (((bw_below B1 q).alloc (bw_below B1 q).size _).alloc (Nat.le_trans (bw_below B1 q).size (by simp)) _)
  have l_c : w.heap.size < q.w.heap.size := (k_r.below q.h).lt
  have l_s : q.w.heap.size < q.w.heap.size + 1 := by omega
  have o_c : w.heap.size ≤ q.w.heap.size := (bw_below B1 q).size
  have k_r := ((k_r.below q.h).alloc (.cells #[.int .i64 c] 3)).alloc (.cells #[.int .i64 s] 3)
  rw [← hW2] at k_r
  have k_c : Bk W2 q.w.heap.size 3 #[.int .i64 c] := by rw [hW2]; exact (Bk.new _ _ _).alloc _
  have k_s : Bk W2 (q.w.heap.size + 1) 3 #[.int .i64 s] := by rw [hW2]; exact Bk.new_at _ _ _ _ (by simp)
  rw [← hW2]
  clear hW2
  clear B1
  clear c_r_0 c_r_1 c_r_2 c_r_3 c_r_4 c_r_5 c_r_6 c_r_7 c_r_8 c_r_9 c_r_10 c_r_11
  generalize q.w.heap.size + 1 = g_s at *
  generalize q.w.heap.size = g_c at *
  have c_r_0 : ∀ p : BW W2, p.w.cell? ⟨w.heap.size, 0, none⟩ = some (.int .i64 0) := bw_cell (k_r.cell rfl)
  have f_r_0 : ∀ p : BW W2, p.w.frozen? ⟨w.heap.size, 0, none⟩ = false := fun p => (k_r.below p.h).frozen 0
  have c_r_1 : ∀ p : BW W2, p.w.cell? ⟨w.heap.size, 1, none⟩ = some (.int .i64 0) := bw_cell (k_r.cell rfl)
  have f_r_1 : ∀ p : BW W2, p.w.frozen? ⟨w.heap.size, 1, none⟩ = false := fun p => (k_r.below p.h).frozen 1
  have c_r_2 : ∀ p : BW W2, p.w.cell? ⟨w.heap.size, 2, none⟩ = some (.int .i64 0) := bw_cell (k_r.cell rfl)
  have f_r_2 : ∀ p : BW W2, p.w.frozen? ⟨w.heap.size, 2, none⟩ = false := fun p => (k_r.below p.h).frozen 2
  have c_r_3 : ∀ p : BW W2, p.w.cell? ⟨w.heap.size, 3, none⟩ = some (.int .i64 0) := bw_cell (k_r.cell rfl)
  have f_r_3 : ∀ p : BW W2, p.w.frozen? ⟨w.heap.size, 3, none⟩ = false := fun p => (k_r.below p.h).frozen 3
  have c_r_4 : ∀ p : BW W2, p.w.cell? ⟨w.heap.size, 4, none⟩ = some (.int .i64 0) := bw_cell (k_r.cell rfl)
  have f_r_4 : ∀ p : BW W2, p.w.frozen? ⟨w.heap.size, 4, none⟩ = false := fun p => (k_r.below p.h).frozen 4
  have c_r_5 : ∀ p : BW W2, p.w.cell? ⟨w.heap.size, 5, none⟩ = some (.int .i64 0) := bw_cell (k_r.cell rfl)
  have f_r_5 : ∀ p : BW W2, p.w.frozen? ⟨w.heap.size, 5, none⟩ = false := fun p => (k_r.below p.h).frozen 5
  have c_r_6 : ∀ p : BW W2, p.w.cell? ⟨w.heap.size, 6, none⟩ = some (.int .i64 0) := bw_cell (k_r.cell rfl)
  have f_r_6 : ∀ p : BW W2, p.w.frozen? ⟨w.heap.size, 6, none⟩ = false := fun p => (k_r.below p.h).frozen 6
  have c_r_7 : ∀ p : BW W2, p.w.cell? ⟨w.heap.size, 7, none⟩ = some (.int .i64 0) := bw_cell (k_r.cell rfl)
  have f_r_7 : ∀ p : BW W2, p.w.frozen? ⟨w.heap.size, 7, none⟩ = false := fun p => (k_r.below p.h).frozen 7
  have c_r_8 : ∀ p : BW W2, p.w.cell? ⟨w.heap.size, 8, none⟩ = some (.int .i64 0) := bw_cell (k_r.cell rfl)
  have f_r_8 : ∀ p : BW W2, p.w.frozen? ⟨w.heap.size, 8, none⟩ = false := fun p => (k_r.below p.h).frozen 8
  have c_r_9 : ∀ p : BW W2, p.w.cell? ⟨w.heap.size, 9, none⟩ = some (.int .i64 0) := bw_cell (k_r.cell rfl)
  have f_r_9 : ∀ p : BW W2, p.w.frozen? ⟨w.heap.size, 9, none⟩ = false := fun p => (k_r.below p.h).frozen 9
  have c_r_10 : ∀ p : BW W2, p.w.cell? ⟨w.heap.size, 10, none⟩ = some (.int .i64 0) := bw_cell (k_r.cell rfl)
  have f_r_10 : ∀ p : BW W2, p.w.frozen? ⟨w.heap.size, 10, none⟩ = false := fun p => (k_r.below p.h).frozen 10
  have c_r_11 : ∀ p : BW W2, p.w.cell? ⟨w.heap.size, 11, none⟩ = some (.int .i64 0) := bw_cell (k_r.cell rfl)
  have f_r_11 : ∀ p : BW W2, p.w.frozen? ⟨w.heap.size, 11, none⟩ = false := fun p => (k_r.below p.h).frozen 11
  have c_c_0 : ∀ p : BW W2, p.w.cell? ⟨g_c, 0, none⟩ = some (.int .i64 c) := bw_cell (k_c.cell rfl)
  have c_s_0 : ∀ p : BW W2, p.w.cell? ⟨g_s, 0, none⟩ = some (.int .i64 s) := bw_cell (k_s.cell rfl)
  obtain ⟨p2, hp2⟩ : ∃ p : BW W2, p.w = W2 := ⟨BW.start W2, rfl⟩
  rw [← hp2]
  clear hp2
  have KC : ∀ p : BW W2, Calls Try.prog 27 #[.slice (some ⟨p.w.heap.size, 0, none⟩) 3 3] (p.w.alloc (.cells #[.bool true, .func (.func 28) #[] #[.pointer (some ⟨g_c, 0, none⟩), .pointer (some ⟨g_s, 0, none⟩)], .bool false, .func (.func 29) #[] #[.pointer (some ⟨g_s, 0, none⟩), .pointer (some ⟨g_c, 0, none⟩)], .bool false, .func (.func 30) #[] #[.pointer (some ⟨g_c, 0, none⟩), .pointer (some ⟨g_s, 0, none⟩)]] 55)) fun e w' => e = .returned (.agg #[.int .i64 16384, .int .i64 0, .int .i64 0, .int .i64 0, .int .i64 c, .int .i64 (-s), .int .i64 0, .int .i64 s, .int .i64 c, .int .i64 0, .int .i64 0, .int .i64 0]) ∧ ∃ q : BW W2, w' = q.w := fun p =>
    (pose_changed3 3 true false false 28 29 30 #[.pointer (some ⟨g_c, 0, none⟩), .pointer (some ⟨g_s, 0, none⟩)] #[.pointer (some ⟨g_s, 0, none⟩), .pointer (some ⟨g_c, 0, none⟩)] #[.pointer (some ⟨g_c, 0, none⟩), .pointer (some ⟨g_s, 0, none⟩)] (pNone 16384) (((16384, 0, 0), (0, c, -s), (0, s, c), (0, 0, 0))) (((16384, 0, 0), (0, c, -s), (0, s, c), (0, 0, 0))) (((16384, 0, 0), (0, c, -s), (0, s, c), (0, 0, 0))) W2 p.w _ rfl p.h
      (enters_of Try.func28 (by kernel_rfl) rfl) (enters_of Try.func29 (by kernel_rfl) rfl) (enters_of Try.func30 (by kernel_rfl) rfl) rfl (fun h => absurd h (by decide)) (fun _ => rfl) (fun _ => rfl)
      (fun _ w' g hB hle kp => pose_turn0 g g_c g_s c s 16384 0 0 0 16384 0 0 0 16384 0 0 0 w' hs (((k_c.below p.h).alloc _).below hB) (Nat.lt_of_lt_of_le ((k_c.below p.h).alloc _).lt hle) (((k_s.below p.h).alloc _).below hB) (Nat.lt_of_lt_of_le ((k_s.below p.h).alloc _).lt hle) kp)
      (fun h => absurd h (by decide))
      (fun h => absurd h (by decide))).mono fun e w' h => ⟨h.1, ⟨w', h.2⟩, rfl⟩
  clear hs
  have hmf : ∀ (fn : Fn) (first cap : Array Value) (w : World), (Instr.makeFunc fn first cap).run Try.prog w = .ok (.func fn first cap) w := fun _ _ _ _ => rfl
  go_wp2_with (go_at_call 27; (with_reducible refine (KC _).mono ?_); rintro e w' ⟨rfl, q, rfl⟩)
  have kr : Bk ((((((((((((q.w.setCell ⟨w.heap.size, 0, none⟩ (.int .i64 16384)).setCell ⟨w.heap.size, 1, none⟩ (.int .i64 0)).setCell ⟨w.heap.size, 2, none⟩ (.int .i64 0)).setCell ⟨w.heap.size, 3, none⟩ (.int .i64 0)).setCell ⟨w.heap.size, 4, none⟩ (.int .i64 c)).setCell ⟨w.heap.size, 5, none⟩ (.int .i64 (-s))).setCell ⟨w.heap.size, 6, none⟩ (.int .i64 0)).setCell ⟨w.heap.size, 7, none⟩ (.int .i64 s)).setCell ⟨w.heap.size, 8, none⟩ (.int .i64 c)).setCell ⟨w.heap.size, 9, none⟩ (.int .i64 0)).setCell ⟨w.heap.size, 10, none⟩ (.int .i64 0)).setCell ⟨w.heap.size, 11, none⟩ (.int .i64 0)) (w.heap.size) 29 #[.int .i64 16384, .int .i64 0, .int .i64 0, .int .i64 0, .int .i64 c, .int .i64 (-s), .int .i64 0, .int .i64 s, .int .i64 c, .int .i64 0, .int .i64 0, .int .i64 0] := (((((((((((((k_r.below q.h).set 0 (.int .i64 16384)).set 1 (.int .i64 0)).set 2 (.int .i64 0)).set 3 (.int .i64 0)).set 4 (.int .i64 c)).set 5 (.int .i64 (-s))).set 6 (.int .i64 0)).set 7 (.int .i64 s)).set 8 (.int .i64 c)).set 9 (.int .i64 0)).set 10 (.int .i64 0)).set 11 (.int .i64 0)).cast (by simp)
  have rc0 : World.cell? ((((((((((((q.w.setCell ⟨w.heap.size, 0, none⟩ (.int .i64 16384)).setCell ⟨w.heap.size, 1, none⟩ (.int .i64 0)).setCell ⟨w.heap.size, 2, none⟩ (.int .i64 0)).setCell ⟨w.heap.size, 3, none⟩ (.int .i64 0)).setCell ⟨w.heap.size, 4, none⟩ (.int .i64 c)).setCell ⟨w.heap.size, 5, none⟩ (.int .i64 (-s))).setCell ⟨w.heap.size, 6, none⟩ (.int .i64 0)).setCell ⟨w.heap.size, 7, none⟩ (.int .i64 s)).setCell ⟨w.heap.size, 8, none⟩ (.int .i64 c)).setCell ⟨w.heap.size, 9, none⟩ (.int .i64 0)).setCell ⟨w.heap.size, 10, none⟩ (.int .i64 0)).setCell ⟨w.heap.size, 11, none⟩ (.int .i64 0)) ⟨w.heap.size, 0, none⟩ = some (.int .i64 16384) := kr.cell rfl
  have rc1 : World.cell? ((((((((((((q.w.setCell ⟨w.heap.size, 0, none⟩ (.int .i64 16384)).setCell ⟨w.heap.size, 1, none⟩ (.int .i64 0)).setCell ⟨w.heap.size, 2, none⟩ (.int .i64 0)).setCell ⟨w.heap.size, 3, none⟩ (.int .i64 0)).setCell ⟨w.heap.size, 4, none⟩ (.int .i64 c)).setCell ⟨w.heap.size, 5, none⟩ (.int .i64 (-s))).setCell ⟨w.heap.size, 6, none⟩ (.int .i64 0)).setCell ⟨w.heap.size, 7, none⟩ (.int .i64 s)).setCell ⟨w.heap.size, 8, none⟩ (.int .i64 c)).setCell ⟨w.heap.size, 9, none⟩ (.int .i64 0)).setCell ⟨w.heap.size, 10, none⟩ (.int .i64 0)).setCell ⟨w.heap.size, 11, none⟩ (.int .i64 0)) ⟨w.heap.size, 1, none⟩ = some (.int .i64 0) := kr.cell rfl
  have rc2 : World.cell? ((((((((((((q.w.setCell ⟨w.heap.size, 0, none⟩ (.int .i64 16384)).setCell ⟨w.heap.size, 1, none⟩ (.int .i64 0)).setCell ⟨w.heap.size, 2, none⟩ (.int .i64 0)).setCell ⟨w.heap.size, 3, none⟩ (.int .i64 0)).setCell ⟨w.heap.size, 4, none⟩ (.int .i64 c)).setCell ⟨w.heap.size, 5, none⟩ (.int .i64 (-s))).setCell ⟨w.heap.size, 6, none⟩ (.int .i64 0)).setCell ⟨w.heap.size, 7, none⟩ (.int .i64 s)).setCell ⟨w.heap.size, 8, none⟩ (.int .i64 c)).setCell ⟨w.heap.size, 9, none⟩ (.int .i64 0)).setCell ⟨w.heap.size, 10, none⟩ (.int .i64 0)).setCell ⟨w.heap.size, 11, none⟩ (.int .i64 0)) ⟨w.heap.size, 2, none⟩ = some (.int .i64 0) := kr.cell rfl
  have rc3 : World.cell? ((((((((((((q.w.setCell ⟨w.heap.size, 0, none⟩ (.int .i64 16384)).setCell ⟨w.heap.size, 1, none⟩ (.int .i64 0)).setCell ⟨w.heap.size, 2, none⟩ (.int .i64 0)).setCell ⟨w.heap.size, 3, none⟩ (.int .i64 0)).setCell ⟨w.heap.size, 4, none⟩ (.int .i64 c)).setCell ⟨w.heap.size, 5, none⟩ (.int .i64 (-s))).setCell ⟨w.heap.size, 6, none⟩ (.int .i64 0)).setCell ⟨w.heap.size, 7, none⟩ (.int .i64 s)).setCell ⟨w.heap.size, 8, none⟩ (.int .i64 c)).setCell ⟨w.heap.size, 9, none⟩ (.int .i64 0)).setCell ⟨w.heap.size, 10, none⟩ (.int .i64 0)).setCell ⟨w.heap.size, 11, none⟩ (.int .i64 0)) ⟨w.heap.size, 3, none⟩ = some (.int .i64 0) := kr.cell rfl
  have rc4 : World.cell? ((((((((((((q.w.setCell ⟨w.heap.size, 0, none⟩ (.int .i64 16384)).setCell ⟨w.heap.size, 1, none⟩ (.int .i64 0)).setCell ⟨w.heap.size, 2, none⟩ (.int .i64 0)).setCell ⟨w.heap.size, 3, none⟩ (.int .i64 0)).setCell ⟨w.heap.size, 4, none⟩ (.int .i64 c)).setCell ⟨w.heap.size, 5, none⟩ (.int .i64 (-s))).setCell ⟨w.heap.size, 6, none⟩ (.int .i64 0)).setCell ⟨w.heap.size, 7, none⟩ (.int .i64 s)).setCell ⟨w.heap.size, 8, none⟩ (.int .i64 c)).setCell ⟨w.heap.size, 9, none⟩ (.int .i64 0)).setCell ⟨w.heap.size, 10, none⟩ (.int .i64 0)).setCell ⟨w.heap.size, 11, none⟩ (.int .i64 0)) ⟨w.heap.size, 4, none⟩ = some (.int .i64 c) := kr.cell rfl
  have rc5 : World.cell? ((((((((((((q.w.setCell ⟨w.heap.size, 0, none⟩ (.int .i64 16384)).setCell ⟨w.heap.size, 1, none⟩ (.int .i64 0)).setCell ⟨w.heap.size, 2, none⟩ (.int .i64 0)).setCell ⟨w.heap.size, 3, none⟩ (.int .i64 0)).setCell ⟨w.heap.size, 4, none⟩ (.int .i64 c)).setCell ⟨w.heap.size, 5, none⟩ (.int .i64 (-s))).setCell ⟨w.heap.size, 6, none⟩ (.int .i64 0)).setCell ⟨w.heap.size, 7, none⟩ (.int .i64 s)).setCell ⟨w.heap.size, 8, none⟩ (.int .i64 c)).setCell ⟨w.heap.size, 9, none⟩ (.int .i64 0)).setCell ⟨w.heap.size, 10, none⟩ (.int .i64 0)).setCell ⟨w.heap.size, 11, none⟩ (.int .i64 0)) ⟨w.heap.size, 5, none⟩ = some (.int .i64 (-s)) := kr.cell rfl
  have rc6 : World.cell? ((((((((((((q.w.setCell ⟨w.heap.size, 0, none⟩ (.int .i64 16384)).setCell ⟨w.heap.size, 1, none⟩ (.int .i64 0)).setCell ⟨w.heap.size, 2, none⟩ (.int .i64 0)).setCell ⟨w.heap.size, 3, none⟩ (.int .i64 0)).setCell ⟨w.heap.size, 4, none⟩ (.int .i64 c)).setCell ⟨w.heap.size, 5, none⟩ (.int .i64 (-s))).setCell ⟨w.heap.size, 6, none⟩ (.int .i64 0)).setCell ⟨w.heap.size, 7, none⟩ (.int .i64 s)).setCell ⟨w.heap.size, 8, none⟩ (.int .i64 c)).setCell ⟨w.heap.size, 9, none⟩ (.int .i64 0)).setCell ⟨w.heap.size, 10, none⟩ (.int .i64 0)).setCell ⟨w.heap.size, 11, none⟩ (.int .i64 0)) ⟨w.heap.size, 6, none⟩ = some (.int .i64 0) := kr.cell rfl
  have rc7 : World.cell? ((((((((((((q.w.setCell ⟨w.heap.size, 0, none⟩ (.int .i64 16384)).setCell ⟨w.heap.size, 1, none⟩ (.int .i64 0)).setCell ⟨w.heap.size, 2, none⟩ (.int .i64 0)).setCell ⟨w.heap.size, 3, none⟩ (.int .i64 0)).setCell ⟨w.heap.size, 4, none⟩ (.int .i64 c)).setCell ⟨w.heap.size, 5, none⟩ (.int .i64 (-s))).setCell ⟨w.heap.size, 6, none⟩ (.int .i64 0)).setCell ⟨w.heap.size, 7, none⟩ (.int .i64 s)).setCell ⟨w.heap.size, 8, none⟩ (.int .i64 c)).setCell ⟨w.heap.size, 9, none⟩ (.int .i64 0)).setCell ⟨w.heap.size, 10, none⟩ (.int .i64 0)).setCell ⟨w.heap.size, 11, none⟩ (.int .i64 0)) ⟨w.heap.size, 7, none⟩ = some (.int .i64 s) := kr.cell rfl
  have rc8 : World.cell? ((((((((((((q.w.setCell ⟨w.heap.size, 0, none⟩ (.int .i64 16384)).setCell ⟨w.heap.size, 1, none⟩ (.int .i64 0)).setCell ⟨w.heap.size, 2, none⟩ (.int .i64 0)).setCell ⟨w.heap.size, 3, none⟩ (.int .i64 0)).setCell ⟨w.heap.size, 4, none⟩ (.int .i64 c)).setCell ⟨w.heap.size, 5, none⟩ (.int .i64 (-s))).setCell ⟨w.heap.size, 6, none⟩ (.int .i64 0)).setCell ⟨w.heap.size, 7, none⟩ (.int .i64 s)).setCell ⟨w.heap.size, 8, none⟩ (.int .i64 c)).setCell ⟨w.heap.size, 9, none⟩ (.int .i64 0)).setCell ⟨w.heap.size, 10, none⟩ (.int .i64 0)).setCell ⟨w.heap.size, 11, none⟩ (.int .i64 0)) ⟨w.heap.size, 8, none⟩ = some (.int .i64 c) := kr.cell rfl
  have rc9 : World.cell? ((((((((((((q.w.setCell ⟨w.heap.size, 0, none⟩ (.int .i64 16384)).setCell ⟨w.heap.size, 1, none⟩ (.int .i64 0)).setCell ⟨w.heap.size, 2, none⟩ (.int .i64 0)).setCell ⟨w.heap.size, 3, none⟩ (.int .i64 0)).setCell ⟨w.heap.size, 4, none⟩ (.int .i64 c)).setCell ⟨w.heap.size, 5, none⟩ (.int .i64 (-s))).setCell ⟨w.heap.size, 6, none⟩ (.int .i64 0)).setCell ⟨w.heap.size, 7, none⟩ (.int .i64 s)).setCell ⟨w.heap.size, 8, none⟩ (.int .i64 c)).setCell ⟨w.heap.size, 9, none⟩ (.int .i64 0)).setCell ⟨w.heap.size, 10, none⟩ (.int .i64 0)).setCell ⟨w.heap.size, 11, none⟩ (.int .i64 0)) ⟨w.heap.size, 9, none⟩ = some (.int .i64 0) := kr.cell rfl
  have rc10 : World.cell? ((((((((((((q.w.setCell ⟨w.heap.size, 0, none⟩ (.int .i64 16384)).setCell ⟨w.heap.size, 1, none⟩ (.int .i64 0)).setCell ⟨w.heap.size, 2, none⟩ (.int .i64 0)).setCell ⟨w.heap.size, 3, none⟩ (.int .i64 0)).setCell ⟨w.heap.size, 4, none⟩ (.int .i64 c)).setCell ⟨w.heap.size, 5, none⟩ (.int .i64 (-s))).setCell ⟨w.heap.size, 6, none⟩ (.int .i64 0)).setCell ⟨w.heap.size, 7, none⟩ (.int .i64 s)).setCell ⟨w.heap.size, 8, none⟩ (.int .i64 c)).setCell ⟨w.heap.size, 9, none⟩ (.int .i64 0)).setCell ⟨w.heap.size, 10, none⟩ (.int .i64 0)).setCell ⟨w.heap.size, 11, none⟩ (.int .i64 0)) ⟨w.heap.size, 10, none⟩ = some (.int .i64 0) := kr.cell rfl
  have rc11 : World.cell? ((((((((((((q.w.setCell ⟨w.heap.size, 0, none⟩ (.int .i64 16384)).setCell ⟨w.heap.size, 1, none⟩ (.int .i64 0)).setCell ⟨w.heap.size, 2, none⟩ (.int .i64 0)).setCell ⟨w.heap.size, 3, none⟩ (.int .i64 0)).setCell ⟨w.heap.size, 4, none⟩ (.int .i64 c)).setCell ⟨w.heap.size, 5, none⟩ (.int .i64 (-s))).setCell ⟨w.heap.size, 6, none⟩ (.int .i64 0)).setCell ⟨w.heap.size, 7, none⟩ (.int .i64 s)).setCell ⟨w.heap.size, 8, none⟩ (.int .i64 c)).setCell ⟨w.heap.size, 9, none⟩ (.int .i64 0)).setCell ⟨w.heap.size, 10, none⟩ (.int .i64 0)).setCell ⟨w.heap.size, 11, none⟩ (.int .i64 0)) ⟨w.heap.size, 11, none⟩ = some (.int .i64 0) := kr.cell rfl
  exact bodyPost_ret (v := .agg #[.int .i64 16384, .int .i64 0, .int .i64 0, .int .i64 0, .int .i64 c, .int .i64 (-s), .int .i64 0, .int .i64 s, .int .i64 c, .int .i64 0, .int .i64 0, .int .i64 0]) (by simp [results, Try.results12, go_sem, rc0, rc1, rc2, rc3, rc4, rc5, rc6, rc7, rc8, rc9, rc10, rc11]) rfl ⟨rfl, (((((((((((((bw_below B2 q).setCell (p := ⟨w.heap.size, 0, none⟩) (by show w.heap.size ≤ w.heap.size; omega) _).setCell (p := ⟨w.heap.size, 1, none⟩) (by show w.heap.size ≤ w.heap.size; omega) _).setCell (p := ⟨w.heap.size, 2, none⟩) (by show w.heap.size ≤ w.heap.size; omega) _).setCell (p := ⟨w.heap.size, 3, none⟩) (by show w.heap.size ≤ w.heap.size; omega) _).setCell (p := ⟨w.heap.size, 4, none⟩) (by show w.heap.size ≤ w.heap.size; omega) _).setCell (p := ⟨w.heap.size, 5, none⟩) (by show w.heap.size ≤ w.heap.size; omega) _).setCell (p := ⟨w.heap.size, 6, none⟩) (by show w.heap.size ≤ w.heap.size; omega) _).setCell (p := ⟨w.heap.size, 7, none⟩) (by show w.heap.size ≤ w.heap.size; omega) _).setCell (p := ⟨w.heap.size, 8, none⟩) (by show w.heap.size ≤ w.heap.size; omega) _).setCell (p := ⟨w.heap.size, 9, none⟩) (by show w.heap.size ≤ w.heap.size; omega) _).setCell (p := ⟨w.heap.size, 10, none⟩) (by show w.heap.size ≤ w.heap.size; omega) _).setCell (p := ⟨w.heap.size, 11, none⟩) (by show w.heap.size ≤ w.heap.size; omega) _)⟩

set_option maxRecDepth 100000 in
set_option maxHeartbeats 4000000 in
theorem pose_Turned_1 (h c s : Int) (w : World) (hT : Hid (∀ w, Calls Try.prog 26 #[.int .i64 h] w fun e w' => e = .returned (.tuple #[.int .i64 c, .int .i64 s]) ∧ Below w.heap.size w w')) (hs : -16384 ≤ s ∧ s ≤ 16384) :
    Calls Try.prog 12 #[.int .i64 1, .int .i64 h] w fun e w' => e = .returned (.agg #[.int .i64 c, .int .i64 0, .int .i64 s, .int .i64 0, .int .i64 16384, .int .i64 0, .int .i64 (-s), .int .i64 0, .int .i64 c, .int .i64 0, .int .i64 0, .int .i64 0]) ∧ Below w.heap.size w w' := by
  go_enter Try.func12, Try.ntmps12
  go_upto_region 1 with (fail)
  obtain ⟨W1, hW1⟩ : ∃ W, W = w.alloc (.cells #[.int .i64 0, .int .i64 0, .int .i64 0, .int .i64 0, .int .i64 0, .int .i64 0, .int .i64 0, .int .i64 0, .int .i64 0, .int .i64 0, .int .i64 0, .int .i64 0] 29) := ⟨_, rfl⟩
  have B1 : Below w.heap.size w W1 := by rw [hW1]; go_grown
  have k_r : Bk W1 (w.heap.size) 29 #[.int .i64 0, .int .i64 0, .int .i64 0, .int .i64 0, .int .i64 0, .int .i64 0, .int .i64 0, .int .i64 0, .int .i64 0, .int .i64 0, .int .i64 0, .int .i64 0] := by rw [hW1]; exact Bk.new _ _ _
  rw [← hW1]
  clear hW1
  have c_r_0 : ∀ p : BW W1, p.w.cell? ⟨w.heap.size, 0, none⟩ = some (.int .i64 0) := bw_cell (k_r.cell rfl)
  have c_r_1 : ∀ p : BW W1, p.w.cell? ⟨w.heap.size, 1, none⟩ = some (.int .i64 0) := bw_cell (k_r.cell rfl)
  have c_r_2 : ∀ p : BW W1, p.w.cell? ⟨w.heap.size, 2, none⟩ = some (.int .i64 0) := bw_cell (k_r.cell rfl)
  have c_r_3 : ∀ p : BW W1, p.w.cell? ⟨w.heap.size, 3, none⟩ = some (.int .i64 0) := bw_cell (k_r.cell rfl)
  have c_r_4 : ∀ p : BW W1, p.w.cell? ⟨w.heap.size, 4, none⟩ = some (.int .i64 0) := bw_cell (k_r.cell rfl)
  have c_r_5 : ∀ p : BW W1, p.w.cell? ⟨w.heap.size, 5, none⟩ = some (.int .i64 0) := bw_cell (k_r.cell rfl)
  have c_r_6 : ∀ p : BW W1, p.w.cell? ⟨w.heap.size, 6, none⟩ = some (.int .i64 0) := bw_cell (k_r.cell rfl)
  have c_r_7 : ∀ p : BW W1, p.w.cell? ⟨w.heap.size, 7, none⟩ = some (.int .i64 0) := bw_cell (k_r.cell rfl)
  have c_r_8 : ∀ p : BW W1, p.w.cell? ⟨w.heap.size, 8, none⟩ = some (.int .i64 0) := bw_cell (k_r.cell rfl)
  have c_r_9 : ∀ p : BW W1, p.w.cell? ⟨w.heap.size, 9, none⟩ = some (.int .i64 0) := bw_cell (k_r.cell rfl)
  have c_r_10 : ∀ p : BW W1, p.w.cell? ⟨w.heap.size, 10, none⟩ = some (.int .i64 0) := bw_cell (k_r.cell rfl)
  have c_r_11 : ∀ p : BW W1, p.w.cell? ⟨w.heap.size, 11, none⟩ = some (.int .i64 0) := bw_cell (k_r.cell rfl)
  obtain ⟨p1, hp1⟩ : ∃ p : BW W1, p.w = W1 := ⟨BW.start W1, rfl⟩
  rw [← hp1]
  clear hp1
  go_upto_region 2 with (first
    | (go_at_call 26; (first | (with_reducible refine (bw_call hT.out _).mono ?_)); rintro e w' ⟨rfl, q, rfl⟩))
  obtain ⟨W2, hW2⟩ : ∃ W, W = (q.w.alloc (.cells #[.int .i64 c] 3)).alloc (.cells #[.int .i64 s] 3) := ⟨_, rfl⟩
  have B2 : Below w.heap.size w W2 := by rw [hW2]; exact (((bw_below B1 q).alloc (bw_below B1 q).size _).alloc (Nat.le_trans (bw_below B1 q).size (by simp)) _)
  have l_c : w.heap.size < q.w.heap.size := (k_r.below q.h).lt
  have l_s : q.w.heap.size < q.w.heap.size + 1 := by omega
  have o_c : w.heap.size ≤ q.w.heap.size := (bw_below B1 q).size
  have k_r := ((k_r.below q.h).alloc (.cells #[.int .i64 c] 3)).alloc (.cells #[.int .i64 s] 3)
  rw [← hW2] at k_r
  have k_c : Bk W2 q.w.heap.size 3 #[.int .i64 c] := by rw [hW2]; exact (Bk.new _ _ _).alloc _
  have k_s : Bk W2 (q.w.heap.size + 1) 3 #[.int .i64 s] := by rw [hW2]; exact Bk.new_at _ _ _ _ (by simp)
  rw [← hW2]
  clear hW2
  clear B1
  clear c_r_0 c_r_1 c_r_2 c_r_3 c_r_4 c_r_5 c_r_6 c_r_7 c_r_8 c_r_9 c_r_10 c_r_11
  generalize q.w.heap.size + 1 = g_s at *
  generalize q.w.heap.size = g_c at *
  have c_r_0 : ∀ p : BW W2, p.w.cell? ⟨w.heap.size, 0, none⟩ = some (.int .i64 0) := bw_cell (k_r.cell rfl)
  have f_r_0 : ∀ p : BW W2, p.w.frozen? ⟨w.heap.size, 0, none⟩ = false := fun p => (k_r.below p.h).frozen 0
  have c_r_1 : ∀ p : BW W2, p.w.cell? ⟨w.heap.size, 1, none⟩ = some (.int .i64 0) := bw_cell (k_r.cell rfl)
  have f_r_1 : ∀ p : BW W2, p.w.frozen? ⟨w.heap.size, 1, none⟩ = false := fun p => (k_r.below p.h).frozen 1
  have c_r_2 : ∀ p : BW W2, p.w.cell? ⟨w.heap.size, 2, none⟩ = some (.int .i64 0) := bw_cell (k_r.cell rfl)
  have f_r_2 : ∀ p : BW W2, p.w.frozen? ⟨w.heap.size, 2, none⟩ = false := fun p => (k_r.below p.h).frozen 2
  have c_r_3 : ∀ p : BW W2, p.w.cell? ⟨w.heap.size, 3, none⟩ = some (.int .i64 0) := bw_cell (k_r.cell rfl)
  have f_r_3 : ∀ p : BW W2, p.w.frozen? ⟨w.heap.size, 3, none⟩ = false := fun p => (k_r.below p.h).frozen 3
  have c_r_4 : ∀ p : BW W2, p.w.cell? ⟨w.heap.size, 4, none⟩ = some (.int .i64 0) := bw_cell (k_r.cell rfl)
  have f_r_4 : ∀ p : BW W2, p.w.frozen? ⟨w.heap.size, 4, none⟩ = false := fun p => (k_r.below p.h).frozen 4
  have c_r_5 : ∀ p : BW W2, p.w.cell? ⟨w.heap.size, 5, none⟩ = some (.int .i64 0) := bw_cell (k_r.cell rfl)
  have f_r_5 : ∀ p : BW W2, p.w.frozen? ⟨w.heap.size, 5, none⟩ = false := fun p => (k_r.below p.h).frozen 5
  have c_r_6 : ∀ p : BW W2, p.w.cell? ⟨w.heap.size, 6, none⟩ = some (.int .i64 0) := bw_cell (k_r.cell rfl)
  have f_r_6 : ∀ p : BW W2, p.w.frozen? ⟨w.heap.size, 6, none⟩ = false := fun p => (k_r.below p.h).frozen 6
  have c_r_7 : ∀ p : BW W2, p.w.cell? ⟨w.heap.size, 7, none⟩ = some (.int .i64 0) := bw_cell (k_r.cell rfl)
  have f_r_7 : ∀ p : BW W2, p.w.frozen? ⟨w.heap.size, 7, none⟩ = false := fun p => (k_r.below p.h).frozen 7
  have c_r_8 : ∀ p : BW W2, p.w.cell? ⟨w.heap.size, 8, none⟩ = some (.int .i64 0) := bw_cell (k_r.cell rfl)
  have f_r_8 : ∀ p : BW W2, p.w.frozen? ⟨w.heap.size, 8, none⟩ = false := fun p => (k_r.below p.h).frozen 8
  have c_r_9 : ∀ p : BW W2, p.w.cell? ⟨w.heap.size, 9, none⟩ = some (.int .i64 0) := bw_cell (k_r.cell rfl)
  have f_r_9 : ∀ p : BW W2, p.w.frozen? ⟨w.heap.size, 9, none⟩ = false := fun p => (k_r.below p.h).frozen 9
  have c_r_10 : ∀ p : BW W2, p.w.cell? ⟨w.heap.size, 10, none⟩ = some (.int .i64 0) := bw_cell (k_r.cell rfl)
  have f_r_10 : ∀ p : BW W2, p.w.frozen? ⟨w.heap.size, 10, none⟩ = false := fun p => (k_r.below p.h).frozen 10
  have c_r_11 : ∀ p : BW W2, p.w.cell? ⟨w.heap.size, 11, none⟩ = some (.int .i64 0) := bw_cell (k_r.cell rfl)
  have f_r_11 : ∀ p : BW W2, p.w.frozen? ⟨w.heap.size, 11, none⟩ = false := fun p => (k_r.below p.h).frozen 11
  have c_c_0 : ∀ p : BW W2, p.w.cell? ⟨g_c, 0, none⟩ = some (.int .i64 c) := bw_cell (k_c.cell rfl)
  have c_s_0 : ∀ p : BW W2, p.w.cell? ⟨g_s, 0, none⟩ = some (.int .i64 s) := bw_cell (k_s.cell rfl)
  obtain ⟨p2, hp2⟩ : ∃ p : BW W2, p.w = W2 := ⟨BW.start W2, rfl⟩
  rw [← hp2]
  clear hp2
  have KC : ∀ p : BW W2, Calls Try.prog 27 #[.slice (some ⟨p.w.heap.size, 0, none⟩) 3 3] (p.w.alloc (.cells #[.bool false, .func (.func 28) #[] #[.pointer (some ⟨g_c, 0, none⟩), .pointer (some ⟨g_s, 0, none⟩)], .bool true, .func (.func 29) #[] #[.pointer (some ⟨g_s, 0, none⟩), .pointer (some ⟨g_c, 0, none⟩)], .bool false, .func (.func 30) #[] #[.pointer (some ⟨g_c, 0, none⟩), .pointer (some ⟨g_s, 0, none⟩)]] 55)) fun e w' => e = .returned (.agg #[.int .i64 c, .int .i64 0, .int .i64 s, .int .i64 0, .int .i64 16384, .int .i64 0, .int .i64 (-s), .int .i64 0, .int .i64 c, .int .i64 0, .int .i64 0, .int .i64 0]) ∧ ∃ q : BW W2, w' = q.w := fun p =>
    (pose_changed3 3 false true false 28 29 30 #[.pointer (some ⟨g_c, 0, none⟩), .pointer (some ⟨g_s, 0, none⟩)] #[.pointer (some ⟨g_s, 0, none⟩), .pointer (some ⟨g_c, 0, none⟩)] #[.pointer (some ⟨g_c, 0, none⟩), .pointer (some ⟨g_s, 0, none⟩)] (pNone 16384) (pNone 16384) (((c, 0, s), (0, 16384, 0), (-s, 0, c), (0, 0, 0))) (((c, 0, s), (0, 16384, 0), (-s, 0, c), (0, 0, 0))) W2 p.w _ rfl p.h
      (enters_of Try.func28 (by kernel_rfl) rfl) (enters_of Try.func29 (by kernel_rfl) rfl) (enters_of Try.func30 (by kernel_rfl) rfl) rfl (fun _ => rfl) (fun h => absurd h (by decide)) (fun _ => rfl)
      (fun h => absurd h (by decide))
      (fun _ w' g hB hle kp => pose_turn1 g g_s g_c c s 16384 0 0 0 16384 0 0 0 16384 0 0 0 w' hs (((k_s.below p.h).alloc _).below hB) (Nat.lt_of_lt_of_le ((k_s.below p.h).alloc _).lt hle) (((k_c.below p.h).alloc _).below hB) (Nat.lt_of_lt_of_le ((k_c.below p.h).alloc _).lt hle) kp)
      (fun h => absurd h (by decide))).mono fun e w' h => ⟨h.1, ⟨w', h.2⟩, rfl⟩
  clear hs
  have hmf : ∀ (fn : Fn) (first cap : Array Value) (w : World), (Instr.makeFunc fn first cap).run Try.prog w = .ok (.func fn first cap) w := fun _ _ _ _ => rfl
  go_wp2_with (go_at_call 27; (with_reducible refine (KC _).mono ?_); rintro e w' ⟨rfl, q, rfl⟩)
  have kr : Bk ((((((((((((q.w.setCell ⟨w.heap.size, 0, none⟩ (.int .i64 c)).setCell ⟨w.heap.size, 1, none⟩ (.int .i64 0)).setCell ⟨w.heap.size, 2, none⟩ (.int .i64 s)).setCell ⟨w.heap.size, 3, none⟩ (.int .i64 0)).setCell ⟨w.heap.size, 4, none⟩ (.int .i64 16384)).setCell ⟨w.heap.size, 5, none⟩ (.int .i64 0)).setCell ⟨w.heap.size, 6, none⟩ (.int .i64 (-s))).setCell ⟨w.heap.size, 7, none⟩ (.int .i64 0)).setCell ⟨w.heap.size, 8, none⟩ (.int .i64 c)).setCell ⟨w.heap.size, 9, none⟩ (.int .i64 0)).setCell ⟨w.heap.size, 10, none⟩ (.int .i64 0)).setCell ⟨w.heap.size, 11, none⟩ (.int .i64 0)) (w.heap.size) 29 #[.int .i64 c, .int .i64 0, .int .i64 s, .int .i64 0, .int .i64 16384, .int .i64 0, .int .i64 (-s), .int .i64 0, .int .i64 c, .int .i64 0, .int .i64 0, .int .i64 0] := (((((((((((((k_r.below q.h).set 0 (.int .i64 c)).set 1 (.int .i64 0)).set 2 (.int .i64 s)).set 3 (.int .i64 0)).set 4 (.int .i64 16384)).set 5 (.int .i64 0)).set 6 (.int .i64 (-s))).set 7 (.int .i64 0)).set 8 (.int .i64 c)).set 9 (.int .i64 0)).set 10 (.int .i64 0)).set 11 (.int .i64 0)).cast (by simp)
  have rc0 : World.cell? ((((((((((((q.w.setCell ⟨w.heap.size, 0, none⟩ (.int .i64 c)).setCell ⟨w.heap.size, 1, none⟩ (.int .i64 0)).setCell ⟨w.heap.size, 2, none⟩ (.int .i64 s)).setCell ⟨w.heap.size, 3, none⟩ (.int .i64 0)).setCell ⟨w.heap.size, 4, none⟩ (.int .i64 16384)).setCell ⟨w.heap.size, 5, none⟩ (.int .i64 0)).setCell ⟨w.heap.size, 6, none⟩ (.int .i64 (-s))).setCell ⟨w.heap.size, 7, none⟩ (.int .i64 0)).setCell ⟨w.heap.size, 8, none⟩ (.int .i64 c)).setCell ⟨w.heap.size, 9, none⟩ (.int .i64 0)).setCell ⟨w.heap.size, 10, none⟩ (.int .i64 0)).setCell ⟨w.heap.size, 11, none⟩ (.int .i64 0)) ⟨w.heap.size, 0, none⟩ = some (.int .i64 c) := kr.cell rfl
  have rc1 : World.cell? ((((((((((((q.w.setCell ⟨w.heap.size, 0, none⟩ (.int .i64 c)).setCell ⟨w.heap.size, 1, none⟩ (.int .i64 0)).setCell ⟨w.heap.size, 2, none⟩ (.int .i64 s)).setCell ⟨w.heap.size, 3, none⟩ (.int .i64 0)).setCell ⟨w.heap.size, 4, none⟩ (.int .i64 16384)).setCell ⟨w.heap.size, 5, none⟩ (.int .i64 0)).setCell ⟨w.heap.size, 6, none⟩ (.int .i64 (-s))).setCell ⟨w.heap.size, 7, none⟩ (.int .i64 0)).setCell ⟨w.heap.size, 8, none⟩ (.int .i64 c)).setCell ⟨w.heap.size, 9, none⟩ (.int .i64 0)).setCell ⟨w.heap.size, 10, none⟩ (.int .i64 0)).setCell ⟨w.heap.size, 11, none⟩ (.int .i64 0)) ⟨w.heap.size, 1, none⟩ = some (.int .i64 0) := kr.cell rfl
  have rc2 : World.cell? ((((((((((((q.w.setCell ⟨w.heap.size, 0, none⟩ (.int .i64 c)).setCell ⟨w.heap.size, 1, none⟩ (.int .i64 0)).setCell ⟨w.heap.size, 2, none⟩ (.int .i64 s)).setCell ⟨w.heap.size, 3, none⟩ (.int .i64 0)).setCell ⟨w.heap.size, 4, none⟩ (.int .i64 16384)).setCell ⟨w.heap.size, 5, none⟩ (.int .i64 0)).setCell ⟨w.heap.size, 6, none⟩ (.int .i64 (-s))).setCell ⟨w.heap.size, 7, none⟩ (.int .i64 0)).setCell ⟨w.heap.size, 8, none⟩ (.int .i64 c)).setCell ⟨w.heap.size, 9, none⟩ (.int .i64 0)).setCell ⟨w.heap.size, 10, none⟩ (.int .i64 0)).setCell ⟨w.heap.size, 11, none⟩ (.int .i64 0)) ⟨w.heap.size, 2, none⟩ = some (.int .i64 s) := kr.cell rfl
  have rc3 : World.cell? ((((((((((((q.w.setCell ⟨w.heap.size, 0, none⟩ (.int .i64 c)).setCell ⟨w.heap.size, 1, none⟩ (.int .i64 0)).setCell ⟨w.heap.size, 2, none⟩ (.int .i64 s)).setCell ⟨w.heap.size, 3, none⟩ (.int .i64 0)).setCell ⟨w.heap.size, 4, none⟩ (.int .i64 16384)).setCell ⟨w.heap.size, 5, none⟩ (.int .i64 0)).setCell ⟨w.heap.size, 6, none⟩ (.int .i64 (-s))).setCell ⟨w.heap.size, 7, none⟩ (.int .i64 0)).setCell ⟨w.heap.size, 8, none⟩ (.int .i64 c)).setCell ⟨w.heap.size, 9, none⟩ (.int .i64 0)).setCell ⟨w.heap.size, 10, none⟩ (.int .i64 0)).setCell ⟨w.heap.size, 11, none⟩ (.int .i64 0)) ⟨w.heap.size, 3, none⟩ = some (.int .i64 0) := kr.cell rfl
  have rc4 : World.cell? ((((((((((((q.w.setCell ⟨w.heap.size, 0, none⟩ (.int .i64 c)).setCell ⟨w.heap.size, 1, none⟩ (.int .i64 0)).setCell ⟨w.heap.size, 2, none⟩ (.int .i64 s)).setCell ⟨w.heap.size, 3, none⟩ (.int .i64 0)).setCell ⟨w.heap.size, 4, none⟩ (.int .i64 16384)).setCell ⟨w.heap.size, 5, none⟩ (.int .i64 0)).setCell ⟨w.heap.size, 6, none⟩ (.int .i64 (-s))).setCell ⟨w.heap.size, 7, none⟩ (.int .i64 0)).setCell ⟨w.heap.size, 8, none⟩ (.int .i64 c)).setCell ⟨w.heap.size, 9, none⟩ (.int .i64 0)).setCell ⟨w.heap.size, 10, none⟩ (.int .i64 0)).setCell ⟨w.heap.size, 11, none⟩ (.int .i64 0)) ⟨w.heap.size, 4, none⟩ = some (.int .i64 16384) := kr.cell rfl
  have rc5 : World.cell? ((((((((((((q.w.setCell ⟨w.heap.size, 0, none⟩ (.int .i64 c)).setCell ⟨w.heap.size, 1, none⟩ (.int .i64 0)).setCell ⟨w.heap.size, 2, none⟩ (.int .i64 s)).setCell ⟨w.heap.size, 3, none⟩ (.int .i64 0)).setCell ⟨w.heap.size, 4, none⟩ (.int .i64 16384)).setCell ⟨w.heap.size, 5, none⟩ (.int .i64 0)).setCell ⟨w.heap.size, 6, none⟩ (.int .i64 (-s))).setCell ⟨w.heap.size, 7, none⟩ (.int .i64 0)).setCell ⟨w.heap.size, 8, none⟩ (.int .i64 c)).setCell ⟨w.heap.size, 9, none⟩ (.int .i64 0)).setCell ⟨w.heap.size, 10, none⟩ (.int .i64 0)).setCell ⟨w.heap.size, 11, none⟩ (.int .i64 0)) ⟨w.heap.size, 5, none⟩ = some (.int .i64 0) := kr.cell rfl
  have rc6 : World.cell? ((((((((((((q.w.setCell ⟨w.heap.size, 0, none⟩ (.int .i64 c)).setCell ⟨w.heap.size, 1, none⟩ (.int .i64 0)).setCell ⟨w.heap.size, 2, none⟩ (.int .i64 s)).setCell ⟨w.heap.size, 3, none⟩ (.int .i64 0)).setCell ⟨w.heap.size, 4, none⟩ (.int .i64 16384)).setCell ⟨w.heap.size, 5, none⟩ (.int .i64 0)).setCell ⟨w.heap.size, 6, none⟩ (.int .i64 (-s))).setCell ⟨w.heap.size, 7, none⟩ (.int .i64 0)).setCell ⟨w.heap.size, 8, none⟩ (.int .i64 c)).setCell ⟨w.heap.size, 9, none⟩ (.int .i64 0)).setCell ⟨w.heap.size, 10, none⟩ (.int .i64 0)).setCell ⟨w.heap.size, 11, none⟩ (.int .i64 0)) ⟨w.heap.size, 6, none⟩ = some (.int .i64 (-s)) := kr.cell rfl
  have rc7 : World.cell? ((((((((((((q.w.setCell ⟨w.heap.size, 0, none⟩ (.int .i64 c)).setCell ⟨w.heap.size, 1, none⟩ (.int .i64 0)).setCell ⟨w.heap.size, 2, none⟩ (.int .i64 s)).setCell ⟨w.heap.size, 3, none⟩ (.int .i64 0)).setCell ⟨w.heap.size, 4, none⟩ (.int .i64 16384)).setCell ⟨w.heap.size, 5, none⟩ (.int .i64 0)).setCell ⟨w.heap.size, 6, none⟩ (.int .i64 (-s))).setCell ⟨w.heap.size, 7, none⟩ (.int .i64 0)).setCell ⟨w.heap.size, 8, none⟩ (.int .i64 c)).setCell ⟨w.heap.size, 9, none⟩ (.int .i64 0)).setCell ⟨w.heap.size, 10, none⟩ (.int .i64 0)).setCell ⟨w.heap.size, 11, none⟩ (.int .i64 0)) ⟨w.heap.size, 7, none⟩ = some (.int .i64 0) := kr.cell rfl
  have rc8 : World.cell? ((((((((((((q.w.setCell ⟨w.heap.size, 0, none⟩ (.int .i64 c)).setCell ⟨w.heap.size, 1, none⟩ (.int .i64 0)).setCell ⟨w.heap.size, 2, none⟩ (.int .i64 s)).setCell ⟨w.heap.size, 3, none⟩ (.int .i64 0)).setCell ⟨w.heap.size, 4, none⟩ (.int .i64 16384)).setCell ⟨w.heap.size, 5, none⟩ (.int .i64 0)).setCell ⟨w.heap.size, 6, none⟩ (.int .i64 (-s))).setCell ⟨w.heap.size, 7, none⟩ (.int .i64 0)).setCell ⟨w.heap.size, 8, none⟩ (.int .i64 c)).setCell ⟨w.heap.size, 9, none⟩ (.int .i64 0)).setCell ⟨w.heap.size, 10, none⟩ (.int .i64 0)).setCell ⟨w.heap.size, 11, none⟩ (.int .i64 0)) ⟨w.heap.size, 8, none⟩ = some (.int .i64 c) := kr.cell rfl
  have rc9 : World.cell? ((((((((((((q.w.setCell ⟨w.heap.size, 0, none⟩ (.int .i64 c)).setCell ⟨w.heap.size, 1, none⟩ (.int .i64 0)).setCell ⟨w.heap.size, 2, none⟩ (.int .i64 s)).setCell ⟨w.heap.size, 3, none⟩ (.int .i64 0)).setCell ⟨w.heap.size, 4, none⟩ (.int .i64 16384)).setCell ⟨w.heap.size, 5, none⟩ (.int .i64 0)).setCell ⟨w.heap.size, 6, none⟩ (.int .i64 (-s))).setCell ⟨w.heap.size, 7, none⟩ (.int .i64 0)).setCell ⟨w.heap.size, 8, none⟩ (.int .i64 c)).setCell ⟨w.heap.size, 9, none⟩ (.int .i64 0)).setCell ⟨w.heap.size, 10, none⟩ (.int .i64 0)).setCell ⟨w.heap.size, 11, none⟩ (.int .i64 0)) ⟨w.heap.size, 9, none⟩ = some (.int .i64 0) := kr.cell rfl
  have rc10 : World.cell? ((((((((((((q.w.setCell ⟨w.heap.size, 0, none⟩ (.int .i64 c)).setCell ⟨w.heap.size, 1, none⟩ (.int .i64 0)).setCell ⟨w.heap.size, 2, none⟩ (.int .i64 s)).setCell ⟨w.heap.size, 3, none⟩ (.int .i64 0)).setCell ⟨w.heap.size, 4, none⟩ (.int .i64 16384)).setCell ⟨w.heap.size, 5, none⟩ (.int .i64 0)).setCell ⟨w.heap.size, 6, none⟩ (.int .i64 (-s))).setCell ⟨w.heap.size, 7, none⟩ (.int .i64 0)).setCell ⟨w.heap.size, 8, none⟩ (.int .i64 c)).setCell ⟨w.heap.size, 9, none⟩ (.int .i64 0)).setCell ⟨w.heap.size, 10, none⟩ (.int .i64 0)).setCell ⟨w.heap.size, 11, none⟩ (.int .i64 0)) ⟨w.heap.size, 10, none⟩ = some (.int .i64 0) := kr.cell rfl
  have rc11 : World.cell? ((((((((((((q.w.setCell ⟨w.heap.size, 0, none⟩ (.int .i64 c)).setCell ⟨w.heap.size, 1, none⟩ (.int .i64 0)).setCell ⟨w.heap.size, 2, none⟩ (.int .i64 s)).setCell ⟨w.heap.size, 3, none⟩ (.int .i64 0)).setCell ⟨w.heap.size, 4, none⟩ (.int .i64 16384)).setCell ⟨w.heap.size, 5, none⟩ (.int .i64 0)).setCell ⟨w.heap.size, 6, none⟩ (.int .i64 (-s))).setCell ⟨w.heap.size, 7, none⟩ (.int .i64 0)).setCell ⟨w.heap.size, 8, none⟩ (.int .i64 c)).setCell ⟨w.heap.size, 9, none⟩ (.int .i64 0)).setCell ⟨w.heap.size, 10, none⟩ (.int .i64 0)).setCell ⟨w.heap.size, 11, none⟩ (.int .i64 0)) ⟨w.heap.size, 11, none⟩ = some (.int .i64 0) := kr.cell rfl
  exact bodyPost_ret (v := .agg #[.int .i64 c, .int .i64 0, .int .i64 s, .int .i64 0, .int .i64 16384, .int .i64 0, .int .i64 (-s), .int .i64 0, .int .i64 c, .int .i64 0, .int .i64 0, .int .i64 0]) (by simp [results, Try.results12, go_sem, rc0, rc1, rc2, rc3, rc4, rc5, rc6, rc7, rc8, rc9, rc10, rc11]) rfl ⟨rfl, (((((((((((((bw_below B2 q).setCell (p := ⟨w.heap.size, 0, none⟩) (by show w.heap.size ≤ w.heap.size; omega) _).setCell (p := ⟨w.heap.size, 1, none⟩) (by show w.heap.size ≤ w.heap.size; omega) _).setCell (p := ⟨w.heap.size, 2, none⟩) (by show w.heap.size ≤ w.heap.size; omega) _).setCell (p := ⟨w.heap.size, 3, none⟩) (by show w.heap.size ≤ w.heap.size; omega) _).setCell (p := ⟨w.heap.size, 4, none⟩) (by show w.heap.size ≤ w.heap.size; omega) _).setCell (p := ⟨w.heap.size, 5, none⟩) (by show w.heap.size ≤ w.heap.size; omega) _).setCell (p := ⟨w.heap.size, 6, none⟩) (by show w.heap.size ≤ w.heap.size; omega) _).setCell (p := ⟨w.heap.size, 7, none⟩) (by show w.heap.size ≤ w.heap.size; omega) _).setCell (p := ⟨w.heap.size, 8, none⟩) (by show w.heap.size ≤ w.heap.size; omega) _).setCell (p := ⟨w.heap.size, 9, none⟩) (by show w.heap.size ≤ w.heap.size; omega) _).setCell (p := ⟨w.heap.size, 10, none⟩) (by show w.heap.size ≤ w.heap.size; omega) _).setCell (p := ⟨w.heap.size, 11, none⟩) (by show w.heap.size ≤ w.heap.size; omega) _)⟩

set_option maxRecDepth 100000 in
set_option maxHeartbeats 4000000 in
theorem pose_Turned_2 (h c s : Int) (w : World) (hT : Hid (∀ w, Calls Try.prog 26 #[.int .i64 h] w fun e w' => e = .returned (.tuple #[.int .i64 c, .int .i64 s]) ∧ Below w.heap.size w w')) (hs : -16384 ≤ s ∧ s ≤ 16384) :
    Calls Try.prog 12 #[.int .i64 2, .int .i64 h] w fun e w' => e = .returned (.agg #[.int .i64 c, .int .i64 (-s), .int .i64 0, .int .i64 s, .int .i64 c, .int .i64 0, .int .i64 0, .int .i64 0, .int .i64 16384, .int .i64 0, .int .i64 0, .int .i64 0]) ∧ Below w.heap.size w w' := by
  go_enter Try.func12, Try.ntmps12
  go_upto_region 1 with (fail)
  obtain ⟨W1, hW1⟩ : ∃ W, W = w.alloc (.cells #[.int .i64 0, .int .i64 0, .int .i64 0, .int .i64 0, .int .i64 0, .int .i64 0, .int .i64 0, .int .i64 0, .int .i64 0, .int .i64 0, .int .i64 0, .int .i64 0] 29) := ⟨_, rfl⟩
  have B1 : Below w.heap.size w W1 := by rw [hW1]; go_grown
  have k_r : Bk W1 (w.heap.size) 29 #[.int .i64 0, .int .i64 0, .int .i64 0, .int .i64 0, .int .i64 0, .int .i64 0, .int .i64 0, .int .i64 0, .int .i64 0, .int .i64 0, .int .i64 0, .int .i64 0] := by rw [hW1]; exact Bk.new _ _ _
  rw [← hW1]
  clear hW1
  have c_r_0 : ∀ p : BW W1, p.w.cell? ⟨w.heap.size, 0, none⟩ = some (.int .i64 0) := bw_cell (k_r.cell rfl)
  have c_r_1 : ∀ p : BW W1, p.w.cell? ⟨w.heap.size, 1, none⟩ = some (.int .i64 0) := bw_cell (k_r.cell rfl)
  have c_r_2 : ∀ p : BW W1, p.w.cell? ⟨w.heap.size, 2, none⟩ = some (.int .i64 0) := bw_cell (k_r.cell rfl)
  have c_r_3 : ∀ p : BW W1, p.w.cell? ⟨w.heap.size, 3, none⟩ = some (.int .i64 0) := bw_cell (k_r.cell rfl)
  have c_r_4 : ∀ p : BW W1, p.w.cell? ⟨w.heap.size, 4, none⟩ = some (.int .i64 0) := bw_cell (k_r.cell rfl)
  have c_r_5 : ∀ p : BW W1, p.w.cell? ⟨w.heap.size, 5, none⟩ = some (.int .i64 0) := bw_cell (k_r.cell rfl)
  have c_r_6 : ∀ p : BW W1, p.w.cell? ⟨w.heap.size, 6, none⟩ = some (.int .i64 0) := bw_cell (k_r.cell rfl)
  have c_r_7 : ∀ p : BW W1, p.w.cell? ⟨w.heap.size, 7, none⟩ = some (.int .i64 0) := bw_cell (k_r.cell rfl)
  have c_r_8 : ∀ p : BW W1, p.w.cell? ⟨w.heap.size, 8, none⟩ = some (.int .i64 0) := bw_cell (k_r.cell rfl)
  have c_r_9 : ∀ p : BW W1, p.w.cell? ⟨w.heap.size, 9, none⟩ = some (.int .i64 0) := bw_cell (k_r.cell rfl)
  have c_r_10 : ∀ p : BW W1, p.w.cell? ⟨w.heap.size, 10, none⟩ = some (.int .i64 0) := bw_cell (k_r.cell rfl)
  have c_r_11 : ∀ p : BW W1, p.w.cell? ⟨w.heap.size, 11, none⟩ = some (.int .i64 0) := bw_cell (k_r.cell rfl)
  obtain ⟨p1, hp1⟩ : ∃ p : BW W1, p.w = W1 := ⟨BW.start W1, rfl⟩
  rw [← hp1]
  clear hp1
  go_upto_region 2 with (first
    | (go_at_call 26; (first | (with_reducible refine (bw_call hT.out _).mono ?_)); rintro e w' ⟨rfl, q, rfl⟩))
  obtain ⟨W2, hW2⟩ : ∃ W, W = (q.w.alloc (.cells #[.int .i64 c] 3)).alloc (.cells #[.int .i64 s] 3) := ⟨_, rfl⟩
  have B2 : Below w.heap.size w W2 := by rw [hW2]; exact (((bw_below B1 q).alloc (bw_below B1 q).size _).alloc (Nat.le_trans (bw_below B1 q).size (by simp)) _)
  have l_c : w.heap.size < q.w.heap.size := (k_r.below q.h).lt
  have l_s : q.w.heap.size < q.w.heap.size + 1 := by omega
  have o_c : w.heap.size ≤ q.w.heap.size := (bw_below B1 q).size
  have k_r := ((k_r.below q.h).alloc (.cells #[.int .i64 c] 3)).alloc (.cells #[.int .i64 s] 3)
  rw [← hW2] at k_r
  have k_c : Bk W2 q.w.heap.size 3 #[.int .i64 c] := by rw [hW2]; exact (Bk.new _ _ _).alloc _
  have k_s : Bk W2 (q.w.heap.size + 1) 3 #[.int .i64 s] := by rw [hW2]; exact Bk.new_at _ _ _ _ (by simp)
  rw [← hW2]
  clear hW2
  clear B1
  clear c_r_0 c_r_1 c_r_2 c_r_3 c_r_4 c_r_5 c_r_6 c_r_7 c_r_8 c_r_9 c_r_10 c_r_11
  generalize q.w.heap.size + 1 = g_s at *
  generalize q.w.heap.size = g_c at *
  have c_r_0 : ∀ p : BW W2, p.w.cell? ⟨w.heap.size, 0, none⟩ = some (.int .i64 0) := bw_cell (k_r.cell rfl)
  have f_r_0 : ∀ p : BW W2, p.w.frozen? ⟨w.heap.size, 0, none⟩ = false := fun p => (k_r.below p.h).frozen 0
  have c_r_1 : ∀ p : BW W2, p.w.cell? ⟨w.heap.size, 1, none⟩ = some (.int .i64 0) := bw_cell (k_r.cell rfl)
  have f_r_1 : ∀ p : BW W2, p.w.frozen? ⟨w.heap.size, 1, none⟩ = false := fun p => (k_r.below p.h).frozen 1
  have c_r_2 : ∀ p : BW W2, p.w.cell? ⟨w.heap.size, 2, none⟩ = some (.int .i64 0) := bw_cell (k_r.cell rfl)
  have f_r_2 : ∀ p : BW W2, p.w.frozen? ⟨w.heap.size, 2, none⟩ = false := fun p => (k_r.below p.h).frozen 2
  have c_r_3 : ∀ p : BW W2, p.w.cell? ⟨w.heap.size, 3, none⟩ = some (.int .i64 0) := bw_cell (k_r.cell rfl)
  have f_r_3 : ∀ p : BW W2, p.w.frozen? ⟨w.heap.size, 3, none⟩ = false := fun p => (k_r.below p.h).frozen 3
  have c_r_4 : ∀ p : BW W2, p.w.cell? ⟨w.heap.size, 4, none⟩ = some (.int .i64 0) := bw_cell (k_r.cell rfl)
  have f_r_4 : ∀ p : BW W2, p.w.frozen? ⟨w.heap.size, 4, none⟩ = false := fun p => (k_r.below p.h).frozen 4
  have c_r_5 : ∀ p : BW W2, p.w.cell? ⟨w.heap.size, 5, none⟩ = some (.int .i64 0) := bw_cell (k_r.cell rfl)
  have f_r_5 : ∀ p : BW W2, p.w.frozen? ⟨w.heap.size, 5, none⟩ = false := fun p => (k_r.below p.h).frozen 5
  have c_r_6 : ∀ p : BW W2, p.w.cell? ⟨w.heap.size, 6, none⟩ = some (.int .i64 0) := bw_cell (k_r.cell rfl)
  have f_r_6 : ∀ p : BW W2, p.w.frozen? ⟨w.heap.size, 6, none⟩ = false := fun p => (k_r.below p.h).frozen 6
  have c_r_7 : ∀ p : BW W2, p.w.cell? ⟨w.heap.size, 7, none⟩ = some (.int .i64 0) := bw_cell (k_r.cell rfl)
  have f_r_7 : ∀ p : BW W2, p.w.frozen? ⟨w.heap.size, 7, none⟩ = false := fun p => (k_r.below p.h).frozen 7
  have c_r_8 : ∀ p : BW W2, p.w.cell? ⟨w.heap.size, 8, none⟩ = some (.int .i64 0) := bw_cell (k_r.cell rfl)
  have f_r_8 : ∀ p : BW W2, p.w.frozen? ⟨w.heap.size, 8, none⟩ = false := fun p => (k_r.below p.h).frozen 8
  have c_r_9 : ∀ p : BW W2, p.w.cell? ⟨w.heap.size, 9, none⟩ = some (.int .i64 0) := bw_cell (k_r.cell rfl)
  have f_r_9 : ∀ p : BW W2, p.w.frozen? ⟨w.heap.size, 9, none⟩ = false := fun p => (k_r.below p.h).frozen 9
  have c_r_10 : ∀ p : BW W2, p.w.cell? ⟨w.heap.size, 10, none⟩ = some (.int .i64 0) := bw_cell (k_r.cell rfl)
  have f_r_10 : ∀ p : BW W2, p.w.frozen? ⟨w.heap.size, 10, none⟩ = false := fun p => (k_r.below p.h).frozen 10
  have c_r_11 : ∀ p : BW W2, p.w.cell? ⟨w.heap.size, 11, none⟩ = some (.int .i64 0) := bw_cell (k_r.cell rfl)
  have f_r_11 : ∀ p : BW W2, p.w.frozen? ⟨w.heap.size, 11, none⟩ = false := fun p => (k_r.below p.h).frozen 11
  have c_c_0 : ∀ p : BW W2, p.w.cell? ⟨g_c, 0, none⟩ = some (.int .i64 c) := bw_cell (k_c.cell rfl)
  have c_s_0 : ∀ p : BW W2, p.w.cell? ⟨g_s, 0, none⟩ = some (.int .i64 s) := bw_cell (k_s.cell rfl)
  obtain ⟨p2, hp2⟩ : ∃ p : BW W2, p.w = W2 := ⟨BW.start W2, rfl⟩
  rw [← hp2]
  clear hp2
  have KC : ∀ p : BW W2, Calls Try.prog 27 #[.slice (some ⟨p.w.heap.size, 0, none⟩) 3 3] (p.w.alloc (.cells #[.bool false, .func (.func 28) #[] #[.pointer (some ⟨g_c, 0, none⟩), .pointer (some ⟨g_s, 0, none⟩)], .bool false, .func (.func 29) #[] #[.pointer (some ⟨g_s, 0, none⟩), .pointer (some ⟨g_c, 0, none⟩)], .bool true, .func (.func 30) #[] #[.pointer (some ⟨g_c, 0, none⟩), .pointer (some ⟨g_s, 0, none⟩)]] 55)) fun e w' => e = .returned (.agg #[.int .i64 c, .int .i64 (-s), .int .i64 0, .int .i64 s, .int .i64 c, .int .i64 0, .int .i64 0, .int .i64 0, .int .i64 16384, .int .i64 0, .int .i64 0, .int .i64 0]) ∧ ∃ q : BW W2, w' = q.w := fun p =>
    (pose_changed3 3 false false true 28 29 30 #[.pointer (some ⟨g_c, 0, none⟩), .pointer (some ⟨g_s, 0, none⟩)] #[.pointer (some ⟨g_s, 0, none⟩), .pointer (some ⟨g_c, 0, none⟩)] #[.pointer (some ⟨g_c, 0, none⟩), .pointer (some ⟨g_s, 0, none⟩)] (pNone 16384) (pNone 16384) (pNone 16384) (((c, -s, 0), (s, c, 0), (0, 0, 16384), (0, 0, 0))) W2 p.w _ rfl p.h
      (enters_of Try.func28 (by kernel_rfl) rfl) (enters_of Try.func29 (by kernel_rfl) rfl) (enters_of Try.func30 (by kernel_rfl) rfl) rfl (fun _ => rfl) (fun _ => rfl) (fun h => absurd h (by decide))
      (fun h => absurd h (by decide))
      (fun h => absurd h (by decide))
      (fun _ w' g hB hle kp => pose_turn2 g g_c g_s c s 16384 0 0 0 16384 0 0 0 16384 0 0 0 w' hs (((k_c.below p.h).alloc _).below hB) (Nat.lt_of_lt_of_le ((k_c.below p.h).alloc _).lt hle) (((k_s.below p.h).alloc _).below hB) (Nat.lt_of_lt_of_le ((k_s.below p.h).alloc _).lt hle) kp)).mono fun e w' h => ⟨h.1, ⟨w', h.2⟩, rfl⟩
  clear hs
  have hmf : ∀ (fn : Fn) (first cap : Array Value) (w : World), (Instr.makeFunc fn first cap).run Try.prog w = .ok (.func fn first cap) w := fun _ _ _ _ => rfl
  go_wp2_with (go_at_call 27; (with_reducible refine (KC _).mono ?_); rintro e w' ⟨rfl, q, rfl⟩)
  have kr : Bk ((((((((((((q.w.setCell ⟨w.heap.size, 0, none⟩ (.int .i64 c)).setCell ⟨w.heap.size, 1, none⟩ (.int .i64 (-s))).setCell ⟨w.heap.size, 2, none⟩ (.int .i64 0)).setCell ⟨w.heap.size, 3, none⟩ (.int .i64 s)).setCell ⟨w.heap.size, 4, none⟩ (.int .i64 c)).setCell ⟨w.heap.size, 5, none⟩ (.int .i64 0)).setCell ⟨w.heap.size, 6, none⟩ (.int .i64 0)).setCell ⟨w.heap.size, 7, none⟩ (.int .i64 0)).setCell ⟨w.heap.size, 8, none⟩ (.int .i64 16384)).setCell ⟨w.heap.size, 9, none⟩ (.int .i64 0)).setCell ⟨w.heap.size, 10, none⟩ (.int .i64 0)).setCell ⟨w.heap.size, 11, none⟩ (.int .i64 0)) (w.heap.size) 29 #[.int .i64 c, .int .i64 (-s), .int .i64 0, .int .i64 s, .int .i64 c, .int .i64 0, .int .i64 0, .int .i64 0, .int .i64 16384, .int .i64 0, .int .i64 0, .int .i64 0] := (((((((((((((k_r.below q.h).set 0 (.int .i64 c)).set 1 (.int .i64 (-s))).set 2 (.int .i64 0)).set 3 (.int .i64 s)).set 4 (.int .i64 c)).set 5 (.int .i64 0)).set 6 (.int .i64 0)).set 7 (.int .i64 0)).set 8 (.int .i64 16384)).set 9 (.int .i64 0)).set 10 (.int .i64 0)).set 11 (.int .i64 0)).cast (by simp)
  have rc0 : World.cell? ((((((((((((q.w.setCell ⟨w.heap.size, 0, none⟩ (.int .i64 c)).setCell ⟨w.heap.size, 1, none⟩ (.int .i64 (-s))).setCell ⟨w.heap.size, 2, none⟩ (.int .i64 0)).setCell ⟨w.heap.size, 3, none⟩ (.int .i64 s)).setCell ⟨w.heap.size, 4, none⟩ (.int .i64 c)).setCell ⟨w.heap.size, 5, none⟩ (.int .i64 0)).setCell ⟨w.heap.size, 6, none⟩ (.int .i64 0)).setCell ⟨w.heap.size, 7, none⟩ (.int .i64 0)).setCell ⟨w.heap.size, 8, none⟩ (.int .i64 16384)).setCell ⟨w.heap.size, 9, none⟩ (.int .i64 0)).setCell ⟨w.heap.size, 10, none⟩ (.int .i64 0)).setCell ⟨w.heap.size, 11, none⟩ (.int .i64 0)) ⟨w.heap.size, 0, none⟩ = some (.int .i64 c) := kr.cell rfl
  have rc1 : World.cell? ((((((((((((q.w.setCell ⟨w.heap.size, 0, none⟩ (.int .i64 c)).setCell ⟨w.heap.size, 1, none⟩ (.int .i64 (-s))).setCell ⟨w.heap.size, 2, none⟩ (.int .i64 0)).setCell ⟨w.heap.size, 3, none⟩ (.int .i64 s)).setCell ⟨w.heap.size, 4, none⟩ (.int .i64 c)).setCell ⟨w.heap.size, 5, none⟩ (.int .i64 0)).setCell ⟨w.heap.size, 6, none⟩ (.int .i64 0)).setCell ⟨w.heap.size, 7, none⟩ (.int .i64 0)).setCell ⟨w.heap.size, 8, none⟩ (.int .i64 16384)).setCell ⟨w.heap.size, 9, none⟩ (.int .i64 0)).setCell ⟨w.heap.size, 10, none⟩ (.int .i64 0)).setCell ⟨w.heap.size, 11, none⟩ (.int .i64 0)) ⟨w.heap.size, 1, none⟩ = some (.int .i64 (-s)) := kr.cell rfl
  have rc2 : World.cell? ((((((((((((q.w.setCell ⟨w.heap.size, 0, none⟩ (.int .i64 c)).setCell ⟨w.heap.size, 1, none⟩ (.int .i64 (-s))).setCell ⟨w.heap.size, 2, none⟩ (.int .i64 0)).setCell ⟨w.heap.size, 3, none⟩ (.int .i64 s)).setCell ⟨w.heap.size, 4, none⟩ (.int .i64 c)).setCell ⟨w.heap.size, 5, none⟩ (.int .i64 0)).setCell ⟨w.heap.size, 6, none⟩ (.int .i64 0)).setCell ⟨w.heap.size, 7, none⟩ (.int .i64 0)).setCell ⟨w.heap.size, 8, none⟩ (.int .i64 16384)).setCell ⟨w.heap.size, 9, none⟩ (.int .i64 0)).setCell ⟨w.heap.size, 10, none⟩ (.int .i64 0)).setCell ⟨w.heap.size, 11, none⟩ (.int .i64 0)) ⟨w.heap.size, 2, none⟩ = some (.int .i64 0) := kr.cell rfl
  have rc3 : World.cell? ((((((((((((q.w.setCell ⟨w.heap.size, 0, none⟩ (.int .i64 c)).setCell ⟨w.heap.size, 1, none⟩ (.int .i64 (-s))).setCell ⟨w.heap.size, 2, none⟩ (.int .i64 0)).setCell ⟨w.heap.size, 3, none⟩ (.int .i64 s)).setCell ⟨w.heap.size, 4, none⟩ (.int .i64 c)).setCell ⟨w.heap.size, 5, none⟩ (.int .i64 0)).setCell ⟨w.heap.size, 6, none⟩ (.int .i64 0)).setCell ⟨w.heap.size, 7, none⟩ (.int .i64 0)).setCell ⟨w.heap.size, 8, none⟩ (.int .i64 16384)).setCell ⟨w.heap.size, 9, none⟩ (.int .i64 0)).setCell ⟨w.heap.size, 10, none⟩ (.int .i64 0)).setCell ⟨w.heap.size, 11, none⟩ (.int .i64 0)) ⟨w.heap.size, 3, none⟩ = some (.int .i64 s) := kr.cell rfl
  have rc4 : World.cell? ((((((((((((q.w.setCell ⟨w.heap.size, 0, none⟩ (.int .i64 c)).setCell ⟨w.heap.size, 1, none⟩ (.int .i64 (-s))).setCell ⟨w.heap.size, 2, none⟩ (.int .i64 0)).setCell ⟨w.heap.size, 3, none⟩ (.int .i64 s)).setCell ⟨w.heap.size, 4, none⟩ (.int .i64 c)).setCell ⟨w.heap.size, 5, none⟩ (.int .i64 0)).setCell ⟨w.heap.size, 6, none⟩ (.int .i64 0)).setCell ⟨w.heap.size, 7, none⟩ (.int .i64 0)).setCell ⟨w.heap.size, 8, none⟩ (.int .i64 16384)).setCell ⟨w.heap.size, 9, none⟩ (.int .i64 0)).setCell ⟨w.heap.size, 10, none⟩ (.int .i64 0)).setCell ⟨w.heap.size, 11, none⟩ (.int .i64 0)) ⟨w.heap.size, 4, none⟩ = some (.int .i64 c) := kr.cell rfl
  have rc5 : World.cell? ((((((((((((q.w.setCell ⟨w.heap.size, 0, none⟩ (.int .i64 c)).setCell ⟨w.heap.size, 1, none⟩ (.int .i64 (-s))).setCell ⟨w.heap.size, 2, none⟩ (.int .i64 0)).setCell ⟨w.heap.size, 3, none⟩ (.int .i64 s)).setCell ⟨w.heap.size, 4, none⟩ (.int .i64 c)).setCell ⟨w.heap.size, 5, none⟩ (.int .i64 0)).setCell ⟨w.heap.size, 6, none⟩ (.int .i64 0)).setCell ⟨w.heap.size, 7, none⟩ (.int .i64 0)).setCell ⟨w.heap.size, 8, none⟩ (.int .i64 16384)).setCell ⟨w.heap.size, 9, none⟩ (.int .i64 0)).setCell ⟨w.heap.size, 10, none⟩ (.int .i64 0)).setCell ⟨w.heap.size, 11, none⟩ (.int .i64 0)) ⟨w.heap.size, 5, none⟩ = some (.int .i64 0) := kr.cell rfl
  have rc6 : World.cell? ((((((((((((q.w.setCell ⟨w.heap.size, 0, none⟩ (.int .i64 c)).setCell ⟨w.heap.size, 1, none⟩ (.int .i64 (-s))).setCell ⟨w.heap.size, 2, none⟩ (.int .i64 0)).setCell ⟨w.heap.size, 3, none⟩ (.int .i64 s)).setCell ⟨w.heap.size, 4, none⟩ (.int .i64 c)).setCell ⟨w.heap.size, 5, none⟩ (.int .i64 0)).setCell ⟨w.heap.size, 6, none⟩ (.int .i64 0)).setCell ⟨w.heap.size, 7, none⟩ (.int .i64 0)).setCell ⟨w.heap.size, 8, none⟩ (.int .i64 16384)).setCell ⟨w.heap.size, 9, none⟩ (.int .i64 0)).setCell ⟨w.heap.size, 10, none⟩ (.int .i64 0)).setCell ⟨w.heap.size, 11, none⟩ (.int .i64 0)) ⟨w.heap.size, 6, none⟩ = some (.int .i64 0) := kr.cell rfl
  have rc7 : World.cell? ((((((((((((q.w.setCell ⟨w.heap.size, 0, none⟩ (.int .i64 c)).setCell ⟨w.heap.size, 1, none⟩ (.int .i64 (-s))).setCell ⟨w.heap.size, 2, none⟩ (.int .i64 0)).setCell ⟨w.heap.size, 3, none⟩ (.int .i64 s)).setCell ⟨w.heap.size, 4, none⟩ (.int .i64 c)).setCell ⟨w.heap.size, 5, none⟩ (.int .i64 0)).setCell ⟨w.heap.size, 6, none⟩ (.int .i64 0)).setCell ⟨w.heap.size, 7, none⟩ (.int .i64 0)).setCell ⟨w.heap.size, 8, none⟩ (.int .i64 16384)).setCell ⟨w.heap.size, 9, none⟩ (.int .i64 0)).setCell ⟨w.heap.size, 10, none⟩ (.int .i64 0)).setCell ⟨w.heap.size, 11, none⟩ (.int .i64 0)) ⟨w.heap.size, 7, none⟩ = some (.int .i64 0) := kr.cell rfl
  have rc8 : World.cell? ((((((((((((q.w.setCell ⟨w.heap.size, 0, none⟩ (.int .i64 c)).setCell ⟨w.heap.size, 1, none⟩ (.int .i64 (-s))).setCell ⟨w.heap.size, 2, none⟩ (.int .i64 0)).setCell ⟨w.heap.size, 3, none⟩ (.int .i64 s)).setCell ⟨w.heap.size, 4, none⟩ (.int .i64 c)).setCell ⟨w.heap.size, 5, none⟩ (.int .i64 0)).setCell ⟨w.heap.size, 6, none⟩ (.int .i64 0)).setCell ⟨w.heap.size, 7, none⟩ (.int .i64 0)).setCell ⟨w.heap.size, 8, none⟩ (.int .i64 16384)).setCell ⟨w.heap.size, 9, none⟩ (.int .i64 0)).setCell ⟨w.heap.size, 10, none⟩ (.int .i64 0)).setCell ⟨w.heap.size, 11, none⟩ (.int .i64 0)) ⟨w.heap.size, 8, none⟩ = some (.int .i64 16384) := kr.cell rfl
  have rc9 : World.cell? ((((((((((((q.w.setCell ⟨w.heap.size, 0, none⟩ (.int .i64 c)).setCell ⟨w.heap.size, 1, none⟩ (.int .i64 (-s))).setCell ⟨w.heap.size, 2, none⟩ (.int .i64 0)).setCell ⟨w.heap.size, 3, none⟩ (.int .i64 s)).setCell ⟨w.heap.size, 4, none⟩ (.int .i64 c)).setCell ⟨w.heap.size, 5, none⟩ (.int .i64 0)).setCell ⟨w.heap.size, 6, none⟩ (.int .i64 0)).setCell ⟨w.heap.size, 7, none⟩ (.int .i64 0)).setCell ⟨w.heap.size, 8, none⟩ (.int .i64 16384)).setCell ⟨w.heap.size, 9, none⟩ (.int .i64 0)).setCell ⟨w.heap.size, 10, none⟩ (.int .i64 0)).setCell ⟨w.heap.size, 11, none⟩ (.int .i64 0)) ⟨w.heap.size, 9, none⟩ = some (.int .i64 0) := kr.cell rfl
  have rc10 : World.cell? ((((((((((((q.w.setCell ⟨w.heap.size, 0, none⟩ (.int .i64 c)).setCell ⟨w.heap.size, 1, none⟩ (.int .i64 (-s))).setCell ⟨w.heap.size, 2, none⟩ (.int .i64 0)).setCell ⟨w.heap.size, 3, none⟩ (.int .i64 s)).setCell ⟨w.heap.size, 4, none⟩ (.int .i64 c)).setCell ⟨w.heap.size, 5, none⟩ (.int .i64 0)).setCell ⟨w.heap.size, 6, none⟩ (.int .i64 0)).setCell ⟨w.heap.size, 7, none⟩ (.int .i64 0)).setCell ⟨w.heap.size, 8, none⟩ (.int .i64 16384)).setCell ⟨w.heap.size, 9, none⟩ (.int .i64 0)).setCell ⟨w.heap.size, 10, none⟩ (.int .i64 0)).setCell ⟨w.heap.size, 11, none⟩ (.int .i64 0)) ⟨w.heap.size, 10, none⟩ = some (.int .i64 0) := kr.cell rfl
  have rc11 : World.cell? ((((((((((((q.w.setCell ⟨w.heap.size, 0, none⟩ (.int .i64 c)).setCell ⟨w.heap.size, 1, none⟩ (.int .i64 (-s))).setCell ⟨w.heap.size, 2, none⟩ (.int .i64 0)).setCell ⟨w.heap.size, 3, none⟩ (.int .i64 s)).setCell ⟨w.heap.size, 4, none⟩ (.int .i64 c)).setCell ⟨w.heap.size, 5, none⟩ (.int .i64 0)).setCell ⟨w.heap.size, 6, none⟩ (.int .i64 0)).setCell ⟨w.heap.size, 7, none⟩ (.int .i64 0)).setCell ⟨w.heap.size, 8, none⟩ (.int .i64 16384)).setCell ⟨w.heap.size, 9, none⟩ (.int .i64 0)).setCell ⟨w.heap.size, 10, none⟩ (.int .i64 0)).setCell ⟨w.heap.size, 11, none⟩ (.int .i64 0)) ⟨w.heap.size, 11, none⟩ = some (.int .i64 0) := kr.cell rfl
  exact bodyPost_ret (v := .agg #[.int .i64 c, .int .i64 (-s), .int .i64 0, .int .i64 s, .int .i64 c, .int .i64 0, .int .i64 0, .int .i64 0, .int .i64 16384, .int .i64 0, .int .i64 0, .int .i64 0]) (by simp [results, Try.results12, go_sem, rc0, rc1, rc2, rc3, rc4, rc5, rc6, rc7, rc8, rc9, rc10, rc11]) rfl ⟨rfl, (((((((((((((bw_below B2 q).setCell (p := ⟨w.heap.size, 0, none⟩) (by show w.heap.size ≤ w.heap.size; omega) _).setCell (p := ⟨w.heap.size, 1, none⟩) (by show w.heap.size ≤ w.heap.size; omega) _).setCell (p := ⟨w.heap.size, 2, none⟩) (by show w.heap.size ≤ w.heap.size; omega) _).setCell (p := ⟨w.heap.size, 3, none⟩) (by show w.heap.size ≤ w.heap.size; omega) _).setCell (p := ⟨w.heap.size, 4, none⟩) (by show w.heap.size ≤ w.heap.size; omega) _).setCell (p := ⟨w.heap.size, 5, none⟩) (by show w.heap.size ≤ w.heap.size; omega) _).setCell (p := ⟨w.heap.size, 6, none⟩) (by show w.heap.size ≤ w.heap.size; omega) _).setCell (p := ⟨w.heap.size, 7, none⟩) (by show w.heap.size ≤ w.heap.size; omega) _).setCell (p := ⟨w.heap.size, 8, none⟩) (by show w.heap.size ≤ w.heap.size; omega) _).setCell (p := ⟨w.heap.size, 9, none⟩) (by show w.heap.size ≤ w.heap.size; omega) _).setCell (p := ⟨w.heap.size, 10, none⟩) (by show w.heap.size ≤ w.heap.size; omega) _).setCell (p := ⟨w.heap.size, 11, none⟩) (by show w.heap.size ≤ w.heap.size; omega) _)⟩

set_option maxRecDepth 100000 in
set_option maxHeartbeats 4000000 in
theorem pose_Turned_3 (axis h c s : Int) (w : World) (hT : Hid (∀ w, Calls Try.prog 26 #[.int .i64 h] w fun e w' => e = .returned (.tuple #[.int .i64 c, .int .i64 s]) ∧ Below w.heap.size w w')) (hs : -16384 ≤ s ∧ s ≤ 16384) (h0 : ¬ axis = 0) (h1 : ¬ axis = 1) (h2 : ¬ axis = 2) :
    Calls Try.prog 12 #[.int .i64 axis, .int .i64 h] w fun e w' => e = .returned (.agg #[.int .i64 16384, .int .i64 0, .int .i64 0, .int .i64 0, .int .i64 16384, .int .i64 0, .int .i64 0, .int .i64 0, .int .i64 16384, .int .i64 0, .int .i64 0, .int .i64 0]) ∧ Below w.heap.size w w' := by
  have t0 : (axis == 0) = false := by simpa using h0
  have t1 : (axis == 1) = false := by simpa using h1
  have t2 : (axis == 2) = false := by simpa using h2
  clear h0 h1 h2
  go_enter Try.func12, Try.ntmps12
  go_upto_region 1 with (fail)
  obtain ⟨W1, hW1⟩ : ∃ W, W = w.alloc (.cells #[.int .i64 0, .int .i64 0, .int .i64 0, .int .i64 0, .int .i64 0, .int .i64 0, .int .i64 0, .int .i64 0, .int .i64 0, .int .i64 0, .int .i64 0, .int .i64 0] 29) := ⟨_, rfl⟩
  have B1 : Below w.heap.size w W1 := by rw [hW1]; go_grown
  have k_r : Bk W1 (w.heap.size) 29 #[.int .i64 0, .int .i64 0, .int .i64 0, .int .i64 0, .int .i64 0, .int .i64 0, .int .i64 0, .int .i64 0, .int .i64 0, .int .i64 0, .int .i64 0, .int .i64 0] := by rw [hW1]; exact Bk.new _ _ _
  rw [← hW1]
  clear hW1
  have c_r_0 : ∀ p : BW W1, p.w.cell? ⟨w.heap.size, 0, none⟩ = some (.int .i64 0) := bw_cell (k_r.cell rfl)
  have c_r_1 : ∀ p : BW W1, p.w.cell? ⟨w.heap.size, 1, none⟩ = some (.int .i64 0) := bw_cell (k_r.cell rfl)
  have c_r_2 : ∀ p : BW W1, p.w.cell? ⟨w.heap.size, 2, none⟩ = some (.int .i64 0) := bw_cell (k_r.cell rfl)
  have c_r_3 : ∀ p : BW W1, p.w.cell? ⟨w.heap.size, 3, none⟩ = some (.int .i64 0) := bw_cell (k_r.cell rfl)
  have c_r_4 : ∀ p : BW W1, p.w.cell? ⟨w.heap.size, 4, none⟩ = some (.int .i64 0) := bw_cell (k_r.cell rfl)
  have c_r_5 : ∀ p : BW W1, p.w.cell? ⟨w.heap.size, 5, none⟩ = some (.int .i64 0) := bw_cell (k_r.cell rfl)
  have c_r_6 : ∀ p : BW W1, p.w.cell? ⟨w.heap.size, 6, none⟩ = some (.int .i64 0) := bw_cell (k_r.cell rfl)
  have c_r_7 : ∀ p : BW W1, p.w.cell? ⟨w.heap.size, 7, none⟩ = some (.int .i64 0) := bw_cell (k_r.cell rfl)
  have c_r_8 : ∀ p : BW W1, p.w.cell? ⟨w.heap.size, 8, none⟩ = some (.int .i64 0) := bw_cell (k_r.cell rfl)
  have c_r_9 : ∀ p : BW W1, p.w.cell? ⟨w.heap.size, 9, none⟩ = some (.int .i64 0) := bw_cell (k_r.cell rfl)
  have c_r_10 : ∀ p : BW W1, p.w.cell? ⟨w.heap.size, 10, none⟩ = some (.int .i64 0) := bw_cell (k_r.cell rfl)
  have c_r_11 : ∀ p : BW W1, p.w.cell? ⟨w.heap.size, 11, none⟩ = some (.int .i64 0) := bw_cell (k_r.cell rfl)
  obtain ⟨p1, hp1⟩ : ∃ p : BW W1, p.w = W1 := ⟨BW.start W1, rfl⟩
  rw [← hp1]
  clear hp1
  go_upto_region 2 with (first
    | (go_at_call 26; (first | (with_reducible refine (bw_call hT.out _).mono ?_)); rintro e w' ⟨rfl, q, rfl⟩))
  obtain ⟨W2, hW2⟩ : ∃ W, W = (q.w.alloc (.cells #[.int .i64 c] 3)).alloc (.cells #[.int .i64 s] 3) := ⟨_, rfl⟩
  have B2 : Below w.heap.size w W2 := by rw [hW2]; exact (((bw_below B1 q).alloc (bw_below B1 q).size _).alloc (Nat.le_trans (bw_below B1 q).size (by simp)) _)
  have l_c : w.heap.size < q.w.heap.size := (k_r.below q.h).lt
  have l_s : q.w.heap.size < q.w.heap.size + 1 := by omega
  have o_c : w.heap.size ≤ q.w.heap.size := (bw_below B1 q).size
  have k_r := ((k_r.below q.h).alloc (.cells #[.int .i64 c] 3)).alloc (.cells #[.int .i64 s] 3)
  rw [← hW2] at k_r
  have k_c : Bk W2 q.w.heap.size 3 #[.int .i64 c] := by rw [hW2]; exact (Bk.new _ _ _).alloc _
  have k_s : Bk W2 (q.w.heap.size + 1) 3 #[.int .i64 s] := by rw [hW2]; exact Bk.new_at _ _ _ _ (by simp)
  rw [← hW2]
  clear hW2
  clear B1
  clear c_r_0 c_r_1 c_r_2 c_r_3 c_r_4 c_r_5 c_r_6 c_r_7 c_r_8 c_r_9 c_r_10 c_r_11
  generalize q.w.heap.size + 1 = g_s at *
  generalize q.w.heap.size = g_c at *
  have c_r_0 : ∀ p : BW W2, p.w.cell? ⟨w.heap.size, 0, none⟩ = some (.int .i64 0) := bw_cell (k_r.cell rfl)
  have f_r_0 : ∀ p : BW W2, p.w.frozen? ⟨w.heap.size, 0, none⟩ = false := fun p => (k_r.below p.h).frozen 0
  have c_r_1 : ∀ p : BW W2, p.w.cell? ⟨w.heap.size, 1, none⟩ = some (.int .i64 0) := bw_cell (k_r.cell rfl)
  have f_r_1 : ∀ p : BW W2, p.w.frozen? ⟨w.heap.size, 1, none⟩ = false := fun p => (k_r.below p.h).frozen 1
  have c_r_2 : ∀ p : BW W2, p.w.cell? ⟨w.heap.size, 2, none⟩ = some (.int .i64 0) := bw_cell (k_r.cell rfl)
  have f_r_2 : ∀ p : BW W2, p.w.frozen? ⟨w.heap.size, 2, none⟩ = false := fun p => (k_r.below p.h).frozen 2
  have c_r_3 : ∀ p : BW W2, p.w.cell? ⟨w.heap.size, 3, none⟩ = some (.int .i64 0) := bw_cell (k_r.cell rfl)
  have f_r_3 : ∀ p : BW W2, p.w.frozen? ⟨w.heap.size, 3, none⟩ = false := fun p => (k_r.below p.h).frozen 3
  have c_r_4 : ∀ p : BW W2, p.w.cell? ⟨w.heap.size, 4, none⟩ = some (.int .i64 0) := bw_cell (k_r.cell rfl)
  have f_r_4 : ∀ p : BW W2, p.w.frozen? ⟨w.heap.size, 4, none⟩ = false := fun p => (k_r.below p.h).frozen 4
  have c_r_5 : ∀ p : BW W2, p.w.cell? ⟨w.heap.size, 5, none⟩ = some (.int .i64 0) := bw_cell (k_r.cell rfl)
  have f_r_5 : ∀ p : BW W2, p.w.frozen? ⟨w.heap.size, 5, none⟩ = false := fun p => (k_r.below p.h).frozen 5
  have c_r_6 : ∀ p : BW W2, p.w.cell? ⟨w.heap.size, 6, none⟩ = some (.int .i64 0) := bw_cell (k_r.cell rfl)
  have f_r_6 : ∀ p : BW W2, p.w.frozen? ⟨w.heap.size, 6, none⟩ = false := fun p => (k_r.below p.h).frozen 6
  have c_r_7 : ∀ p : BW W2, p.w.cell? ⟨w.heap.size, 7, none⟩ = some (.int .i64 0) := bw_cell (k_r.cell rfl)
  have f_r_7 : ∀ p : BW W2, p.w.frozen? ⟨w.heap.size, 7, none⟩ = false := fun p => (k_r.below p.h).frozen 7
  have c_r_8 : ∀ p : BW W2, p.w.cell? ⟨w.heap.size, 8, none⟩ = some (.int .i64 0) := bw_cell (k_r.cell rfl)
  have f_r_8 : ∀ p : BW W2, p.w.frozen? ⟨w.heap.size, 8, none⟩ = false := fun p => (k_r.below p.h).frozen 8
  have c_r_9 : ∀ p : BW W2, p.w.cell? ⟨w.heap.size, 9, none⟩ = some (.int .i64 0) := bw_cell (k_r.cell rfl)
  have f_r_9 : ∀ p : BW W2, p.w.frozen? ⟨w.heap.size, 9, none⟩ = false := fun p => (k_r.below p.h).frozen 9
  have c_r_10 : ∀ p : BW W2, p.w.cell? ⟨w.heap.size, 10, none⟩ = some (.int .i64 0) := bw_cell (k_r.cell rfl)
  have f_r_10 : ∀ p : BW W2, p.w.frozen? ⟨w.heap.size, 10, none⟩ = false := fun p => (k_r.below p.h).frozen 10
  have c_r_11 : ∀ p : BW W2, p.w.cell? ⟨w.heap.size, 11, none⟩ = some (.int .i64 0) := bw_cell (k_r.cell rfl)
  have f_r_11 : ∀ p : BW W2, p.w.frozen? ⟨w.heap.size, 11, none⟩ = false := fun p => (k_r.below p.h).frozen 11
  have c_c_0 : ∀ p : BW W2, p.w.cell? ⟨g_c, 0, none⟩ = some (.int .i64 c) := bw_cell (k_c.cell rfl)
  have c_s_0 : ∀ p : BW W2, p.w.cell? ⟨g_s, 0, none⟩ = some (.int .i64 s) := bw_cell (k_s.cell rfl)
  obtain ⟨p2, hp2⟩ : ∃ p : BW W2, p.w = W2 := ⟨BW.start W2, rfl⟩
  rw [← hp2]
  clear hp2
  have KC : ∀ p : BW W2, Calls Try.prog 27 #[.slice (some ⟨p.w.heap.size, 0, none⟩) 3 3] (p.w.alloc (.cells #[.bool false, .func (.func 28) #[] #[.pointer (some ⟨g_c, 0, none⟩), .pointer (some ⟨g_s, 0, none⟩)], .bool false, .func (.func 29) #[] #[.pointer (some ⟨g_s, 0, none⟩), .pointer (some ⟨g_c, 0, none⟩)], .bool false, .func (.func 30) #[] #[.pointer (some ⟨g_c, 0, none⟩), .pointer (some ⟨g_s, 0, none⟩)]] 55)) fun e w' => e = .returned (.agg #[.int .i64 16384, .int .i64 0, .int .i64 0, .int .i64 0, .int .i64 16384, .int .i64 0, .int .i64 0, .int .i64 0, .int .i64 16384, .int .i64 0, .int .i64 0, .int .i64 0]) ∧ ∃ q : BW W2, w' = q.w := fun p =>
    (pose_changed3 3 false false false 28 29 30 #[.pointer (some ⟨g_c, 0, none⟩), .pointer (some ⟨g_s, 0, none⟩)] #[.pointer (some ⟨g_s, 0, none⟩), .pointer (some ⟨g_c, 0, none⟩)] #[.pointer (some ⟨g_c, 0, none⟩), .pointer (some ⟨g_s, 0, none⟩)] (pNone 16384) (pNone 16384) (pNone 16384) (pNone 16384) W2 p.w _ rfl p.h
      (enters_of Try.func28 (by kernel_rfl) rfl) (enters_of Try.func29 (by kernel_rfl) rfl) (enters_of Try.func30 (by kernel_rfl) rfl) rfl (fun _ => rfl) (fun _ => rfl) (fun _ => rfl)
      (fun h => absurd h (by decide))
      (fun h => absurd h (by decide))
      (fun h => absurd h (by decide))).mono fun e w' h => ⟨h.1, ⟨w', h.2⟩, rfl⟩
  clear hs
  have hmf : ∀ (fn : Fn) (first cap : Array Value) (w : World), (Instr.makeFunc fn first cap).run Try.prog w = .ok (.func fn first cap) w := fun _ _ _ _ => rfl
  go_wp2_with (go_at_call 27; (with_reducible refine (KC _).mono ?_); rintro e w' ⟨rfl, q, rfl⟩)
  have kr : Bk ((((((((((((q.w.setCell ⟨w.heap.size, 0, none⟩ (.int .i64 16384)).setCell ⟨w.heap.size, 1, none⟩ (.int .i64 0)).setCell ⟨w.heap.size, 2, none⟩ (.int .i64 0)).setCell ⟨w.heap.size, 3, none⟩ (.int .i64 0)).setCell ⟨w.heap.size, 4, none⟩ (.int .i64 16384)).setCell ⟨w.heap.size, 5, none⟩ (.int .i64 0)).setCell ⟨w.heap.size, 6, none⟩ (.int .i64 0)).setCell ⟨w.heap.size, 7, none⟩ (.int .i64 0)).setCell ⟨w.heap.size, 8, none⟩ (.int .i64 16384)).setCell ⟨w.heap.size, 9, none⟩ (.int .i64 0)).setCell ⟨w.heap.size, 10, none⟩ (.int .i64 0)).setCell ⟨w.heap.size, 11, none⟩ (.int .i64 0)) (w.heap.size) 29 #[.int .i64 16384, .int .i64 0, .int .i64 0, .int .i64 0, .int .i64 16384, .int .i64 0, .int .i64 0, .int .i64 0, .int .i64 16384, .int .i64 0, .int .i64 0, .int .i64 0] := (((((((((((((k_r.below q.h).set 0 (.int .i64 16384)).set 1 (.int .i64 0)).set 2 (.int .i64 0)).set 3 (.int .i64 0)).set 4 (.int .i64 16384)).set 5 (.int .i64 0)).set 6 (.int .i64 0)).set 7 (.int .i64 0)).set 8 (.int .i64 16384)).set 9 (.int .i64 0)).set 10 (.int .i64 0)).set 11 (.int .i64 0)).cast (by simp)
  have rc0 : World.cell? ((((((((((((q.w.setCell ⟨w.heap.size, 0, none⟩ (.int .i64 16384)).setCell ⟨w.heap.size, 1, none⟩ (.int .i64 0)).setCell ⟨w.heap.size, 2, none⟩ (.int .i64 0)).setCell ⟨w.heap.size, 3, none⟩ (.int .i64 0)).setCell ⟨w.heap.size, 4, none⟩ (.int .i64 16384)).setCell ⟨w.heap.size, 5, none⟩ (.int .i64 0)).setCell ⟨w.heap.size, 6, none⟩ (.int .i64 0)).setCell ⟨w.heap.size, 7, none⟩ (.int .i64 0)).setCell ⟨w.heap.size, 8, none⟩ (.int .i64 16384)).setCell ⟨w.heap.size, 9, none⟩ (.int .i64 0)).setCell ⟨w.heap.size, 10, none⟩ (.int .i64 0)).setCell ⟨w.heap.size, 11, none⟩ (.int .i64 0)) ⟨w.heap.size, 0, none⟩ = some (.int .i64 16384) := kr.cell rfl
  have rc1 : World.cell? ((((((((((((q.w.setCell ⟨w.heap.size, 0, none⟩ (.int .i64 16384)).setCell ⟨w.heap.size, 1, none⟩ (.int .i64 0)).setCell ⟨w.heap.size, 2, none⟩ (.int .i64 0)).setCell ⟨w.heap.size, 3, none⟩ (.int .i64 0)).setCell ⟨w.heap.size, 4, none⟩ (.int .i64 16384)).setCell ⟨w.heap.size, 5, none⟩ (.int .i64 0)).setCell ⟨w.heap.size, 6, none⟩ (.int .i64 0)).setCell ⟨w.heap.size, 7, none⟩ (.int .i64 0)).setCell ⟨w.heap.size, 8, none⟩ (.int .i64 16384)).setCell ⟨w.heap.size, 9, none⟩ (.int .i64 0)).setCell ⟨w.heap.size, 10, none⟩ (.int .i64 0)).setCell ⟨w.heap.size, 11, none⟩ (.int .i64 0)) ⟨w.heap.size, 1, none⟩ = some (.int .i64 0) := kr.cell rfl
  have rc2 : World.cell? ((((((((((((q.w.setCell ⟨w.heap.size, 0, none⟩ (.int .i64 16384)).setCell ⟨w.heap.size, 1, none⟩ (.int .i64 0)).setCell ⟨w.heap.size, 2, none⟩ (.int .i64 0)).setCell ⟨w.heap.size, 3, none⟩ (.int .i64 0)).setCell ⟨w.heap.size, 4, none⟩ (.int .i64 16384)).setCell ⟨w.heap.size, 5, none⟩ (.int .i64 0)).setCell ⟨w.heap.size, 6, none⟩ (.int .i64 0)).setCell ⟨w.heap.size, 7, none⟩ (.int .i64 0)).setCell ⟨w.heap.size, 8, none⟩ (.int .i64 16384)).setCell ⟨w.heap.size, 9, none⟩ (.int .i64 0)).setCell ⟨w.heap.size, 10, none⟩ (.int .i64 0)).setCell ⟨w.heap.size, 11, none⟩ (.int .i64 0)) ⟨w.heap.size, 2, none⟩ = some (.int .i64 0) := kr.cell rfl
  have rc3 : World.cell? ((((((((((((q.w.setCell ⟨w.heap.size, 0, none⟩ (.int .i64 16384)).setCell ⟨w.heap.size, 1, none⟩ (.int .i64 0)).setCell ⟨w.heap.size, 2, none⟩ (.int .i64 0)).setCell ⟨w.heap.size, 3, none⟩ (.int .i64 0)).setCell ⟨w.heap.size, 4, none⟩ (.int .i64 16384)).setCell ⟨w.heap.size, 5, none⟩ (.int .i64 0)).setCell ⟨w.heap.size, 6, none⟩ (.int .i64 0)).setCell ⟨w.heap.size, 7, none⟩ (.int .i64 0)).setCell ⟨w.heap.size, 8, none⟩ (.int .i64 16384)).setCell ⟨w.heap.size, 9, none⟩ (.int .i64 0)).setCell ⟨w.heap.size, 10, none⟩ (.int .i64 0)).setCell ⟨w.heap.size, 11, none⟩ (.int .i64 0)) ⟨w.heap.size, 3, none⟩ = some (.int .i64 0) := kr.cell rfl
  have rc4 : World.cell? ((((((((((((q.w.setCell ⟨w.heap.size, 0, none⟩ (.int .i64 16384)).setCell ⟨w.heap.size, 1, none⟩ (.int .i64 0)).setCell ⟨w.heap.size, 2, none⟩ (.int .i64 0)).setCell ⟨w.heap.size, 3, none⟩ (.int .i64 0)).setCell ⟨w.heap.size, 4, none⟩ (.int .i64 16384)).setCell ⟨w.heap.size, 5, none⟩ (.int .i64 0)).setCell ⟨w.heap.size, 6, none⟩ (.int .i64 0)).setCell ⟨w.heap.size, 7, none⟩ (.int .i64 0)).setCell ⟨w.heap.size, 8, none⟩ (.int .i64 16384)).setCell ⟨w.heap.size, 9, none⟩ (.int .i64 0)).setCell ⟨w.heap.size, 10, none⟩ (.int .i64 0)).setCell ⟨w.heap.size, 11, none⟩ (.int .i64 0)) ⟨w.heap.size, 4, none⟩ = some (.int .i64 16384) := kr.cell rfl
  have rc5 : World.cell? ((((((((((((q.w.setCell ⟨w.heap.size, 0, none⟩ (.int .i64 16384)).setCell ⟨w.heap.size, 1, none⟩ (.int .i64 0)).setCell ⟨w.heap.size, 2, none⟩ (.int .i64 0)).setCell ⟨w.heap.size, 3, none⟩ (.int .i64 0)).setCell ⟨w.heap.size, 4, none⟩ (.int .i64 16384)).setCell ⟨w.heap.size, 5, none⟩ (.int .i64 0)).setCell ⟨w.heap.size, 6, none⟩ (.int .i64 0)).setCell ⟨w.heap.size, 7, none⟩ (.int .i64 0)).setCell ⟨w.heap.size, 8, none⟩ (.int .i64 16384)).setCell ⟨w.heap.size, 9, none⟩ (.int .i64 0)).setCell ⟨w.heap.size, 10, none⟩ (.int .i64 0)).setCell ⟨w.heap.size, 11, none⟩ (.int .i64 0)) ⟨w.heap.size, 5, none⟩ = some (.int .i64 0) := kr.cell rfl
  have rc6 : World.cell? ((((((((((((q.w.setCell ⟨w.heap.size, 0, none⟩ (.int .i64 16384)).setCell ⟨w.heap.size, 1, none⟩ (.int .i64 0)).setCell ⟨w.heap.size, 2, none⟩ (.int .i64 0)).setCell ⟨w.heap.size, 3, none⟩ (.int .i64 0)).setCell ⟨w.heap.size, 4, none⟩ (.int .i64 16384)).setCell ⟨w.heap.size, 5, none⟩ (.int .i64 0)).setCell ⟨w.heap.size, 6, none⟩ (.int .i64 0)).setCell ⟨w.heap.size, 7, none⟩ (.int .i64 0)).setCell ⟨w.heap.size, 8, none⟩ (.int .i64 16384)).setCell ⟨w.heap.size, 9, none⟩ (.int .i64 0)).setCell ⟨w.heap.size, 10, none⟩ (.int .i64 0)).setCell ⟨w.heap.size, 11, none⟩ (.int .i64 0)) ⟨w.heap.size, 6, none⟩ = some (.int .i64 0) := kr.cell rfl
  have rc7 : World.cell? ((((((((((((q.w.setCell ⟨w.heap.size, 0, none⟩ (.int .i64 16384)).setCell ⟨w.heap.size, 1, none⟩ (.int .i64 0)).setCell ⟨w.heap.size, 2, none⟩ (.int .i64 0)).setCell ⟨w.heap.size, 3, none⟩ (.int .i64 0)).setCell ⟨w.heap.size, 4, none⟩ (.int .i64 16384)).setCell ⟨w.heap.size, 5, none⟩ (.int .i64 0)).setCell ⟨w.heap.size, 6, none⟩ (.int .i64 0)).setCell ⟨w.heap.size, 7, none⟩ (.int .i64 0)).setCell ⟨w.heap.size, 8, none⟩ (.int .i64 16384)).setCell ⟨w.heap.size, 9, none⟩ (.int .i64 0)).setCell ⟨w.heap.size, 10, none⟩ (.int .i64 0)).setCell ⟨w.heap.size, 11, none⟩ (.int .i64 0)) ⟨w.heap.size, 7, none⟩ = some (.int .i64 0) := kr.cell rfl
  have rc8 : World.cell? ((((((((((((q.w.setCell ⟨w.heap.size, 0, none⟩ (.int .i64 16384)).setCell ⟨w.heap.size, 1, none⟩ (.int .i64 0)).setCell ⟨w.heap.size, 2, none⟩ (.int .i64 0)).setCell ⟨w.heap.size, 3, none⟩ (.int .i64 0)).setCell ⟨w.heap.size, 4, none⟩ (.int .i64 16384)).setCell ⟨w.heap.size, 5, none⟩ (.int .i64 0)).setCell ⟨w.heap.size, 6, none⟩ (.int .i64 0)).setCell ⟨w.heap.size, 7, none⟩ (.int .i64 0)).setCell ⟨w.heap.size, 8, none⟩ (.int .i64 16384)).setCell ⟨w.heap.size, 9, none⟩ (.int .i64 0)).setCell ⟨w.heap.size, 10, none⟩ (.int .i64 0)).setCell ⟨w.heap.size, 11, none⟩ (.int .i64 0)) ⟨w.heap.size, 8, none⟩ = some (.int .i64 16384) := kr.cell rfl
  have rc9 : World.cell? ((((((((((((q.w.setCell ⟨w.heap.size, 0, none⟩ (.int .i64 16384)).setCell ⟨w.heap.size, 1, none⟩ (.int .i64 0)).setCell ⟨w.heap.size, 2, none⟩ (.int .i64 0)).setCell ⟨w.heap.size, 3, none⟩ (.int .i64 0)).setCell ⟨w.heap.size, 4, none⟩ (.int .i64 16384)).setCell ⟨w.heap.size, 5, none⟩ (.int .i64 0)).setCell ⟨w.heap.size, 6, none⟩ (.int .i64 0)).setCell ⟨w.heap.size, 7, none⟩ (.int .i64 0)).setCell ⟨w.heap.size, 8, none⟩ (.int .i64 16384)).setCell ⟨w.heap.size, 9, none⟩ (.int .i64 0)).setCell ⟨w.heap.size, 10, none⟩ (.int .i64 0)).setCell ⟨w.heap.size, 11, none⟩ (.int .i64 0)) ⟨w.heap.size, 9, none⟩ = some (.int .i64 0) := kr.cell rfl
  have rc10 : World.cell? ((((((((((((q.w.setCell ⟨w.heap.size, 0, none⟩ (.int .i64 16384)).setCell ⟨w.heap.size, 1, none⟩ (.int .i64 0)).setCell ⟨w.heap.size, 2, none⟩ (.int .i64 0)).setCell ⟨w.heap.size, 3, none⟩ (.int .i64 0)).setCell ⟨w.heap.size, 4, none⟩ (.int .i64 16384)).setCell ⟨w.heap.size, 5, none⟩ (.int .i64 0)).setCell ⟨w.heap.size, 6, none⟩ (.int .i64 0)).setCell ⟨w.heap.size, 7, none⟩ (.int .i64 0)).setCell ⟨w.heap.size, 8, none⟩ (.int .i64 16384)).setCell ⟨w.heap.size, 9, none⟩ (.int .i64 0)).setCell ⟨w.heap.size, 10, none⟩ (.int .i64 0)).setCell ⟨w.heap.size, 11, none⟩ (.int .i64 0)) ⟨w.heap.size, 10, none⟩ = some (.int .i64 0) := kr.cell rfl
  have rc11 : World.cell? ((((((((((((q.w.setCell ⟨w.heap.size, 0, none⟩ (.int .i64 16384)).setCell ⟨w.heap.size, 1, none⟩ (.int .i64 0)).setCell ⟨w.heap.size, 2, none⟩ (.int .i64 0)).setCell ⟨w.heap.size, 3, none⟩ (.int .i64 0)).setCell ⟨w.heap.size, 4, none⟩ (.int .i64 16384)).setCell ⟨w.heap.size, 5, none⟩ (.int .i64 0)).setCell ⟨w.heap.size, 6, none⟩ (.int .i64 0)).setCell ⟨w.heap.size, 7, none⟩ (.int .i64 0)).setCell ⟨w.heap.size, 8, none⟩ (.int .i64 16384)).setCell ⟨w.heap.size, 9, none⟩ (.int .i64 0)).setCell ⟨w.heap.size, 10, none⟩ (.int .i64 0)).setCell ⟨w.heap.size, 11, none⟩ (.int .i64 0)) ⟨w.heap.size, 11, none⟩ = some (.int .i64 0) := kr.cell rfl
  exact bodyPost_ret (v := .agg #[.int .i64 16384, .int .i64 0, .int .i64 0, .int .i64 0, .int .i64 16384, .int .i64 0, .int .i64 0, .int .i64 0, .int .i64 16384, .int .i64 0, .int .i64 0, .int .i64 0]) (by simp [results, Try.results12, go_sem, rc0, rc1, rc2, rc3, rc4, rc5, rc6, rc7, rc8, rc9, rc10, rc11]) rfl ⟨rfl, (((((((((((((bw_below B2 q).setCell (p := ⟨w.heap.size, 0, none⟩) (by show w.heap.size ≤ w.heap.size; omega) _).setCell (p := ⟨w.heap.size, 1, none⟩) (by show w.heap.size ≤ w.heap.size; omega) _).setCell (p := ⟨w.heap.size, 2, none⟩) (by show w.heap.size ≤ w.heap.size; omega) _).setCell (p := ⟨w.heap.size, 3, none⟩) (by show w.heap.size ≤ w.heap.size; omega) _).setCell (p := ⟨w.heap.size, 4, none⟩) (by show w.heap.size ≤ w.heap.size; omega) _).setCell (p := ⟨w.heap.size, 5, none⟩) (by show w.heap.size ≤ w.heap.size; omega) _).setCell (p := ⟨w.heap.size, 6, none⟩) (by show w.heap.size ≤ w.heap.size; omega) _).setCell (p := ⟨w.heap.size, 7, none⟩) (by show w.heap.size ≤ w.heap.size; omega) _).setCell (p := ⟨w.heap.size, 8, none⟩) (by show w.heap.size ≤ w.heap.size; omega) _).setCell (p := ⟨w.heap.size, 9, none⟩) (by show w.heap.size ≤ w.heap.size; omega) _).setCell (p := ⟨w.heap.size, 10, none⟩) (by show w.heap.size ≤ w.heap.size; omega) _).setCell (p := ⟨w.heap.size, 11, none⟩) (by show w.heap.size ≤ w.heap.size; omega) _)⟩

theorem pose_Turned (axis h : Int) (w : World) (hh : I64 h) :
    Calls Try.prog 12 #[.int .i64 axis, .int .i64 h] w fun e w' => e = .returned (.agg (p12 (pTurned axis h))) ∧ Below w.heap.size w w' := by
  have hT := Lib.hid (fun w => trig_Both h w hh)
  have hs := sinI_range h
  unfold pTurned
  generalize cosI h = c at *
  generalize sinI h = s at *
  by_cases h0 : axis = 0
  · subst h0; rw [if_pos rfl]; exact pose_Turned_0 h c s w hT hs
  · by_cases h1 : axis = 1
    · subst h1; rw [if_neg (by decide), if_pos rfl]; exact pose_Turned_1 h c s w hT hs
    · by_cases h2 : axis = 2
      · subst h2; rw [if_neg (by decide), if_neg (by decide), if_pos rfl]; exact pose_Turned_2 h c s w hT hs
      · rw [if_neg h0, if_neg h1, if_neg h2]; exact pose_Turned_3 axis h c s w hT hs h0 h1 h2

set_option maxRecDepth 100000 in
set_option maxHeartbeats 4000000 in
theorem pose_Sized_00 (n d : Int) (w : World) (hn : ¬ (1 ≤ n ∧ n ≤ 64)) :
    Calls Try.prog 14 #[.int .i64 n, .int .i64 d] w fun e w' => e = .returned (.agg #[.int .i64 16384, .int .i64 0, .int .i64 0, .int .i64 0, .int .i64 16384, .int .i64 0, .int .i64 0, .int .i64 0, .int .i64 16384, .int .i64 0, .int .i64 0, .int .i64 0]) ∧ Below w.heap.size w w' := by
  have S1 : Hid (∀ w, Calls Try.prog 33 #[.int .i64 n] w fun e w' => e = .returned (.bool false) ∧ Below w.heap.size w w') := Lib.hid (fun w => by have h := below_of_same (fun w => pose_isSize n w) w; rw [decide_eq_false hn] at h; exact h)
  go_enter Try.func14, Try.ntmps14
  go_upto_region 1 with (fail)
  obtain ⟨W1, hW1⟩ : ∃ W, W = ((w.alloc (.cells #[.int .i64 n] 3)).alloc (.cells #[.int .i64 d] 3)).alloc (.cells #[.int .i64 0, .int .i64 0, .int .i64 0, .int .i64 0, .int .i64 0, .int .i64 0, .int .i64 0, .int .i64 0, .int .i64 0, .int .i64 0, .int .i64 0, .int .i64 0] 29) := ⟨_, rfl⟩
  have B1 : Below w.heap.size w W1 := by rw [hW1]; go_grown
  have k_n : Bk W1 (w.heap.size) 3 #[.int .i64 n] := by rw [hW1]; exact ((Bk.new _ _ _).alloc _).alloc _
  have k_d : Bk W1 (w.heap.size + 1) 3 #[.int .i64 d] := by rw [hW1]; exact (Bk.new_at _ _ _ _ (by simp)).alloc _
  have k_r : Bk W1 (w.heap.size + 1 + 1) 29 #[.int .i64 0, .int .i64 0, .int .i64 0, .int .i64 0, .int .i64 0, .int .i64 0, .int .i64 0, .int .i64 0, .int .i64 0, .int .i64 0, .int .i64 0, .int .i64 0] := by rw [hW1]; exact Bk.new_at _ _ _ _ (by simp)
  rw [← hW1]
  clear hW1
  have l_d : w.heap.size < w.heap.size + 1 := by omega
  have l_r : w.heap.size + 1 < w.heap.size + 1 + 1 := by omega
  generalize w.heap.size + 1 + 1 = g_r at *
  generalize w.heap.size + 1 = g_d at *
  have c_n_0 : ∀ p : BW W1, p.w.cell? ⟨w.heap.size, 0, none⟩ = some (.int .i64 n) := bw_cell (k_n.cell rfl)
  have c_d_0 : ∀ p : BW W1, p.w.cell? ⟨g_d, 0, none⟩ = some (.int .i64 d) := bw_cell (k_d.cell rfl)
  have c_r_0 : ∀ p : BW W1, p.w.cell? ⟨g_r, 0, none⟩ = some (.int .i64 0) := bw_cell (k_r.cell rfl)
  have f_r_0 : ∀ p : BW W1, p.w.frozen? ⟨g_r, 0, none⟩ = false := fun p => (k_r.below p.h).frozen 0
  have c_r_1 : ∀ p : BW W1, p.w.cell? ⟨g_r, 1, none⟩ = some (.int .i64 0) := bw_cell (k_r.cell rfl)
  have f_r_1 : ∀ p : BW W1, p.w.frozen? ⟨g_r, 1, none⟩ = false := fun p => (k_r.below p.h).frozen 1
  have c_r_2 : ∀ p : BW W1, p.w.cell? ⟨g_r, 2, none⟩ = some (.int .i64 0) := bw_cell (k_r.cell rfl)
  have f_r_2 : ∀ p : BW W1, p.w.frozen? ⟨g_r, 2, none⟩ = false := fun p => (k_r.below p.h).frozen 2
  have c_r_3 : ∀ p : BW W1, p.w.cell? ⟨g_r, 3, none⟩ = some (.int .i64 0) := bw_cell (k_r.cell rfl)
  have f_r_3 : ∀ p : BW W1, p.w.frozen? ⟨g_r, 3, none⟩ = false := fun p => (k_r.below p.h).frozen 3
  have c_r_4 : ∀ p : BW W1, p.w.cell? ⟨g_r, 4, none⟩ = some (.int .i64 0) := bw_cell (k_r.cell rfl)
  have f_r_4 : ∀ p : BW W1, p.w.frozen? ⟨g_r, 4, none⟩ = false := fun p => (k_r.below p.h).frozen 4
  have c_r_5 : ∀ p : BW W1, p.w.cell? ⟨g_r, 5, none⟩ = some (.int .i64 0) := bw_cell (k_r.cell rfl)
  have f_r_5 : ∀ p : BW W1, p.w.frozen? ⟨g_r, 5, none⟩ = false := fun p => (k_r.below p.h).frozen 5
  have c_r_6 : ∀ p : BW W1, p.w.cell? ⟨g_r, 6, none⟩ = some (.int .i64 0) := bw_cell (k_r.cell rfl)
  have f_r_6 : ∀ p : BW W1, p.w.frozen? ⟨g_r, 6, none⟩ = false := fun p => (k_r.below p.h).frozen 6
  have c_r_7 : ∀ p : BW W1, p.w.cell? ⟨g_r, 7, none⟩ = some (.int .i64 0) := bw_cell (k_r.cell rfl)
  have f_r_7 : ∀ p : BW W1, p.w.frozen? ⟨g_r, 7, none⟩ = false := fun p => (k_r.below p.h).frozen 7
  have c_r_8 : ∀ p : BW W1, p.w.cell? ⟨g_r, 8, none⟩ = some (.int .i64 0) := bw_cell (k_r.cell rfl)
  have f_r_8 : ∀ p : BW W1, p.w.frozen? ⟨g_r, 8, none⟩ = false := fun p => (k_r.below p.h).frozen 8
  have c_r_9 : ∀ p : BW W1, p.w.cell? ⟨g_r, 9, none⟩ = some (.int .i64 0) := bw_cell (k_r.cell rfl)
  have f_r_9 : ∀ p : BW W1, p.w.frozen? ⟨g_r, 9, none⟩ = false := fun p => (k_r.below p.h).frozen 9
  have c_r_10 : ∀ p : BW W1, p.w.cell? ⟨g_r, 10, none⟩ = some (.int .i64 0) := bw_cell (k_r.cell rfl)
  have f_r_10 : ∀ p : BW W1, p.w.frozen? ⟨g_r, 10, none⟩ = false := fun p => (k_r.below p.h).frozen 10
  have c_r_11 : ∀ p : BW W1, p.w.cell? ⟨g_r, 11, none⟩ = some (.int .i64 0) := bw_cell (k_r.cell rfl)
  have f_r_11 : ∀ p : BW W1, p.w.frozen? ⟨g_r, 11, none⟩ = false := fun p => (k_r.below p.h).frozen 11
  obtain ⟨p1, hp1⟩ : ∃ p : BW W1, p.w = W1 := ⟨BW.start W1, rfl⟩
  rw [← hp1]
  clear hp1
  have KC : ∀ p : BW W1, Calls Try.prog 27 #[.slice (some ⟨p.w.heap.size, 0, none⟩) 1 1] (p.w.alloc (.cells #[.bool false, .func (.func 34) #[] #[.pointer (some ⟨w.heap.size, 0, none⟩), .pointer (some ⟨g_d, 0, none⟩)]] 55)) fun e w' => e = .returned (.agg #[.int .i64 16384, .int .i64 0, .int .i64 0, .int .i64 0, .int .i64 16384, .int .i64 0, .int .i64 0, .int .i64 0, .int .i64 16384, .int .i64 0, .int .i64 0, .int .i64 0]) ∧ ∃ q : BW W1, w' = q.w := fun p =>
    (pose_changed1 1 false 34 #[.pointer (some ⟨w.heap.size, 0, none⟩), .pointer (some ⟨g_d, 0, none⟩)] (pNone 16384) (pNone 16384) W1 p.w _ rfl p.h
      (enters_of Try.func34 (by kernel_rfl) rfl) rfl (fun _ => rfl)
      (fun h => absurd h (by decide))).mono fun e w' h => ⟨h.1, ⟨w', h.2⟩, rfl⟩
  clear hn
  have hmf : ∀ (fn : Fn) (first cap : Array Value) (w : World), (Instr.makeFunc fn first cap).run Try.prog w = .ok (.func fn first cap) w := fun _ _ _ _ => rfl
  go_wp2_with (first
    | (go_at_call 27; (with_reducible refine (KC _).mono ?_); rintro e w' ⟨rfl, q, rfl⟩)
    | (go_at_call 33; (first | (with_reducible refine (bw_call S1.out _).mono ?_)); rintro e w' ⟨rfl, q, rfl⟩))
  have kr : Bk ((((((((((((q.w.setCell ⟨g_r, 0, none⟩ (.int .i64 16384)).setCell ⟨g_r, 1, none⟩ (.int .i64 0)).setCell ⟨g_r, 2, none⟩ (.int .i64 0)).setCell ⟨g_r, 3, none⟩ (.int .i64 0)).setCell ⟨g_r, 4, none⟩ (.int .i64 16384)).setCell ⟨g_r, 5, none⟩ (.int .i64 0)).setCell ⟨g_r, 6, none⟩ (.int .i64 0)).setCell ⟨g_r, 7, none⟩ (.int .i64 0)).setCell ⟨g_r, 8, none⟩ (.int .i64 16384)).setCell ⟨g_r, 9, none⟩ (.int .i64 0)).setCell ⟨g_r, 10, none⟩ (.int .i64 0)).setCell ⟨g_r, 11, none⟩ (.int .i64 0)) (g_r) 29 #[.int .i64 16384, .int .i64 0, .int .i64 0, .int .i64 0, .int .i64 16384, .int .i64 0, .int .i64 0, .int .i64 0, .int .i64 16384, .int .i64 0, .int .i64 0, .int .i64 0] := (((((((((((((k_r.below q.h).set 0 (.int .i64 16384)).set 1 (.int .i64 0)).set 2 (.int .i64 0)).set 3 (.int .i64 0)).set 4 (.int .i64 16384)).set 5 (.int .i64 0)).set 6 (.int .i64 0)).set 7 (.int .i64 0)).set 8 (.int .i64 16384)).set 9 (.int .i64 0)).set 10 (.int .i64 0)).set 11 (.int .i64 0)).cast (by simp)
  have rc0 : World.cell? ((((((((((((q.w.setCell ⟨g_r, 0, none⟩ (.int .i64 16384)).setCell ⟨g_r, 1, none⟩ (.int .i64 0)).setCell ⟨g_r, 2, none⟩ (.int .i64 0)).setCell ⟨g_r, 3, none⟩ (.int .i64 0)).setCell ⟨g_r, 4, none⟩ (.int .i64 16384)).setCell ⟨g_r, 5, none⟩ (.int .i64 0)).setCell ⟨g_r, 6, none⟩ (.int .i64 0)).setCell ⟨g_r, 7, none⟩ (.int .i64 0)).setCell ⟨g_r, 8, none⟩ (.int .i64 16384)).setCell ⟨g_r, 9, none⟩ (.int .i64 0)).setCell ⟨g_r, 10, none⟩ (.int .i64 0)).setCell ⟨g_r, 11, none⟩ (.int .i64 0)) ⟨g_r, 0, none⟩ = some (.int .i64 16384) := kr.cell rfl
  have rc1 : World.cell? ((((((((((((q.w.setCell ⟨g_r, 0, none⟩ (.int .i64 16384)).setCell ⟨g_r, 1, none⟩ (.int .i64 0)).setCell ⟨g_r, 2, none⟩ (.int .i64 0)).setCell ⟨g_r, 3, none⟩ (.int .i64 0)).setCell ⟨g_r, 4, none⟩ (.int .i64 16384)).setCell ⟨g_r, 5, none⟩ (.int .i64 0)).setCell ⟨g_r, 6, none⟩ (.int .i64 0)).setCell ⟨g_r, 7, none⟩ (.int .i64 0)).setCell ⟨g_r, 8, none⟩ (.int .i64 16384)).setCell ⟨g_r, 9, none⟩ (.int .i64 0)).setCell ⟨g_r, 10, none⟩ (.int .i64 0)).setCell ⟨g_r, 11, none⟩ (.int .i64 0)) ⟨g_r, 1, none⟩ = some (.int .i64 0) := kr.cell rfl
  have rc2 : World.cell? ((((((((((((q.w.setCell ⟨g_r, 0, none⟩ (.int .i64 16384)).setCell ⟨g_r, 1, none⟩ (.int .i64 0)).setCell ⟨g_r, 2, none⟩ (.int .i64 0)).setCell ⟨g_r, 3, none⟩ (.int .i64 0)).setCell ⟨g_r, 4, none⟩ (.int .i64 16384)).setCell ⟨g_r, 5, none⟩ (.int .i64 0)).setCell ⟨g_r, 6, none⟩ (.int .i64 0)).setCell ⟨g_r, 7, none⟩ (.int .i64 0)).setCell ⟨g_r, 8, none⟩ (.int .i64 16384)).setCell ⟨g_r, 9, none⟩ (.int .i64 0)).setCell ⟨g_r, 10, none⟩ (.int .i64 0)).setCell ⟨g_r, 11, none⟩ (.int .i64 0)) ⟨g_r, 2, none⟩ = some (.int .i64 0) := kr.cell rfl
  have rc3 : World.cell? ((((((((((((q.w.setCell ⟨g_r, 0, none⟩ (.int .i64 16384)).setCell ⟨g_r, 1, none⟩ (.int .i64 0)).setCell ⟨g_r, 2, none⟩ (.int .i64 0)).setCell ⟨g_r, 3, none⟩ (.int .i64 0)).setCell ⟨g_r, 4, none⟩ (.int .i64 16384)).setCell ⟨g_r, 5, none⟩ (.int .i64 0)).setCell ⟨g_r, 6, none⟩ (.int .i64 0)).setCell ⟨g_r, 7, none⟩ (.int .i64 0)).setCell ⟨g_r, 8, none⟩ (.int .i64 16384)).setCell ⟨g_r, 9, none⟩ (.int .i64 0)).setCell ⟨g_r, 10, none⟩ (.int .i64 0)).setCell ⟨g_r, 11, none⟩ (.int .i64 0)) ⟨g_r, 3, none⟩ = some (.int .i64 0) := kr.cell rfl
  have rc4 : World.cell? ((((((((((((q.w.setCell ⟨g_r, 0, none⟩ (.int .i64 16384)).setCell ⟨g_r, 1, none⟩ (.int .i64 0)).setCell ⟨g_r, 2, none⟩ (.int .i64 0)).setCell ⟨g_r, 3, none⟩ (.int .i64 0)).setCell ⟨g_r, 4, none⟩ (.int .i64 16384)).setCell ⟨g_r, 5, none⟩ (.int .i64 0)).setCell ⟨g_r, 6, none⟩ (.int .i64 0)).setCell ⟨g_r, 7, none⟩ (.int .i64 0)).setCell ⟨g_r, 8, none⟩ (.int .i64 16384)).setCell ⟨g_r, 9, none⟩ (.int .i64 0)).setCell ⟨g_r, 10, none⟩ (.int .i64 0)).setCell ⟨g_r, 11, none⟩ (.int .i64 0)) ⟨g_r, 4, none⟩ = some (.int .i64 16384) := kr.cell rfl
  have rc5 : World.cell? ((((((((((((q.w.setCell ⟨g_r, 0, none⟩ (.int .i64 16384)).setCell ⟨g_r, 1, none⟩ (.int .i64 0)).setCell ⟨g_r, 2, none⟩ (.int .i64 0)).setCell ⟨g_r, 3, none⟩ (.int .i64 0)).setCell ⟨g_r, 4, none⟩ (.int .i64 16384)).setCell ⟨g_r, 5, none⟩ (.int .i64 0)).setCell ⟨g_r, 6, none⟩ (.int .i64 0)).setCell ⟨g_r, 7, none⟩ (.int .i64 0)).setCell ⟨g_r, 8, none⟩ (.int .i64 16384)).setCell ⟨g_r, 9, none⟩ (.int .i64 0)).setCell ⟨g_r, 10, none⟩ (.int .i64 0)).setCell ⟨g_r, 11, none⟩ (.int .i64 0)) ⟨g_r, 5, none⟩ = some (.int .i64 0) := kr.cell rfl
  have rc6 : World.cell? ((((((((((((q.w.setCell ⟨g_r, 0, none⟩ (.int .i64 16384)).setCell ⟨g_r, 1, none⟩ (.int .i64 0)).setCell ⟨g_r, 2, none⟩ (.int .i64 0)).setCell ⟨g_r, 3, none⟩ (.int .i64 0)).setCell ⟨g_r, 4, none⟩ (.int .i64 16384)).setCell ⟨g_r, 5, none⟩ (.int .i64 0)).setCell ⟨g_r, 6, none⟩ (.int .i64 0)).setCell ⟨g_r, 7, none⟩ (.int .i64 0)).setCell ⟨g_r, 8, none⟩ (.int .i64 16384)).setCell ⟨g_r, 9, none⟩ (.int .i64 0)).setCell ⟨g_r, 10, none⟩ (.int .i64 0)).setCell ⟨g_r, 11, none⟩ (.int .i64 0)) ⟨g_r, 6, none⟩ = some (.int .i64 0) := kr.cell rfl
  have rc7 : World.cell? ((((((((((((q.w.setCell ⟨g_r, 0, none⟩ (.int .i64 16384)).setCell ⟨g_r, 1, none⟩ (.int .i64 0)).setCell ⟨g_r, 2, none⟩ (.int .i64 0)).setCell ⟨g_r, 3, none⟩ (.int .i64 0)).setCell ⟨g_r, 4, none⟩ (.int .i64 16384)).setCell ⟨g_r, 5, none⟩ (.int .i64 0)).setCell ⟨g_r, 6, none⟩ (.int .i64 0)).setCell ⟨g_r, 7, none⟩ (.int .i64 0)).setCell ⟨g_r, 8, none⟩ (.int .i64 16384)).setCell ⟨g_r, 9, none⟩ (.int .i64 0)).setCell ⟨g_r, 10, none⟩ (.int .i64 0)).setCell ⟨g_r, 11, none⟩ (.int .i64 0)) ⟨g_r, 7, none⟩ = some (.int .i64 0) := kr.cell rfl
  have rc8 : World.cell? ((((((((((((q.w.setCell ⟨g_r, 0, none⟩ (.int .i64 16384)).setCell ⟨g_r, 1, none⟩ (.int .i64 0)).setCell ⟨g_r, 2, none⟩ (.int .i64 0)).setCell ⟨g_r, 3, none⟩ (.int .i64 0)).setCell ⟨g_r, 4, none⟩ (.int .i64 16384)).setCell ⟨g_r, 5, none⟩ (.int .i64 0)).setCell ⟨g_r, 6, none⟩ (.int .i64 0)).setCell ⟨g_r, 7, none⟩ (.int .i64 0)).setCell ⟨g_r, 8, none⟩ (.int .i64 16384)).setCell ⟨g_r, 9, none⟩ (.int .i64 0)).setCell ⟨g_r, 10, none⟩ (.int .i64 0)).setCell ⟨g_r, 11, none⟩ (.int .i64 0)) ⟨g_r, 8, none⟩ = some (.int .i64 16384) := kr.cell rfl
  have rc9 : World.cell? ((((((((((((q.w.setCell ⟨g_r, 0, none⟩ (.int .i64 16384)).setCell ⟨g_r, 1, none⟩ (.int .i64 0)).setCell ⟨g_r, 2, none⟩ (.int .i64 0)).setCell ⟨g_r, 3, none⟩ (.int .i64 0)).setCell ⟨g_r, 4, none⟩ (.int .i64 16384)).setCell ⟨g_r, 5, none⟩ (.int .i64 0)).setCell ⟨g_r, 6, none⟩ (.int .i64 0)).setCell ⟨g_r, 7, none⟩ (.int .i64 0)).setCell ⟨g_r, 8, none⟩ (.int .i64 16384)).setCell ⟨g_r, 9, none⟩ (.int .i64 0)).setCell ⟨g_r, 10, none⟩ (.int .i64 0)).setCell ⟨g_r, 11, none⟩ (.int .i64 0)) ⟨g_r, 9, none⟩ = some (.int .i64 0) := kr.cell rfl
  have rc10 : World.cell? ((((((((((((q.w.setCell ⟨g_r, 0, none⟩ (.int .i64 16384)).setCell ⟨g_r, 1, none⟩ (.int .i64 0)).setCell ⟨g_r, 2, none⟩ (.int .i64 0)).setCell ⟨g_r, 3, none⟩ (.int .i64 0)).setCell ⟨g_r, 4, none⟩ (.int .i64 16384)).setCell ⟨g_r, 5, none⟩ (.int .i64 0)).setCell ⟨g_r, 6, none⟩ (.int .i64 0)).setCell ⟨g_r, 7, none⟩ (.int .i64 0)).setCell ⟨g_r, 8, none⟩ (.int .i64 16384)).setCell ⟨g_r, 9, none⟩ (.int .i64 0)).setCell ⟨g_r, 10, none⟩ (.int .i64 0)).setCell ⟨g_r, 11, none⟩ (.int .i64 0)) ⟨g_r, 10, none⟩ = some (.int .i64 0) := kr.cell rfl
  have rc11 : World.cell? ((((((((((((q.w.setCell ⟨g_r, 0, none⟩ (.int .i64 16384)).setCell ⟨g_r, 1, none⟩ (.int .i64 0)).setCell ⟨g_r, 2, none⟩ (.int .i64 0)).setCell ⟨g_r, 3, none⟩ (.int .i64 0)).setCell ⟨g_r, 4, none⟩ (.int .i64 16384)).setCell ⟨g_r, 5, none⟩ (.int .i64 0)).setCell ⟨g_r, 6, none⟩ (.int .i64 0)).setCell ⟨g_r, 7, none⟩ (.int .i64 0)).setCell ⟨g_r, 8, none⟩ (.int .i64 16384)).setCell ⟨g_r, 9, none⟩ (.int .i64 0)).setCell ⟨g_r, 10, none⟩ (.int .i64 0)).setCell ⟨g_r, 11, none⟩ (.int .i64 0)) ⟨g_r, 11, none⟩ = some (.int .i64 0) := kr.cell rfl
  exact bodyPost_ret (v := .agg #[.int .i64 16384, .int .i64 0, .int .i64 0, .int .i64 0, .int .i64 16384, .int .i64 0, .int .i64 0, .int .i64 0, .int .i64 16384, .int .i64 0, .int .i64 0, .int .i64 0]) (by simp [results, Try.results14, go_sem, rc0, rc1, rc2, rc3, rc4, rc5, rc6, rc7, rc8, rc9, rc10, rc11]) rfl ⟨rfl, (((((((((((((bw_below B1 q).setCell (p := ⟨g_r, 0, none⟩) (by show w.heap.size ≤ g_r; omega) _).setCell (p := ⟨g_r, 1, none⟩) (by show w.heap.size ≤ g_r; omega) _).setCell (p := ⟨g_r, 2, none⟩) (by show w.heap.size ≤ g_r; omega) _).setCell (p := ⟨g_r, 3, none⟩) (by show w.heap.size ≤ g_r; omega) _).setCell (p := ⟨g_r, 4, none⟩) (by show w.heap.size ≤ g_r; omega) _).setCell (p := ⟨g_r, 5, none⟩) (by show w.heap.size ≤ g_r; omega) _).setCell (p := ⟨g_r, 6, none⟩) (by show w.heap.size ≤ g_r; omega) _).setCell (p := ⟨g_r, 7, none⟩) (by show w.heap.size ≤ g_r; omega) _).setCell (p := ⟨g_r, 8, none⟩) (by show w.heap.size ≤ g_r; omega) _).setCell (p := ⟨g_r, 9, none⟩) (by show w.heap.size ≤ g_r; omega) _).setCell (p := ⟨g_r, 10, none⟩) (by show w.heap.size ≤ g_r; omega) _).setCell (p := ⟨g_r, 11, none⟩) (by show w.heap.size ≤ g_r; omega) _)⟩

set_option maxRecDepth 100000 in
set_option maxHeartbeats 4000000 in
theorem pose_Sized_10 (n d : Int) (w : World) (hn : 1 ≤ n ∧ n ≤ 64) (hd : ¬ (1 ≤ d ∧ d ≤ 64)) :
    Calls Try.prog 14 #[.int .i64 n, .int .i64 d] w fun e w' => e = .returned (.agg #[.int .i64 16384, .int .i64 0, .int .i64 0, .int .i64 0, .int .i64 16384, .int .i64 0, .int .i64 0, .int .i64 0, .int .i64 16384, .int .i64 0, .int .i64 0, .int .i64 0]) ∧ Below w.heap.size w w' := by
  have S1 : Hid (∀ w, Calls Try.prog 33 #[.int .i64 n] w fun e w' => e = .returned (.bool true) ∧ Below w.heap.size w w') := Lib.hid (fun w => by have h := below_of_same (fun w => pose_isSize n w) w; rw [decide_eq_true hn] at h; exact h)
  have S2 : Hid (∀ w, Calls Try.prog 33 #[.int .i64 d] w fun e w' => e = .returned (.bool false) ∧ Below w.heap.size w w') := Lib.hid (fun w => by have h := below_of_same (fun w => pose_isSize d w) w; rw [decide_eq_false hd] at h; exact h)
  go_enter Try.func14, Try.ntmps14
  go_upto_region 1 with (fail)
  obtain ⟨W1, hW1⟩ : ∃ W, W = ((w.alloc (.cells #[.int .i64 n] 3)).alloc (.cells #[.int .i64 d] 3)).alloc (.cells #[.int .i64 0, .int .i64 0, .int .i64 0, .int .i64 0, .int .i64 0, .int .i64 0, .int .i64 0, .int .i64 0, .int .i64 0, .int .i64 0, .int .i64 0, .int .i64 0] 29) := ⟨_, rfl⟩
  have B1 : Below w.heap.size w W1 := by rw [hW1]; go_grown
  have k_n : Bk W1 (w.heap.size) 3 #[.int .i64 n] := by rw [hW1]; exact ((Bk.new _ _ _).alloc _).alloc _
  have k_d : Bk W1 (w.heap.size + 1) 3 #[.int .i64 d] := by rw [hW1]; exact (Bk.new_at _ _ _ _ (by simp)).alloc _
  have k_r : Bk W1 (w.heap.size + 1 + 1) 29 #[.int .i64 0, .int .i64 0, .int .i64 0, .int .i64 0, .int .i64 0, .int .i64 0, .int .i64 0, .int .i64 0, .int .i64 0, .int .i64 0, .int .i64 0, .int .i64 0] := by rw [hW1]; exact Bk.new_at _ _ _ _ (by simp)
  rw [← hW1]
  clear hW1
  have l_d : w.heap.size < w.heap.size + 1 := by omega
  have l_r : w.heap.size + 1 < w.heap.size + 1 + 1 := by omega
  generalize w.heap.size + 1 + 1 = g_r at *
  generalize w.heap.size + 1 = g_d at *
  have c_n_0 : ∀ p : BW W1, p.w.cell? ⟨w.heap.size, 0, none⟩ = some (.int .i64 n) := bw_cell (k_n.cell rfl)
  have c_d_0 : ∀ p : BW W1, p.w.cell? ⟨g_d, 0, none⟩ = some (.int .i64 d) := bw_cell (k_d.cell rfl)
  have c_r_0 : ∀ p : BW W1, p.w.cell? ⟨g_r, 0, none⟩ = some (.int .i64 0) := bw_cell (k_r.cell rfl)
  have f_r_0 : ∀ p : BW W1, p.w.frozen? ⟨g_r, 0, none⟩ = false := fun p => (k_r.below p.h).frozen 0
  have c_r_1 : ∀ p : BW W1, p.w.cell? ⟨g_r, 1, none⟩ = some (.int .i64 0) := bw_cell (k_r.cell rfl)
  have f_r_1 : ∀ p : BW W1, p.w.frozen? ⟨g_r, 1, none⟩ = false := fun p => (k_r.below p.h).frozen 1
  have c_r_2 : ∀ p : BW W1, p.w.cell? ⟨g_r, 2, none⟩ = some (.int .i64 0) := bw_cell (k_r.cell rfl)
  have f_r_2 : ∀ p : BW W1, p.w.frozen? ⟨g_r, 2, none⟩ = false := fun p => (k_r.below p.h).frozen 2
  have c_r_3 : ∀ p : BW W1, p.w.cell? ⟨g_r, 3, none⟩ = some (.int .i64 0) := bw_cell (k_r.cell rfl)
  have f_r_3 : ∀ p : BW W1, p.w.frozen? ⟨g_r, 3, none⟩ = false := fun p => (k_r.below p.h).frozen 3
  have c_r_4 : ∀ p : BW W1, p.w.cell? ⟨g_r, 4, none⟩ = some (.int .i64 0) := bw_cell (k_r.cell rfl)
  have f_r_4 : ∀ p : BW W1, p.w.frozen? ⟨g_r, 4, none⟩ = false := fun p => (k_r.below p.h).frozen 4
  have c_r_5 : ∀ p : BW W1, p.w.cell? ⟨g_r, 5, none⟩ = some (.int .i64 0) := bw_cell (k_r.cell rfl)
  have f_r_5 : ∀ p : BW W1, p.w.frozen? ⟨g_r, 5, none⟩ = false := fun p => (k_r.below p.h).frozen 5
  have c_r_6 : ∀ p : BW W1, p.w.cell? ⟨g_r, 6, none⟩ = some (.int .i64 0) := bw_cell (k_r.cell rfl)
  have f_r_6 : ∀ p : BW W1, p.w.frozen? ⟨g_r, 6, none⟩ = false := fun p => (k_r.below p.h).frozen 6
  have c_r_7 : ∀ p : BW W1, p.w.cell? ⟨g_r, 7, none⟩ = some (.int .i64 0) := bw_cell (k_r.cell rfl)
  have f_r_7 : ∀ p : BW W1, p.w.frozen? ⟨g_r, 7, none⟩ = false := fun p => (k_r.below p.h).frozen 7
  have c_r_8 : ∀ p : BW W1, p.w.cell? ⟨g_r, 8, none⟩ = some (.int .i64 0) := bw_cell (k_r.cell rfl)
  have f_r_8 : ∀ p : BW W1, p.w.frozen? ⟨g_r, 8, none⟩ = false := fun p => (k_r.below p.h).frozen 8
  have c_r_9 : ∀ p : BW W1, p.w.cell? ⟨g_r, 9, none⟩ = some (.int .i64 0) := bw_cell (k_r.cell rfl)
  have f_r_9 : ∀ p : BW W1, p.w.frozen? ⟨g_r, 9, none⟩ = false := fun p => (k_r.below p.h).frozen 9
  have c_r_10 : ∀ p : BW W1, p.w.cell? ⟨g_r, 10, none⟩ = some (.int .i64 0) := bw_cell (k_r.cell rfl)
  have f_r_10 : ∀ p : BW W1, p.w.frozen? ⟨g_r, 10, none⟩ = false := fun p => (k_r.below p.h).frozen 10
  have c_r_11 : ∀ p : BW W1, p.w.cell? ⟨g_r, 11, none⟩ = some (.int .i64 0) := bw_cell (k_r.cell rfl)
  have f_r_11 : ∀ p : BW W1, p.w.frozen? ⟨g_r, 11, none⟩ = false := fun p => (k_r.below p.h).frozen 11
  obtain ⟨p1, hp1⟩ : ∃ p : BW W1, p.w = W1 := ⟨BW.start W1, rfl⟩
  rw [← hp1]
  clear hp1
  have KC : ∀ p : BW W1, Calls Try.prog 27 #[.slice (some ⟨p.w.heap.size, 0, none⟩) 1 1] (p.w.alloc (.cells #[.bool false, .func (.func 34) #[] #[.pointer (some ⟨w.heap.size, 0, none⟩), .pointer (some ⟨g_d, 0, none⟩)]] 55)) fun e w' => e = .returned (.agg #[.int .i64 16384, .int .i64 0, .int .i64 0, .int .i64 0, .int .i64 16384, .int .i64 0, .int .i64 0, .int .i64 0, .int .i64 16384, .int .i64 0, .int .i64 0, .int .i64 0]) ∧ ∃ q : BW W1, w' = q.w := fun p =>
    (pose_changed1 1 false 34 #[.pointer (some ⟨w.heap.size, 0, none⟩), .pointer (some ⟨g_d, 0, none⟩)] (pNone 16384) (pNone 16384) W1 p.w _ rfl p.h
      (enters_of Try.func34 (by kernel_rfl) rfl) rfl (fun _ => rfl)
      (fun h => absurd h (by decide))).mono fun e w' h => ⟨h.1, ⟨w', h.2⟩, rfl⟩
  clear hn hd
  have hmf : ∀ (fn : Fn) (first cap : Array Value) (w : World), (Instr.makeFunc fn first cap).run Try.prog w = .ok (.func fn first cap) w := fun _ _ _ _ => rfl
  go_wp2_with (first
    | (go_at_call 27; (with_reducible refine (KC _).mono ?_); rintro e w' ⟨rfl, q, rfl⟩)
    | (go_at_call 33; (first | (with_reducible refine (bw_call S1.out _).mono ?_) | (with_reducible refine (bw_call S2.out _).mono ?_)); rintro e w' ⟨rfl, q, rfl⟩))
  have kr : Bk ((((((((((((q.w.setCell ⟨g_r, 0, none⟩ (.int .i64 16384)).setCell ⟨g_r, 1, none⟩ (.int .i64 0)).setCell ⟨g_r, 2, none⟩ (.int .i64 0)).setCell ⟨g_r, 3, none⟩ (.int .i64 0)).setCell ⟨g_r, 4, none⟩ (.int .i64 16384)).setCell ⟨g_r, 5, none⟩ (.int .i64 0)).setCell ⟨g_r, 6, none⟩ (.int .i64 0)).setCell ⟨g_r, 7, none⟩ (.int .i64 0)).setCell ⟨g_r, 8, none⟩ (.int .i64 16384)).setCell ⟨g_r, 9, none⟩ (.int .i64 0)).setCell ⟨g_r, 10, none⟩ (.int .i64 0)).setCell ⟨g_r, 11, none⟩ (.int .i64 0)) (g_r) 29 #[.int .i64 16384, .int .i64 0, .int .i64 0, .int .i64 0, .int .i64 16384, .int .i64 0, .int .i64 0, .int .i64 0, .int .i64 16384, .int .i64 0, .int .i64 0, .int .i64 0] := (((((((((((((k_r.below q.h).set 0 (.int .i64 16384)).set 1 (.int .i64 0)).set 2 (.int .i64 0)).set 3 (.int .i64 0)).set 4 (.int .i64 16384)).set 5 (.int .i64 0)).set 6 (.int .i64 0)).set 7 (.int .i64 0)).set 8 (.int .i64 16384)).set 9 (.int .i64 0)).set 10 (.int .i64 0)).set 11 (.int .i64 0)).cast (by simp)
  have rc0 : World.cell? ((((((((((((q.w.setCell ⟨g_r, 0, none⟩ (.int .i64 16384)).setCell ⟨g_r, 1, none⟩ (.int .i64 0)).setCell ⟨g_r, 2, none⟩ (.int .i64 0)).setCell ⟨g_r, 3, none⟩ (.int .i64 0)).setCell ⟨g_r, 4, none⟩ (.int .i64 16384)).setCell ⟨g_r, 5, none⟩ (.int .i64 0)).setCell ⟨g_r, 6, none⟩ (.int .i64 0)).setCell ⟨g_r, 7, none⟩ (.int .i64 0)).setCell ⟨g_r, 8, none⟩ (.int .i64 16384)).setCell ⟨g_r, 9, none⟩ (.int .i64 0)).setCell ⟨g_r, 10, none⟩ (.int .i64 0)).setCell ⟨g_r, 11, none⟩ (.int .i64 0)) ⟨g_r, 0, none⟩ = some (.int .i64 16384) := kr.cell rfl
  have rc1 : World.cell? ((((((((((((q.w.setCell ⟨g_r, 0, none⟩ (.int .i64 16384)).setCell ⟨g_r, 1, none⟩ (.int .i64 0)).setCell ⟨g_r, 2, none⟩ (.int .i64 0)).setCell ⟨g_r, 3, none⟩ (.int .i64 0)).setCell ⟨g_r, 4, none⟩ (.int .i64 16384)).setCell ⟨g_r, 5, none⟩ (.int .i64 0)).setCell ⟨g_r, 6, none⟩ (.int .i64 0)).setCell ⟨g_r, 7, none⟩ (.int .i64 0)).setCell ⟨g_r, 8, none⟩ (.int .i64 16384)).setCell ⟨g_r, 9, none⟩ (.int .i64 0)).setCell ⟨g_r, 10, none⟩ (.int .i64 0)).setCell ⟨g_r, 11, none⟩ (.int .i64 0)) ⟨g_r, 1, none⟩ = some (.int .i64 0) := kr.cell rfl
  have rc2 : World.cell? ((((((((((((q.w.setCell ⟨g_r, 0, none⟩ (.int .i64 16384)).setCell ⟨g_r, 1, none⟩ (.int .i64 0)).setCell ⟨g_r, 2, none⟩ (.int .i64 0)).setCell ⟨g_r, 3, none⟩ (.int .i64 0)).setCell ⟨g_r, 4, none⟩ (.int .i64 16384)).setCell ⟨g_r, 5, none⟩ (.int .i64 0)).setCell ⟨g_r, 6, none⟩ (.int .i64 0)).setCell ⟨g_r, 7, none⟩ (.int .i64 0)).setCell ⟨g_r, 8, none⟩ (.int .i64 16384)).setCell ⟨g_r, 9, none⟩ (.int .i64 0)).setCell ⟨g_r, 10, none⟩ (.int .i64 0)).setCell ⟨g_r, 11, none⟩ (.int .i64 0)) ⟨g_r, 2, none⟩ = some (.int .i64 0) := kr.cell rfl
  have rc3 : World.cell? ((((((((((((q.w.setCell ⟨g_r, 0, none⟩ (.int .i64 16384)).setCell ⟨g_r, 1, none⟩ (.int .i64 0)).setCell ⟨g_r, 2, none⟩ (.int .i64 0)).setCell ⟨g_r, 3, none⟩ (.int .i64 0)).setCell ⟨g_r, 4, none⟩ (.int .i64 16384)).setCell ⟨g_r, 5, none⟩ (.int .i64 0)).setCell ⟨g_r, 6, none⟩ (.int .i64 0)).setCell ⟨g_r, 7, none⟩ (.int .i64 0)).setCell ⟨g_r, 8, none⟩ (.int .i64 16384)).setCell ⟨g_r, 9, none⟩ (.int .i64 0)).setCell ⟨g_r, 10, none⟩ (.int .i64 0)).setCell ⟨g_r, 11, none⟩ (.int .i64 0)) ⟨g_r, 3, none⟩ = some (.int .i64 0) := kr.cell rfl
  have rc4 : World.cell? ((((((((((((q.w.setCell ⟨g_r, 0, none⟩ (.int .i64 16384)).setCell ⟨g_r, 1, none⟩ (.int .i64 0)).setCell ⟨g_r, 2, none⟩ (.int .i64 0)).setCell ⟨g_r, 3, none⟩ (.int .i64 0)).setCell ⟨g_r, 4, none⟩ (.int .i64 16384)).setCell ⟨g_r, 5, none⟩ (.int .i64 0)).setCell ⟨g_r, 6, none⟩ (.int .i64 0)).setCell ⟨g_r, 7, none⟩ (.int .i64 0)).setCell ⟨g_r, 8, none⟩ (.int .i64 16384)).setCell ⟨g_r, 9, none⟩ (.int .i64 0)).setCell ⟨g_r, 10, none⟩ (.int .i64 0)).setCell ⟨g_r, 11, none⟩ (.int .i64 0)) ⟨g_r, 4, none⟩ = some (.int .i64 16384) := kr.cell rfl
  have rc5 : World.cell? ((((((((((((q.w.setCell ⟨g_r, 0, none⟩ (.int .i64 16384)).setCell ⟨g_r, 1, none⟩ (.int .i64 0)).setCell ⟨g_r, 2, none⟩ (.int .i64 0)).setCell ⟨g_r, 3, none⟩ (.int .i64 0)).setCell ⟨g_r, 4, none⟩ (.int .i64 16384)).setCell ⟨g_r, 5, none⟩ (.int .i64 0)).setCell ⟨g_r, 6, none⟩ (.int .i64 0)).setCell ⟨g_r, 7, none⟩ (.int .i64 0)).setCell ⟨g_r, 8, none⟩ (.int .i64 16384)).setCell ⟨g_r, 9, none⟩ (.int .i64 0)).setCell ⟨g_r, 10, none⟩ (.int .i64 0)).setCell ⟨g_r, 11, none⟩ (.int .i64 0)) ⟨g_r, 5, none⟩ = some (.int .i64 0) := kr.cell rfl
  have rc6 : World.cell? ((((((((((((q.w.setCell ⟨g_r, 0, none⟩ (.int .i64 16384)).setCell ⟨g_r, 1, none⟩ (.int .i64 0)).setCell ⟨g_r, 2, none⟩ (.int .i64 0)).setCell ⟨g_r, 3, none⟩ (.int .i64 0)).setCell ⟨g_r, 4, none⟩ (.int .i64 16384)).setCell ⟨g_r, 5, none⟩ (.int .i64 0)).setCell ⟨g_r, 6, none⟩ (.int .i64 0)).setCell ⟨g_r, 7, none⟩ (.int .i64 0)).setCell ⟨g_r, 8, none⟩ (.int .i64 16384)).setCell ⟨g_r, 9, none⟩ (.int .i64 0)).setCell ⟨g_r, 10, none⟩ (.int .i64 0)).setCell ⟨g_r, 11, none⟩ (.int .i64 0)) ⟨g_r, 6, none⟩ = some (.int .i64 0) := kr.cell rfl
  have rc7 : World.cell? ((((((((((((q.w.setCell ⟨g_r, 0, none⟩ (.int .i64 16384)).setCell ⟨g_r, 1, none⟩ (.int .i64 0)).setCell ⟨g_r, 2, none⟩ (.int .i64 0)).setCell ⟨g_r, 3, none⟩ (.int .i64 0)).setCell ⟨g_r, 4, none⟩ (.int .i64 16384)).setCell ⟨g_r, 5, none⟩ (.int .i64 0)).setCell ⟨g_r, 6, none⟩ (.int .i64 0)).setCell ⟨g_r, 7, none⟩ (.int .i64 0)).setCell ⟨g_r, 8, none⟩ (.int .i64 16384)).setCell ⟨g_r, 9, none⟩ (.int .i64 0)).setCell ⟨g_r, 10, none⟩ (.int .i64 0)).setCell ⟨g_r, 11, none⟩ (.int .i64 0)) ⟨g_r, 7, none⟩ = some (.int .i64 0) := kr.cell rfl
  have rc8 : World.cell? ((((((((((((q.w.setCell ⟨g_r, 0, none⟩ (.int .i64 16384)).setCell ⟨g_r, 1, none⟩ (.int .i64 0)).setCell ⟨g_r, 2, none⟩ (.int .i64 0)).setCell ⟨g_r, 3, none⟩ (.int .i64 0)).setCell ⟨g_r, 4, none⟩ (.int .i64 16384)).setCell ⟨g_r, 5, none⟩ (.int .i64 0)).setCell ⟨g_r, 6, none⟩ (.int .i64 0)).setCell ⟨g_r, 7, none⟩ (.int .i64 0)).setCell ⟨g_r, 8, none⟩ (.int .i64 16384)).setCell ⟨g_r, 9, none⟩ (.int .i64 0)).setCell ⟨g_r, 10, none⟩ (.int .i64 0)).setCell ⟨g_r, 11, none⟩ (.int .i64 0)) ⟨g_r, 8, none⟩ = some (.int .i64 16384) := kr.cell rfl
  have rc9 : World.cell? ((((((((((((q.w.setCell ⟨g_r, 0, none⟩ (.int .i64 16384)).setCell ⟨g_r, 1, none⟩ (.int .i64 0)).setCell ⟨g_r, 2, none⟩ (.int .i64 0)).setCell ⟨g_r, 3, none⟩ (.int .i64 0)).setCell ⟨g_r, 4, none⟩ (.int .i64 16384)).setCell ⟨g_r, 5, none⟩ (.int .i64 0)).setCell ⟨g_r, 6, none⟩ (.int .i64 0)).setCell ⟨g_r, 7, none⟩ (.int .i64 0)).setCell ⟨g_r, 8, none⟩ (.int .i64 16384)).setCell ⟨g_r, 9, none⟩ (.int .i64 0)).setCell ⟨g_r, 10, none⟩ (.int .i64 0)).setCell ⟨g_r, 11, none⟩ (.int .i64 0)) ⟨g_r, 9, none⟩ = some (.int .i64 0) := kr.cell rfl
  have rc10 : World.cell? ((((((((((((q.w.setCell ⟨g_r, 0, none⟩ (.int .i64 16384)).setCell ⟨g_r, 1, none⟩ (.int .i64 0)).setCell ⟨g_r, 2, none⟩ (.int .i64 0)).setCell ⟨g_r, 3, none⟩ (.int .i64 0)).setCell ⟨g_r, 4, none⟩ (.int .i64 16384)).setCell ⟨g_r, 5, none⟩ (.int .i64 0)).setCell ⟨g_r, 6, none⟩ (.int .i64 0)).setCell ⟨g_r, 7, none⟩ (.int .i64 0)).setCell ⟨g_r, 8, none⟩ (.int .i64 16384)).setCell ⟨g_r, 9, none⟩ (.int .i64 0)).setCell ⟨g_r, 10, none⟩ (.int .i64 0)).setCell ⟨g_r, 11, none⟩ (.int .i64 0)) ⟨g_r, 10, none⟩ = some (.int .i64 0) := kr.cell rfl
  have rc11 : World.cell? ((((((((((((q.w.setCell ⟨g_r, 0, none⟩ (.int .i64 16384)).setCell ⟨g_r, 1, none⟩ (.int .i64 0)).setCell ⟨g_r, 2, none⟩ (.int .i64 0)).setCell ⟨g_r, 3, none⟩ (.int .i64 0)).setCell ⟨g_r, 4, none⟩ (.int .i64 16384)).setCell ⟨g_r, 5, none⟩ (.int .i64 0)).setCell ⟨g_r, 6, none⟩ (.int .i64 0)).setCell ⟨g_r, 7, none⟩ (.int .i64 0)).setCell ⟨g_r, 8, none⟩ (.int .i64 16384)).setCell ⟨g_r, 9, none⟩ (.int .i64 0)).setCell ⟨g_r, 10, none⟩ (.int .i64 0)).setCell ⟨g_r, 11, none⟩ (.int .i64 0)) ⟨g_r, 11, none⟩ = some (.int .i64 0) := kr.cell rfl
  exact bodyPost_ret (v := .agg #[.int .i64 16384, .int .i64 0, .int .i64 0, .int .i64 0, .int .i64 16384, .int .i64 0, .int .i64 0, .int .i64 0, .int .i64 16384, .int .i64 0, .int .i64 0, .int .i64 0]) (by simp [results, Try.results14, go_sem, rc0, rc1, rc2, rc3, rc4, rc5, rc6, rc7, rc8, rc9, rc10, rc11]) rfl ⟨rfl, (((((((((((((bw_below B1 q).setCell (p := ⟨g_r, 0, none⟩) (by show w.heap.size ≤ g_r; omega) _).setCell (p := ⟨g_r, 1, none⟩) (by show w.heap.size ≤ g_r; omega) _).setCell (p := ⟨g_r, 2, none⟩) (by show w.heap.size ≤ g_r; omega) _).setCell (p := ⟨g_r, 3, none⟩) (by show w.heap.size ≤ g_r; omega) _).setCell (p := ⟨g_r, 4, none⟩) (by show w.heap.size ≤ g_r; omega) _).setCell (p := ⟨g_r, 5, none⟩) (by show w.heap.size ≤ g_r; omega) _).setCell (p := ⟨g_r, 6, none⟩) (by show w.heap.size ≤ g_r; omega) _).setCell (p := ⟨g_r, 7, none⟩) (by show w.heap.size ≤ g_r; omega) _).setCell (p := ⟨g_r, 8, none⟩) (by show w.heap.size ≤ g_r; omega) _).setCell (p := ⟨g_r, 9, none⟩) (by show w.heap.size ≤ g_r; omega) _).setCell (p := ⟨g_r, 10, none⟩) (by show w.heap.size ≤ g_r; omega) _).setCell (p := ⟨g_r, 11, none⟩) (by show w.heap.size ≤ g_r; omega) _)⟩

set_option maxRecDepth 100000 in
set_option maxHeartbeats 4000000 in
theorem pose_Sized_11 (n d r : Int) (w : World) (hn : 1 ≤ n ∧ n ≤ 64) (hd : 1 ≤ d ∧ d ≤ 64) (hr : 16384 * n / d = r) :
    Calls Try.prog 14 #[.int .i64 n, .int .i64 d] w fun e w' => e = .returned (.agg #[.int .i64 r, .int .i64 0, .int .i64 0, .int .i64 0, .int .i64 r, .int .i64 0, .int .i64 0, .int .i64 0, .int .i64 r, .int .i64 0, .int .i64 0, .int .i64 0]) ∧ Below w.heap.size w w' := by
  have S1 : Hid (∀ w, Calls Try.prog 33 #[.int .i64 n] w fun e w' => e = .returned (.bool true) ∧ Below w.heap.size w w') := Lib.hid (fun w => by have h := below_of_same (fun w => pose_isSize n w) w; rw [decide_eq_true hn] at h; exact h)
  have S2 : Hid (∀ w, Calls Try.prog 33 #[.int .i64 d] w fun e w' => e = .returned (.bool true) ∧ Below w.heap.size w w') := Lib.hid (fun w => by have h := below_of_same (fun w => pose_isSize d w) w; rw [decide_eq_true hd] at h; exact h)
  go_enter Try.func14, Try.ntmps14
  go_upto_region 1 with (fail)
  obtain ⟨W1, hW1⟩ : ∃ W, W = ((w.alloc (.cells #[.int .i64 n] 3)).alloc (.cells #[.int .i64 d] 3)).alloc (.cells #[.int .i64 0, .int .i64 0, .int .i64 0, .int .i64 0, .int .i64 0, .int .i64 0, .int .i64 0, .int .i64 0, .int .i64 0, .int .i64 0, .int .i64 0, .int .i64 0] 29) := ⟨_, rfl⟩
  have B1 : Below w.heap.size w W1 := by rw [hW1]; go_grown
  have k_n : Bk W1 (w.heap.size) 3 #[.int .i64 n] := by rw [hW1]; exact ((Bk.new _ _ _).alloc _).alloc _
  have k_d : Bk W1 (w.heap.size + 1) 3 #[.int .i64 d] := by rw [hW1]; exact (Bk.new_at _ _ _ _ (by simp)).alloc _
  have k_r : Bk W1 (w.heap.size + 1 + 1) 29 #[.int .i64 0, .int .i64 0, .int .i64 0, .int .i64 0, .int .i64 0, .int .i64 0, .int .i64 0, .int .i64 0, .int .i64 0, .int .i64 0, .int .i64 0, .int .i64 0] := by rw [hW1]; exact Bk.new_at _ _ _ _ (by simp)
  rw [← hW1]
  clear hW1
  have l_d : w.heap.size < w.heap.size + 1 := by omega
  have l_r : w.heap.size + 1 < w.heap.size + 1 + 1 := by omega
  generalize w.heap.size + 1 + 1 = g_r at *
  generalize w.heap.size + 1 = g_d at *
  have c_n_0 : ∀ p : BW W1, p.w.cell? ⟨w.heap.size, 0, none⟩ = some (.int .i64 n) := bw_cell (k_n.cell rfl)
  have c_d_0 : ∀ p : BW W1, p.w.cell? ⟨g_d, 0, none⟩ = some (.int .i64 d) := bw_cell (k_d.cell rfl)
  have c_r_0 : ∀ p : BW W1, p.w.cell? ⟨g_r, 0, none⟩ = some (.int .i64 0) := bw_cell (k_r.cell rfl)
  have f_r_0 : ∀ p : BW W1, p.w.frozen? ⟨g_r, 0, none⟩ = false := fun p => (k_r.below p.h).frozen 0
  have c_r_1 : ∀ p : BW W1, p.w.cell? ⟨g_r, 1, none⟩ = some (.int .i64 0) := bw_cell (k_r.cell rfl)
  have f_r_1 : ∀ p : BW W1, p.w.frozen? ⟨g_r, 1, none⟩ = false := fun p => (k_r.below p.h).frozen 1
  have c_r_2 : ∀ p : BW W1, p.w.cell? ⟨g_r, 2, none⟩ = some (.int .i64 0) := bw_cell (k_r.cell rfl)
  have f_r_2 : ∀ p : BW W1, p.w.frozen? ⟨g_r, 2, none⟩ = false := fun p => (k_r.below p.h).frozen 2
  have c_r_3 : ∀ p : BW W1, p.w.cell? ⟨g_r, 3, none⟩ = some (.int .i64 0) := bw_cell (k_r.cell rfl)
  have f_r_3 : ∀ p : BW W1, p.w.frozen? ⟨g_r, 3, none⟩ = false := fun p => (k_r.below p.h).frozen 3
  have c_r_4 : ∀ p : BW W1, p.w.cell? ⟨g_r, 4, none⟩ = some (.int .i64 0) := bw_cell (k_r.cell rfl)
  have f_r_4 : ∀ p : BW W1, p.w.frozen? ⟨g_r, 4, none⟩ = false := fun p => (k_r.below p.h).frozen 4
  have c_r_5 : ∀ p : BW W1, p.w.cell? ⟨g_r, 5, none⟩ = some (.int .i64 0) := bw_cell (k_r.cell rfl)
  have f_r_5 : ∀ p : BW W1, p.w.frozen? ⟨g_r, 5, none⟩ = false := fun p => (k_r.below p.h).frozen 5
  have c_r_6 : ∀ p : BW W1, p.w.cell? ⟨g_r, 6, none⟩ = some (.int .i64 0) := bw_cell (k_r.cell rfl)
  have f_r_6 : ∀ p : BW W1, p.w.frozen? ⟨g_r, 6, none⟩ = false := fun p => (k_r.below p.h).frozen 6
  have c_r_7 : ∀ p : BW W1, p.w.cell? ⟨g_r, 7, none⟩ = some (.int .i64 0) := bw_cell (k_r.cell rfl)
  have f_r_7 : ∀ p : BW W1, p.w.frozen? ⟨g_r, 7, none⟩ = false := fun p => (k_r.below p.h).frozen 7
  have c_r_8 : ∀ p : BW W1, p.w.cell? ⟨g_r, 8, none⟩ = some (.int .i64 0) := bw_cell (k_r.cell rfl)
  have f_r_8 : ∀ p : BW W1, p.w.frozen? ⟨g_r, 8, none⟩ = false := fun p => (k_r.below p.h).frozen 8
  have c_r_9 : ∀ p : BW W1, p.w.cell? ⟨g_r, 9, none⟩ = some (.int .i64 0) := bw_cell (k_r.cell rfl)
  have f_r_9 : ∀ p : BW W1, p.w.frozen? ⟨g_r, 9, none⟩ = false := fun p => (k_r.below p.h).frozen 9
  have c_r_10 : ∀ p : BW W1, p.w.cell? ⟨g_r, 10, none⟩ = some (.int .i64 0) := bw_cell (k_r.cell rfl)
  have f_r_10 : ∀ p : BW W1, p.w.frozen? ⟨g_r, 10, none⟩ = false := fun p => (k_r.below p.h).frozen 10
  have c_r_11 : ∀ p : BW W1, p.w.cell? ⟨g_r, 11, none⟩ = some (.int .i64 0) := bw_cell (k_r.cell rfl)
  have f_r_11 : ∀ p : BW W1, p.w.frozen? ⟨g_r, 11, none⟩ = false := fun p => (k_r.below p.h).frozen 11
  obtain ⟨p1, hp1⟩ : ∃ p : BW W1, p.w = W1 := ⟨BW.start W1, rfl⟩
  rw [← hp1]
  clear hp1
  have KC : ∀ p : BW W1, Calls Try.prog 27 #[.slice (some ⟨p.w.heap.size, 0, none⟩) 1 1] (p.w.alloc (.cells #[.bool true, .func (.func 34) #[] #[.pointer (some ⟨w.heap.size, 0, none⟩), .pointer (some ⟨g_d, 0, none⟩)]] 55)) fun e w' => e = .returned (.agg #[.int .i64 r, .int .i64 0, .int .i64 0, .int .i64 0, .int .i64 r, .int .i64 0, .int .i64 0, .int .i64 0, .int .i64 r, .int .i64 0, .int .i64 0, .int .i64 0]) ∧ ∃ q : BW W1, w' = q.w := fun p =>
    (pose_changed1 1 true 34 #[.pointer (some ⟨w.heap.size, 0, none⟩), .pointer (some ⟨g_d, 0, none⟩)] (pNone 16384) (((r, 0, 0), (0, r, 0), (0, 0, r), (0, 0, 0))) W1 p.w _ rfl p.h
      (enters_of Try.func34 (by kernel_rfl) rfl) rfl (fun h => absurd h (by decide))
      (fun _ w' g hB hle kp => pose_size g w.heap.size g_d n d r 16384 0 0 0 16384 0 0 0 16384 0 0 0 w' hn hd hr (((k_n.below p.h).alloc _).below hB) (Nat.lt_of_lt_of_le ((k_n.below p.h).alloc _).lt hle) (((k_d.below p.h).alloc _).below hB) (Nat.lt_of_lt_of_le ((k_d.below p.h).alloc _).lt hle) kp)).mono fun e w' h => ⟨h.1, ⟨w', h.2⟩, rfl⟩
  clear hn hd hr
  have hmf : ∀ (fn : Fn) (first cap : Array Value) (w : World), (Instr.makeFunc fn first cap).run Try.prog w = .ok (.func fn first cap) w := fun _ _ _ _ => rfl
  go_wp2_with (first
    | (go_at_call 27; (with_reducible refine (KC _).mono ?_); rintro e w' ⟨rfl, q, rfl⟩)
    | (go_at_call 33; (first | (with_reducible refine (bw_call S1.out _).mono ?_) | (with_reducible refine (bw_call S2.out _).mono ?_)); rintro e w' ⟨rfl, q, rfl⟩))
  have kr : Bk ((((((((((((q.w.setCell ⟨g_r, 0, none⟩ (.int .i64 r)).setCell ⟨g_r, 1, none⟩ (.int .i64 0)).setCell ⟨g_r, 2, none⟩ (.int .i64 0)).setCell ⟨g_r, 3, none⟩ (.int .i64 0)).setCell ⟨g_r, 4, none⟩ (.int .i64 r)).setCell ⟨g_r, 5, none⟩ (.int .i64 0)).setCell ⟨g_r, 6, none⟩ (.int .i64 0)).setCell ⟨g_r, 7, none⟩ (.int .i64 0)).setCell ⟨g_r, 8, none⟩ (.int .i64 r)).setCell ⟨g_r, 9, none⟩ (.int .i64 0)).setCell ⟨g_r, 10, none⟩ (.int .i64 0)).setCell ⟨g_r, 11, none⟩ (.int .i64 0)) (g_r) 29 #[.int .i64 r, .int .i64 0, .int .i64 0, .int .i64 0, .int .i64 r, .int .i64 0, .int .i64 0, .int .i64 0, .int .i64 r, .int .i64 0, .int .i64 0, .int .i64 0] := (((((((((((((k_r.below q.h).set 0 (.int .i64 r)).set 1 (.int .i64 0)).set 2 (.int .i64 0)).set 3 (.int .i64 0)).set 4 (.int .i64 r)).set 5 (.int .i64 0)).set 6 (.int .i64 0)).set 7 (.int .i64 0)).set 8 (.int .i64 r)).set 9 (.int .i64 0)).set 10 (.int .i64 0)).set 11 (.int .i64 0)).cast (by simp)
  have rc0 : World.cell? ((((((((((((q.w.setCell ⟨g_r, 0, none⟩ (.int .i64 r)).setCell ⟨g_r, 1, none⟩ (.int .i64 0)).setCell ⟨g_r, 2, none⟩ (.int .i64 0)).setCell ⟨g_r, 3, none⟩ (.int .i64 0)).setCell ⟨g_r, 4, none⟩ (.int .i64 r)).setCell ⟨g_r, 5, none⟩ (.int .i64 0)).setCell ⟨g_r, 6, none⟩ (.int .i64 0)).setCell ⟨g_r, 7, none⟩ (.int .i64 0)).setCell ⟨g_r, 8, none⟩ (.int .i64 r)).setCell ⟨g_r, 9, none⟩ (.int .i64 0)).setCell ⟨g_r, 10, none⟩ (.int .i64 0)).setCell ⟨g_r, 11, none⟩ (.int .i64 0)) ⟨g_r, 0, none⟩ = some (.int .i64 r) := kr.cell rfl
  have rc1 : World.cell? ((((((((((((q.w.setCell ⟨g_r, 0, none⟩ (.int .i64 r)).setCell ⟨g_r, 1, none⟩ (.int .i64 0)).setCell ⟨g_r, 2, none⟩ (.int .i64 0)).setCell ⟨g_r, 3, none⟩ (.int .i64 0)).setCell ⟨g_r, 4, none⟩ (.int .i64 r)).setCell ⟨g_r, 5, none⟩ (.int .i64 0)).setCell ⟨g_r, 6, none⟩ (.int .i64 0)).setCell ⟨g_r, 7, none⟩ (.int .i64 0)).setCell ⟨g_r, 8, none⟩ (.int .i64 r)).setCell ⟨g_r, 9, none⟩ (.int .i64 0)).setCell ⟨g_r, 10, none⟩ (.int .i64 0)).setCell ⟨g_r, 11, none⟩ (.int .i64 0)) ⟨g_r, 1, none⟩ = some (.int .i64 0) := kr.cell rfl
  have rc2 : World.cell? ((((((((((((q.w.setCell ⟨g_r, 0, none⟩ (.int .i64 r)).setCell ⟨g_r, 1, none⟩ (.int .i64 0)).setCell ⟨g_r, 2, none⟩ (.int .i64 0)).setCell ⟨g_r, 3, none⟩ (.int .i64 0)).setCell ⟨g_r, 4, none⟩ (.int .i64 r)).setCell ⟨g_r, 5, none⟩ (.int .i64 0)).setCell ⟨g_r, 6, none⟩ (.int .i64 0)).setCell ⟨g_r, 7, none⟩ (.int .i64 0)).setCell ⟨g_r, 8, none⟩ (.int .i64 r)).setCell ⟨g_r, 9, none⟩ (.int .i64 0)).setCell ⟨g_r, 10, none⟩ (.int .i64 0)).setCell ⟨g_r, 11, none⟩ (.int .i64 0)) ⟨g_r, 2, none⟩ = some (.int .i64 0) := kr.cell rfl
  have rc3 : World.cell? ((((((((((((q.w.setCell ⟨g_r, 0, none⟩ (.int .i64 r)).setCell ⟨g_r, 1, none⟩ (.int .i64 0)).setCell ⟨g_r, 2, none⟩ (.int .i64 0)).setCell ⟨g_r, 3, none⟩ (.int .i64 0)).setCell ⟨g_r, 4, none⟩ (.int .i64 r)).setCell ⟨g_r, 5, none⟩ (.int .i64 0)).setCell ⟨g_r, 6, none⟩ (.int .i64 0)).setCell ⟨g_r, 7, none⟩ (.int .i64 0)).setCell ⟨g_r, 8, none⟩ (.int .i64 r)).setCell ⟨g_r, 9, none⟩ (.int .i64 0)).setCell ⟨g_r, 10, none⟩ (.int .i64 0)).setCell ⟨g_r, 11, none⟩ (.int .i64 0)) ⟨g_r, 3, none⟩ = some (.int .i64 0) := kr.cell rfl
  have rc4 : World.cell? ((((((((((((q.w.setCell ⟨g_r, 0, none⟩ (.int .i64 r)).setCell ⟨g_r, 1, none⟩ (.int .i64 0)).setCell ⟨g_r, 2, none⟩ (.int .i64 0)).setCell ⟨g_r, 3, none⟩ (.int .i64 0)).setCell ⟨g_r, 4, none⟩ (.int .i64 r)).setCell ⟨g_r, 5, none⟩ (.int .i64 0)).setCell ⟨g_r, 6, none⟩ (.int .i64 0)).setCell ⟨g_r, 7, none⟩ (.int .i64 0)).setCell ⟨g_r, 8, none⟩ (.int .i64 r)).setCell ⟨g_r, 9, none⟩ (.int .i64 0)).setCell ⟨g_r, 10, none⟩ (.int .i64 0)).setCell ⟨g_r, 11, none⟩ (.int .i64 0)) ⟨g_r, 4, none⟩ = some (.int .i64 r) := kr.cell rfl
  have rc5 : World.cell? ((((((((((((q.w.setCell ⟨g_r, 0, none⟩ (.int .i64 r)).setCell ⟨g_r, 1, none⟩ (.int .i64 0)).setCell ⟨g_r, 2, none⟩ (.int .i64 0)).setCell ⟨g_r, 3, none⟩ (.int .i64 0)).setCell ⟨g_r, 4, none⟩ (.int .i64 r)).setCell ⟨g_r, 5, none⟩ (.int .i64 0)).setCell ⟨g_r, 6, none⟩ (.int .i64 0)).setCell ⟨g_r, 7, none⟩ (.int .i64 0)).setCell ⟨g_r, 8, none⟩ (.int .i64 r)).setCell ⟨g_r, 9, none⟩ (.int .i64 0)).setCell ⟨g_r, 10, none⟩ (.int .i64 0)).setCell ⟨g_r, 11, none⟩ (.int .i64 0)) ⟨g_r, 5, none⟩ = some (.int .i64 0) := kr.cell rfl
  have rc6 : World.cell? ((((((((((((q.w.setCell ⟨g_r, 0, none⟩ (.int .i64 r)).setCell ⟨g_r, 1, none⟩ (.int .i64 0)).setCell ⟨g_r, 2, none⟩ (.int .i64 0)).setCell ⟨g_r, 3, none⟩ (.int .i64 0)).setCell ⟨g_r, 4, none⟩ (.int .i64 r)).setCell ⟨g_r, 5, none⟩ (.int .i64 0)).setCell ⟨g_r, 6, none⟩ (.int .i64 0)).setCell ⟨g_r, 7, none⟩ (.int .i64 0)).setCell ⟨g_r, 8, none⟩ (.int .i64 r)).setCell ⟨g_r, 9, none⟩ (.int .i64 0)).setCell ⟨g_r, 10, none⟩ (.int .i64 0)).setCell ⟨g_r, 11, none⟩ (.int .i64 0)) ⟨g_r, 6, none⟩ = some (.int .i64 0) := kr.cell rfl
  have rc7 : World.cell? ((((((((((((q.w.setCell ⟨g_r, 0, none⟩ (.int .i64 r)).setCell ⟨g_r, 1, none⟩ (.int .i64 0)).setCell ⟨g_r, 2, none⟩ (.int .i64 0)).setCell ⟨g_r, 3, none⟩ (.int .i64 0)).setCell ⟨g_r, 4, none⟩ (.int .i64 r)).setCell ⟨g_r, 5, none⟩ (.int .i64 0)).setCell ⟨g_r, 6, none⟩ (.int .i64 0)).setCell ⟨g_r, 7, none⟩ (.int .i64 0)).setCell ⟨g_r, 8, none⟩ (.int .i64 r)).setCell ⟨g_r, 9, none⟩ (.int .i64 0)).setCell ⟨g_r, 10, none⟩ (.int .i64 0)).setCell ⟨g_r, 11, none⟩ (.int .i64 0)) ⟨g_r, 7, none⟩ = some (.int .i64 0) := kr.cell rfl
  have rc8 : World.cell? ((((((((((((q.w.setCell ⟨g_r, 0, none⟩ (.int .i64 r)).setCell ⟨g_r, 1, none⟩ (.int .i64 0)).setCell ⟨g_r, 2, none⟩ (.int .i64 0)).setCell ⟨g_r, 3, none⟩ (.int .i64 0)).setCell ⟨g_r, 4, none⟩ (.int .i64 r)).setCell ⟨g_r, 5, none⟩ (.int .i64 0)).setCell ⟨g_r, 6, none⟩ (.int .i64 0)).setCell ⟨g_r, 7, none⟩ (.int .i64 0)).setCell ⟨g_r, 8, none⟩ (.int .i64 r)).setCell ⟨g_r, 9, none⟩ (.int .i64 0)).setCell ⟨g_r, 10, none⟩ (.int .i64 0)).setCell ⟨g_r, 11, none⟩ (.int .i64 0)) ⟨g_r, 8, none⟩ = some (.int .i64 r) := kr.cell rfl
  have rc9 : World.cell? ((((((((((((q.w.setCell ⟨g_r, 0, none⟩ (.int .i64 r)).setCell ⟨g_r, 1, none⟩ (.int .i64 0)).setCell ⟨g_r, 2, none⟩ (.int .i64 0)).setCell ⟨g_r, 3, none⟩ (.int .i64 0)).setCell ⟨g_r, 4, none⟩ (.int .i64 r)).setCell ⟨g_r, 5, none⟩ (.int .i64 0)).setCell ⟨g_r, 6, none⟩ (.int .i64 0)).setCell ⟨g_r, 7, none⟩ (.int .i64 0)).setCell ⟨g_r, 8, none⟩ (.int .i64 r)).setCell ⟨g_r, 9, none⟩ (.int .i64 0)).setCell ⟨g_r, 10, none⟩ (.int .i64 0)).setCell ⟨g_r, 11, none⟩ (.int .i64 0)) ⟨g_r, 9, none⟩ = some (.int .i64 0) := kr.cell rfl
  have rc10 : World.cell? ((((((((((((q.w.setCell ⟨g_r, 0, none⟩ (.int .i64 r)).setCell ⟨g_r, 1, none⟩ (.int .i64 0)).setCell ⟨g_r, 2, none⟩ (.int .i64 0)).setCell ⟨g_r, 3, none⟩ (.int .i64 0)).setCell ⟨g_r, 4, none⟩ (.int .i64 r)).setCell ⟨g_r, 5, none⟩ (.int .i64 0)).setCell ⟨g_r, 6, none⟩ (.int .i64 0)).setCell ⟨g_r, 7, none⟩ (.int .i64 0)).setCell ⟨g_r, 8, none⟩ (.int .i64 r)).setCell ⟨g_r, 9, none⟩ (.int .i64 0)).setCell ⟨g_r, 10, none⟩ (.int .i64 0)).setCell ⟨g_r, 11, none⟩ (.int .i64 0)) ⟨g_r, 10, none⟩ = some (.int .i64 0) := kr.cell rfl
  have rc11 : World.cell? ((((((((((((q.w.setCell ⟨g_r, 0, none⟩ (.int .i64 r)).setCell ⟨g_r, 1, none⟩ (.int .i64 0)).setCell ⟨g_r, 2, none⟩ (.int .i64 0)).setCell ⟨g_r, 3, none⟩ (.int .i64 0)).setCell ⟨g_r, 4, none⟩ (.int .i64 r)).setCell ⟨g_r, 5, none⟩ (.int .i64 0)).setCell ⟨g_r, 6, none⟩ (.int .i64 0)).setCell ⟨g_r, 7, none⟩ (.int .i64 0)).setCell ⟨g_r, 8, none⟩ (.int .i64 r)).setCell ⟨g_r, 9, none⟩ (.int .i64 0)).setCell ⟨g_r, 10, none⟩ (.int .i64 0)).setCell ⟨g_r, 11, none⟩ (.int .i64 0)) ⟨g_r, 11, none⟩ = some (.int .i64 0) := kr.cell rfl
  exact bodyPost_ret (v := .agg #[.int .i64 r, .int .i64 0, .int .i64 0, .int .i64 0, .int .i64 r, .int .i64 0, .int .i64 0, .int .i64 0, .int .i64 r, .int .i64 0, .int .i64 0, .int .i64 0]) (by simp [results, Try.results14, go_sem, rc0, rc1, rc2, rc3, rc4, rc5, rc6, rc7, rc8, rc9, rc10, rc11]) rfl ⟨rfl, (((((((((((((bw_below B1 q).setCell (p := ⟨g_r, 0, none⟩) (by show w.heap.size ≤ g_r; omega) _).setCell (p := ⟨g_r, 1, none⟩) (by show w.heap.size ≤ g_r; omega) _).setCell (p := ⟨g_r, 2, none⟩) (by show w.heap.size ≤ g_r; omega) _).setCell (p := ⟨g_r, 3, none⟩) (by show w.heap.size ≤ g_r; omega) _).setCell (p := ⟨g_r, 4, none⟩) (by show w.heap.size ≤ g_r; omega) _).setCell (p := ⟨g_r, 5, none⟩) (by show w.heap.size ≤ g_r; omega) _).setCell (p := ⟨g_r, 6, none⟩) (by show w.heap.size ≤ g_r; omega) _).setCell (p := ⟨g_r, 7, none⟩) (by show w.heap.size ≤ g_r; omega) _).setCell (p := ⟨g_r, 8, none⟩) (by show w.heap.size ≤ g_r; omega) _).setCell (p := ⟨g_r, 9, none⟩) (by show w.heap.size ≤ g_r; omega) _).setCell (p := ⟨g_r, 10, none⟩) (by show w.heap.size ≤ g_r; omega) _).setCell (p := ⟨g_r, 11, none⟩) (by show w.heap.size ≤ g_r; omega) _)⟩

theorem pose_Sized (n d : Int) (w : World) (_ : I64 n) (_ : I64 d) :
    Calls Try.prog 14 #[.int .i64 n, .int .i64 d] w fun e w' => e = .returned (.agg (p12 (pSized n d))) ∧ Below w.heap.size w w' := by
  unfold pSized
  by_cases hn : 1 ≤ n ∧ n ≤ 64
  · by_cases hd : 1 ≤ d ∧ d ≤ 64
    · rw [if_pos ⟨hn.1, hd.1, hn.2, hd.2⟩]; exact pose_Sized_11 n d _ w hn hd rfl
    · rw [if_neg (fun h => hd ⟨h.2.1, h.2.2.2⟩)]; exact pose_Sized_10 n d w hn hd
  · rw [if_neg (fun h => hn ⟨h.1, h.2.2.1⟩)]; exact pose_Sized_00 n d w hn

set_option maxRecDepth 100000 in
set_option maxHeartbeats 4000000 in
theorem pose_Moved_0 (x y z : Int) (w : World) (h : vnear x y z = false) :
    Calls Try.prog 21 #[.agg #[.int .i64 x, .int .i64 y, .int .i64 z]] w fun e w' => e = .returned (.agg #[.int .i64 16384, .int .i64 0, .int .i64 0, .int .i64 0, .int .i64 16384, .int .i64 0, .int .i64 0, .int .i64 0, .int .i64 16384, .int .i64 0, .int .i64 0, .int .i64 0]) ∧ Below w.heap.size w w' := by
  have N := Lib.hid (fun w => vec_Near x y z w)
  rw [h] at N
  clear h
  go_enter Try.func21, Try.ntmps21
  go_upto_region 1 with (fail)
  obtain ⟨W1, hW1⟩ : ∃ W, W = (w.alloc (.cells #[.int .i64 x, .int .i64 y, .int .i64 z] 23)).alloc (.cells #[.int .i64 0, .int .i64 0, .int .i64 0, .int .i64 0, .int .i64 0, .int .i64 0, .int .i64 0, .int .i64 0, .int .i64 0, .int .i64 0, .int .i64 0, .int .i64 0] 29) := ⟨_, rfl⟩
  have B1 : Below w.heap.size w W1 := by rw [hW1]; go_grown
  have k_v : Bk W1 (w.heap.size) 23 #[.int .i64 x, .int .i64 y, .int .i64 z] := by rw [hW1]; exact (Bk.new _ _ _).alloc _
  have k_r : Bk W1 (w.heap.size + 1) 29 #[.int .i64 0, .int .i64 0, .int .i64 0, .int .i64 0, .int .i64 0, .int .i64 0, .int .i64 0, .int .i64 0, .int .i64 0, .int .i64 0, .int .i64 0, .int .i64 0] := by rw [hW1]; exact Bk.new_at _ _ _ _ (by simp)
  rw [← hW1]
  clear hW1
  have l_r : w.heap.size < w.heap.size + 1 := by omega
  generalize w.heap.size + 1 = g_r at *
  have c_v_0 : ∀ p : BW W1, p.w.cell? ⟨w.heap.size, 0, none⟩ = some (.int .i64 x) := bw_cell (k_v.cell rfl)
  have c_v_1 : ∀ p : BW W1, p.w.cell? ⟨w.heap.size, 1, none⟩ = some (.int .i64 y) := bw_cell (k_v.cell rfl)
  have c_v_2 : ∀ p : BW W1, p.w.cell? ⟨w.heap.size, 2, none⟩ = some (.int .i64 z) := bw_cell (k_v.cell rfl)
  have c_r_0 : ∀ p : BW W1, p.w.cell? ⟨g_r, 0, none⟩ = some (.int .i64 0) := bw_cell (k_r.cell rfl)
  have f_r_0 : ∀ p : BW W1, p.w.frozen? ⟨g_r, 0, none⟩ = false := fun p => (k_r.below p.h).frozen 0
  have c_r_1 : ∀ p : BW W1, p.w.cell? ⟨g_r, 1, none⟩ = some (.int .i64 0) := bw_cell (k_r.cell rfl)
  have f_r_1 : ∀ p : BW W1, p.w.frozen? ⟨g_r, 1, none⟩ = false := fun p => (k_r.below p.h).frozen 1
  have c_r_2 : ∀ p : BW W1, p.w.cell? ⟨g_r, 2, none⟩ = some (.int .i64 0) := bw_cell (k_r.cell rfl)
  have f_r_2 : ∀ p : BW W1, p.w.frozen? ⟨g_r, 2, none⟩ = false := fun p => (k_r.below p.h).frozen 2
  have c_r_3 : ∀ p : BW W1, p.w.cell? ⟨g_r, 3, none⟩ = some (.int .i64 0) := bw_cell (k_r.cell rfl)
  have f_r_3 : ∀ p : BW W1, p.w.frozen? ⟨g_r, 3, none⟩ = false := fun p => (k_r.below p.h).frozen 3
  have c_r_4 : ∀ p : BW W1, p.w.cell? ⟨g_r, 4, none⟩ = some (.int .i64 0) := bw_cell (k_r.cell rfl)
  have f_r_4 : ∀ p : BW W1, p.w.frozen? ⟨g_r, 4, none⟩ = false := fun p => (k_r.below p.h).frozen 4
  have c_r_5 : ∀ p : BW W1, p.w.cell? ⟨g_r, 5, none⟩ = some (.int .i64 0) := bw_cell (k_r.cell rfl)
  have f_r_5 : ∀ p : BW W1, p.w.frozen? ⟨g_r, 5, none⟩ = false := fun p => (k_r.below p.h).frozen 5
  have c_r_6 : ∀ p : BW W1, p.w.cell? ⟨g_r, 6, none⟩ = some (.int .i64 0) := bw_cell (k_r.cell rfl)
  have f_r_6 : ∀ p : BW W1, p.w.frozen? ⟨g_r, 6, none⟩ = false := fun p => (k_r.below p.h).frozen 6
  have c_r_7 : ∀ p : BW W1, p.w.cell? ⟨g_r, 7, none⟩ = some (.int .i64 0) := bw_cell (k_r.cell rfl)
  have f_r_7 : ∀ p : BW W1, p.w.frozen? ⟨g_r, 7, none⟩ = false := fun p => (k_r.below p.h).frozen 7
  have c_r_8 : ∀ p : BW W1, p.w.cell? ⟨g_r, 8, none⟩ = some (.int .i64 0) := bw_cell (k_r.cell rfl)
  have f_r_8 : ∀ p : BW W1, p.w.frozen? ⟨g_r, 8, none⟩ = false := fun p => (k_r.below p.h).frozen 8
  have c_r_9 : ∀ p : BW W1, p.w.cell? ⟨g_r, 9, none⟩ = some (.int .i64 0) := bw_cell (k_r.cell rfl)
  have f_r_9 : ∀ p : BW W1, p.w.frozen? ⟨g_r, 9, none⟩ = false := fun p => (k_r.below p.h).frozen 9
  have c_r_10 : ∀ p : BW W1, p.w.cell? ⟨g_r, 10, none⟩ = some (.int .i64 0) := bw_cell (k_r.cell rfl)
  have f_r_10 : ∀ p : BW W1, p.w.frozen? ⟨g_r, 10, none⟩ = false := fun p => (k_r.below p.h).frozen 10
  have c_r_11 : ∀ p : BW W1, p.w.cell? ⟨g_r, 11, none⟩ = some (.int .i64 0) := bw_cell (k_r.cell rfl)
  have f_r_11 : ∀ p : BW W1, p.w.frozen? ⟨g_r, 11, none⟩ = false := fun p => (k_r.below p.h).frozen 11
  obtain ⟨p1, hp1⟩ : ∃ p : BW W1, p.w = W1 := ⟨BW.start W1, rfl⟩
  rw [← hp1]
  clear hp1
  have KC : ∀ p : BW W1, Calls Try.prog 27 #[.slice (some ⟨p.w.heap.size, 0, none⟩) 1 1] (p.w.alloc (.cells #[.bool false, .func (.func 42) #[] #[.pointer (some ⟨w.heap.size, 0, none⟩)]] 55)) fun e w' => e = .returned (.agg #[.int .i64 16384, .int .i64 0, .int .i64 0, .int .i64 0, .int .i64 16384, .int .i64 0, .int .i64 0, .int .i64 0, .int .i64 16384, .int .i64 0, .int .i64 0, .int .i64 0]) ∧ ∃ q : BW W1, w' = q.w := fun p =>
    (pose_changed1 1 false 42 #[.pointer (some ⟨w.heap.size, 0, none⟩)] (pNone 16384) (pNone 16384) W1 p.w _ rfl p.h
      (enters_of Try.func42 (by kernel_rfl) rfl) rfl (fun _ => rfl)
      (fun h => absurd h (by decide))).mono fun e w' h => ⟨h.1, ⟨w', h.2⟩, rfl⟩
  have hmf : ∀ (fn : Fn) (first cap : Array Value) (w : World), (Instr.makeFunc fn first cap).run Try.prog w = .ok (.func fn first cap) w := fun _ _ _ _ => rfl
  go_wp2_with (first
    | (go_at_call 27; (with_reducible refine (KC _).mono ?_); rintro e w' ⟨rfl, q, rfl⟩)
    | (go_at_call 24; (first | (with_reducible refine (bw_call N.out _).mono ?_)); rintro e w' ⟨rfl, q, rfl⟩))
  have kr : Bk ((((((((((((q.w.setCell ⟨g_r, 0, none⟩ (.int .i64 16384)).setCell ⟨g_r, 1, none⟩ (.int .i64 0)).setCell ⟨g_r, 2, none⟩ (.int .i64 0)).setCell ⟨g_r, 3, none⟩ (.int .i64 0)).setCell ⟨g_r, 4, none⟩ (.int .i64 16384)).setCell ⟨g_r, 5, none⟩ (.int .i64 0)).setCell ⟨g_r, 6, none⟩ (.int .i64 0)).setCell ⟨g_r, 7, none⟩ (.int .i64 0)).setCell ⟨g_r, 8, none⟩ (.int .i64 16384)).setCell ⟨g_r, 9, none⟩ (.int .i64 0)).setCell ⟨g_r, 10, none⟩ (.int .i64 0)).setCell ⟨g_r, 11, none⟩ (.int .i64 0)) (g_r) 29 #[.int .i64 16384, .int .i64 0, .int .i64 0, .int .i64 0, .int .i64 16384, .int .i64 0, .int .i64 0, .int .i64 0, .int .i64 16384, .int .i64 0, .int .i64 0, .int .i64 0] := (((((((((((((k_r.below q.h).set 0 (.int .i64 16384)).set 1 (.int .i64 0)).set 2 (.int .i64 0)).set 3 (.int .i64 0)).set 4 (.int .i64 16384)).set 5 (.int .i64 0)).set 6 (.int .i64 0)).set 7 (.int .i64 0)).set 8 (.int .i64 16384)).set 9 (.int .i64 0)).set 10 (.int .i64 0)).set 11 (.int .i64 0)).cast (by simp)
  have rc0 : World.cell? ((((((((((((q.w.setCell ⟨g_r, 0, none⟩ (.int .i64 16384)).setCell ⟨g_r, 1, none⟩ (.int .i64 0)).setCell ⟨g_r, 2, none⟩ (.int .i64 0)).setCell ⟨g_r, 3, none⟩ (.int .i64 0)).setCell ⟨g_r, 4, none⟩ (.int .i64 16384)).setCell ⟨g_r, 5, none⟩ (.int .i64 0)).setCell ⟨g_r, 6, none⟩ (.int .i64 0)).setCell ⟨g_r, 7, none⟩ (.int .i64 0)).setCell ⟨g_r, 8, none⟩ (.int .i64 16384)).setCell ⟨g_r, 9, none⟩ (.int .i64 0)).setCell ⟨g_r, 10, none⟩ (.int .i64 0)).setCell ⟨g_r, 11, none⟩ (.int .i64 0)) ⟨g_r, 0, none⟩ = some (.int .i64 16384) := kr.cell rfl
  have rc1 : World.cell? ((((((((((((q.w.setCell ⟨g_r, 0, none⟩ (.int .i64 16384)).setCell ⟨g_r, 1, none⟩ (.int .i64 0)).setCell ⟨g_r, 2, none⟩ (.int .i64 0)).setCell ⟨g_r, 3, none⟩ (.int .i64 0)).setCell ⟨g_r, 4, none⟩ (.int .i64 16384)).setCell ⟨g_r, 5, none⟩ (.int .i64 0)).setCell ⟨g_r, 6, none⟩ (.int .i64 0)).setCell ⟨g_r, 7, none⟩ (.int .i64 0)).setCell ⟨g_r, 8, none⟩ (.int .i64 16384)).setCell ⟨g_r, 9, none⟩ (.int .i64 0)).setCell ⟨g_r, 10, none⟩ (.int .i64 0)).setCell ⟨g_r, 11, none⟩ (.int .i64 0)) ⟨g_r, 1, none⟩ = some (.int .i64 0) := kr.cell rfl
  have rc2 : World.cell? ((((((((((((q.w.setCell ⟨g_r, 0, none⟩ (.int .i64 16384)).setCell ⟨g_r, 1, none⟩ (.int .i64 0)).setCell ⟨g_r, 2, none⟩ (.int .i64 0)).setCell ⟨g_r, 3, none⟩ (.int .i64 0)).setCell ⟨g_r, 4, none⟩ (.int .i64 16384)).setCell ⟨g_r, 5, none⟩ (.int .i64 0)).setCell ⟨g_r, 6, none⟩ (.int .i64 0)).setCell ⟨g_r, 7, none⟩ (.int .i64 0)).setCell ⟨g_r, 8, none⟩ (.int .i64 16384)).setCell ⟨g_r, 9, none⟩ (.int .i64 0)).setCell ⟨g_r, 10, none⟩ (.int .i64 0)).setCell ⟨g_r, 11, none⟩ (.int .i64 0)) ⟨g_r, 2, none⟩ = some (.int .i64 0) := kr.cell rfl
  have rc3 : World.cell? ((((((((((((q.w.setCell ⟨g_r, 0, none⟩ (.int .i64 16384)).setCell ⟨g_r, 1, none⟩ (.int .i64 0)).setCell ⟨g_r, 2, none⟩ (.int .i64 0)).setCell ⟨g_r, 3, none⟩ (.int .i64 0)).setCell ⟨g_r, 4, none⟩ (.int .i64 16384)).setCell ⟨g_r, 5, none⟩ (.int .i64 0)).setCell ⟨g_r, 6, none⟩ (.int .i64 0)).setCell ⟨g_r, 7, none⟩ (.int .i64 0)).setCell ⟨g_r, 8, none⟩ (.int .i64 16384)).setCell ⟨g_r, 9, none⟩ (.int .i64 0)).setCell ⟨g_r, 10, none⟩ (.int .i64 0)).setCell ⟨g_r, 11, none⟩ (.int .i64 0)) ⟨g_r, 3, none⟩ = some (.int .i64 0) := kr.cell rfl
  have rc4 : World.cell? ((((((((((((q.w.setCell ⟨g_r, 0, none⟩ (.int .i64 16384)).setCell ⟨g_r, 1, none⟩ (.int .i64 0)).setCell ⟨g_r, 2, none⟩ (.int .i64 0)).setCell ⟨g_r, 3, none⟩ (.int .i64 0)).setCell ⟨g_r, 4, none⟩ (.int .i64 16384)).setCell ⟨g_r, 5, none⟩ (.int .i64 0)).setCell ⟨g_r, 6, none⟩ (.int .i64 0)).setCell ⟨g_r, 7, none⟩ (.int .i64 0)).setCell ⟨g_r, 8, none⟩ (.int .i64 16384)).setCell ⟨g_r, 9, none⟩ (.int .i64 0)).setCell ⟨g_r, 10, none⟩ (.int .i64 0)).setCell ⟨g_r, 11, none⟩ (.int .i64 0)) ⟨g_r, 4, none⟩ = some (.int .i64 16384) := kr.cell rfl
  have rc5 : World.cell? ((((((((((((q.w.setCell ⟨g_r, 0, none⟩ (.int .i64 16384)).setCell ⟨g_r, 1, none⟩ (.int .i64 0)).setCell ⟨g_r, 2, none⟩ (.int .i64 0)).setCell ⟨g_r, 3, none⟩ (.int .i64 0)).setCell ⟨g_r, 4, none⟩ (.int .i64 16384)).setCell ⟨g_r, 5, none⟩ (.int .i64 0)).setCell ⟨g_r, 6, none⟩ (.int .i64 0)).setCell ⟨g_r, 7, none⟩ (.int .i64 0)).setCell ⟨g_r, 8, none⟩ (.int .i64 16384)).setCell ⟨g_r, 9, none⟩ (.int .i64 0)).setCell ⟨g_r, 10, none⟩ (.int .i64 0)).setCell ⟨g_r, 11, none⟩ (.int .i64 0)) ⟨g_r, 5, none⟩ = some (.int .i64 0) := kr.cell rfl
  have rc6 : World.cell? ((((((((((((q.w.setCell ⟨g_r, 0, none⟩ (.int .i64 16384)).setCell ⟨g_r, 1, none⟩ (.int .i64 0)).setCell ⟨g_r, 2, none⟩ (.int .i64 0)).setCell ⟨g_r, 3, none⟩ (.int .i64 0)).setCell ⟨g_r, 4, none⟩ (.int .i64 16384)).setCell ⟨g_r, 5, none⟩ (.int .i64 0)).setCell ⟨g_r, 6, none⟩ (.int .i64 0)).setCell ⟨g_r, 7, none⟩ (.int .i64 0)).setCell ⟨g_r, 8, none⟩ (.int .i64 16384)).setCell ⟨g_r, 9, none⟩ (.int .i64 0)).setCell ⟨g_r, 10, none⟩ (.int .i64 0)).setCell ⟨g_r, 11, none⟩ (.int .i64 0)) ⟨g_r, 6, none⟩ = some (.int .i64 0) := kr.cell rfl
  have rc7 : World.cell? ((((((((((((q.w.setCell ⟨g_r, 0, none⟩ (.int .i64 16384)).setCell ⟨g_r, 1, none⟩ (.int .i64 0)).setCell ⟨g_r, 2, none⟩ (.int .i64 0)).setCell ⟨g_r, 3, none⟩ (.int .i64 0)).setCell ⟨g_r, 4, none⟩ (.int .i64 16384)).setCell ⟨g_r, 5, none⟩ (.int .i64 0)).setCell ⟨g_r, 6, none⟩ (.int .i64 0)).setCell ⟨g_r, 7, none⟩ (.int .i64 0)).setCell ⟨g_r, 8, none⟩ (.int .i64 16384)).setCell ⟨g_r, 9, none⟩ (.int .i64 0)).setCell ⟨g_r, 10, none⟩ (.int .i64 0)).setCell ⟨g_r, 11, none⟩ (.int .i64 0)) ⟨g_r, 7, none⟩ = some (.int .i64 0) := kr.cell rfl
  have rc8 : World.cell? ((((((((((((q.w.setCell ⟨g_r, 0, none⟩ (.int .i64 16384)).setCell ⟨g_r, 1, none⟩ (.int .i64 0)).setCell ⟨g_r, 2, none⟩ (.int .i64 0)).setCell ⟨g_r, 3, none⟩ (.int .i64 0)).setCell ⟨g_r, 4, none⟩ (.int .i64 16384)).setCell ⟨g_r, 5, none⟩ (.int .i64 0)).setCell ⟨g_r, 6, none⟩ (.int .i64 0)).setCell ⟨g_r, 7, none⟩ (.int .i64 0)).setCell ⟨g_r, 8, none⟩ (.int .i64 16384)).setCell ⟨g_r, 9, none⟩ (.int .i64 0)).setCell ⟨g_r, 10, none⟩ (.int .i64 0)).setCell ⟨g_r, 11, none⟩ (.int .i64 0)) ⟨g_r, 8, none⟩ = some (.int .i64 16384) := kr.cell rfl
  have rc9 : World.cell? ((((((((((((q.w.setCell ⟨g_r, 0, none⟩ (.int .i64 16384)).setCell ⟨g_r, 1, none⟩ (.int .i64 0)).setCell ⟨g_r, 2, none⟩ (.int .i64 0)).setCell ⟨g_r, 3, none⟩ (.int .i64 0)).setCell ⟨g_r, 4, none⟩ (.int .i64 16384)).setCell ⟨g_r, 5, none⟩ (.int .i64 0)).setCell ⟨g_r, 6, none⟩ (.int .i64 0)).setCell ⟨g_r, 7, none⟩ (.int .i64 0)).setCell ⟨g_r, 8, none⟩ (.int .i64 16384)).setCell ⟨g_r, 9, none⟩ (.int .i64 0)).setCell ⟨g_r, 10, none⟩ (.int .i64 0)).setCell ⟨g_r, 11, none⟩ (.int .i64 0)) ⟨g_r, 9, none⟩ = some (.int .i64 0) := kr.cell rfl
  have rc10 : World.cell? ((((((((((((q.w.setCell ⟨g_r, 0, none⟩ (.int .i64 16384)).setCell ⟨g_r, 1, none⟩ (.int .i64 0)).setCell ⟨g_r, 2, none⟩ (.int .i64 0)).setCell ⟨g_r, 3, none⟩ (.int .i64 0)).setCell ⟨g_r, 4, none⟩ (.int .i64 16384)).setCell ⟨g_r, 5, none⟩ (.int .i64 0)).setCell ⟨g_r, 6, none⟩ (.int .i64 0)).setCell ⟨g_r, 7, none⟩ (.int .i64 0)).setCell ⟨g_r, 8, none⟩ (.int .i64 16384)).setCell ⟨g_r, 9, none⟩ (.int .i64 0)).setCell ⟨g_r, 10, none⟩ (.int .i64 0)).setCell ⟨g_r, 11, none⟩ (.int .i64 0)) ⟨g_r, 10, none⟩ = some (.int .i64 0) := kr.cell rfl
  have rc11 : World.cell? ((((((((((((q.w.setCell ⟨g_r, 0, none⟩ (.int .i64 16384)).setCell ⟨g_r, 1, none⟩ (.int .i64 0)).setCell ⟨g_r, 2, none⟩ (.int .i64 0)).setCell ⟨g_r, 3, none⟩ (.int .i64 0)).setCell ⟨g_r, 4, none⟩ (.int .i64 16384)).setCell ⟨g_r, 5, none⟩ (.int .i64 0)).setCell ⟨g_r, 6, none⟩ (.int .i64 0)).setCell ⟨g_r, 7, none⟩ (.int .i64 0)).setCell ⟨g_r, 8, none⟩ (.int .i64 16384)).setCell ⟨g_r, 9, none⟩ (.int .i64 0)).setCell ⟨g_r, 10, none⟩ (.int .i64 0)).setCell ⟨g_r, 11, none⟩ (.int .i64 0)) ⟨g_r, 11, none⟩ = some (.int .i64 0) := kr.cell rfl
  exact bodyPost_ret (v := .agg #[.int .i64 16384, .int .i64 0, .int .i64 0, .int .i64 0, .int .i64 16384, .int .i64 0, .int .i64 0, .int .i64 0, .int .i64 16384, .int .i64 0, .int .i64 0, .int .i64 0]) (by simp [results, Try.results21, go_sem, rc0, rc1, rc2, rc3, rc4, rc5, rc6, rc7, rc8, rc9, rc10, rc11]) rfl ⟨rfl, (((((((((((((bw_below B1 q).setCell (p := ⟨g_r, 0, none⟩) (by show w.heap.size ≤ g_r; omega) _).setCell (p := ⟨g_r, 1, none⟩) (by show w.heap.size ≤ g_r; omega) _).setCell (p := ⟨g_r, 2, none⟩) (by show w.heap.size ≤ g_r; omega) _).setCell (p := ⟨g_r, 3, none⟩) (by show w.heap.size ≤ g_r; omega) _).setCell (p := ⟨g_r, 4, none⟩) (by show w.heap.size ≤ g_r; omega) _).setCell (p := ⟨g_r, 5, none⟩) (by show w.heap.size ≤ g_r; omega) _).setCell (p := ⟨g_r, 6, none⟩) (by show w.heap.size ≤ g_r; omega) _).setCell (p := ⟨g_r, 7, none⟩) (by show w.heap.size ≤ g_r; omega) _).setCell (p := ⟨g_r, 8, none⟩) (by show w.heap.size ≤ g_r; omega) _).setCell (p := ⟨g_r, 9, none⟩) (by show w.heap.size ≤ g_r; omega) _).setCell (p := ⟨g_r, 10, none⟩) (by show w.heap.size ≤ g_r; omega) _).setCell (p := ⟨g_r, 11, none⟩) (by show w.heap.size ≤ g_r; omega) _)⟩

set_option maxRecDepth 100000 in
set_option maxHeartbeats 4000000 in
theorem pose_Moved_1 (x y z : Int) (w : World) (h : vnear x y z = true) :
    Calls Try.prog 21 #[.agg #[.int .i64 x, .int .i64 y, .int .i64 z]] w fun e w' => e = .returned (.agg #[.int .i64 16384, .int .i64 0, .int .i64 0, .int .i64 0, .int .i64 16384, .int .i64 0, .int .i64 0, .int .i64 0, .int .i64 16384, .int .i64 x, .int .i64 y, .int .i64 z]) ∧ Below w.heap.size w w' := by
  have N := Lib.hid (fun w => vec_Near x y z w)
  rw [h] at N
  clear h
  go_enter Try.func21, Try.ntmps21
  go_upto_region 1 with (fail)
  obtain ⟨W1, hW1⟩ : ∃ W, W = (w.alloc (.cells #[.int .i64 x, .int .i64 y, .int .i64 z] 23)).alloc (.cells #[.int .i64 0, .int .i64 0, .int .i64 0, .int .i64 0, .int .i64 0, .int .i64 0, .int .i64 0, .int .i64 0, .int .i64 0, .int .i64 0, .int .i64 0, .int .i64 0] 29) := ⟨_, rfl⟩
  have B1 : Below w.heap.size w W1 := by rw [hW1]; go_grown
  have k_v : Bk W1 (w.heap.size) 23 #[.int .i64 x, .int .i64 y, .int .i64 z] := by rw [hW1]; exact (Bk.new _ _ _).alloc _
  have k_r : Bk W1 (w.heap.size + 1) 29 #[.int .i64 0, .int .i64 0, .int .i64 0, .int .i64 0, .int .i64 0, .int .i64 0, .int .i64 0, .int .i64 0, .int .i64 0, .int .i64 0, .int .i64 0, .int .i64 0] := by rw [hW1]; exact Bk.new_at _ _ _ _ (by simp)
  rw [← hW1]
  clear hW1
  have l_r : w.heap.size < w.heap.size + 1 := by omega
  generalize w.heap.size + 1 = g_r at *
  have c_v_0 : ∀ p : BW W1, p.w.cell? ⟨w.heap.size, 0, none⟩ = some (.int .i64 x) := bw_cell (k_v.cell rfl)
  have c_v_1 : ∀ p : BW W1, p.w.cell? ⟨w.heap.size, 1, none⟩ = some (.int .i64 y) := bw_cell (k_v.cell rfl)
  have c_v_2 : ∀ p : BW W1, p.w.cell? ⟨w.heap.size, 2, none⟩ = some (.int .i64 z) := bw_cell (k_v.cell rfl)
  have c_r_0 : ∀ p : BW W1, p.w.cell? ⟨g_r, 0, none⟩ = some (.int .i64 0) := bw_cell (k_r.cell rfl)
  have f_r_0 : ∀ p : BW W1, p.w.frozen? ⟨g_r, 0, none⟩ = false := fun p => (k_r.below p.h).frozen 0
  have c_r_1 : ∀ p : BW W1, p.w.cell? ⟨g_r, 1, none⟩ = some (.int .i64 0) := bw_cell (k_r.cell rfl)
  have f_r_1 : ∀ p : BW W1, p.w.frozen? ⟨g_r, 1, none⟩ = false := fun p => (k_r.below p.h).frozen 1
  have c_r_2 : ∀ p : BW W1, p.w.cell? ⟨g_r, 2, none⟩ = some (.int .i64 0) := bw_cell (k_r.cell rfl)
  have f_r_2 : ∀ p : BW W1, p.w.frozen? ⟨g_r, 2, none⟩ = false := fun p => (k_r.below p.h).frozen 2
  have c_r_3 : ∀ p : BW W1, p.w.cell? ⟨g_r, 3, none⟩ = some (.int .i64 0) := bw_cell (k_r.cell rfl)
  have f_r_3 : ∀ p : BW W1, p.w.frozen? ⟨g_r, 3, none⟩ = false := fun p => (k_r.below p.h).frozen 3
  have c_r_4 : ∀ p : BW W1, p.w.cell? ⟨g_r, 4, none⟩ = some (.int .i64 0) := bw_cell (k_r.cell rfl)
  have f_r_4 : ∀ p : BW W1, p.w.frozen? ⟨g_r, 4, none⟩ = false := fun p => (k_r.below p.h).frozen 4
  have c_r_5 : ∀ p : BW W1, p.w.cell? ⟨g_r, 5, none⟩ = some (.int .i64 0) := bw_cell (k_r.cell rfl)
  have f_r_5 : ∀ p : BW W1, p.w.frozen? ⟨g_r, 5, none⟩ = false := fun p => (k_r.below p.h).frozen 5
  have c_r_6 : ∀ p : BW W1, p.w.cell? ⟨g_r, 6, none⟩ = some (.int .i64 0) := bw_cell (k_r.cell rfl)
  have f_r_6 : ∀ p : BW W1, p.w.frozen? ⟨g_r, 6, none⟩ = false := fun p => (k_r.below p.h).frozen 6
  have c_r_7 : ∀ p : BW W1, p.w.cell? ⟨g_r, 7, none⟩ = some (.int .i64 0) := bw_cell (k_r.cell rfl)
  have f_r_7 : ∀ p : BW W1, p.w.frozen? ⟨g_r, 7, none⟩ = false := fun p => (k_r.below p.h).frozen 7
  have c_r_8 : ∀ p : BW W1, p.w.cell? ⟨g_r, 8, none⟩ = some (.int .i64 0) := bw_cell (k_r.cell rfl)
  have f_r_8 : ∀ p : BW W1, p.w.frozen? ⟨g_r, 8, none⟩ = false := fun p => (k_r.below p.h).frozen 8
  have c_r_9 : ∀ p : BW W1, p.w.cell? ⟨g_r, 9, none⟩ = some (.int .i64 0) := bw_cell (k_r.cell rfl)
  have f_r_9 : ∀ p : BW W1, p.w.frozen? ⟨g_r, 9, none⟩ = false := fun p => (k_r.below p.h).frozen 9
  have c_r_10 : ∀ p : BW W1, p.w.cell? ⟨g_r, 10, none⟩ = some (.int .i64 0) := bw_cell (k_r.cell rfl)
  have f_r_10 : ∀ p : BW W1, p.w.frozen? ⟨g_r, 10, none⟩ = false := fun p => (k_r.below p.h).frozen 10
  have c_r_11 : ∀ p : BW W1, p.w.cell? ⟨g_r, 11, none⟩ = some (.int .i64 0) := bw_cell (k_r.cell rfl)
  have f_r_11 : ∀ p : BW W1, p.w.frozen? ⟨g_r, 11, none⟩ = false := fun p => (k_r.below p.h).frozen 11
  obtain ⟨p1, hp1⟩ : ∃ p : BW W1, p.w = W1 := ⟨BW.start W1, rfl⟩
  rw [← hp1]
  clear hp1
  have KC : ∀ p : BW W1, Calls Try.prog 27 #[.slice (some ⟨p.w.heap.size, 0, none⟩) 1 1] (p.w.alloc (.cells #[.bool true, .func (.func 42) #[] #[.pointer (some ⟨w.heap.size, 0, none⟩)]] 55)) fun e w' => e = .returned (.agg #[.int .i64 16384, .int .i64 0, .int .i64 0, .int .i64 0, .int .i64 16384, .int .i64 0, .int .i64 0, .int .i64 0, .int .i64 16384, .int .i64 x, .int .i64 y, .int .i64 z]) ∧ ∃ q : BW W1, w' = q.w := fun p =>
    (pose_changed1 1 true 42 #[.pointer (some ⟨w.heap.size, 0, none⟩)] (pNone 16384) (((16384, 0, 0), (0, 16384, 0), (0, 0, 16384), (x, y, z))) W1 p.w _ rfl p.h
      (enters_of Try.func42 (by kernel_rfl) rfl) rfl (fun h => absurd h (by decide))
      (fun _ w' g hB hle kp => pose_move g w.heap.size x y z 16384 0 0 0 16384 0 0 0 16384 0 0 0 w' (((k_v.below p.h).alloc _).below hB) (Nat.lt_of_lt_of_le ((k_v.below p.h).alloc _).lt hle) kp)).mono fun e w' h => ⟨h.1, ⟨w', h.2⟩, rfl⟩
  have hmf : ∀ (fn : Fn) (first cap : Array Value) (w : World), (Instr.makeFunc fn first cap).run Try.prog w = .ok (.func fn first cap) w := fun _ _ _ _ => rfl
  go_wp2_with (first
    | (go_at_call 27; (with_reducible refine (KC _).mono ?_); rintro e w' ⟨rfl, q, rfl⟩)
    | (go_at_call 24; (first | (with_reducible refine (bw_call N.out _).mono ?_)); rintro e w' ⟨rfl, q, rfl⟩))
  have kr : Bk ((((((((((((q.w.setCell ⟨g_r, 0, none⟩ (.int .i64 16384)).setCell ⟨g_r, 1, none⟩ (.int .i64 0)).setCell ⟨g_r, 2, none⟩ (.int .i64 0)).setCell ⟨g_r, 3, none⟩ (.int .i64 0)).setCell ⟨g_r, 4, none⟩ (.int .i64 16384)).setCell ⟨g_r, 5, none⟩ (.int .i64 0)).setCell ⟨g_r, 6, none⟩ (.int .i64 0)).setCell ⟨g_r, 7, none⟩ (.int .i64 0)).setCell ⟨g_r, 8, none⟩ (.int .i64 16384)).setCell ⟨g_r, 9, none⟩ (.int .i64 x)).setCell ⟨g_r, 10, none⟩ (.int .i64 y)).setCell ⟨g_r, 11, none⟩ (.int .i64 z)) (g_r) 29 #[.int .i64 16384, .int .i64 0, .int .i64 0, .int .i64 0, .int .i64 16384, .int .i64 0, .int .i64 0, .int .i64 0, .int .i64 16384, .int .i64 x, .int .i64 y, .int .i64 z] := (((((((((((((k_r.below q.h).set 0 (.int .i64 16384)).set 1 (.int .i64 0)).set 2 (.int .i64 0)).set 3 (.int .i64 0)).set 4 (.int .i64 16384)).set 5 (.int .i64 0)).set 6 (.int .i64 0)).set 7 (.int .i64 0)).set 8 (.int .i64 16384)).set 9 (.int .i64 x)).set 10 (.int .i64 y)).set 11 (.int .i64 z)).cast (by simp)
  have rc0 : World.cell? ((((((((((((q.w.setCell ⟨g_r, 0, none⟩ (.int .i64 16384)).setCell ⟨g_r, 1, none⟩ (.int .i64 0)).setCell ⟨g_r, 2, none⟩ (.int .i64 0)).setCell ⟨g_r, 3, none⟩ (.int .i64 0)).setCell ⟨g_r, 4, none⟩ (.int .i64 16384)).setCell ⟨g_r, 5, none⟩ (.int .i64 0)).setCell ⟨g_r, 6, none⟩ (.int .i64 0)).setCell ⟨g_r, 7, none⟩ (.int .i64 0)).setCell ⟨g_r, 8, none⟩ (.int .i64 16384)).setCell ⟨g_r, 9, none⟩ (.int .i64 x)).setCell ⟨g_r, 10, none⟩ (.int .i64 y)).setCell ⟨g_r, 11, none⟩ (.int .i64 z)) ⟨g_r, 0, none⟩ = some (.int .i64 16384) := kr.cell rfl
  have rc1 : World.cell? ((((((((((((q.w.setCell ⟨g_r, 0, none⟩ (.int .i64 16384)).setCell ⟨g_r, 1, none⟩ (.int .i64 0)).setCell ⟨g_r, 2, none⟩ (.int .i64 0)).setCell ⟨g_r, 3, none⟩ (.int .i64 0)).setCell ⟨g_r, 4, none⟩ (.int .i64 16384)).setCell ⟨g_r, 5, none⟩ (.int .i64 0)).setCell ⟨g_r, 6, none⟩ (.int .i64 0)).setCell ⟨g_r, 7, none⟩ (.int .i64 0)).setCell ⟨g_r, 8, none⟩ (.int .i64 16384)).setCell ⟨g_r, 9, none⟩ (.int .i64 x)).setCell ⟨g_r, 10, none⟩ (.int .i64 y)).setCell ⟨g_r, 11, none⟩ (.int .i64 z)) ⟨g_r, 1, none⟩ = some (.int .i64 0) := kr.cell rfl
  have rc2 : World.cell? ((((((((((((q.w.setCell ⟨g_r, 0, none⟩ (.int .i64 16384)).setCell ⟨g_r, 1, none⟩ (.int .i64 0)).setCell ⟨g_r, 2, none⟩ (.int .i64 0)).setCell ⟨g_r, 3, none⟩ (.int .i64 0)).setCell ⟨g_r, 4, none⟩ (.int .i64 16384)).setCell ⟨g_r, 5, none⟩ (.int .i64 0)).setCell ⟨g_r, 6, none⟩ (.int .i64 0)).setCell ⟨g_r, 7, none⟩ (.int .i64 0)).setCell ⟨g_r, 8, none⟩ (.int .i64 16384)).setCell ⟨g_r, 9, none⟩ (.int .i64 x)).setCell ⟨g_r, 10, none⟩ (.int .i64 y)).setCell ⟨g_r, 11, none⟩ (.int .i64 z)) ⟨g_r, 2, none⟩ = some (.int .i64 0) := kr.cell rfl
  have rc3 : World.cell? ((((((((((((q.w.setCell ⟨g_r, 0, none⟩ (.int .i64 16384)).setCell ⟨g_r, 1, none⟩ (.int .i64 0)).setCell ⟨g_r, 2, none⟩ (.int .i64 0)).setCell ⟨g_r, 3, none⟩ (.int .i64 0)).setCell ⟨g_r, 4, none⟩ (.int .i64 16384)).setCell ⟨g_r, 5, none⟩ (.int .i64 0)).setCell ⟨g_r, 6, none⟩ (.int .i64 0)).setCell ⟨g_r, 7, none⟩ (.int .i64 0)).setCell ⟨g_r, 8, none⟩ (.int .i64 16384)).setCell ⟨g_r, 9, none⟩ (.int .i64 x)).setCell ⟨g_r, 10, none⟩ (.int .i64 y)).setCell ⟨g_r, 11, none⟩ (.int .i64 z)) ⟨g_r, 3, none⟩ = some (.int .i64 0) := kr.cell rfl
  have rc4 : World.cell? ((((((((((((q.w.setCell ⟨g_r, 0, none⟩ (.int .i64 16384)).setCell ⟨g_r, 1, none⟩ (.int .i64 0)).setCell ⟨g_r, 2, none⟩ (.int .i64 0)).setCell ⟨g_r, 3, none⟩ (.int .i64 0)).setCell ⟨g_r, 4, none⟩ (.int .i64 16384)).setCell ⟨g_r, 5, none⟩ (.int .i64 0)).setCell ⟨g_r, 6, none⟩ (.int .i64 0)).setCell ⟨g_r, 7, none⟩ (.int .i64 0)).setCell ⟨g_r, 8, none⟩ (.int .i64 16384)).setCell ⟨g_r, 9, none⟩ (.int .i64 x)).setCell ⟨g_r, 10, none⟩ (.int .i64 y)).setCell ⟨g_r, 11, none⟩ (.int .i64 z)) ⟨g_r, 4, none⟩ = some (.int .i64 16384) := kr.cell rfl
  have rc5 : World.cell? ((((((((((((q.w.setCell ⟨g_r, 0, none⟩ (.int .i64 16384)).setCell ⟨g_r, 1, none⟩ (.int .i64 0)).setCell ⟨g_r, 2, none⟩ (.int .i64 0)).setCell ⟨g_r, 3, none⟩ (.int .i64 0)).setCell ⟨g_r, 4, none⟩ (.int .i64 16384)).setCell ⟨g_r, 5, none⟩ (.int .i64 0)).setCell ⟨g_r, 6, none⟩ (.int .i64 0)).setCell ⟨g_r, 7, none⟩ (.int .i64 0)).setCell ⟨g_r, 8, none⟩ (.int .i64 16384)).setCell ⟨g_r, 9, none⟩ (.int .i64 x)).setCell ⟨g_r, 10, none⟩ (.int .i64 y)).setCell ⟨g_r, 11, none⟩ (.int .i64 z)) ⟨g_r, 5, none⟩ = some (.int .i64 0) := kr.cell rfl
  have rc6 : World.cell? ((((((((((((q.w.setCell ⟨g_r, 0, none⟩ (.int .i64 16384)).setCell ⟨g_r, 1, none⟩ (.int .i64 0)).setCell ⟨g_r, 2, none⟩ (.int .i64 0)).setCell ⟨g_r, 3, none⟩ (.int .i64 0)).setCell ⟨g_r, 4, none⟩ (.int .i64 16384)).setCell ⟨g_r, 5, none⟩ (.int .i64 0)).setCell ⟨g_r, 6, none⟩ (.int .i64 0)).setCell ⟨g_r, 7, none⟩ (.int .i64 0)).setCell ⟨g_r, 8, none⟩ (.int .i64 16384)).setCell ⟨g_r, 9, none⟩ (.int .i64 x)).setCell ⟨g_r, 10, none⟩ (.int .i64 y)).setCell ⟨g_r, 11, none⟩ (.int .i64 z)) ⟨g_r, 6, none⟩ = some (.int .i64 0) := kr.cell rfl
  have rc7 : World.cell? ((((((((((((q.w.setCell ⟨g_r, 0, none⟩ (.int .i64 16384)).setCell ⟨g_r, 1, none⟩ (.int .i64 0)).setCell ⟨g_r, 2, none⟩ (.int .i64 0)).setCell ⟨g_r, 3, none⟩ (.int .i64 0)).setCell ⟨g_r, 4, none⟩ (.int .i64 16384)).setCell ⟨g_r, 5, none⟩ (.int .i64 0)).setCell ⟨g_r, 6, none⟩ (.int .i64 0)).setCell ⟨g_r, 7, none⟩ (.int .i64 0)).setCell ⟨g_r, 8, none⟩ (.int .i64 16384)).setCell ⟨g_r, 9, none⟩ (.int .i64 x)).setCell ⟨g_r, 10, none⟩ (.int .i64 y)).setCell ⟨g_r, 11, none⟩ (.int .i64 z)) ⟨g_r, 7, none⟩ = some (.int .i64 0) := kr.cell rfl
  have rc8 : World.cell? ((((((((((((q.w.setCell ⟨g_r, 0, none⟩ (.int .i64 16384)).setCell ⟨g_r, 1, none⟩ (.int .i64 0)).setCell ⟨g_r, 2, none⟩ (.int .i64 0)).setCell ⟨g_r, 3, none⟩ (.int .i64 0)).setCell ⟨g_r, 4, none⟩ (.int .i64 16384)).setCell ⟨g_r, 5, none⟩ (.int .i64 0)).setCell ⟨g_r, 6, none⟩ (.int .i64 0)).setCell ⟨g_r, 7, none⟩ (.int .i64 0)).setCell ⟨g_r, 8, none⟩ (.int .i64 16384)).setCell ⟨g_r, 9, none⟩ (.int .i64 x)).setCell ⟨g_r, 10, none⟩ (.int .i64 y)).setCell ⟨g_r, 11, none⟩ (.int .i64 z)) ⟨g_r, 8, none⟩ = some (.int .i64 16384) := kr.cell rfl
  have rc9 : World.cell? ((((((((((((q.w.setCell ⟨g_r, 0, none⟩ (.int .i64 16384)).setCell ⟨g_r, 1, none⟩ (.int .i64 0)).setCell ⟨g_r, 2, none⟩ (.int .i64 0)).setCell ⟨g_r, 3, none⟩ (.int .i64 0)).setCell ⟨g_r, 4, none⟩ (.int .i64 16384)).setCell ⟨g_r, 5, none⟩ (.int .i64 0)).setCell ⟨g_r, 6, none⟩ (.int .i64 0)).setCell ⟨g_r, 7, none⟩ (.int .i64 0)).setCell ⟨g_r, 8, none⟩ (.int .i64 16384)).setCell ⟨g_r, 9, none⟩ (.int .i64 x)).setCell ⟨g_r, 10, none⟩ (.int .i64 y)).setCell ⟨g_r, 11, none⟩ (.int .i64 z)) ⟨g_r, 9, none⟩ = some (.int .i64 x) := kr.cell rfl
  have rc10 : World.cell? ((((((((((((q.w.setCell ⟨g_r, 0, none⟩ (.int .i64 16384)).setCell ⟨g_r, 1, none⟩ (.int .i64 0)).setCell ⟨g_r, 2, none⟩ (.int .i64 0)).setCell ⟨g_r, 3, none⟩ (.int .i64 0)).setCell ⟨g_r, 4, none⟩ (.int .i64 16384)).setCell ⟨g_r, 5, none⟩ (.int .i64 0)).setCell ⟨g_r, 6, none⟩ (.int .i64 0)).setCell ⟨g_r, 7, none⟩ (.int .i64 0)).setCell ⟨g_r, 8, none⟩ (.int .i64 16384)).setCell ⟨g_r, 9, none⟩ (.int .i64 x)).setCell ⟨g_r, 10, none⟩ (.int .i64 y)).setCell ⟨g_r, 11, none⟩ (.int .i64 z)) ⟨g_r, 10, none⟩ = some (.int .i64 y) := kr.cell rfl
  have rc11 : World.cell? ((((((((((((q.w.setCell ⟨g_r, 0, none⟩ (.int .i64 16384)).setCell ⟨g_r, 1, none⟩ (.int .i64 0)).setCell ⟨g_r, 2, none⟩ (.int .i64 0)).setCell ⟨g_r, 3, none⟩ (.int .i64 0)).setCell ⟨g_r, 4, none⟩ (.int .i64 16384)).setCell ⟨g_r, 5, none⟩ (.int .i64 0)).setCell ⟨g_r, 6, none⟩ (.int .i64 0)).setCell ⟨g_r, 7, none⟩ (.int .i64 0)).setCell ⟨g_r, 8, none⟩ (.int .i64 16384)).setCell ⟨g_r, 9, none⟩ (.int .i64 x)).setCell ⟨g_r, 10, none⟩ (.int .i64 y)).setCell ⟨g_r, 11, none⟩ (.int .i64 z)) ⟨g_r, 11, none⟩ = some (.int .i64 z) := kr.cell rfl
  exact bodyPost_ret (v := .agg #[.int .i64 16384, .int .i64 0, .int .i64 0, .int .i64 0, .int .i64 16384, .int .i64 0, .int .i64 0, .int .i64 0, .int .i64 16384, .int .i64 x, .int .i64 y, .int .i64 z]) (by simp [results, Try.results21, go_sem, rc0, rc1, rc2, rc3, rc4, rc5, rc6, rc7, rc8, rc9, rc10, rc11]) rfl ⟨rfl, (((((((((((((bw_below B1 q).setCell (p := ⟨g_r, 0, none⟩) (by show w.heap.size ≤ g_r; omega) _).setCell (p := ⟨g_r, 1, none⟩) (by show w.heap.size ≤ g_r; omega) _).setCell (p := ⟨g_r, 2, none⟩) (by show w.heap.size ≤ g_r; omega) _).setCell (p := ⟨g_r, 3, none⟩) (by show w.heap.size ≤ g_r; omega) _).setCell (p := ⟨g_r, 4, none⟩) (by show w.heap.size ≤ g_r; omega) _).setCell (p := ⟨g_r, 5, none⟩) (by show w.heap.size ≤ g_r; omega) _).setCell (p := ⟨g_r, 6, none⟩) (by show w.heap.size ≤ g_r; omega) _).setCell (p := ⟨g_r, 7, none⟩) (by show w.heap.size ≤ g_r; omega) _).setCell (p := ⟨g_r, 8, none⟩) (by show w.heap.size ≤ g_r; omega) _).setCell (p := ⟨g_r, 9, none⟩) (by show w.heap.size ≤ g_r; omega) _).setCell (p := ⟨g_r, 10, none⟩) (by show w.heap.size ≤ g_r; omega) _).setCell (p := ⟨g_r, 11, none⟩) (by show w.heap.size ≤ g_r; omega) _)⟩

theorem pose_Moved (x y z : Int) (w : World) :
    Calls Try.prog 21 #[.agg #[.int .i64 x, .int .i64 y, .int .i64 z]] w fun e w' => e = .returned (.agg (p12 (pMoved (x, y, z)))) ∧ Below w.heap.size w w' := by
  unfold pMoved nrT
  dsimp only
  by_cases h : vnear x y z = true
  · rw [if_pos h]; exact pose_Moved_1 x y z w h
  · rw [if_neg h]; rw [Bool.not_eq_true] at h; exact pose_Moved_0 x y z w h

set_option maxRecDepth 100000 in
set_option maxHeartbeats 4000000 in
theorem pose_Put_no (a1 a2 a3 a4 a5 a6 a7 a8 a9 a10 a11 a12 x y z : Int) (w : World) (h : ¬ (pRight ((a1, a2, a3), (a4, a5, a6), (a7, a8, a9), (a10, a11, a12)) = true ∧ vnear x y z = true)) :
    Calls Try.prog 20 #[.agg #[.int .i64 a1, .int .i64 a2, .int .i64 a3, .int .i64 a4, .int .i64 a5, .int .i64 a6, .int .i64 a7, .int .i64 a8, .int .i64 a9, .int .i64 a10, .int .i64 a11, .int .i64 a12], .agg #[.int .i64 x, .int .i64 y, .int .i64 z]] w fun e w' => e = .returned (.agg #[.int .i64 0, .int .i64 0, .int .i64 0]) ∧ Below w.heap.size w w' := by
  have N1 := Lib.hid (fun w => pose_Right a1 a2 a3 a4 a5 a6 a7 a8 a9 a10 a11 a12 w)
  have N2 := Lib.hid (fun w => vec_Near x y z w)
  have hc : (pRight ((a1, a2, a3), (a4, a5, a6), (a7, a8, a9), (a10, a11, a12)) = false) ∨ (pRight ((a1, a2, a3), (a4, a5, a6), (a7, a8, a9), (a10, a11, a12)) = true ∧ vnear x y z = false) := by
    cases h1 : pRight ((a1, a2, a3), (a4, a5, a6), (a7, a8, a9), (a10, a11, a12)) <;> cases h2 : vnear x y z <;> simp [h1, h2] at h ⊢
  clear h
  generalize pRight ((a1, a2, a3), (a4, a5, a6), (a7, a8, a9), (a10, a11, a12)) = n1 at *
  generalize vnear x y z = n2 at *
  go_enter Try.func20, Try.ntmps20
  go_upto_region 1 with (fail)
  obtain ⟨W1, hW1⟩ : ∃ W, W = ((w.alloc (.cells #[.int .i64 a1, .int .i64 a2, .int .i64 a3, .int .i64 a4, .int .i64 a5, .int .i64 a6, .int .i64 a7, .int .i64 a8, .int .i64 a9, .int .i64 a10, .int .i64 a11, .int .i64 a12] 29)).alloc (.cells #[.int .i64 x, .int .i64 y, .int .i64 z] 23)).alloc (.cells #[.int .i64 0, .int .i64 0, .int .i64 0] 23) := ⟨_, rfl⟩
  have B1 : Below w.heap.size w W1 := by rw [hW1]; go_grown
  have k_p : Bk W1 (w.heap.size) 29 #[.int .i64 a1, .int .i64 a2, .int .i64 a3, .int .i64 a4, .int .i64 a5, .int .i64 a6, .int .i64 a7, .int .i64 a8, .int .i64 a9, .int .i64 a10, .int .i64 a11, .int .i64 a12] := by rw [hW1]; exact ((Bk.new _ _ _).alloc _).alloc _
  have k_v : Bk W1 (w.heap.size + 1) 23 #[.int .i64 x, .int .i64 y, .int .i64 z] := by rw [hW1]; exact (Bk.new_at _ _ _ _ (by simp)).alloc _
  have k_r : Bk W1 (w.heap.size + 1 + 1) 23 #[.int .i64 0, .int .i64 0, .int .i64 0] := by rw [hW1]; exact Bk.new_at _ _ _ _ (by simp)
  rw [← hW1]
  clear hW1
  have l_v : w.heap.size < w.heap.size + 1 := by omega
  have l_r : w.heap.size + 1 < w.heap.size + 1 + 1 := by omega
  generalize w.heap.size + 1 + 1 = g_r at *
  generalize w.heap.size + 1 = g_v at *
  have c_p_0 : ∀ p : BW W1, p.w.cell? ⟨w.heap.size, 0, none⟩ = some (.int .i64 a1) := bw_cell (k_p.cell rfl)
  have c_p_1 : ∀ p : BW W1, p.w.cell? ⟨w.heap.size, 1, none⟩ = some (.int .i64 a2) := bw_cell (k_p.cell rfl)
  have c_p_2 : ∀ p : BW W1, p.w.cell? ⟨w.heap.size, 2, none⟩ = some (.int .i64 a3) := bw_cell (k_p.cell rfl)
  have c_p_3 : ∀ p : BW W1, p.w.cell? ⟨w.heap.size, 3, none⟩ = some (.int .i64 a4) := bw_cell (k_p.cell rfl)
  have c_p_4 : ∀ p : BW W1, p.w.cell? ⟨w.heap.size, 4, none⟩ = some (.int .i64 a5) := bw_cell (k_p.cell rfl)
  have c_p_5 : ∀ p : BW W1, p.w.cell? ⟨w.heap.size, 5, none⟩ = some (.int .i64 a6) := bw_cell (k_p.cell rfl)
  have c_p_6 : ∀ p : BW W1, p.w.cell? ⟨w.heap.size, 6, none⟩ = some (.int .i64 a7) := bw_cell (k_p.cell rfl)
  have c_p_7 : ∀ p : BW W1, p.w.cell? ⟨w.heap.size, 7, none⟩ = some (.int .i64 a8) := bw_cell (k_p.cell rfl)
  have c_p_8 : ∀ p : BW W1, p.w.cell? ⟨w.heap.size, 8, none⟩ = some (.int .i64 a9) := bw_cell (k_p.cell rfl)
  have c_p_9 : ∀ p : BW W1, p.w.cell? ⟨w.heap.size, 9, none⟩ = some (.int .i64 a10) := bw_cell (k_p.cell rfl)
  have c_p_10 : ∀ p : BW W1, p.w.cell? ⟨w.heap.size, 10, none⟩ = some (.int .i64 a11) := bw_cell (k_p.cell rfl)
  have c_p_11 : ∀ p : BW W1, p.w.cell? ⟨w.heap.size, 11, none⟩ = some (.int .i64 a12) := bw_cell (k_p.cell rfl)
  have c_v_0 : ∀ p : BW W1, p.w.cell? ⟨g_v, 0, none⟩ = some (.int .i64 x) := bw_cell (k_v.cell rfl)
  have c_v_1 : ∀ p : BW W1, p.w.cell? ⟨g_v, 1, none⟩ = some (.int .i64 y) := bw_cell (k_v.cell rfl)
  have c_v_2 : ∀ p : BW W1, p.w.cell? ⟨g_v, 2, none⟩ = some (.int .i64 z) := bw_cell (k_v.cell rfl)
  have c_r_0 : ∀ p : BW W1, p.w.cell? ⟨g_r, 0, none⟩ = some (.int .i64 0) := bw_cell (k_r.cell rfl)
  have f_r_0 : ∀ p : BW W1, p.w.frozen? ⟨g_r, 0, none⟩ = false := fun p => (k_r.below p.h).frozen 0
  have c_r_1 : ∀ p : BW W1, p.w.cell? ⟨g_r, 1, none⟩ = some (.int .i64 0) := bw_cell (k_r.cell rfl)
  have f_r_1 : ∀ p : BW W1, p.w.frozen? ⟨g_r, 1, none⟩ = false := fun p => (k_r.below p.h).frozen 1
  have c_r_2 : ∀ p : BW W1, p.w.cell? ⟨g_r, 2, none⟩ = some (.int .i64 0) := bw_cell (k_r.cell rfl)
  have f_r_2 : ∀ p : BW W1, p.w.frozen? ⟨g_r, 2, none⟩ = false := fun p => (k_r.below p.h).frozen 2
  obtain ⟨p1, hp1⟩ : ∃ p : BW W1, p.w = W1 := ⟨BW.start W1, rfl⟩
  rw [← hp1]
  clear hp1
  rcases hc with rfl | ⟨rfl, rfl⟩
  · clear k_p k_v
    go_wp2_with (first
      | (go_at_call 7; (first | (with_reducible refine (bw_call N1.out _).mono ?_)); rintro e w' ⟨rfl, q, rfl⟩)
      | (go_at_call 24; (first | (with_reducible refine (bw_call N2.out _).mono ?_)); rintro e w' ⟨rfl, q, rfl⟩))
    have kr : Bk (((q.w.setCell ⟨g_r, 0, none⟩ (.int .i64 0)).setCell ⟨g_r, 1, none⟩ (.int .i64 0)).setCell ⟨g_r, 2, none⟩ (.int .i64 0)) (g_r) 23 #[.int .i64 0, .int .i64 0, .int .i64 0] := ((((k_r.below q.h).set 0 (.int .i64 0)).set 1 (.int .i64 0)).set 2 (.int .i64 0))
    have rc0 : World.cell? (((q.w.setCell ⟨g_r, 0, none⟩ (.int .i64 0)).setCell ⟨g_r, 1, none⟩ (.int .i64 0)).setCell ⟨g_r, 2, none⟩ (.int .i64 0)) ⟨g_r, 0, none⟩ = some (.int .i64 0) := kr.cell rfl
    have rc1 : World.cell? (((q.w.setCell ⟨g_r, 0, none⟩ (.int .i64 0)).setCell ⟨g_r, 1, none⟩ (.int .i64 0)).setCell ⟨g_r, 2, none⟩ (.int .i64 0)) ⟨g_r, 1, none⟩ = some (.int .i64 0) := kr.cell rfl
    have rc2 : World.cell? (((q.w.setCell ⟨g_r, 0, none⟩ (.int .i64 0)).setCell ⟨g_r, 1, none⟩ (.int .i64 0)).setCell ⟨g_r, 2, none⟩ (.int .i64 0)) ⟨g_r, 2, none⟩ = some (.int .i64 0) := kr.cell rfl
    exact bodyPost_ret (v := .agg #[.int .i64 0, .int .i64 0, .int .i64 0]) (by simp [results, Try.results20, go_sem, rc0, rc1, rc2]) rfl ⟨rfl, ((((bw_below B1 q).setCell (p := ⟨g_r, 0, none⟩) (by show w.heap.size ≤ g_r; omega) _).setCell (p := ⟨g_r, 1, none⟩) (by show w.heap.size ≤ g_r; omega) _).setCell (p := ⟨g_r, 2, none⟩) (by show w.heap.size ≤ g_r; omega) _)⟩
  · clear k_p k_v
    go_wp2_with (first
      | (go_at_call 7; (first | (with_reducible refine (bw_call N1.out _).mono ?_)); rintro e w' ⟨rfl, q, rfl⟩)
      | (go_at_call 24; (first | (with_reducible refine (bw_call N2.out _).mono ?_)); rintro e w' ⟨rfl, q, rfl⟩))
    have kr : Bk (((q.w.setCell ⟨g_r, 0, none⟩ (.int .i64 0)).setCell ⟨g_r, 1, none⟩ (.int .i64 0)).setCell ⟨g_r, 2, none⟩ (.int .i64 0)) (g_r) 23 #[.int .i64 0, .int .i64 0, .int .i64 0] := ((((k_r.below q.h).set 0 (.int .i64 0)).set 1 (.int .i64 0)).set 2 (.int .i64 0))
    have rc0 : World.cell? (((q.w.setCell ⟨g_r, 0, none⟩ (.int .i64 0)).setCell ⟨g_r, 1, none⟩ (.int .i64 0)).setCell ⟨g_r, 2, none⟩ (.int .i64 0)) ⟨g_r, 0, none⟩ = some (.int .i64 0) := kr.cell rfl
    have rc1 : World.cell? (((q.w.setCell ⟨g_r, 0, none⟩ (.int .i64 0)).setCell ⟨g_r, 1, none⟩ (.int .i64 0)).setCell ⟨g_r, 2, none⟩ (.int .i64 0)) ⟨g_r, 1, none⟩ = some (.int .i64 0) := kr.cell rfl
    have rc2 : World.cell? (((q.w.setCell ⟨g_r, 0, none⟩ (.int .i64 0)).setCell ⟨g_r, 1, none⟩ (.int .i64 0)).setCell ⟨g_r, 2, none⟩ (.int .i64 0)) ⟨g_r, 2, none⟩ = some (.int .i64 0) := kr.cell rfl
    exact bodyPost_ret (v := .agg #[.int .i64 0, .int .i64 0, .int .i64 0]) (by simp [results, Try.results20, go_sem, rc0, rc1, rc2]) rfl ⟨rfl, ((((bw_below B1 q).setCell (p := ⟨g_r, 0, none⟩) (by show w.heap.size ≤ g_r; omega) _).setCell (p := ⟨g_r, 1, none⟩) (by show w.heap.size ≤ g_r; omega) _).setCell (p := ⟨g_r, 2, none⟩) (by show w.heap.size ≤ g_r; omega) _)⟩

set_option maxRecDepth 100000 in
set_option maxHeartbeats 4000000 in
theorem pose_Put_yes (a1 a2 a3 a4 a5 a6 a7 a8 a9 a10 a11 a12 x y z : Int) (w : World) (h1 : pRight ((a1, a2, a3), (a4, a5, a6), (a7, a8, a9), (a10, a11, a12)) = true) (h2 : vnear x y z = true) :
    Calls Try.prog 20 #[.agg #[.int .i64 a1, .int .i64 a2, .int .i64 a3, .int .i64 a4, .int .i64 a5, .int .i64 a6, .int .i64 a7, .int .i64 a8, .int .i64 a9, .int .i64 a10, .int .i64 a11, .int .i64 a12], .agg #[.int .i64 x, .int .i64 y, .int .i64 z]] w fun e w' => e = .returned (.agg #[.int .i64 (pRow (a1, a2, a3) (x, y, z) + a10), .int .i64 (pRow (a4, a5, a6) (x, y, z) + a11), .int .i64 (pRow (a7, a8, a9) (x, y, z) + a12)]) ∧ Below w.heap.size w w' := by
  have N1 := Lib.hid (fun w => pose_Right a1 a2 a3 a4 a5 a6 a7 a8 a9 a10 a11 a12 w)
  have N2 := Lib.hid (fun w => vec_Near x y z w)
  have R := Lib.hid (fun w => pose_parts a1 a2 a3 a4 a5 a6 a7 a8 a9 a10 a11 a12 x y z w)
  rw [h1] at N1
  rw [h2] at N2
  unfold pRight nrT at h1
  dsimp only at h1
  simp only [Bool.and_eq_true] at h1
  obtain ⟨_, _, _, hm⟩ := h1
  rw [vnear_iff] at hm
  have s0 := pRow_small (a1, a2, a3) (x, y, z)
  generalize pRow (a1, a2, a3) (x, y, z) = t0 at *
  have s1 := pRow_small (a4, a5, a6) (x, y, z)
  generalize pRow (a4, a5, a6) (x, y, z) = t1 at *
  have s2 := pRow_small (a7, a8, a9) (x, y, z)
  generalize pRow (a7, a8, a9) (x, y, z) = t2 at *
  have A := Lib.hid (fun w => vec_Add t0 t1 t2 a10 a11 a12 w (by unfold I64; omega) (by unfold I64; omega) (by unfold I64; omega) (by unfold I64; omega) (by unfold I64; omega) (by unfold I64; omega))
  rw [ps_sat (x := t0 + a10) (by omega), ps_sat (x := t1 + a11) (by omega), ps_sat (x := t2 + a12) (by omega)] at A
  generalize t0 + a10 = r0 at *
  generalize t1 + a11 = r1 at *
  generalize t2 + a12 = r2 at *
  clear h2 hm s0 s1 s2
  go_enter Try.func20, Try.ntmps20
  go_upto_region 1 with (fail)
  obtain ⟨W1, hW1⟩ : ∃ W, W = ((w.alloc (.cells #[.int .i64 a1, .int .i64 a2, .int .i64 a3, .int .i64 a4, .int .i64 a5, .int .i64 a6, .int .i64 a7, .int .i64 a8, .int .i64 a9, .int .i64 a10, .int .i64 a11, .int .i64 a12] 29)).alloc (.cells #[.int .i64 x, .int .i64 y, .int .i64 z] 23)).alloc (.cells #[.int .i64 0, .int .i64 0, .int .i64 0] 23) := ⟨_, rfl⟩
  have B1 : Below w.heap.size w W1 := by rw [hW1]; go_grown
  have k_p : Bk W1 (w.heap.size) 29 #[.int .i64 a1, .int .i64 a2, .int .i64 a3, .int .i64 a4, .int .i64 a5, .int .i64 a6, .int .i64 a7, .int .i64 a8, .int .i64 a9, .int .i64 a10, .int .i64 a11, .int .i64 a12] := by rw [hW1]; exact ((Bk.new _ _ _).alloc _).alloc _
  have k_v : Bk W1 (w.heap.size + 1) 23 #[.int .i64 x, .int .i64 y, .int .i64 z] := by rw [hW1]; exact (Bk.new_at _ _ _ _ (by simp)).alloc _
  have k_r : Bk W1 (w.heap.size + 1 + 1) 23 #[.int .i64 0, .int .i64 0, .int .i64 0] := by rw [hW1]; exact Bk.new_at _ _ _ _ (by simp)
  rw [← hW1]
  clear hW1
  have l_v : w.heap.size < w.heap.size + 1 := by omega
  have l_r : w.heap.size + 1 < w.heap.size + 1 + 1 := by omega
  generalize w.heap.size + 1 + 1 = g_r at *
  generalize w.heap.size + 1 = g_v at *
  have c_p_0 : ∀ p : BW W1, p.w.cell? ⟨w.heap.size, 0, none⟩ = some (.int .i64 a1) := bw_cell (k_p.cell rfl)
  have c_p_1 : ∀ p : BW W1, p.w.cell? ⟨w.heap.size, 1, none⟩ = some (.int .i64 a2) := bw_cell (k_p.cell rfl)
  have c_p_2 : ∀ p : BW W1, p.w.cell? ⟨w.heap.size, 2, none⟩ = some (.int .i64 a3) := bw_cell (k_p.cell rfl)
  have c_p_3 : ∀ p : BW W1, p.w.cell? ⟨w.heap.size, 3, none⟩ = some (.int .i64 a4) := bw_cell (k_p.cell rfl)
  have c_p_4 : ∀ p : BW W1, p.w.cell? ⟨w.heap.size, 4, none⟩ = some (.int .i64 a5) := bw_cell (k_p.cell rfl)
  have c_p_5 : ∀ p : BW W1, p.w.cell? ⟨w.heap.size, 5, none⟩ = some (.int .i64 a6) := bw_cell (k_p.cell rfl)
  have c_p_6 : ∀ p : BW W1, p.w.cell? ⟨w.heap.size, 6, none⟩ = some (.int .i64 a7) := bw_cell (k_p.cell rfl)
  have c_p_7 : ∀ p : BW W1, p.w.cell? ⟨w.heap.size, 7, none⟩ = some (.int .i64 a8) := bw_cell (k_p.cell rfl)
  have c_p_8 : ∀ p : BW W1, p.w.cell? ⟨w.heap.size, 8, none⟩ = some (.int .i64 a9) := bw_cell (k_p.cell rfl)
  have c_p_9 : ∀ p : BW W1, p.w.cell? ⟨w.heap.size, 9, none⟩ = some (.int .i64 a10) := bw_cell (k_p.cell rfl)
  have c_p_10 : ∀ p : BW W1, p.w.cell? ⟨w.heap.size, 10, none⟩ = some (.int .i64 a11) := bw_cell (k_p.cell rfl)
  have c_p_11 : ∀ p : BW W1, p.w.cell? ⟨w.heap.size, 11, none⟩ = some (.int .i64 a12) := bw_cell (k_p.cell rfl)
  have c_v_0 : ∀ p : BW W1, p.w.cell? ⟨g_v, 0, none⟩ = some (.int .i64 x) := bw_cell (k_v.cell rfl)
  have c_v_1 : ∀ p : BW W1, p.w.cell? ⟨g_v, 1, none⟩ = some (.int .i64 y) := bw_cell (k_v.cell rfl)
  have c_v_2 : ∀ p : BW W1, p.w.cell? ⟨g_v, 2, none⟩ = some (.int .i64 z) := bw_cell (k_v.cell rfl)
  have c_r_0 : ∀ p : BW W1, p.w.cell? ⟨g_r, 0, none⟩ = some (.int .i64 0) := bw_cell (k_r.cell rfl)
  have f_r_0 : ∀ p : BW W1, p.w.frozen? ⟨g_r, 0, none⟩ = false := fun p => (k_r.below p.h).frozen 0
  have c_r_1 : ∀ p : BW W1, p.w.cell? ⟨g_r, 1, none⟩ = some (.int .i64 0) := bw_cell (k_r.cell rfl)
  have f_r_1 : ∀ p : BW W1, p.w.frozen? ⟨g_r, 1, none⟩ = false := fun p => (k_r.below p.h).frozen 1
  have c_r_2 : ∀ p : BW W1, p.w.cell? ⟨g_r, 2, none⟩ = some (.int .i64 0) := bw_cell (k_r.cell rfl)
  have f_r_2 : ∀ p : BW W1, p.w.frozen? ⟨g_r, 2, none⟩ = false := fun p => (k_r.below p.h).frozen 2
  obtain ⟨p1, hp1⟩ : ∃ p : BW W1, p.w = W1 := ⟨BW.start W1, rfl⟩
  rw [← hp1]
  clear hp1
  go_upto_region 3 with (first
    | (go_at_call 7; (first | (with_reducible refine (bw_call N1.out _).mono ?_)); rintro e w' ⟨rfl, q, rfl⟩)
    | (go_at_call 24; (first | (with_reducible refine (bw_call N2.out _).mono ?_)); rintro e w' ⟨rfl, q, rfl⟩))
  refine wp_region_bw_tail 6 (by kernel_rfl) (by kernel_rfl) (by kernel_rfl) ?_
  simp only [List.take_succ_cons, List.take_zero, List.drop_succ_cons, List.drop_zero]
  repeat (go_big_quiet_step (first
    | (go_at_call 38; (first | (with_reducible exact bw_call R.out _)))
    | (go_at_call 41; (first | (with_reducible exact bw_call A.out _)))))
  refine wpQuiet_nil ?_
  intro _ hw'
  obtain ⟨q, rfl⟩ := hw'
  go_wp2
  have kr : Bk (((q.w.setCell ⟨g_r, 0, none⟩ (.int .i64 r0)).setCell ⟨g_r, 1, none⟩ (.int .i64 r1)).setCell ⟨g_r, 2, none⟩ (.int .i64 r2)) (g_r) 23 #[.int .i64 r0, .int .i64 r1, .int .i64 r2] := ((((k_r.below q.h).set 0 (.int .i64 r0)).set 1 (.int .i64 r1)).set 2 (.int .i64 r2))
  have rc0 : World.cell? (((q.w.setCell ⟨g_r, 0, none⟩ (.int .i64 r0)).setCell ⟨g_r, 1, none⟩ (.int .i64 r1)).setCell ⟨g_r, 2, none⟩ (.int .i64 r2)) ⟨g_r, 0, none⟩ = some (.int .i64 r0) := kr.cell rfl
  have rc1 : World.cell? (((q.w.setCell ⟨g_r, 0, none⟩ (.int .i64 r0)).setCell ⟨g_r, 1, none⟩ (.int .i64 r1)).setCell ⟨g_r, 2, none⟩ (.int .i64 r2)) ⟨g_r, 1, none⟩ = some (.int .i64 r1) := kr.cell rfl
  have rc2 : World.cell? (((q.w.setCell ⟨g_r, 0, none⟩ (.int .i64 r0)).setCell ⟨g_r, 1, none⟩ (.int .i64 r1)).setCell ⟨g_r, 2, none⟩ (.int .i64 r2)) ⟨g_r, 2, none⟩ = some (.int .i64 r2) := kr.cell rfl
  exact bodyPost_ret (v := .agg #[.int .i64 r0, .int .i64 r1, .int .i64 r2]) (by simp [results, Try.results20, go_sem, rc0, rc1, rc2]) rfl ⟨rfl, ((((bw_below B1 q).setCell (p := ⟨g_r, 0, none⟩) (by show w.heap.size ≤ g_r; omega) _).setCell (p := ⟨g_r, 1, none⟩) (by show w.heap.size ≤ g_r; omega) _).setCell (p := ⟨g_r, 2, none⟩) (by show w.heap.size ≤ g_r; omega) _)⟩

theorem pose_Put (a1 a2 a3 a4 a5 a6 a7 a8 a9 a10 a11 a12 x y z : Int) (w : World) :
    Calls Try.prog 20 #[.agg #[.int .i64 a1, .int .i64 a2, .int .i64 a3, .int .i64 a4, .int .i64 a5, .int .i64 a6, .int .i64 a7, .int .i64 a8, .int .i64 a9, .int .i64 a10, .int .i64 a11, .int .i64 a12], .agg #[.int .i64 x, .int .i64 y, .int .i64 z]] w fun e w' => e = .returned (.agg #[.int .i64 (pPut ((a1, a2, a3), (a4, a5, a6), (a7, a8, a9), (a10, a11, a12)) (x, y, z)).1, .int .i64 (pPut ((a1, a2, a3), (a4, a5, a6), (a7, a8, a9), (a10, a11, a12)) (x, y, z)).2.1, .int .i64 (pPut ((a1, a2, a3), (a4, a5, a6), (a7, a8, a9), (a10, a11, a12)) (x, y, z)).2.2]) ∧ Below w.heap.size w w' := by
  unfold pPut
  by_cases h : pRight ((a1, a2, a3), (a4, a5, a6), (a7, a8, a9), (a10, a11, a12)) = true ∧ nrT (x, y, z) = true
  · rw [if_pos h]; exact pose_Put_yes a1 a2 a3 a4 a5 a6 a7 a8 a9 a10 a11 a12 x y z w h.1 h.2
  · rw [if_neg h]; exact pose_Put_no a1 a2 a3 a4 a5 a6 a7 a8 a9 a10 a11 a12 x y z w h

set_option maxRecDepth 100000 in
set_option maxHeartbeats 4000000 in
theorem pose_Then_no (a1 a2 a3 a4 a5 a6 a7 a8 a9 a10 a11 a12 b1 b2 b3 b4 b5 b6 b7 b8 b9 b10 b11 b12 : Int) (w : World) (h : ¬ (pRight ((a1, a2, a3), (a4, a5, a6), (a7, a8, a9), (a10, a11, a12)) = true ∧ pRight ((b1, b2, b3), (b4, b5, b6), (b7, b8, b9), (b10, b11, b12)) = true)) :
    Calls Try.prog 16 #[.agg #[.int .i64 a1, .int .i64 a2, .int .i64 a3, .int .i64 a4, .int .i64 a5, .int .i64 a6, .int .i64 a7, .int .i64 a8, .int .i64 a9, .int .i64 a10, .int .i64 a11, .int .i64 a12], .agg #[.int .i64 b1, .int .i64 b2, .int .i64 b3, .int .i64 b4, .int .i64 b5, .int .i64 b6, .int .i64 b7, .int .i64 b8, .int .i64 b9, .int .i64 b10, .int .i64 b11, .int .i64 b12]] w fun e w' => e = .returned (.agg #[.int .i64 0, .int .i64 0, .int .i64 0, .int .i64 0, .int .i64 0, .int .i64 0, .int .i64 0, .int .i64 0, .int .i64 0, .int .i64 0, .int .i64 0, .int .i64 0]) ∧ Below w.heap.size w w' := by
  have N1 := Lib.hid (fun w => pose_Right a1 a2 a3 a4 a5 a6 a7 a8 a9 a10 a11 a12 w)
  have N2 := Lib.hid (fun w => pose_Right b1 b2 b3 b4 b5 b6 b7 b8 b9 b10 b11 b12 w)
  have hc : (pRight ((a1, a2, a3), (a4, a5, a6), (a7, a8, a9), (a10, a11, a12)) = false) ∨ (pRight ((a1, a2, a3), (a4, a5, a6), (a7, a8, a9), (a10, a11, a12)) = true ∧ pRight ((b1, b2, b3), (b4, b5, b6), (b7, b8, b9), (b10, b11, b12)) = false) := by
    cases h1 : pRight ((a1, a2, a3), (a4, a5, a6), (a7, a8, a9), (a10, a11, a12)) <;> cases h2 : pRight ((b1, b2, b3), (b4, b5, b6), (b7, b8, b9), (b10, b11, b12)) <;> simp [h1, h2] at h ⊢
  clear h
  generalize pRight ((a1, a2, a3), (a4, a5, a6), (a7, a8, a9), (a10, a11, a12)) = n1 at *
  generalize pRight ((b1, b2, b3), (b4, b5, b6), (b7, b8, b9), (b10, b11, b12)) = n2 at *
  go_enter Try.func16, Try.ntmps16
  go_upto_region 1 with (fail)
  obtain ⟨W1, hW1⟩ : ∃ W, W = ((w.alloc (.cells #[.int .i64 a1, .int .i64 a2, .int .i64 a3, .int .i64 a4, .int .i64 a5, .int .i64 a6, .int .i64 a7, .int .i64 a8, .int .i64 a9, .int .i64 a10, .int .i64 a11, .int .i64 a12] 29)).alloc (.cells #[.int .i64 b1, .int .i64 b2, .int .i64 b3, .int .i64 b4, .int .i64 b5, .int .i64 b6, .int .i64 b7, .int .i64 b8, .int .i64 b9, .int .i64 b10, .int .i64 b11, .int .i64 b12] 29)).alloc (.cells #[.int .i64 0, .int .i64 0, .int .i64 0, .int .i64 0, .int .i64 0, .int .i64 0, .int .i64 0, .int .i64 0, .int .i64 0, .int .i64 0, .int .i64 0, .int .i64 0] 29) := ⟨_, rfl⟩
  have B1 : Below w.heap.size w W1 := by rw [hW1]; go_grown
  have k_a : Bk W1 (w.heap.size) 29 #[.int .i64 a1, .int .i64 a2, .int .i64 a3, .int .i64 a4, .int .i64 a5, .int .i64 a6, .int .i64 a7, .int .i64 a8, .int .i64 a9, .int .i64 a10, .int .i64 a11, .int .i64 a12] := by rw [hW1]; exact ((Bk.new _ _ _).alloc _).alloc _
  have k_b : Bk W1 (w.heap.size + 1) 29 #[.int .i64 b1, .int .i64 b2, .int .i64 b3, .int .i64 b4, .int .i64 b5, .int .i64 b6, .int .i64 b7, .int .i64 b8, .int .i64 b9, .int .i64 b10, .int .i64 b11, .int .i64 b12] := by rw [hW1]; exact (Bk.new_at _ _ _ _ (by simp)).alloc _
  have k_r : Bk W1 (w.heap.size + 1 + 1) 29 #[.int .i64 0, .int .i64 0, .int .i64 0, .int .i64 0, .int .i64 0, .int .i64 0, .int .i64 0, .int .i64 0, .int .i64 0, .int .i64 0, .int .i64 0, .int .i64 0] := by rw [hW1]; exact Bk.new_at _ _ _ _ (by simp)
  rw [← hW1]
  clear hW1
  have l_b : w.heap.size < w.heap.size + 1 := by omega
  have l_r : w.heap.size + 1 < w.heap.size + 1 + 1 := by omega
  generalize w.heap.size + 1 + 1 = g_r at *
  generalize w.heap.size + 1 = g_b at *
  have c_a_0 : ∀ p : BW W1, p.w.cell? ⟨w.heap.size, 0, none⟩ = some (.int .i64 a1) := bw_cell (k_a.cell rfl)
  have c_a_1 : ∀ p : BW W1, p.w.cell? ⟨w.heap.size, 1, none⟩ = some (.int .i64 a2) := bw_cell (k_a.cell rfl)
  have c_a_2 : ∀ p : BW W1, p.w.cell? ⟨w.heap.size, 2, none⟩ = some (.int .i64 a3) := bw_cell (k_a.cell rfl)
  have c_a_3 : ∀ p : BW W1, p.w.cell? ⟨w.heap.size, 3, none⟩ = some (.int .i64 a4) := bw_cell (k_a.cell rfl)
  have c_a_4 : ∀ p : BW W1, p.w.cell? ⟨w.heap.size, 4, none⟩ = some (.int .i64 a5) := bw_cell (k_a.cell rfl)
  have c_a_5 : ∀ p : BW W1, p.w.cell? ⟨w.heap.size, 5, none⟩ = some (.int .i64 a6) := bw_cell (k_a.cell rfl)
  have c_a_6 : ∀ p : BW W1, p.w.cell? ⟨w.heap.size, 6, none⟩ = some (.int .i64 a7) := bw_cell (k_a.cell rfl)
  have c_a_7 : ∀ p : BW W1, p.w.cell? ⟨w.heap.size, 7, none⟩ = some (.int .i64 a8) := bw_cell (k_a.cell rfl)
  have c_a_8 : ∀ p : BW W1, p.w.cell? ⟨w.heap.size, 8, none⟩ = some (.int .i64 a9) := bw_cell (k_a.cell rfl)
  have c_a_9 : ∀ p : BW W1, p.w.cell? ⟨w.heap.size, 9, none⟩ = some (.int .i64 a10) := bw_cell (k_a.cell rfl)
  have c_a_10 : ∀ p : BW W1, p.w.cell? ⟨w.heap.size, 10, none⟩ = some (.int .i64 a11) := bw_cell (k_a.cell rfl)
  have c_a_11 : ∀ p : BW W1, p.w.cell? ⟨w.heap.size, 11, none⟩ = some (.int .i64 a12) := bw_cell (k_a.cell rfl)
  have c_b_0 : ∀ p : BW W1, p.w.cell? ⟨g_b, 0, none⟩ = some (.int .i64 b1) := bw_cell (k_b.cell rfl)
  have c_b_1 : ∀ p : BW W1, p.w.cell? ⟨g_b, 1, none⟩ = some (.int .i64 b2) := bw_cell (k_b.cell rfl)
  have c_b_2 : ∀ p : BW W1, p.w.cell? ⟨g_b, 2, none⟩ = some (.int .i64 b3) := bw_cell (k_b.cell rfl)
  have c_b_3 : ∀ p : BW W1, p.w.cell? ⟨g_b, 3, none⟩ = some (.int .i64 b4) := bw_cell (k_b.cell rfl)
  have c_b_4 : ∀ p : BW W1, p.w.cell? ⟨g_b, 4, none⟩ = some (.int .i64 b5) := bw_cell (k_b.cell rfl)
  have c_b_5 : ∀ p : BW W1, p.w.cell? ⟨g_b, 5, none⟩ = some (.int .i64 b6) := bw_cell (k_b.cell rfl)
  have c_b_6 : ∀ p : BW W1, p.w.cell? ⟨g_b, 6, none⟩ = some (.int .i64 b7) := bw_cell (k_b.cell rfl)
  have c_b_7 : ∀ p : BW W1, p.w.cell? ⟨g_b, 7, none⟩ = some (.int .i64 b8) := bw_cell (k_b.cell rfl)
  have c_b_8 : ∀ p : BW W1, p.w.cell? ⟨g_b, 8, none⟩ = some (.int .i64 b9) := bw_cell (k_b.cell rfl)
  have c_b_9 : ∀ p : BW W1, p.w.cell? ⟨g_b, 9, none⟩ = some (.int .i64 b10) := bw_cell (k_b.cell rfl)
  have c_b_10 : ∀ p : BW W1, p.w.cell? ⟨g_b, 10, none⟩ = some (.int .i64 b11) := bw_cell (k_b.cell rfl)
  have c_b_11 : ∀ p : BW W1, p.w.cell? ⟨g_b, 11, none⟩ = some (.int .i64 b12) := bw_cell (k_b.cell rfl)
  have c_r_0 : ∀ p : BW W1, p.w.cell? ⟨g_r, 0, none⟩ = some (.int .i64 0) := bw_cell (k_r.cell rfl)
  have f_r_0 : ∀ p : BW W1, p.w.frozen? ⟨g_r, 0, none⟩ = false := fun p => (k_r.below p.h).frozen 0
  have c_r_1 : ∀ p : BW W1, p.w.cell? ⟨g_r, 1, none⟩ = some (.int .i64 0) := bw_cell (k_r.cell rfl)
  have f_r_1 : ∀ p : BW W1, p.w.frozen? ⟨g_r, 1, none⟩ = false := fun p => (k_r.below p.h).frozen 1
  have c_r_2 : ∀ p : BW W1, p.w.cell? ⟨g_r, 2, none⟩ = some (.int .i64 0) := bw_cell (k_r.cell rfl)
  have f_r_2 : ∀ p : BW W1, p.w.frozen? ⟨g_r, 2, none⟩ = false := fun p => (k_r.below p.h).frozen 2
  have c_r_3 : ∀ p : BW W1, p.w.cell? ⟨g_r, 3, none⟩ = some (.int .i64 0) := bw_cell (k_r.cell rfl)
  have f_r_3 : ∀ p : BW W1, p.w.frozen? ⟨g_r, 3, none⟩ = false := fun p => (k_r.below p.h).frozen 3
  have c_r_4 : ∀ p : BW W1, p.w.cell? ⟨g_r, 4, none⟩ = some (.int .i64 0) := bw_cell (k_r.cell rfl)
  have f_r_4 : ∀ p : BW W1, p.w.frozen? ⟨g_r, 4, none⟩ = false := fun p => (k_r.below p.h).frozen 4
  have c_r_5 : ∀ p : BW W1, p.w.cell? ⟨g_r, 5, none⟩ = some (.int .i64 0) := bw_cell (k_r.cell rfl)
  have f_r_5 : ∀ p : BW W1, p.w.frozen? ⟨g_r, 5, none⟩ = false := fun p => (k_r.below p.h).frozen 5
  have c_r_6 : ∀ p : BW W1, p.w.cell? ⟨g_r, 6, none⟩ = some (.int .i64 0) := bw_cell (k_r.cell rfl)
  have f_r_6 : ∀ p : BW W1, p.w.frozen? ⟨g_r, 6, none⟩ = false := fun p => (k_r.below p.h).frozen 6
  have c_r_7 : ∀ p : BW W1, p.w.cell? ⟨g_r, 7, none⟩ = some (.int .i64 0) := bw_cell (k_r.cell rfl)
  have f_r_7 : ∀ p : BW W1, p.w.frozen? ⟨g_r, 7, none⟩ = false := fun p => (k_r.below p.h).frozen 7
  have c_r_8 : ∀ p : BW W1, p.w.cell? ⟨g_r, 8, none⟩ = some (.int .i64 0) := bw_cell (k_r.cell rfl)
  have f_r_8 : ∀ p : BW W1, p.w.frozen? ⟨g_r, 8, none⟩ = false := fun p => (k_r.below p.h).frozen 8
  have c_r_9 : ∀ p : BW W1, p.w.cell? ⟨g_r, 9, none⟩ = some (.int .i64 0) := bw_cell (k_r.cell rfl)
  have f_r_9 : ∀ p : BW W1, p.w.frozen? ⟨g_r, 9, none⟩ = false := fun p => (k_r.below p.h).frozen 9
  have c_r_10 : ∀ p : BW W1, p.w.cell? ⟨g_r, 10, none⟩ = some (.int .i64 0) := bw_cell (k_r.cell rfl)
  have f_r_10 : ∀ p : BW W1, p.w.frozen? ⟨g_r, 10, none⟩ = false := fun p => (k_r.below p.h).frozen 10
  have c_r_11 : ∀ p : BW W1, p.w.cell? ⟨g_r, 11, none⟩ = some (.int .i64 0) := bw_cell (k_r.cell rfl)
  have f_r_11 : ∀ p : BW W1, p.w.frozen? ⟨g_r, 11, none⟩ = false := fun p => (k_r.below p.h).frozen 11
  obtain ⟨p1, hp1⟩ : ∃ p : BW W1, p.w = W1 := ⟨BW.start W1, rfl⟩
  rw [← hp1]
  clear hp1
  rcases hc with rfl | ⟨rfl, rfl⟩
  · clear k_a k_b
    go_wp2_with (first
      | (go_at_call 7; (first | (with_reducible refine (bw_call N1.out _).mono ?_) | (with_reducible refine (bw_call N2.out _).mono ?_)); rintro e w' ⟨rfl, q, rfl⟩))
    have kr : Bk ((((((((((((q.w.setCell ⟨g_r, 0, none⟩ (.int .i64 0)).setCell ⟨g_r, 1, none⟩ (.int .i64 0)).setCell ⟨g_r, 2, none⟩ (.int .i64 0)).setCell ⟨g_r, 3, none⟩ (.int .i64 0)).setCell ⟨g_r, 4, none⟩ (.int .i64 0)).setCell ⟨g_r, 5, none⟩ (.int .i64 0)).setCell ⟨g_r, 6, none⟩ (.int .i64 0)).setCell ⟨g_r, 7, none⟩ (.int .i64 0)).setCell ⟨g_r, 8, none⟩ (.int .i64 0)).setCell ⟨g_r, 9, none⟩ (.int .i64 0)).setCell ⟨g_r, 10, none⟩ (.int .i64 0)).setCell ⟨g_r, 11, none⟩ (.int .i64 0)) (g_r) 29 #[.int .i64 0, .int .i64 0, .int .i64 0, .int .i64 0, .int .i64 0, .int .i64 0, .int .i64 0, .int .i64 0, .int .i64 0, .int .i64 0, .int .i64 0, .int .i64 0] := (((((((((((((k_r.below q.h).set 0 (.int .i64 0)).set 1 (.int .i64 0)).set 2 (.int .i64 0)).set 3 (.int .i64 0)).set 4 (.int .i64 0)).set 5 (.int .i64 0)).set 6 (.int .i64 0)).set 7 (.int .i64 0)).set 8 (.int .i64 0)).set 9 (.int .i64 0)).set 10 (.int .i64 0)).set 11 (.int .i64 0)).cast (by simp)
    have rc0 : World.cell? ((((((((((((q.w.setCell ⟨g_r, 0, none⟩ (.int .i64 0)).setCell ⟨g_r, 1, none⟩ (.int .i64 0)).setCell ⟨g_r, 2, none⟩ (.int .i64 0)).setCell ⟨g_r, 3, none⟩ (.int .i64 0)).setCell ⟨g_r, 4, none⟩ (.int .i64 0)).setCell ⟨g_r, 5, none⟩ (.int .i64 0)).setCell ⟨g_r, 6, none⟩ (.int .i64 0)).setCell ⟨g_r, 7, none⟩ (.int .i64 0)).setCell ⟨g_r, 8, none⟩ (.int .i64 0)).setCell ⟨g_r, 9, none⟩ (.int .i64 0)).setCell ⟨g_r, 10, none⟩ (.int .i64 0)).setCell ⟨g_r, 11, none⟩ (.int .i64 0)) ⟨g_r, 0, none⟩ = some (.int .i64 0) := kr.cell rfl
    have rc1 : World.cell? ((((((((((((q.w.setCell ⟨g_r, 0, none⟩ (.int .i64 0)).setCell ⟨g_r, 1, none⟩ (.int .i64 0)).setCell ⟨g_r, 2, none⟩ (.int .i64 0)).setCell ⟨g_r, 3, none⟩ (.int .i64 0)).setCell ⟨g_r, 4, none⟩ (.int .i64 0)).setCell ⟨g_r, 5, none⟩ (.int .i64 0)).setCell ⟨g_r, 6, none⟩ (.int .i64 0)).setCell ⟨g_r, 7, none⟩ (.int .i64 0)).setCell ⟨g_r, 8, none⟩ (.int .i64 0)).setCell ⟨g_r, 9, none⟩ (.int .i64 0)).setCell ⟨g_r, 10, none⟩ (.int .i64 0)).setCell ⟨g_r, 11, none⟩ (.int .i64 0)) ⟨g_r, 1, none⟩ = some (.int .i64 0) := kr.cell rfl
    have rc2 : World.cell? ((((((((((((q.w.setCell ⟨g_r, 0, none⟩ (.int .i64 0)).setCell ⟨g_r, 1, none⟩ (.int .i64 0)).setCell ⟨g_r, 2, none⟩ (.int .i64 0)).setCell ⟨g_r, 3, none⟩ (.int .i64 0)).setCell ⟨g_r, 4, none⟩ (.int .i64 0)).setCell ⟨g_r, 5, none⟩ (.int .i64 0)).setCell ⟨g_r, 6, none⟩ (.int .i64 0)).setCell ⟨g_r, 7, none⟩ (.int .i64 0)).setCell ⟨g_r, 8, none⟩ (.int .i64 0)).setCell ⟨g_r, 9, none⟩ (.int .i64 0)).setCell ⟨g_r, 10, none⟩ (.int .i64 0)).setCell ⟨g_r, 11, none⟩ (.int .i64 0)) ⟨g_r, 2, none⟩ = some (.int .i64 0) := kr.cell rfl
    have rc3 : World.cell? ((((((((((((q.w.setCell ⟨g_r, 0, none⟩ (.int .i64 0)).setCell ⟨g_r, 1, none⟩ (.int .i64 0)).setCell ⟨g_r, 2, none⟩ (.int .i64 0)).setCell ⟨g_r, 3, none⟩ (.int .i64 0)).setCell ⟨g_r, 4, none⟩ (.int .i64 0)).setCell ⟨g_r, 5, none⟩ (.int .i64 0)).setCell ⟨g_r, 6, none⟩ (.int .i64 0)).setCell ⟨g_r, 7, none⟩ (.int .i64 0)).setCell ⟨g_r, 8, none⟩ (.int .i64 0)).setCell ⟨g_r, 9, none⟩ (.int .i64 0)).setCell ⟨g_r, 10, none⟩ (.int .i64 0)).setCell ⟨g_r, 11, none⟩ (.int .i64 0)) ⟨g_r, 3, none⟩ = some (.int .i64 0) := kr.cell rfl
    have rc4 : World.cell? ((((((((((((q.w.setCell ⟨g_r, 0, none⟩ (.int .i64 0)).setCell ⟨g_r, 1, none⟩ (.int .i64 0)).setCell ⟨g_r, 2, none⟩ (.int .i64 0)).setCell ⟨g_r, 3, none⟩ (.int .i64 0)).setCell ⟨g_r, 4, none⟩ (.int .i64 0)).setCell ⟨g_r, 5, none⟩ (.int .i64 0)).setCell ⟨g_r, 6, none⟩ (.int .i64 0)).setCell ⟨g_r, 7, none⟩ (.int .i64 0)).setCell ⟨g_r, 8, none⟩ (.int .i64 0)).setCell ⟨g_r, 9, none⟩ (.int .i64 0)).setCell ⟨g_r, 10, none⟩ (.int .i64 0)).setCell ⟨g_r, 11, none⟩ (.int .i64 0)) ⟨g_r, 4, none⟩ = some (.int .i64 0) := kr.cell rfl
    have rc5 : World.cell? ((((((((((((q.w.setCell ⟨g_r, 0, none⟩ (.int .i64 0)).setCell ⟨g_r, 1, none⟩ (.int .i64 0)).setCell ⟨g_r, 2, none⟩ (.int .i64 0)).setCell ⟨g_r, 3, none⟩ (.int .i64 0)).setCell ⟨g_r, 4, none⟩ (.int .i64 0)).setCell ⟨g_r, 5, none⟩ (.int .i64 0)).setCell ⟨g_r, 6, none⟩ (.int .i64 0)).setCell ⟨g_r, 7, none⟩ (.int .i64 0)).setCell ⟨g_r, 8, none⟩ (.int .i64 0)).setCell ⟨g_r, 9, none⟩ (.int .i64 0)).setCell ⟨g_r, 10, none⟩ (.int .i64 0)).setCell ⟨g_r, 11, none⟩ (.int .i64 0)) ⟨g_r, 5, none⟩ = some (.int .i64 0) := kr.cell rfl
    have rc6 : World.cell? ((((((((((((q.w.setCell ⟨g_r, 0, none⟩ (.int .i64 0)).setCell ⟨g_r, 1, none⟩ (.int .i64 0)).setCell ⟨g_r, 2, none⟩ (.int .i64 0)).setCell ⟨g_r, 3, none⟩ (.int .i64 0)).setCell ⟨g_r, 4, none⟩ (.int .i64 0)).setCell ⟨g_r, 5, none⟩ (.int .i64 0)).setCell ⟨g_r, 6, none⟩ (.int .i64 0)).setCell ⟨g_r, 7, none⟩ (.int .i64 0)).setCell ⟨g_r, 8, none⟩ (.int .i64 0)).setCell ⟨g_r, 9, none⟩ (.int .i64 0)).setCell ⟨g_r, 10, none⟩ (.int .i64 0)).setCell ⟨g_r, 11, none⟩ (.int .i64 0)) ⟨g_r, 6, none⟩ = some (.int .i64 0) := kr.cell rfl
    have rc7 : World.cell? ((((((((((((q.w.setCell ⟨g_r, 0, none⟩ (.int .i64 0)).setCell ⟨g_r, 1, none⟩ (.int .i64 0)).setCell ⟨g_r, 2, none⟩ (.int .i64 0)).setCell ⟨g_r, 3, none⟩ (.int .i64 0)).setCell ⟨g_r, 4, none⟩ (.int .i64 0)).setCell ⟨g_r, 5, none⟩ (.int .i64 0)).setCell ⟨g_r, 6, none⟩ (.int .i64 0)).setCell ⟨g_r, 7, none⟩ (.int .i64 0)).setCell ⟨g_r, 8, none⟩ (.int .i64 0)).setCell ⟨g_r, 9, none⟩ (.int .i64 0)).setCell ⟨g_r, 10, none⟩ (.int .i64 0)).setCell ⟨g_r, 11, none⟩ (.int .i64 0)) ⟨g_r, 7, none⟩ = some (.int .i64 0) := kr.cell rfl
    have rc8 : World.cell? ((((((((((((q.w.setCell ⟨g_r, 0, none⟩ (.int .i64 0)).setCell ⟨g_r, 1, none⟩ (.int .i64 0)).setCell ⟨g_r, 2, none⟩ (.int .i64 0)).setCell ⟨g_r, 3, none⟩ (.int .i64 0)).setCell ⟨g_r, 4, none⟩ (.int .i64 0)).setCell ⟨g_r, 5, none⟩ (.int .i64 0)).setCell ⟨g_r, 6, none⟩ (.int .i64 0)).setCell ⟨g_r, 7, none⟩ (.int .i64 0)).setCell ⟨g_r, 8, none⟩ (.int .i64 0)).setCell ⟨g_r, 9, none⟩ (.int .i64 0)).setCell ⟨g_r, 10, none⟩ (.int .i64 0)).setCell ⟨g_r, 11, none⟩ (.int .i64 0)) ⟨g_r, 8, none⟩ = some (.int .i64 0) := kr.cell rfl
    have rc9 : World.cell? ((((((((((((q.w.setCell ⟨g_r, 0, none⟩ (.int .i64 0)).setCell ⟨g_r, 1, none⟩ (.int .i64 0)).setCell ⟨g_r, 2, none⟩ (.int .i64 0)).setCell ⟨g_r, 3, none⟩ (.int .i64 0)).setCell ⟨g_r, 4, none⟩ (.int .i64 0)).setCell ⟨g_r, 5, none⟩ (.int .i64 0)).setCell ⟨g_r, 6, none⟩ (.int .i64 0)).setCell ⟨g_r, 7, none⟩ (.int .i64 0)).setCell ⟨g_r, 8, none⟩ (.int .i64 0)).setCell ⟨g_r, 9, none⟩ (.int .i64 0)).setCell ⟨g_r, 10, none⟩ (.int .i64 0)).setCell ⟨g_r, 11, none⟩ (.int .i64 0)) ⟨g_r, 9, none⟩ = some (.int .i64 0) := kr.cell rfl
    have rc10 : World.cell? ((((((((((((q.w.setCell ⟨g_r, 0, none⟩ (.int .i64 0)).setCell ⟨g_r, 1, none⟩ (.int .i64 0)).setCell ⟨g_r, 2, none⟩ (.int .i64 0)).setCell ⟨g_r, 3, none⟩ (.int .i64 0)).setCell ⟨g_r, 4, none⟩ (.int .i64 0)).setCell ⟨g_r, 5, none⟩ (.int .i64 0)).setCell ⟨g_r, 6, none⟩ (.int .i64 0)).setCell ⟨g_r, 7, none⟩ (.int .i64 0)).setCell ⟨g_r, 8, none⟩ (.int .i64 0)).setCell ⟨g_r, 9, none⟩ (.int .i64 0)).setCell ⟨g_r, 10, none⟩ (.int .i64 0)).setCell ⟨g_r, 11, none⟩ (.int .i64 0)) ⟨g_r, 10, none⟩ = some (.int .i64 0) := kr.cell rfl
    have rc11 : World.cell? ((((((((((((q.w.setCell ⟨g_r, 0, none⟩ (.int .i64 0)).setCell ⟨g_r, 1, none⟩ (.int .i64 0)).setCell ⟨g_r, 2, none⟩ (.int .i64 0)).setCell ⟨g_r, 3, none⟩ (.int .i64 0)).setCell ⟨g_r, 4, none⟩ (.int .i64 0)).setCell ⟨g_r, 5, none⟩ (.int .i64 0)).setCell ⟨g_r, 6, none⟩ (.int .i64 0)).setCell ⟨g_r, 7, none⟩ (.int .i64 0)).setCell ⟨g_r, 8, none⟩ (.int .i64 0)).setCell ⟨g_r, 9, none⟩ (.int .i64 0)).setCell ⟨g_r, 10, none⟩ (.int .i64 0)).setCell ⟨g_r, 11, none⟩ (.int .i64 0)) ⟨g_r, 11, none⟩ = some (.int .i64 0) := kr.cell rfl
    exact bodyPost_ret (v := .agg #[.int .i64 0, .int .i64 0, .int .i64 0, .int .i64 0, .int .i64 0, .int .i64 0, .int .i64 0, .int .i64 0, .int .i64 0, .int .i64 0, .int .i64 0, .int .i64 0]) (by simp [results, Try.results16, go_sem, rc0, rc1, rc2, rc3, rc4, rc5, rc6, rc7, rc8, rc9, rc10, rc11]) rfl ⟨rfl, (((((((((((((bw_below B1 q).setCell (p := ⟨g_r, 0, none⟩) (by show w.heap.size ≤ g_r; omega) _).setCell (p := ⟨g_r, 1, none⟩) (by show w.heap.size ≤ g_r; omega) _).setCell (p := ⟨g_r, 2, none⟩) (by show w.heap.size ≤ g_r; omega) _).setCell (p := ⟨g_r, 3, none⟩) (by show w.heap.size ≤ g_r; omega) _).setCell (p := ⟨g_r, 4, none⟩) (by show w.heap.size ≤ g_r; omega) _).setCell (p := ⟨g_r, 5, none⟩) (by show w.heap.size ≤ g_r; omega) _).setCell (p := ⟨g_r, 6, none⟩) (by show w.heap.size ≤ g_r; omega) _).setCell (p := ⟨g_r, 7, none⟩) (by show w.heap.size ≤ g_r; omega) _).setCell (p := ⟨g_r, 8, none⟩) (by show w.heap.size ≤ g_r; omega) _).setCell (p := ⟨g_r, 9, none⟩) (by show w.heap.size ≤ g_r; omega) _).setCell (p := ⟨g_r, 10, none⟩) (by show w.heap.size ≤ g_r; omega) _).setCell (p := ⟨g_r, 11, none⟩) (by show w.heap.size ≤ g_r; omega) _)⟩
  · clear k_a k_b
    go_wp2_with (first
      | (go_at_call 7; (first | (with_reducible refine (bw_call N1.out _).mono ?_) | (with_reducible refine (bw_call N2.out _).mono ?_)); rintro e w' ⟨rfl, q, rfl⟩))
    have kr : Bk ((((((((((((q.w.setCell ⟨g_r, 0, none⟩ (.int .i64 0)).setCell ⟨g_r, 1, none⟩ (.int .i64 0)).setCell ⟨g_r, 2, none⟩ (.int .i64 0)).setCell ⟨g_r, 3, none⟩ (.int .i64 0)).setCell ⟨g_r, 4, none⟩ (.int .i64 0)).setCell ⟨g_r, 5, none⟩ (.int .i64 0)).setCell ⟨g_r, 6, none⟩ (.int .i64 0)).setCell ⟨g_r, 7, none⟩ (.int .i64 0)).setCell ⟨g_r, 8, none⟩ (.int .i64 0)).setCell ⟨g_r, 9, none⟩ (.int .i64 0)).setCell ⟨g_r, 10, none⟩ (.int .i64 0)).setCell ⟨g_r, 11, none⟩ (.int .i64 0)) (g_r) 29 #[.int .i64 0, .int .i64 0, .int .i64 0, .int .i64 0, .int .i64 0, .int .i64 0, .int .i64 0, .int .i64 0, .int .i64 0, .int .i64 0, .int .i64 0, .int .i64 0] := (((((((((((((k_r.below q.h).set 0 (.int .i64 0)).set 1 (.int .i64 0)).set 2 (.int .i64 0)).set 3 (.int .i64 0)).set 4 (.int .i64 0)).set 5 (.int .i64 0)).set 6 (.int .i64 0)).set 7 (.int .i64 0)).set 8 (.int .i64 0)).set 9 (.int .i64 0)).set 10 (.int .i64 0)).set 11 (.int .i64 0)).cast (by simp)
    have rc0 : World.cell? ((((((((((((q.w.setCell ⟨g_r, 0, none⟩ (.int .i64 0)).setCell ⟨g_r, 1, none⟩ (.int .i64 0)).setCell ⟨g_r, 2, none⟩ (.int .i64 0)).setCell ⟨g_r, 3, none⟩ (.int .i64 0)).setCell ⟨g_r, 4, none⟩ (.int .i64 0)).setCell ⟨g_r, 5, none⟩ (.int .i64 0)).setCell ⟨g_r, 6, none⟩ (.int .i64 0)).setCell ⟨g_r, 7, none⟩ (.int .i64 0)).setCell ⟨g_r, 8, none⟩ (.int .i64 0)).setCell ⟨g_r, 9, none⟩ (.int .i64 0)).setCell ⟨g_r, 10, none⟩ (.int .i64 0)).setCell ⟨g_r, 11, none⟩ (.int .i64 0)) ⟨g_r, 0, none⟩ = some (.int .i64 0) := kr.cell rfl
    have rc1 : World.cell? ((((((((((((q.w.setCell ⟨g_r, 0, none⟩ (.int .i64 0)).setCell ⟨g_r, 1, none⟩ (.int .i64 0)).setCell ⟨g_r, 2, none⟩ (.int .i64 0)).setCell ⟨g_r, 3, none⟩ (.int .i64 0)).setCell ⟨g_r, 4, none⟩ (.int .i64 0)).setCell ⟨g_r, 5, none⟩ (.int .i64 0)).setCell ⟨g_r, 6, none⟩ (.int .i64 0)).setCell ⟨g_r, 7, none⟩ (.int .i64 0)).setCell ⟨g_r, 8, none⟩ (.int .i64 0)).setCell ⟨g_r, 9, none⟩ (.int .i64 0)).setCell ⟨g_r, 10, none⟩ (.int .i64 0)).setCell ⟨g_r, 11, none⟩ (.int .i64 0)) ⟨g_r, 1, none⟩ = some (.int .i64 0) := kr.cell rfl
    have rc2 : World.cell? ((((((((((((q.w.setCell ⟨g_r, 0, none⟩ (.int .i64 0)).setCell ⟨g_r, 1, none⟩ (.int .i64 0)).setCell ⟨g_r, 2, none⟩ (.int .i64 0)).setCell ⟨g_r, 3, none⟩ (.int .i64 0)).setCell ⟨g_r, 4, none⟩ (.int .i64 0)).setCell ⟨g_r, 5, none⟩ (.int .i64 0)).setCell ⟨g_r, 6, none⟩ (.int .i64 0)).setCell ⟨g_r, 7, none⟩ (.int .i64 0)).setCell ⟨g_r, 8, none⟩ (.int .i64 0)).setCell ⟨g_r, 9, none⟩ (.int .i64 0)).setCell ⟨g_r, 10, none⟩ (.int .i64 0)).setCell ⟨g_r, 11, none⟩ (.int .i64 0)) ⟨g_r, 2, none⟩ = some (.int .i64 0) := kr.cell rfl
    have rc3 : World.cell? ((((((((((((q.w.setCell ⟨g_r, 0, none⟩ (.int .i64 0)).setCell ⟨g_r, 1, none⟩ (.int .i64 0)).setCell ⟨g_r, 2, none⟩ (.int .i64 0)).setCell ⟨g_r, 3, none⟩ (.int .i64 0)).setCell ⟨g_r, 4, none⟩ (.int .i64 0)).setCell ⟨g_r, 5, none⟩ (.int .i64 0)).setCell ⟨g_r, 6, none⟩ (.int .i64 0)).setCell ⟨g_r, 7, none⟩ (.int .i64 0)).setCell ⟨g_r, 8, none⟩ (.int .i64 0)).setCell ⟨g_r, 9, none⟩ (.int .i64 0)).setCell ⟨g_r, 10, none⟩ (.int .i64 0)).setCell ⟨g_r, 11, none⟩ (.int .i64 0)) ⟨g_r, 3, none⟩ = some (.int .i64 0) := kr.cell rfl
    have rc4 : World.cell? ((((((((((((q.w.setCell ⟨g_r, 0, none⟩ (.int .i64 0)).setCell ⟨g_r, 1, none⟩ (.int .i64 0)).setCell ⟨g_r, 2, none⟩ (.int .i64 0)).setCell ⟨g_r, 3, none⟩ (.int .i64 0)).setCell ⟨g_r, 4, none⟩ (.int .i64 0)).setCell ⟨g_r, 5, none⟩ (.int .i64 0)).setCell ⟨g_r, 6, none⟩ (.int .i64 0)).setCell ⟨g_r, 7, none⟩ (.int .i64 0)).setCell ⟨g_r, 8, none⟩ (.int .i64 0)).setCell ⟨g_r, 9, none⟩ (.int .i64 0)).setCell ⟨g_r, 10, none⟩ (.int .i64 0)).setCell ⟨g_r, 11, none⟩ (.int .i64 0)) ⟨g_r, 4, none⟩ = some (.int .i64 0) := kr.cell rfl
    have rc5 : World.cell? ((((((((((((q.w.setCell ⟨g_r, 0, none⟩ (.int .i64 0)).setCell ⟨g_r, 1, none⟩ (.int .i64 0)).setCell ⟨g_r, 2, none⟩ (.int .i64 0)).setCell ⟨g_r, 3, none⟩ (.int .i64 0)).setCell ⟨g_r, 4, none⟩ (.int .i64 0)).setCell ⟨g_r, 5, none⟩ (.int .i64 0)).setCell ⟨g_r, 6, none⟩ (.int .i64 0)).setCell ⟨g_r, 7, none⟩ (.int .i64 0)).setCell ⟨g_r, 8, none⟩ (.int .i64 0)).setCell ⟨g_r, 9, none⟩ (.int .i64 0)).setCell ⟨g_r, 10, none⟩ (.int .i64 0)).setCell ⟨g_r, 11, none⟩ (.int .i64 0)) ⟨g_r, 5, none⟩ = some (.int .i64 0) := kr.cell rfl
    have rc6 : World.cell? ((((((((((((q.w.setCell ⟨g_r, 0, none⟩ (.int .i64 0)).setCell ⟨g_r, 1, none⟩ (.int .i64 0)).setCell ⟨g_r, 2, none⟩ (.int .i64 0)).setCell ⟨g_r, 3, none⟩ (.int .i64 0)).setCell ⟨g_r, 4, none⟩ (.int .i64 0)).setCell ⟨g_r, 5, none⟩ (.int .i64 0)).setCell ⟨g_r, 6, none⟩ (.int .i64 0)).setCell ⟨g_r, 7, none⟩ (.int .i64 0)).setCell ⟨g_r, 8, none⟩ (.int .i64 0)).setCell ⟨g_r, 9, none⟩ (.int .i64 0)).setCell ⟨g_r, 10, none⟩ (.int .i64 0)).setCell ⟨g_r, 11, none⟩ (.int .i64 0)) ⟨g_r, 6, none⟩ = some (.int .i64 0) := kr.cell rfl
    have rc7 : World.cell? ((((((((((((q.w.setCell ⟨g_r, 0, none⟩ (.int .i64 0)).setCell ⟨g_r, 1, none⟩ (.int .i64 0)).setCell ⟨g_r, 2, none⟩ (.int .i64 0)).setCell ⟨g_r, 3, none⟩ (.int .i64 0)).setCell ⟨g_r, 4, none⟩ (.int .i64 0)).setCell ⟨g_r, 5, none⟩ (.int .i64 0)).setCell ⟨g_r, 6, none⟩ (.int .i64 0)).setCell ⟨g_r, 7, none⟩ (.int .i64 0)).setCell ⟨g_r, 8, none⟩ (.int .i64 0)).setCell ⟨g_r, 9, none⟩ (.int .i64 0)).setCell ⟨g_r, 10, none⟩ (.int .i64 0)).setCell ⟨g_r, 11, none⟩ (.int .i64 0)) ⟨g_r, 7, none⟩ = some (.int .i64 0) := kr.cell rfl
    have rc8 : World.cell? ((((((((((((q.w.setCell ⟨g_r, 0, none⟩ (.int .i64 0)).setCell ⟨g_r, 1, none⟩ (.int .i64 0)).setCell ⟨g_r, 2, none⟩ (.int .i64 0)).setCell ⟨g_r, 3, none⟩ (.int .i64 0)).setCell ⟨g_r, 4, none⟩ (.int .i64 0)).setCell ⟨g_r, 5, none⟩ (.int .i64 0)).setCell ⟨g_r, 6, none⟩ (.int .i64 0)).setCell ⟨g_r, 7, none⟩ (.int .i64 0)).setCell ⟨g_r, 8, none⟩ (.int .i64 0)).setCell ⟨g_r, 9, none⟩ (.int .i64 0)).setCell ⟨g_r, 10, none⟩ (.int .i64 0)).setCell ⟨g_r, 11, none⟩ (.int .i64 0)) ⟨g_r, 8, none⟩ = some (.int .i64 0) := kr.cell rfl
    have rc9 : World.cell? ((((((((((((q.w.setCell ⟨g_r, 0, none⟩ (.int .i64 0)).setCell ⟨g_r, 1, none⟩ (.int .i64 0)).setCell ⟨g_r, 2, none⟩ (.int .i64 0)).setCell ⟨g_r, 3, none⟩ (.int .i64 0)).setCell ⟨g_r, 4, none⟩ (.int .i64 0)).setCell ⟨g_r, 5, none⟩ (.int .i64 0)).setCell ⟨g_r, 6, none⟩ (.int .i64 0)).setCell ⟨g_r, 7, none⟩ (.int .i64 0)).setCell ⟨g_r, 8, none⟩ (.int .i64 0)).setCell ⟨g_r, 9, none⟩ (.int .i64 0)).setCell ⟨g_r, 10, none⟩ (.int .i64 0)).setCell ⟨g_r, 11, none⟩ (.int .i64 0)) ⟨g_r, 9, none⟩ = some (.int .i64 0) := kr.cell rfl
    have rc10 : World.cell? ((((((((((((q.w.setCell ⟨g_r, 0, none⟩ (.int .i64 0)).setCell ⟨g_r, 1, none⟩ (.int .i64 0)).setCell ⟨g_r, 2, none⟩ (.int .i64 0)).setCell ⟨g_r, 3, none⟩ (.int .i64 0)).setCell ⟨g_r, 4, none⟩ (.int .i64 0)).setCell ⟨g_r, 5, none⟩ (.int .i64 0)).setCell ⟨g_r, 6, none⟩ (.int .i64 0)).setCell ⟨g_r, 7, none⟩ (.int .i64 0)).setCell ⟨g_r, 8, none⟩ (.int .i64 0)).setCell ⟨g_r, 9, none⟩ (.int .i64 0)).setCell ⟨g_r, 10, none⟩ (.int .i64 0)).setCell ⟨g_r, 11, none⟩ (.int .i64 0)) ⟨g_r, 10, none⟩ = some (.int .i64 0) := kr.cell rfl
    have rc11 : World.cell? ((((((((((((q.w.setCell ⟨g_r, 0, none⟩ (.int .i64 0)).setCell ⟨g_r, 1, none⟩ (.int .i64 0)).setCell ⟨g_r, 2, none⟩ (.int .i64 0)).setCell ⟨g_r, 3, none⟩ (.int .i64 0)).setCell ⟨g_r, 4, none⟩ (.int .i64 0)).setCell ⟨g_r, 5, none⟩ (.int .i64 0)).setCell ⟨g_r, 6, none⟩ (.int .i64 0)).setCell ⟨g_r, 7, none⟩ (.int .i64 0)).setCell ⟨g_r, 8, none⟩ (.int .i64 0)).setCell ⟨g_r, 9, none⟩ (.int .i64 0)).setCell ⟨g_r, 10, none⟩ (.int .i64 0)).setCell ⟨g_r, 11, none⟩ (.int .i64 0)) ⟨g_r, 11, none⟩ = some (.int .i64 0) := kr.cell rfl
    exact bodyPost_ret (v := .agg #[.int .i64 0, .int .i64 0, .int .i64 0, .int .i64 0, .int .i64 0, .int .i64 0, .int .i64 0, .int .i64 0, .int .i64 0, .int .i64 0, .int .i64 0, .int .i64 0]) (by simp [results, Try.results16, go_sem, rc0, rc1, rc2, rc3, rc4, rc5, rc6, rc7, rc8, rc9, rc10, rc11]) rfl ⟨rfl, (((((((((((((bw_below B1 q).setCell (p := ⟨g_r, 0, none⟩) (by show w.heap.size ≤ g_r; omega) _).setCell (p := ⟨g_r, 1, none⟩) (by show w.heap.size ≤ g_r; omega) _).setCell (p := ⟨g_r, 2, none⟩) (by show w.heap.size ≤ g_r; omega) _).setCell (p := ⟨g_r, 3, none⟩) (by show w.heap.size ≤ g_r; omega) _).setCell (p := ⟨g_r, 4, none⟩) (by show w.heap.size ≤ g_r; omega) _).setCell (p := ⟨g_r, 5, none⟩) (by show w.heap.size ≤ g_r; omega) _).setCell (p := ⟨g_r, 6, none⟩) (by show w.heap.size ≤ g_r; omega) _).setCell (p := ⟨g_r, 7, none⟩) (by show w.heap.size ≤ g_r; omega) _).setCell (p := ⟨g_r, 8, none⟩) (by show w.heap.size ≤ g_r; omega) _).setCell (p := ⟨g_r, 9, none⟩) (by show w.heap.size ≤ g_r; omega) _).setCell (p := ⟨g_r, 10, none⟩) (by show w.heap.size ≤ g_r; omega) _).setCell (p := ⟨g_r, 11, none⟩) (by show w.heap.size ≤ g_r; omega) _)⟩

set_option maxRecDepth 100000 in
set_option maxHeartbeats 4000000 in
theorem pose_Then_yes (a1 a2 a3 a4 a5 a6 a7 a8 a9 a10 a11 a12 b1 b2 b3 b4 b5 b6 b7 b8 b9 b10 b11 b12 : Int) (w : World) (h1 : pRight ((a1, a2, a3), (a4, a5, a6), (a7, a8, a9), (a10, a11, a12)) = true) (h2 : pRight ((b1, b2, b3), (b4, b5, b6), (b7, b8, b9), (b10, b11, b12)) = true) :
    Calls Try.prog 16 #[.agg #[.int .i64 a1, .int .i64 a2, .int .i64 a3, .int .i64 a4, .int .i64 a5, .int .i64 a6, .int .i64 a7, .int .i64 a8, .int .i64 a9, .int .i64 a10, .int .i64 a11, .int .i64 a12], .agg #[.int .i64 b1, .int .i64 b2, .int .i64 b3, .int .i64 b4, .int .i64 b5, .int .i64 b6, .int .i64 b7, .int .i64 b8, .int .i64 b9, .int .i64 b10, .int .i64 b11, .int .i64 b12]] w fun e w' => e = .returned (.agg (p12 (pRows (b1, b2, b3) ((a1, a2, a3), (a4, a5, a6), (a7, a8, a9), (a10, a11, a12)), pRows (b4, b5, b6) ((a1, a2, a3), (a4, a5, a6), (a7, a8, a9), (a10, a11, a12)), pRows (b7, b8, b9) ((a1, a2, a3), (a4, a5, a6), (a7, a8, a9), (a10, a11, a12)), pPut ((b1, b2, b3), (b4, b5, b6), (b7, b8, b9), (b10, b11, b12)) (a10, a11, a12)))) ∧ Below w.heap.size w w' := by
  have N1 := Lib.hid (fun w => pose_Right a1 a2 a3 a4 a5 a6 a7 a8 a9 a10 a11 a12 w)
  have N2 := Lib.hid (fun w => pose_Right b1 b2 b3 b4 b5 b6 b7 b8 b9 b10 b11 b12 w)
  rw [h1] at N1
  rw [h2] at N2
  clear h1 h2
  have C := Lib.hid (fun w => pose_columns a1 a2 a3 a4 a5 a6 a7 a8 a9 a10 a11 a12 w)
  have R0 := Lib.hid (fun w => pose_parts a1 a4 a7 a2 a5 a8 a3 a6 a9 0 0 0 b1 b2 b3 w)
  have R1 := Lib.hid (fun w => pose_parts a1 a4 a7 a2 a5 a8 a3 a6 a9 0 0 0 b4 b5 b6 w)
  have R2 := Lib.hid (fun w => pose_parts a1 a4 a7 a2 a5 a8 a3 a6 a9 0 0 0 b7 b8 b9 w)
  have Q := Lib.hid (fun w => pose_Put b1 b2 b3 b4 b5 b6 b7 b8 b9 b10 b11 b12 a10 a11 a12 w)
  unfold pRows p12
  dsimp only
  rw [ps_row (b1, b2, b3) (a1, a4, a7)]
  generalize pRow (a1, a4, a7) (b1, b2, b3) = r0 at *
  rw [ps_row (b1, b2, b3) (a2, a5, a8)]
  generalize pRow (a2, a5, a8) (b1, b2, b3) = r1 at *
  rw [ps_row (b1, b2, b3) (a3, a6, a9)]
  generalize pRow (a3, a6, a9) (b1, b2, b3) = r2 at *
  rw [ps_row (b4, b5, b6) (a1, a4, a7)]
  generalize pRow (a1, a4, a7) (b4, b5, b6) = r3 at *
  rw [ps_row (b4, b5, b6) (a2, a5, a8)]
  generalize pRow (a2, a5, a8) (b4, b5, b6) = r4 at *
  rw [ps_row (b4, b5, b6) (a3, a6, a9)]
  generalize pRow (a3, a6, a9) (b4, b5, b6) = r5 at *
  rw [ps_row (b7, b8, b9) (a1, a4, a7)]
  generalize pRow (a1, a4, a7) (b7, b8, b9) = r6 at *
  rw [ps_row (b7, b8, b9) (a2, a5, a8)]
  generalize pRow (a2, a5, a8) (b7, b8, b9) = r7 at *
  rw [ps_row (b7, b8, b9) (a3, a6, a9)]
  generalize pRow (a3, a6, a9) (b7, b8, b9) = r8 at *
  generalize pPut ((b1, b2, b3), (b4, b5, b6), (b7, b8, b9), (b10, b11, b12)) (a10, a11, a12) = M at *
  obtain ⟨m0, m1, m2⟩ := M
  dsimp only at *
  go_enter Try.func16, Try.ntmps16
  go_upto_region 1 with (fail)
  obtain ⟨W1, hW1⟩ : ∃ W, W = ((w.alloc (.cells #[.int .i64 a1, .int .i64 a2, .int .i64 a3, .int .i64 a4, .int .i64 a5, .int .i64 a6, .int .i64 a7, .int .i64 a8, .int .i64 a9, .int .i64 a10, .int .i64 a11, .int .i64 a12] 29)).alloc (.cells #[.int .i64 b1, .int .i64 b2, .int .i64 b3, .int .i64 b4, .int .i64 b5, .int .i64 b6, .int .i64 b7, .int .i64 b8, .int .i64 b9, .int .i64 b10, .int .i64 b11, .int .i64 b12] 29)).alloc (.cells #[.int .i64 0, .int .i64 0, .int .i64 0, .int .i64 0, .int .i64 0, .int .i64 0, .int .i64 0, .int .i64 0, .int .i64 0, .int .i64 0, .int .i64 0, .int .i64 0] 29) := ⟨_, rfl⟩
  have B1 : Below w.heap.size w W1 := by rw [hW1]; go_grown
  have k_a : Bk W1 (w.heap.size) 29 #[.int .i64 a1, .int .i64 a2, .int .i64 a3, .int .i64 a4, .int .i64 a5, .int .i64 a6, .int .i64 a7, .int .i64 a8, .int .i64 a9, .int .i64 a10, .int .i64 a11, .int .i64 a12] := by rw [hW1]; exact ((Bk.new _ _ _).alloc _).alloc _
  have k_b : Bk W1 (w.heap.size + 1) 29 #[.int .i64 b1, .int .i64 b2, .int .i64 b3, .int .i64 b4, .int .i64 b5, .int .i64 b6, .int .i64 b7, .int .i64 b8, .int .i64 b9, .int .i64 b10, .int .i64 b11, .int .i64 b12] := by rw [hW1]; exact (Bk.new_at _ _ _ _ (by simp)).alloc _
  have k_r : Bk W1 (w.heap.size + 1 + 1) 29 #[.int .i64 0, .int .i64 0, .int .i64 0, .int .i64 0, .int .i64 0, .int .i64 0, .int .i64 0, .int .i64 0, .int .i64 0, .int .i64 0, .int .i64 0, .int .i64 0] := by rw [hW1]; exact Bk.new_at _ _ _ _ (by simp)
  rw [← hW1]
  clear hW1
  have l_b : w.heap.size < w.heap.size + 1 := by omega
  have l_r : w.heap.size + 1 < w.heap.size + 1 + 1 := by omega
  generalize w.heap.size + 1 + 1 = g_r at *
  generalize w.heap.size + 1 = g_b at *
  have c_a_0 : ∀ p : BW W1, p.w.cell? ⟨w.heap.size, 0, none⟩ = some (.int .i64 a1) := bw_cell (k_a.cell rfl)
  have c_a_1 : ∀ p : BW W1, p.w.cell? ⟨w.heap.size, 1, none⟩ = some (.int .i64 a2) := bw_cell (k_a.cell rfl)
  have c_a_2 : ∀ p : BW W1, p.w.cell? ⟨w.heap.size, 2, none⟩ = some (.int .i64 a3) := bw_cell (k_a.cell rfl)
  have c_a_3 : ∀ p : BW W1, p.w.cell? ⟨w.heap.size, 3, none⟩ = some (.int .i64 a4) := bw_cell (k_a.cell rfl)
  have c_a_4 : ∀ p : BW W1, p.w.cell? ⟨w.heap.size, 4, none⟩ = some (.int .i64 a5) := bw_cell (k_a.cell rfl)
  have c_a_5 : ∀ p : BW W1, p.w.cell? ⟨w.heap.size, 5, none⟩ = some (.int .i64 a6) := bw_cell (k_a.cell rfl)
  have c_a_6 : ∀ p : BW W1, p.w.cell? ⟨w.heap.size, 6, none⟩ = some (.int .i64 a7) := bw_cell (k_a.cell rfl)
  have c_a_7 : ∀ p : BW W1, p.w.cell? ⟨w.heap.size, 7, none⟩ = some (.int .i64 a8) := bw_cell (k_a.cell rfl)
  have c_a_8 : ∀ p : BW W1, p.w.cell? ⟨w.heap.size, 8, none⟩ = some (.int .i64 a9) := bw_cell (k_a.cell rfl)
  have c_a_9 : ∀ p : BW W1, p.w.cell? ⟨w.heap.size, 9, none⟩ = some (.int .i64 a10) := bw_cell (k_a.cell rfl)
  have c_a_10 : ∀ p : BW W1, p.w.cell? ⟨w.heap.size, 10, none⟩ = some (.int .i64 a11) := bw_cell (k_a.cell rfl)
  have c_a_11 : ∀ p : BW W1, p.w.cell? ⟨w.heap.size, 11, none⟩ = some (.int .i64 a12) := bw_cell (k_a.cell rfl)
  have c_b_0 : ∀ p : BW W1, p.w.cell? ⟨g_b, 0, none⟩ = some (.int .i64 b1) := bw_cell (k_b.cell rfl)
  have c_b_1 : ∀ p : BW W1, p.w.cell? ⟨g_b, 1, none⟩ = some (.int .i64 b2) := bw_cell (k_b.cell rfl)
  have c_b_2 : ∀ p : BW W1, p.w.cell? ⟨g_b, 2, none⟩ = some (.int .i64 b3) := bw_cell (k_b.cell rfl)
  have c_b_3 : ∀ p : BW W1, p.w.cell? ⟨g_b, 3, none⟩ = some (.int .i64 b4) := bw_cell (k_b.cell rfl)
  have c_b_4 : ∀ p : BW W1, p.w.cell? ⟨g_b, 4, none⟩ = some (.int .i64 b5) := bw_cell (k_b.cell rfl)
  have c_b_5 : ∀ p : BW W1, p.w.cell? ⟨g_b, 5, none⟩ = some (.int .i64 b6) := bw_cell (k_b.cell rfl)
  have c_b_6 : ∀ p : BW W1, p.w.cell? ⟨g_b, 6, none⟩ = some (.int .i64 b7) := bw_cell (k_b.cell rfl)
  have c_b_7 : ∀ p : BW W1, p.w.cell? ⟨g_b, 7, none⟩ = some (.int .i64 b8) := bw_cell (k_b.cell rfl)
  have c_b_8 : ∀ p : BW W1, p.w.cell? ⟨g_b, 8, none⟩ = some (.int .i64 b9) := bw_cell (k_b.cell rfl)
  have c_b_9 : ∀ p : BW W1, p.w.cell? ⟨g_b, 9, none⟩ = some (.int .i64 b10) := bw_cell (k_b.cell rfl)
  have c_b_10 : ∀ p : BW W1, p.w.cell? ⟨g_b, 10, none⟩ = some (.int .i64 b11) := bw_cell (k_b.cell rfl)
  have c_b_11 : ∀ p : BW W1, p.w.cell? ⟨g_b, 11, none⟩ = some (.int .i64 b12) := bw_cell (k_b.cell rfl)
  have c_r_0 : ∀ p : BW W1, p.w.cell? ⟨g_r, 0, none⟩ = some (.int .i64 0) := bw_cell (k_r.cell rfl)
  have c_r_1 : ∀ p : BW W1, p.w.cell? ⟨g_r, 1, none⟩ = some (.int .i64 0) := bw_cell (k_r.cell rfl)
  have c_r_2 : ∀ p : BW W1, p.w.cell? ⟨g_r, 2, none⟩ = some (.int .i64 0) := bw_cell (k_r.cell rfl)
  have c_r_3 : ∀ p : BW W1, p.w.cell? ⟨g_r, 3, none⟩ = some (.int .i64 0) := bw_cell (k_r.cell rfl)
  have c_r_4 : ∀ p : BW W1, p.w.cell? ⟨g_r, 4, none⟩ = some (.int .i64 0) := bw_cell (k_r.cell rfl)
  have c_r_5 : ∀ p : BW W1, p.w.cell? ⟨g_r, 5, none⟩ = some (.int .i64 0) := bw_cell (k_r.cell rfl)
  have c_r_6 : ∀ p : BW W1, p.w.cell? ⟨g_r, 6, none⟩ = some (.int .i64 0) := bw_cell (k_r.cell rfl)
  have c_r_7 : ∀ p : BW W1, p.w.cell? ⟨g_r, 7, none⟩ = some (.int .i64 0) := bw_cell (k_r.cell rfl)
  have c_r_8 : ∀ p : BW W1, p.w.cell? ⟨g_r, 8, none⟩ = some (.int .i64 0) := bw_cell (k_r.cell rfl)
  have c_r_9 : ∀ p : BW W1, p.w.cell? ⟨g_r, 9, none⟩ = some (.int .i64 0) := bw_cell (k_r.cell rfl)
  have c_r_10 : ∀ p : BW W1, p.w.cell? ⟨g_r, 10, none⟩ = some (.int .i64 0) := bw_cell (k_r.cell rfl)
  have c_r_11 : ∀ p : BW W1, p.w.cell? ⟨g_r, 11, none⟩ = some (.int .i64 0) := bw_cell (k_r.cell rfl)
  obtain ⟨p1, hp1⟩ : ∃ p : BW W1, p.w = W1 := ⟨BW.start W1, rfl⟩
  rw [← hp1]
  clear hp1
  go_upto_region 3 with (first
    | (go_at_call 7; (first | (with_reducible refine (bw_call N1.out _).mono ?_) | (with_reducible refine (bw_call N2.out _).mono ?_)); rintro e w' ⟨rfl, q, rfl⟩))
  go_upto_region 4 with (first
    | (go_at_call 37; (first | (with_reducible refine (bw_call C.out _).mono ?_)); rintro e w' ⟨rfl, q, rfl⟩))
  obtain ⟨W2, hW2⟩ : ∃ W, W = q.w.alloc (.cells #[.int .i64 a1, .int .i64 a4, .int .i64 a7, .int .i64 a2, .int .i64 a5, .int .i64 a8, .int .i64 a3, .int .i64 a6, .int .i64 a9, .int .i64 0, .int .i64 0, .int .i64 0] 29) := ⟨_, rfl⟩
  have B2 : Below w.heap.size w W2 := by rw [hW2]; exact (bw_below B1 q).alloc (bw_below B1 q).size _
  have l_k : g_r < q.w.heap.size := (k_r.below q.h).lt
  have o_k : w.heap.size ≤ q.w.heap.size := (bw_below B1 q).size
  have k_a := (k_a.below q.h).alloc (.cells #[.int .i64 a1, .int .i64 a4, .int .i64 a7, .int .i64 a2, .int .i64 a5, .int .i64 a8, .int .i64 a3, .int .i64 a6, .int .i64 a9, .int .i64 0, .int .i64 0, .int .i64 0] 29)
  rw [← hW2] at k_a
  have k_b := (k_b.below q.h).alloc (.cells #[.int .i64 a1, .int .i64 a4, .int .i64 a7, .int .i64 a2, .int .i64 a5, .int .i64 a8, .int .i64 a3, .int .i64 a6, .int .i64 a9, .int .i64 0, .int .i64 0, .int .i64 0] 29)
  rw [← hW2] at k_b
  have k_r := (k_r.below q.h).alloc (.cells #[.int .i64 a1, .int .i64 a4, .int .i64 a7, .int .i64 a2, .int .i64 a5, .int .i64 a8, .int .i64 a3, .int .i64 a6, .int .i64 a9, .int .i64 0, .int .i64 0, .int .i64 0] 29)
  rw [← hW2] at k_r
  have k_k : Bk W2 q.w.heap.size 29 #[.int .i64 a1, .int .i64 a4, .int .i64 a7, .int .i64 a2, .int .i64 a5, .int .i64 a8, .int .i64 a3, .int .i64 a6, .int .i64 a9, .int .i64 0, .int .i64 0, .int .i64 0] := by rw [hW2]; exact Bk.new _ _ _
  rw [← hW2]
  clear hW2
  clear B1
  clear c_a_0 c_a_1 c_a_2 c_a_3 c_a_4 c_a_5 c_a_6 c_a_7 c_a_8 c_a_9 c_a_10 c_a_11 c_b_0 c_b_1 c_b_2 c_b_3 c_b_4 c_b_5 c_b_6 c_b_7 c_b_8 c_b_9 c_b_10 c_b_11 c_r_0 c_r_1 c_r_2 c_r_3 c_r_4 c_r_5 c_r_6 c_r_7 c_r_8 c_r_9 c_r_10 c_r_11
  generalize q.w.heap.size = g_k at *
  have c_a_0 : ∀ p : BW W2, p.w.cell? ⟨w.heap.size, 0, none⟩ = some (.int .i64 a1) := bw_cell (k_a.cell rfl)
  have c_a_1 : ∀ p : BW W2, p.w.cell? ⟨w.heap.size, 1, none⟩ = some (.int .i64 a2) := bw_cell (k_a.cell rfl)
  have c_a_2 : ∀ p : BW W2, p.w.cell? ⟨w.heap.size, 2, none⟩ = some (.int .i64 a3) := bw_cell (k_a.cell rfl)
  have c_a_3 : ∀ p : BW W2, p.w.cell? ⟨w.heap.size, 3, none⟩ = some (.int .i64 a4) := bw_cell (k_a.cell rfl)
  have c_a_4 : ∀ p : BW W2, p.w.cell? ⟨w.heap.size, 4, none⟩ = some (.int .i64 a5) := bw_cell (k_a.cell rfl)
  have c_a_5 : ∀ p : BW W2, p.w.cell? ⟨w.heap.size, 5, none⟩ = some (.int .i64 a6) := bw_cell (k_a.cell rfl)
  have c_a_6 : ∀ p : BW W2, p.w.cell? ⟨w.heap.size, 6, none⟩ = some (.int .i64 a7) := bw_cell (k_a.cell rfl)
  have c_a_7 : ∀ p : BW W2, p.w.cell? ⟨w.heap.size, 7, none⟩ = some (.int .i64 a8) := bw_cell (k_a.cell rfl)
  have c_a_8 : ∀ p : BW W2, p.w.cell? ⟨w.heap.size, 8, none⟩ = some (.int .i64 a9) := bw_cell (k_a.cell rfl)
  have c_a_9 : ∀ p : BW W2, p.w.cell? ⟨w.heap.size, 9, none⟩ = some (.int .i64 a10) := bw_cell (k_a.cell rfl)
  have c_a_10 : ∀ p : BW W2, p.w.cell? ⟨w.heap.size, 10, none⟩ = some (.int .i64 a11) := bw_cell (k_a.cell rfl)
  have c_a_11 : ∀ p : BW W2, p.w.cell? ⟨w.heap.size, 11, none⟩ = some (.int .i64 a12) := bw_cell (k_a.cell rfl)
  have c_b_0 : ∀ p : BW W2, p.w.cell? ⟨g_b, 0, none⟩ = some (.int .i64 b1) := bw_cell (k_b.cell rfl)
  have c_b_1 : ∀ p : BW W2, p.w.cell? ⟨g_b, 1, none⟩ = some (.int .i64 b2) := bw_cell (k_b.cell rfl)
  have c_b_2 : ∀ p : BW W2, p.w.cell? ⟨g_b, 2, none⟩ = some (.int .i64 b3) := bw_cell (k_b.cell rfl)
  have c_b_3 : ∀ p : BW W2, p.w.cell? ⟨g_b, 3, none⟩ = some (.int .i64 b4) := bw_cell (k_b.cell rfl)
  have c_b_4 : ∀ p : BW W2, p.w.cell? ⟨g_b, 4, none⟩ = some (.int .i64 b5) := bw_cell (k_b.cell rfl)
  have c_b_5 : ∀ p : BW W2, p.w.cell? ⟨g_b, 5, none⟩ = some (.int .i64 b6) := bw_cell (k_b.cell rfl)
  have c_b_6 : ∀ p : BW W2, p.w.cell? ⟨g_b, 6, none⟩ = some (.int .i64 b7) := bw_cell (k_b.cell rfl)
  have c_b_7 : ∀ p : BW W2, p.w.cell? ⟨g_b, 7, none⟩ = some (.int .i64 b8) := bw_cell (k_b.cell rfl)
  have c_b_8 : ∀ p : BW W2, p.w.cell? ⟨g_b, 8, none⟩ = some (.int .i64 b9) := bw_cell (k_b.cell rfl)
  have c_b_9 : ∀ p : BW W2, p.w.cell? ⟨g_b, 9, none⟩ = some (.int .i64 b10) := bw_cell (k_b.cell rfl)
  have c_b_10 : ∀ p : BW W2, p.w.cell? ⟨g_b, 10, none⟩ = some (.int .i64 b11) := bw_cell (k_b.cell rfl)
  have c_b_11 : ∀ p : BW W2, p.w.cell? ⟨g_b, 11, none⟩ = some (.int .i64 b12) := bw_cell (k_b.cell rfl)
  have c_r_0 : ∀ p : BW W2, p.w.cell? ⟨g_r, 0, none⟩ = some (.int .i64 0) := bw_cell (k_r.cell rfl)
  have f_r_0 : ∀ p : BW W2, p.w.frozen? ⟨g_r, 0, none⟩ = false := fun p => (k_r.below p.h).frozen 0
  have c_r_1 : ∀ p : BW W2, p.w.cell? ⟨g_r, 1, none⟩ = some (.int .i64 0) := bw_cell (k_r.cell rfl)
  have f_r_1 : ∀ p : BW W2, p.w.frozen? ⟨g_r, 1, none⟩ = false := fun p => (k_r.below p.h).frozen 1
  have c_r_2 : ∀ p : BW W2, p.w.cell? ⟨g_r, 2, none⟩ = some (.int .i64 0) := bw_cell (k_r.cell rfl)
  have f_r_2 : ∀ p : BW W2, p.w.frozen? ⟨g_r, 2, none⟩ = false := fun p => (k_r.below p.h).frozen 2
  have c_r_3 : ∀ p : BW W2, p.w.cell? ⟨g_r, 3, none⟩ = some (.int .i64 0) := bw_cell (k_r.cell rfl)
  have f_r_3 : ∀ p : BW W2, p.w.frozen? ⟨g_r, 3, none⟩ = false := fun p => (k_r.below p.h).frozen 3
  have c_r_4 : ∀ p : BW W2, p.w.cell? ⟨g_r, 4, none⟩ = some (.int .i64 0) := bw_cell (k_r.cell rfl)
  have f_r_4 : ∀ p : BW W2, p.w.frozen? ⟨g_r, 4, none⟩ = false := fun p => (k_r.below p.h).frozen 4
  have c_r_5 : ∀ p : BW W2, p.w.cell? ⟨g_r, 5, none⟩ = some (.int .i64 0) := bw_cell (k_r.cell rfl)
  have f_r_5 : ∀ p : BW W2, p.w.frozen? ⟨g_r, 5, none⟩ = false := fun p => (k_r.below p.h).frozen 5
  have c_r_6 : ∀ p : BW W2, p.w.cell? ⟨g_r, 6, none⟩ = some (.int .i64 0) := bw_cell (k_r.cell rfl)
  have f_r_6 : ∀ p : BW W2, p.w.frozen? ⟨g_r, 6, none⟩ = false := fun p => (k_r.below p.h).frozen 6
  have c_r_7 : ∀ p : BW W2, p.w.cell? ⟨g_r, 7, none⟩ = some (.int .i64 0) := bw_cell (k_r.cell rfl)
  have f_r_7 : ∀ p : BW W2, p.w.frozen? ⟨g_r, 7, none⟩ = false := fun p => (k_r.below p.h).frozen 7
  have c_r_8 : ∀ p : BW W2, p.w.cell? ⟨g_r, 8, none⟩ = some (.int .i64 0) := bw_cell (k_r.cell rfl)
  have f_r_8 : ∀ p : BW W2, p.w.frozen? ⟨g_r, 8, none⟩ = false := fun p => (k_r.below p.h).frozen 8
  have c_r_9 : ∀ p : BW W2, p.w.cell? ⟨g_r, 9, none⟩ = some (.int .i64 0) := bw_cell (k_r.cell rfl)
  have f_r_9 : ∀ p : BW W2, p.w.frozen? ⟨g_r, 9, none⟩ = false := fun p => (k_r.below p.h).frozen 9
  have c_r_10 : ∀ p : BW W2, p.w.cell? ⟨g_r, 10, none⟩ = some (.int .i64 0) := bw_cell (k_r.cell rfl)
  have f_r_10 : ∀ p : BW W2, p.w.frozen? ⟨g_r, 10, none⟩ = false := fun p => (k_r.below p.h).frozen 10
  have c_r_11 : ∀ p : BW W2, p.w.cell? ⟨g_r, 11, none⟩ = some (.int .i64 0) := bw_cell (k_r.cell rfl)
  have f_r_11 : ∀ p : BW W2, p.w.frozen? ⟨g_r, 11, none⟩ = false := fun p => (k_r.below p.h).frozen 11
  have c_k_0 : ∀ p : BW W2, p.w.cell? ⟨g_k, 0, none⟩ = some (.int .i64 a1) := bw_cell (k_k.cell rfl)
  have c_k_1 : ∀ p : BW W2, p.w.cell? ⟨g_k, 1, none⟩ = some (.int .i64 a4) := bw_cell (k_k.cell rfl)
  have c_k_2 : ∀ p : BW W2, p.w.cell? ⟨g_k, 2, none⟩ = some (.int .i64 a7) := bw_cell (k_k.cell rfl)
  have c_k_3 : ∀ p : BW W2, p.w.cell? ⟨g_k, 3, none⟩ = some (.int .i64 a2) := bw_cell (k_k.cell rfl)
  have c_k_4 : ∀ p : BW W2, p.w.cell? ⟨g_k, 4, none⟩ = some (.int .i64 a5) := bw_cell (k_k.cell rfl)
  have c_k_5 : ∀ p : BW W2, p.w.cell? ⟨g_k, 5, none⟩ = some (.int .i64 a8) := bw_cell (k_k.cell rfl)
  have c_k_6 : ∀ p : BW W2, p.w.cell? ⟨g_k, 6, none⟩ = some (.int .i64 a3) := bw_cell (k_k.cell rfl)
  have c_k_7 : ∀ p : BW W2, p.w.cell? ⟨g_k, 7, none⟩ = some (.int .i64 a6) := bw_cell (k_k.cell rfl)
  have c_k_8 : ∀ p : BW W2, p.w.cell? ⟨g_k, 8, none⟩ = some (.int .i64 a9) := bw_cell (k_k.cell rfl)
  have c_k_9 : ∀ p : BW W2, p.w.cell? ⟨g_k, 9, none⟩ = some (.int .i64 0) := bw_cell (k_k.cell rfl)
  have c_k_10 : ∀ p : BW W2, p.w.cell? ⟨g_k, 10, none⟩ = some (.int .i64 0) := bw_cell (k_k.cell rfl)
  have c_k_11 : ∀ p : BW W2, p.w.cell? ⟨g_k, 11, none⟩ = some (.int .i64 0) := bw_cell (k_k.cell rfl)
  obtain ⟨p2, hp2⟩ : ∃ p : BW W2, p.w = W2 := ⟨BW.start W2, rfl⟩
  rw [← hp2]
  clear hp2
  refine wp_region_bw_tail 16 (by kernel_rfl) (by kernel_rfl) (by kernel_rfl) ?_
  simp only [List.take_succ_cons, List.take_zero, List.drop_succ_cons, List.drop_zero]
  repeat (go_big_quiet_step (first
    | (go_at_call 38; (first | (with_reducible exact bw_call R0.out _) | (with_reducible exact bw_call R1.out _) | (with_reducible exact bw_call R2.out _)))
    | (go_at_call 20; (first | (with_reducible exact bw_call Q.out _)))))
  refine wpQuiet_nil ?_
  intro _ hw'
  obtain ⟨q, rfl⟩ := hw'
  go_wp2
  have kr : Bk ((((((((((((q.w.setCell ⟨g_r, 0, none⟩ (.int .i64 r0)).setCell ⟨g_r, 1, none⟩ (.int .i64 r1)).setCell ⟨g_r, 2, none⟩ (.int .i64 r2)).setCell ⟨g_r, 3, none⟩ (.int .i64 r3)).setCell ⟨g_r, 4, none⟩ (.int .i64 r4)).setCell ⟨g_r, 5, none⟩ (.int .i64 r5)).setCell ⟨g_r, 6, none⟩ (.int .i64 r6)).setCell ⟨g_r, 7, none⟩ (.int .i64 r7)).setCell ⟨g_r, 8, none⟩ (.int .i64 r8)).setCell ⟨g_r, 9, none⟩ (.int .i64 m0)).setCell ⟨g_r, 10, none⟩ (.int .i64 m1)).setCell ⟨g_r, 11, none⟩ (.int .i64 m2)) (g_r) 29 #[.int .i64 r0, .int .i64 r1, .int .i64 r2, .int .i64 r3, .int .i64 r4, .int .i64 r5, .int .i64 r6, .int .i64 r7, .int .i64 r8, .int .i64 m0, .int .i64 m1, .int .i64 m2] := (((((((((((((k_r.below q.h).set 0 (.int .i64 r0)).set 1 (.int .i64 r1)).set 2 (.int .i64 r2)).set 3 (.int .i64 r3)).set 4 (.int .i64 r4)).set 5 (.int .i64 r5)).set 6 (.int .i64 r6)).set 7 (.int .i64 r7)).set 8 (.int .i64 r8)).set 9 (.int .i64 m0)).set 10 (.int .i64 m1)).set 11 (.int .i64 m2)).cast (by simp)
  have rc0 : World.cell? ((((((((((((q.w.setCell ⟨g_r, 0, none⟩ (.int .i64 r0)).setCell ⟨g_r, 1, none⟩ (.int .i64 r1)).setCell ⟨g_r, 2, none⟩ (.int .i64 r2)).setCell ⟨g_r, 3, none⟩ (.int .i64 r3)).setCell ⟨g_r, 4, none⟩ (.int .i64 r4)).setCell ⟨g_r, 5, none⟩ (.int .i64 r5)).setCell ⟨g_r, 6, none⟩ (.int .i64 r6)).setCell ⟨g_r, 7, none⟩ (.int .i64 r7)).setCell ⟨g_r, 8, none⟩ (.int .i64 r8)).setCell ⟨g_r, 9, none⟩ (.int .i64 m0)).setCell ⟨g_r, 10, none⟩ (.int .i64 m1)).setCell ⟨g_r, 11, none⟩ (.int .i64 m2)) ⟨g_r, 0, none⟩ = some (.int .i64 r0) := kr.cell rfl
  have rc1 : World.cell? ((((((((((((q.w.setCell ⟨g_r, 0, none⟩ (.int .i64 r0)).setCell ⟨g_r, 1, none⟩ (.int .i64 r1)).setCell ⟨g_r, 2, none⟩ (.int .i64 r2)).setCell ⟨g_r, 3, none⟩ (.int .i64 r3)).setCell ⟨g_r, 4, none⟩ (.int .i64 r4)).setCell ⟨g_r, 5, none⟩ (.int .i64 r5)).setCell ⟨g_r, 6, none⟩ (.int .i64 r6)).setCell ⟨g_r, 7, none⟩ (.int .i64 r7)).setCell ⟨g_r, 8, none⟩ (.int .i64 r8)).setCell ⟨g_r, 9, none⟩ (.int .i64 m0)).setCell ⟨g_r, 10, none⟩ (.int .i64 m1)).setCell ⟨g_r, 11, none⟩ (.int .i64 m2)) ⟨g_r, 1, none⟩ = some (.int .i64 r1) := kr.cell rfl
  have rc2 : World.cell? ((((((((((((q.w.setCell ⟨g_r, 0, none⟩ (.int .i64 r0)).setCell ⟨g_r, 1, none⟩ (.int .i64 r1)).setCell ⟨g_r, 2, none⟩ (.int .i64 r2)).setCell ⟨g_r, 3, none⟩ (.int .i64 r3)).setCell ⟨g_r, 4, none⟩ (.int .i64 r4)).setCell ⟨g_r, 5, none⟩ (.int .i64 r5)).setCell ⟨g_r, 6, none⟩ (.int .i64 r6)).setCell ⟨g_r, 7, none⟩ (.int .i64 r7)).setCell ⟨g_r, 8, none⟩ (.int .i64 r8)).setCell ⟨g_r, 9, none⟩ (.int .i64 m0)).setCell ⟨g_r, 10, none⟩ (.int .i64 m1)).setCell ⟨g_r, 11, none⟩ (.int .i64 m2)) ⟨g_r, 2, none⟩ = some (.int .i64 r2) := kr.cell rfl
  have rc3 : World.cell? ((((((((((((q.w.setCell ⟨g_r, 0, none⟩ (.int .i64 r0)).setCell ⟨g_r, 1, none⟩ (.int .i64 r1)).setCell ⟨g_r, 2, none⟩ (.int .i64 r2)).setCell ⟨g_r, 3, none⟩ (.int .i64 r3)).setCell ⟨g_r, 4, none⟩ (.int .i64 r4)).setCell ⟨g_r, 5, none⟩ (.int .i64 r5)).setCell ⟨g_r, 6, none⟩ (.int .i64 r6)).setCell ⟨g_r, 7, none⟩ (.int .i64 r7)).setCell ⟨g_r, 8, none⟩ (.int .i64 r8)).setCell ⟨g_r, 9, none⟩ (.int .i64 m0)).setCell ⟨g_r, 10, none⟩ (.int .i64 m1)).setCell ⟨g_r, 11, none⟩ (.int .i64 m2)) ⟨g_r, 3, none⟩ = some (.int .i64 r3) := kr.cell rfl
  have rc4 : World.cell? ((((((((((((q.w.setCell ⟨g_r, 0, none⟩ (.int .i64 r0)).setCell ⟨g_r, 1, none⟩ (.int .i64 r1)).setCell ⟨g_r, 2, none⟩ (.int .i64 r2)).setCell ⟨g_r, 3, none⟩ (.int .i64 r3)).setCell ⟨g_r, 4, none⟩ (.int .i64 r4)).setCell ⟨g_r, 5, none⟩ (.int .i64 r5)).setCell ⟨g_r, 6, none⟩ (.int .i64 r6)).setCell ⟨g_r, 7, none⟩ (.int .i64 r7)).setCell ⟨g_r, 8, none⟩ (.int .i64 r8)).setCell ⟨g_r, 9, none⟩ (.int .i64 m0)).setCell ⟨g_r, 10, none⟩ (.int .i64 m1)).setCell ⟨g_r, 11, none⟩ (.int .i64 m2)) ⟨g_r, 4, none⟩ = some (.int .i64 r4) := kr.cell rfl
  have rc5 : World.cell? ((((((((((((q.w.setCell ⟨g_r, 0, none⟩ (.int .i64 r0)).setCell ⟨g_r, 1, none⟩ (.int .i64 r1)).setCell ⟨g_r, 2, none⟩ (.int .i64 r2)).setCell ⟨g_r, 3, none⟩ (.int .i64 r3)).setCell ⟨g_r, 4, none⟩ (.int .i64 r4)).setCell ⟨g_r, 5, none⟩ (.int .i64 r5)).setCell ⟨g_r, 6, none⟩ (.int .i64 r6)).setCell ⟨g_r, 7, none⟩ (.int .i64 r7)).setCell ⟨g_r, 8, none⟩ (.int .i64 r8)).setCell ⟨g_r, 9, none⟩ (.int .i64 m0)).setCell ⟨g_r, 10, none⟩ (.int .i64 m1)).setCell ⟨g_r, 11, none⟩ (.int .i64 m2)) ⟨g_r, 5, none⟩ = some (.int .i64 r5) := kr.cell rfl
  have rc6 : World.cell? ((((((((((((q.w.setCell ⟨g_r, 0, none⟩ (.int .i64 r0)).setCell ⟨g_r, 1, none⟩ (.int .i64 r1)).setCell ⟨g_r, 2, none⟩ (.int .i64 r2)).setCell ⟨g_r, 3, none⟩ (.int .i64 r3)).setCell ⟨g_r, 4, none⟩ (.int .i64 r4)).setCell ⟨g_r, 5, none⟩ (.int .i64 r5)).setCell ⟨g_r, 6, none⟩ (.int .i64 r6)).setCell ⟨g_r, 7, none⟩ (.int .i64 r7)).setCell ⟨g_r, 8, none⟩ (.int .i64 r8)).setCell ⟨g_r, 9, none⟩ (.int .i64 m0)).setCell ⟨g_r, 10, none⟩ (.int .i64 m1)).setCell ⟨g_r, 11, none⟩ (.int .i64 m2)) ⟨g_r, 6, none⟩ = some (.int .i64 r6) := kr.cell rfl
  have rc7 : World.cell? ((((((((((((q.w.setCell ⟨g_r, 0, none⟩ (.int .i64 r0)).setCell ⟨g_r, 1, none⟩ (.int .i64 r1)).setCell ⟨g_r, 2, none⟩ (.int .i64 r2)).setCell ⟨g_r, 3, none⟩ (.int .i64 r3)).setCell ⟨g_r, 4, none⟩ (.int .i64 r4)).setCell ⟨g_r, 5, none⟩ (.int .i64 r5)).setCell ⟨g_r, 6, none⟩ (.int .i64 r6)).setCell ⟨g_r, 7, none⟩ (.int .i64 r7)).setCell ⟨g_r, 8, none⟩ (.int .i64 r8)).setCell ⟨g_r, 9, none⟩ (.int .i64 m0)).setCell ⟨g_r, 10, none⟩ (.int .i64 m1)).setCell ⟨g_r, 11, none⟩ (.int .i64 m2)) ⟨g_r, 7, none⟩ = some (.int .i64 r7) := kr.cell rfl
  have rc8 : World.cell? ((((((((((((q.w.setCell ⟨g_r, 0, none⟩ (.int .i64 r0)).setCell ⟨g_r, 1, none⟩ (.int .i64 r1)).setCell ⟨g_r, 2, none⟩ (.int .i64 r2)).setCell ⟨g_r, 3, none⟩ (.int .i64 r3)).setCell ⟨g_r, 4, none⟩ (.int .i64 r4)).setCell ⟨g_r, 5, none⟩ (.int .i64 r5)).setCell ⟨g_r, 6, none⟩ (.int .i64 r6)).setCell ⟨g_r, 7, none⟩ (.int .i64 r7)).setCell ⟨g_r, 8, none⟩ (.int .i64 r8)).setCell ⟨g_r, 9, none⟩ (.int .i64 m0)).setCell ⟨g_r, 10, none⟩ (.int .i64 m1)).setCell ⟨g_r, 11, none⟩ (.int .i64 m2)) ⟨g_r, 8, none⟩ = some (.int .i64 r8) := kr.cell rfl
  have rc9 : World.cell? ((((((((((((q.w.setCell ⟨g_r, 0, none⟩ (.int .i64 r0)).setCell ⟨g_r, 1, none⟩ (.int .i64 r1)).setCell ⟨g_r, 2, none⟩ (.int .i64 r2)).setCell ⟨g_r, 3, none⟩ (.int .i64 r3)).setCell ⟨g_r, 4, none⟩ (.int .i64 r4)).setCell ⟨g_r, 5, none⟩ (.int .i64 r5)).setCell ⟨g_r, 6, none⟩ (.int .i64 r6)).setCell ⟨g_r, 7, none⟩ (.int .i64 r7)).setCell ⟨g_r, 8, none⟩ (.int .i64 r8)).setCell ⟨g_r, 9, none⟩ (.int .i64 m0)).setCell ⟨g_r, 10, none⟩ (.int .i64 m1)).setCell ⟨g_r, 11, none⟩ (.int .i64 m2)) ⟨g_r, 9, none⟩ = some (.int .i64 m0) := kr.cell rfl
  have rc10 : World.cell? ((((((((((((q.w.setCell ⟨g_r, 0, none⟩ (.int .i64 r0)).setCell ⟨g_r, 1, none⟩ (.int .i64 r1)).setCell ⟨g_r, 2, none⟩ (.int .i64 r2)).setCell ⟨g_r, 3, none⟩ (.int .i64 r3)).setCell ⟨g_r, 4, none⟩ (.int .i64 r4)).setCell ⟨g_r, 5, none⟩ (.int .i64 r5)).setCell ⟨g_r, 6, none⟩ (.int .i64 r6)).setCell ⟨g_r, 7, none⟩ (.int .i64 r7)).setCell ⟨g_r, 8, none⟩ (.int .i64 r8)).setCell ⟨g_r, 9, none⟩ (.int .i64 m0)).setCell ⟨g_r, 10, none⟩ (.int .i64 m1)).setCell ⟨g_r, 11, none⟩ (.int .i64 m2)) ⟨g_r, 10, none⟩ = some (.int .i64 m1) := kr.cell rfl
  have rc11 : World.cell? ((((((((((((q.w.setCell ⟨g_r, 0, none⟩ (.int .i64 r0)).setCell ⟨g_r, 1, none⟩ (.int .i64 r1)).setCell ⟨g_r, 2, none⟩ (.int .i64 r2)).setCell ⟨g_r, 3, none⟩ (.int .i64 r3)).setCell ⟨g_r, 4, none⟩ (.int .i64 r4)).setCell ⟨g_r, 5, none⟩ (.int .i64 r5)).setCell ⟨g_r, 6, none⟩ (.int .i64 r6)).setCell ⟨g_r, 7, none⟩ (.int .i64 r7)).setCell ⟨g_r, 8, none⟩ (.int .i64 r8)).setCell ⟨g_r, 9, none⟩ (.int .i64 m0)).setCell ⟨g_r, 10, none⟩ (.int .i64 m1)).setCell ⟨g_r, 11, none⟩ (.int .i64 m2)) ⟨g_r, 11, none⟩ = some (.int .i64 m2) := kr.cell rfl
  exact bodyPost_ret (v := .agg #[.int .i64 r0, .int .i64 r1, .int .i64 r2, .int .i64 r3, .int .i64 r4, .int .i64 r5, .int .i64 r6, .int .i64 r7, .int .i64 r8, .int .i64 m0, .int .i64 m1, .int .i64 m2]) (by simp [results, Try.results16, go_sem, rc0, rc1, rc2, rc3, rc4, rc5, rc6, rc7, rc8, rc9, rc10, rc11]) rfl ⟨rfl, (((((((((((((bw_below B2 q).setCell (p := ⟨g_r, 0, none⟩) (by show w.heap.size ≤ g_r; omega) _).setCell (p := ⟨g_r, 1, none⟩) (by show w.heap.size ≤ g_r; omega) _).setCell (p := ⟨g_r, 2, none⟩) (by show w.heap.size ≤ g_r; omega) _).setCell (p := ⟨g_r, 3, none⟩) (by show w.heap.size ≤ g_r; omega) _).setCell (p := ⟨g_r, 4, none⟩) (by show w.heap.size ≤ g_r; omega) _).setCell (p := ⟨g_r, 5, none⟩) (by show w.heap.size ≤ g_r; omega) _).setCell (p := ⟨g_r, 6, none⟩) (by show w.heap.size ≤ g_r; omega) _).setCell (p := ⟨g_r, 7, none⟩) (by show w.heap.size ≤ g_r; omega) _).setCell (p := ⟨g_r, 8, none⟩) (by show w.heap.size ≤ g_r; omega) _).setCell (p := ⟨g_r, 9, none⟩) (by show w.heap.size ≤ g_r; omega) _).setCell (p := ⟨g_r, 10, none⟩) (by show w.heap.size ≤ g_r; omega) _).setCell (p := ⟨g_r, 11, none⟩) (by show w.heap.size ≤ g_r; omega) _)⟩

theorem pose_Then (a1 a2 a3 a4 a5 a6 a7 a8 a9 a10 a11 a12 b1 b2 b3 b4 b5 b6 b7 b8 b9 b10 b11 b12 : Int) (w : World) :
    Calls Try.prog 16 #[.agg #[.int .i64 a1, .int .i64 a2, .int .i64 a3, .int .i64 a4, .int .i64 a5, .int .i64 a6, .int .i64 a7, .int .i64 a8, .int .i64 a9, .int .i64 a10, .int .i64 a11, .int .i64 a12], .agg #[.int .i64 b1, .int .i64 b2, .int .i64 b3, .int .i64 b4, .int .i64 b5, .int .i64 b6, .int .i64 b7, .int .i64 b8, .int .i64 b9, .int .i64 b10, .int .i64 b11, .int .i64 b12]] w fun e w' => e = .returned (.agg (p12 (pThen ((a1, a2, a3), (a4, a5, a6), (a7, a8, a9), (a10, a11, a12)) ((b1, b2, b3), (b4, b5, b6), (b7, b8, b9), (b10, b11, b12))))) ∧ Below w.heap.size w w' := by
  unfold pThen
  by_cases h : pRight ((a1, a2, a3), (a4, a5, a6), (a7, a8, a9), (a10, a11, a12)) = true ∧ pRight ((b1, b2, b3), (b4, b5, b6), (b7, b8, b9), (b10, b11, b12)) = true
  · rw [if_pos h]; exact pose_Then_yes a1 a2 a3 a4 a5 a6 a7 a8 a9 a10 a11 a12 b1 b2 b3 b4 b5 b6 b7 b8 b9 b10 b11 b12 w h.1 h.2
  · rw [if_neg h]; exact pose_Then_no a1 a2 a3 a4 a5 a6 a7 a8 a9 a10 a11 a12 b1 b2 b3 b4 b5 b6 b7 b8 b9 b10 b11 b12 w h

theorem ps_vec_info : (Try.prog.info? 23).map (fun i => (i.zero, i.size, i.bytes)) = some (some (.agg #[.int .i64 0, .int .i64 0, .int .i64 0]), 3, 24) := by kernel_rfl

set_option maxRecDepth 100000 in
set_option maxHeartbeats 4000000 in
theorem pose_All (a1 a2 a3 a4 a5 a6 a7 a8 a9 a10 a11 a12 : Int) (b off cap n : Nat) (V : Nat → T3) (w : World) (hrow : VcRow w b off n V) (hb : b < w.heap.size) (hn : n ≤ 1048576) :
    Calls Try.prog 18 #[.agg #[.int .i64 a1, .int .i64 a2, .int .i64 a3, .int .i64 a4, .int .i64 a5, .int .i64 a6, .int .i64 a7, .int .i64 a8, .int .i64 a9, .int .i64 a10, .int .i64 a11, .int .i64 a12], .slice (some ⟨b, off, none⟩) n cap] w fun r w' => ∃ v, r = .returned v ∧ w'.ownsRow w.heap.size 23 3 v n ((List.range n).flatMap (fun i => vcells (pPut ((a1, a2, a3), (a4, a5, a6), (a7, a8, a9), (a10, a11, a12)) (V i)))) ∧ Below w.heap.size w w' := by
  obtain ⟨i0, hi, hz0, hz1, hz2⟩ := info_parts ps_vec_info
  have HR := Lib.hid hrow
  clear hrow
  go_enter Try.func18, Try.ntmps18
  go_upto_region 1 with (fail)
  obtain ⟨W1, hW1⟩ : ∃ W, W = w.alloc (.cells #[.int .i64 a1, .int .i64 a2, .int .i64 a3, .int .i64 a4, .int .i64 a5, .int .i64 a6, .int .i64 a7, .int .i64 a8, .int .i64 a9, .int .i64 a10, .int .i64 a11, .int .i64 a12] 29) := ⟨_, rfl⟩
  have B1 : Below w.heap.size w W1 := by rw [hW1]; go_grown
  have k_p : Bk W1 (w.heap.size) 29 #[.int .i64 a1, .int .i64 a2, .int .i64 a3, .int .i64 a4, .int .i64 a5, .int .i64 a6, .int .i64 a7, .int .i64 a8, .int .i64 a9, .int .i64 a10, .int .i64 a11, .int .i64 a12] := by rw [hW1]; exact Bk.new _ _ _
  rw [← hW1]
  clear hW1
  go_wp2
  go_loopw [5, 10] (fun u i wr => ∃ k : Nat, k ≤ n ∧ i = .int .i64 k ∧ wr.ownsRow (w.heap.size + 1) 23 3 u k ((List.range k).flatMap (fun i => vcells (pPut ((a1, a2, a3), (a4, a5, a6), (a7, a8, a9), (a10, a11, a12)) (V i)))) ∧ Bk wr w.heap.size 29 #[.int .i64 a1, .int .i64 a2, .int .i64 a3, .int .i64 a4, .int .i64 a5, .int .i64 a6, .int .i64 a7, .int .i64 a8, .int .i64 a9, .int .i64 a10, .int .i64 a11, .int .i64 a12] ∧ Below w.heap.size w wr) (fun _ i _ => n - (intOf i).toNat)
  case atStart => exact ⟨0, by omega, rfl, World.ownsRow_nil _ _ _ _, k_p, B1⟩
  case round =>
    clear k_p B1
    obtain ⟨k, hk, rfl, hown, k_p, BO⟩ := hrel
    by_cases hlt : k < n
    · obtain ⟨x0, x1, x2⟩ := HR.out k hlt
      replace x0 : wr.cell? ⟨b, off + k * 3, none⟩ = _ := (BO.cell (p := ⟨b, off + k * 3, none⟩) hb).trans x0
      replace x1 : wr.cell? ⟨b, off + k * 3 + 1, none⟩ = _ := (BO.cell (p := ⟨b, off + k * 3 + 1, none⟩) hb).trans x1
      replace x2 : wr.cell? ⟨b, off + k * 3 + 2, none⟩ = _ := (BO.cell (p := ⟨b, off + k * 3 + 2, none⟩) hb).trans x2
      have KP := Lib.hid (fun w => pose_Put a1 a2 a3 a4 a5 a6 a7 a8 a9 a10 a11 a12 (V k).1 (V k).2.1 (V k).2.2 w)
      have HF : Hid ((List.range (k + 1)).flatMap (fun i => vcells (pPut ((a1, a2, a3), (a4, a5, a6), (a7, a8, a9), (a10, a11, a12)) (V i))) = (List.range k).flatMap (fun i => vcells (pPut ((a1, a2, a3), (a4, a5, a6), (a7, a8, a9), (a10, a11, a12)) (V i))) ++ vcells (pPut ((a1, a2, a3), (a4, a5, a6), (a7, a8, a9), (a10, a11, a12)) (V k))) := Lib.hid (by rw [List.range_succ, List.flatMap_append]; simp)
      change Hid (∀ w, Calls Try.prog 20 #[_, .agg #[.int .i64 (V k).1, .int .i64 (V k).2.1, .int .i64 (V k).2.2]] w fun e w' => e = .returned (.agg #[.int .i64 (pPut ((a1, a2, a3), (a4, a5, a6), (a7, a8, a9), (a10, a11, a12)) (V k)).1, .int .i64 (pPut ((a1, a2, a3), (a4, a5, a6), (a7, a8, a9), (a10, a11, a12)) (V k)).2.1, .int .i64 (pPut ((a1, a2, a3), (a4, a5, a6), (a7, a8, a9), (a10, a11, a12)) (V k)).2.2]) ∧ Below w.heap.size w w') at KP
      obtain ⟨P, hP⟩ : ∃ P, P = pPut ((a1, a2, a3), (a4, a5, a6), (a7, a8, a9), (a10, a11, a12)) (V k) := ⟨_, rfl⟩
      rw [← hP] at KP HF
      clear hP
      generalize V k = vk at *
      obtain ⟨v1, v2, v3⟩ := vk
      obtain ⟨p1, p2, p3⟩ := P
      dsimp only at KP x0 x1 x2
      have HV : Hid (vcells (p1, p2, p3) = [.int .i64 p1, .int .i64 p2, .int .i64 p3]) := Lib.hid rfl
      have HOWN := Lib.hid hown
      clear hown
      have z0 : ∀ p : BW wr, p.w.cell? ⟨b, off + k * 3, none⟩ = some (.int .i64 v1) := bw_cell x0
      have z1 : ∀ p : BW wr, p.w.cell? ⟨b, off + k * 3 + 1, none⟩ = some (.int .i64 v2) := bw_cell x1
      have z2 : ∀ p : BW wr, p.w.cell? ⟨b, off + k * 3 + 2, none⟩ = some (.int .i64 v3) := bw_cell x2
      have B20 : Below wr.heap.size wr wr := Below.refl _ _
      have c_p_0 : ∀ p : BW wr, p.w.cell? ⟨w.heap.size, 0, none⟩ = some (.int .i64 a1) := bw_cell (k_p.cell rfl)
      have c_p_1 : ∀ p : BW wr, p.w.cell? ⟨w.heap.size, 1, none⟩ = some (.int .i64 a2) := bw_cell (k_p.cell rfl)
      have c_p_2 : ∀ p : BW wr, p.w.cell? ⟨w.heap.size, 2, none⟩ = some (.int .i64 a3) := bw_cell (k_p.cell rfl)
      have c_p_3 : ∀ p : BW wr, p.w.cell? ⟨w.heap.size, 3, none⟩ = some (.int .i64 a4) := bw_cell (k_p.cell rfl)
      have c_p_4 : ∀ p : BW wr, p.w.cell? ⟨w.heap.size, 4, none⟩ = some (.int .i64 a5) := bw_cell (k_p.cell rfl)
      have c_p_5 : ∀ p : BW wr, p.w.cell? ⟨w.heap.size, 5, none⟩ = some (.int .i64 a6) := bw_cell (k_p.cell rfl)
      have c_p_6 : ∀ p : BW wr, p.w.cell? ⟨w.heap.size, 6, none⟩ = some (.int .i64 a7) := bw_cell (k_p.cell rfl)
      have c_p_7 : ∀ p : BW wr, p.w.cell? ⟨w.heap.size, 7, none⟩ = some (.int .i64 a8) := bw_cell (k_p.cell rfl)
      have c_p_8 : ∀ p : BW wr, p.w.cell? ⟨w.heap.size, 8, none⟩ = some (.int .i64 a9) := bw_cell (k_p.cell rfl)
      have c_p_9 : ∀ p : BW wr, p.w.cell? ⟨w.heap.size, 9, none⟩ = some (.int .i64 a10) := bw_cell (k_p.cell rfl)
      have c_p_10 : ∀ p : BW wr, p.w.cell? ⟨w.heap.size, 10, none⟩ = some (.int .i64 a11) := bw_cell (k_p.cell rfl)
      have c_p_11 : ∀ p : BW wr, p.w.cell? ⟨w.heap.size, 11, none⟩ = some (.int .i64 a12) := bw_cell (k_p.cell rfl)
      obtain ⟨p20, hp20⟩ : ∃ p : BW wr, p.w = wr := ⟨BW.start wr, rfl⟩
      rw [← hp20]
      clear hp20
      go_upto_region 5 with (fail)
      obtain ⟨W21, hW21⟩ : ∃ W, W = p20.w.alloc (.cells #[.int .i64 v1, .int .i64 v2, .int .i64 v3] 23) := ⟨_, rfl⟩
      have B21 : Below wr.heap.size wr W21 := by rw [hW21]; exact (bw_below B20 p20).alloc (bw_below B20 p20).size _
      have l_d : w.heap.size < p20.w.heap.size := (k_p.below p20.h).lt
      have o_d : wr.heap.size ≤ p20.w.heap.size := (bw_below B20 p20).size
      have k_p := (k_p.below p20.h).alloc (.cells #[.int .i64 v1, .int .i64 v2, .int .i64 v3] 23)
      rw [← hW21] at k_p
      have k_d : Bk W21 p20.w.heap.size 23 #[.int .i64 v1, .int .i64 v2, .int .i64 v3] := by rw [hW21]; exact Bk.new _ _ _
      rw [← hW21]
      clear hW21
      clear B20
      clear c_p_0 c_p_1 c_p_2 c_p_3 c_p_4 c_p_5 c_p_6 c_p_7 c_p_8 c_p_9 c_p_10 c_p_11
      generalize p20.w.heap.size = g_d at *
      clear z0 z1 z2
      have c_p_0 : ∀ p : BW W21, p.w.cell? ⟨w.heap.size, 0, none⟩ = some (.int .i64 a1) := bw_cell (k_p.cell rfl)
      have c_p_1 : ∀ p : BW W21, p.w.cell? ⟨w.heap.size, 1, none⟩ = some (.int .i64 a2) := bw_cell (k_p.cell rfl)
      have c_p_2 : ∀ p : BW W21, p.w.cell? ⟨w.heap.size, 2, none⟩ = some (.int .i64 a3) := bw_cell (k_p.cell rfl)
      have c_p_3 : ∀ p : BW W21, p.w.cell? ⟨w.heap.size, 3, none⟩ = some (.int .i64 a4) := bw_cell (k_p.cell rfl)
      have c_p_4 : ∀ p : BW W21, p.w.cell? ⟨w.heap.size, 4, none⟩ = some (.int .i64 a5) := bw_cell (k_p.cell rfl)
      have c_p_5 : ∀ p : BW W21, p.w.cell? ⟨w.heap.size, 5, none⟩ = some (.int .i64 a6) := bw_cell (k_p.cell rfl)
      have c_p_6 : ∀ p : BW W21, p.w.cell? ⟨w.heap.size, 6, none⟩ = some (.int .i64 a7) := bw_cell (k_p.cell rfl)
      have c_p_7 : ∀ p : BW W21, p.w.cell? ⟨w.heap.size, 7, none⟩ = some (.int .i64 a8) := bw_cell (k_p.cell rfl)
      have c_p_8 : ∀ p : BW W21, p.w.cell? ⟨w.heap.size, 8, none⟩ = some (.int .i64 a9) := bw_cell (k_p.cell rfl)
      have c_p_9 : ∀ p : BW W21, p.w.cell? ⟨w.heap.size, 9, none⟩ = some (.int .i64 a10) := bw_cell (k_p.cell rfl)
      have c_p_10 : ∀ p : BW W21, p.w.cell? ⟨w.heap.size, 10, none⟩ = some (.int .i64 a11) := bw_cell (k_p.cell rfl)
      have c_p_11 : ∀ p : BW W21, p.w.cell? ⟨w.heap.size, 11, none⟩ = some (.int .i64 a12) := bw_cell (k_p.cell rfl)
      have c_d_0 : ∀ p : BW W21, p.w.cell? ⟨g_d, 0, none⟩ = some (.int .i64 v1) := bw_cell (k_d.cell rfl)
      have c_d_1 : ∀ p : BW W21, p.w.cell? ⟨g_d, 1, none⟩ = some (.int .i64 v2) := bw_cell (k_d.cell rfl)
      have c_d_2 : ∀ p : BW W21, p.w.cell? ⟨g_d, 2, none⟩ = some (.int .i64 v3) := bw_cell (k_d.cell rfl)
      obtain ⟨p21, hp21⟩ : ∃ p : BW W21, p.w = W21 := ⟨BW.start W21, rfl⟩
      rw [← hp21]
      clear hp21
      have HOWQ := fun q : BW W21 => owns_below HOWN.out (bw_below B21 q)
      have HBAS : ∀ q : BW W21, w.heap.size + 1 ≤ q.w.heap.size := fun q => (k_p.below q.h).lt
      go_wp2_with (first
        | (go_at_call 20; (with_reducible refine (bw_call KP.out _).mono ?_); rintro e w' ⟨rfl, q, rfl⟩; have hown := HOWQ q; have hbase := HBAS q)
        | (at_builtin; refine wpList_append_own _ rfl _ _ 26 rfl (w.heap.size + 1) 23 i0 (.agg #[.int .i64 0, .int .i64 0, .int .i64 0]) 3 24 Try.underlying26 hi hz0 hz1 hz2 rfl (by decide) _ _ _ rfl (hown.alloc _) ⟨q.w.heap.size, 0, none⟩ 1 1 [.int .i64 p1, .int .i64 p2, .int .i64 p3] rfl rfl ?g1 ?g2 ?g3 ?g4 ?g5 ?_))
      case g1 => intro j u hj; match j, hj with
        | 0, hj => cases hj; simp [Addr.add, go_sem]
        | 1, hj => cases hj; simp [Addr.add, go_sem]
        | 2, hj => cases hj; simp [Addr.add, go_sem]
      case g2 => first | exact ⟨rfl, rfl, rfl⟩ | (intro u hu; simp only [List.mem_cons, List.not_mem_nil, or_false] at hu; rcases hu with rfl | rfl | rfl <;> rfl)
      case g3 => unfold maxLen; omega
      case g4 => omega
      case g5 => first | omega | (simp; omega)
      intro v' w1 hown' hgrow hne
      have hB1 : Below w.heap.size w w1 := ((BO.trans ((bw_below B21 q).mono BO.size)).alloc (by omega) _).grown hgrow (by simp; omega) (fun j ej => by have := (hown.lt j ej).1; omega)
      have k_p1 : Bk w1 w.heap.size 29 #[.int .i64 a1, .int .i64 a2, .int .i64 a3, .int .i64 a4, .int .i64 a5, .int .i64 a6, .int .i64 a7, .int .i64 a8, .int .i64 a9, .int .i64 a10, .int .i64 a11, .int .i64 a12] := Bk.grown ((k_p.below q.h).alloc _) hgrow (fun e => by have := (hown.lt _ e.symm).1; omega)
      have HO : Hid (w1.ownsRow (w.heap.size + 1) 23 3 v' (k + 1) ((List.range (k + 1)).flatMap (fun i => vcells (pPut ((a1, a2, a3), (a4, a5, a6), (a7, a8, a9), (a10, a11, a12)) (V i))))) := Lib.hid (by rw [HF.out, HV.out]; exact hown')
      clear hown' hgrow hne hown
      go_wp2
      go_roundw
      case rel => exact ⟨k + 1, by omega, by go_num, HO.out, k_p1, hB1⟩
      case measure => simp [intOf]; omega
    · obtain rfl : k = n := by omega
      go_wp2
      go_ret
      exact ⟨_, rfl, owns_mono hown (by omega), BO⟩

set_option maxRecDepth 100000 in
set_option maxHeartbeats 4000000 in
theorem pose_All_none (a1 a2 a3 a4 a5 a6 a7 a8 a9 a10 a11 a12 : Int) (p : Option Addr) (cap : Nat) (w : World) :
    Calls Try.prog 18 #[.agg #[.int .i64 a1, .int .i64 a2, .int .i64 a3, .int .i64 a4, .int .i64 a5, .int .i64 a6, .int .i64 a7, .int .i64 a8, .int .i64 a9, .int .i64 a10, .int .i64 a11, .int .i64 a12], .slice p 0 cap] w fun r w' => ∃ v, r = .returned v ∧ w'.ownsRow w.heap.size 23 3 v 0 [] ∧ Below w.heap.size w w' := by
  go_enter Try.func18, Try.ntmps18
  go_upto_region 1 with (fail)
  obtain ⟨W1, hW1⟩ : ∃ W, W = w.alloc (.cells #[.int .i64 a1, .int .i64 a2, .int .i64 a3, .int .i64 a4, .int .i64 a5, .int .i64 a6, .int .i64 a7, .int .i64 a8, .int .i64 a9, .int .i64 a10, .int .i64 a11, .int .i64 a12] 29) := ⟨_, rfl⟩
  have B1 : Below w.heap.size w W1 := by rw [hW1]; go_grown
  have k_p : Bk W1 (w.heap.size) 29 #[.int .i64 a1, .int .i64 a2, .int .i64 a3, .int .i64 a4, .int .i64 a5, .int .i64 a6, .int .i64 a7, .int .i64 a8, .int .i64 a9, .int .i64 a10, .int .i64 a11, .int .i64 a12] := by rw [hW1]; exact Bk.new _ _ _
  rw [← hW1]
  clear hW1
  go_wp2
  refine wp_loop_rounds 1 ?_
  rw [rounds_succ]
  go_wp2
  go_ret
  exact ⟨_, rfl, World.ownsRow_nil _ _ _ _, B1⟩

end Go.Proofs.Ytnoaljfdbfbhmaa
