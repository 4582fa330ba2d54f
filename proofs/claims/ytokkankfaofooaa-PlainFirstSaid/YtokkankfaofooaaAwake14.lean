/- The chapter's example holds: the contract of the statements' own awake, layer 14. -/
import Derived.Test.YtokkankfaofooaaPlain14
import Derived.Deep.DeepCutAuto
namespace Go.Proofs.Ytokkankfaofooaa
open Go.RowKit Go.Proofs.Sky
set_option linter.unusedVariables false

theorem owns_slice {w : World} {B : Nat} {e : TypeId} {size n : Nat} {v : Value} {xs : List Value} (h : w.ownsRow B e size v n xs) : ∃ (o : Option Addr) (cap : Nat), v = .slice o n cap := by
  obtain ⟨hl, h⟩ := h
  rcases h with ⟨rfl, rfl⟩ | ⟨g, cap, cur, rfl, _⟩
  · exact ⟨none, 0, rfl⟩
  · exact ⟨_, cap, rfl⟩

def awP (i : Nat) : Pr := if i = 0 then ⟨2, (30, 0, 0), (0, 0, 0), (0, 0, 0), 5, 0⟩ else ⟨2, (0, 0, 0), (0, 0, 0), (0, 0, 0), 5, 0⟩

theorem aw_prims {X : World} {g : Nat} (h : Bk X g 26 #[.int .i64 2, .int .i64 30, .int .i64 0, .int .i64 0, .int .i64 0, .int .i64 0, .int .i64 0, .int .i64 0, .int .i64 0, .int .i64 0, .int .i64 5, .int .i64 0, .int .i64 2, .int .i64 0, .int .i64 0, .int .i64 0, .int .i64 0, .int .i64 0, .int .i64 0, .int .i64 0, .int .i64 0, .int .i64 0, .int .i64 5, .int .i64 0, .int .i64 2, .int .i64 0, .int .i64 0, .int .i64 0, .int .i64 0, .int .i64 0, .int .i64 0, .int .i64 0, .int .i64 0, .int .i64 0, .int .i64 5, .int .i64 0]) : Prims X (.slice (some ⟨g, 0, none⟩) 3 3) 3 awP := by
  refine ⟨⟨_, 3, rfl, by unfold maxLen; omega, .inr ⟨g, 0, rfl, h.lt, fun i hi j hj => ?_⟩⟩, fun i hi => ?_⟩
  · rcases (by omega : i = 0 ∨ i = 1 ∨ i = 2) with rfl | rfl | rfl <;> (rcases (by omega : j = 0 ∨ j = 1 ∨ j = 2 ∨ j = 3 ∨ j = 4 ∨ j = 5 ∨ j = 6 ∨ j = 7 ∨ j = 8 ∨ j = 9 ∨ j = 10 ∨ j = 11) with rfl | rfl | rfl | rfl | rfl | rfl | rfl | rfl | rfl | rfl | rfl | rfl <;> exact h.cell rfl)
  · rcases (by omega : i = 0 ∨ i = 1 ∨ i = 2) with rfl | rfl | rfl <;> (unfold Pr.I I3 I64 awP; simp)

set_option maxRecDepth 100000 in
set_option maxHeartbeats 8000000 in
theorem awake14 (w : World) :
    Calls Try.prog 4 #[] w fun e w' => e = .returned (.bool true) ∧ Below w.heap.size w w' := by
  have KC0 : Hid (∀ X, Calls Try.prog 5 #[.slice none 0 0, .agg #[.int .i64 0, .int .i64 0, .int .i64 0, .int .i64 0, .int .i64 0, .int .i64 0, .int .i64 0]] X fun e w' => e = .returned (.tuple #[.agg #[.int .i64 0, .int .i64 0, .int .i64 0], .bool false]) ∧ Below X.heap.size X w') := Lib.hid (fun X => by
    have h := plain_Closest none 0 0 awP 0 0 0 0 0 0 0 X ⟨Sl.nil _ _ _ _ _, fun i h => absurd h (by omega)⟩ (by unfold I3 I64; simp) (by unfold I3 I64; simp) (by unfold I64; omega) (by omega)
    rw [show hClosest awP 0 (0, 0, 0) (0, 0, 0) 0 = ((0, 0, 0), false) by decide +kernel] at h
    exact h)
  have KC1 : Hid (∀ g X, Bk X g 26 #[.int .i64 2, .int .i64 30, .int .i64 0, .int .i64 0, .int .i64 0, .int .i64 0, .int .i64 0, .int .i64 0, .int .i64 0, .int .i64 0, .int .i64 5, .int .i64 0, .int .i64 2, .int .i64 0, .int .i64 0, .int .i64 0, .int .i64 0, .int .i64 0, .int .i64 0, .int .i64 0, .int .i64 0, .int .i64 0, .int .i64 5, .int .i64 0, .int .i64 2, .int .i64 0, .int .i64 0, .int .i64 0, .int .i64 0, .int .i64 0, .int .i64 0, .int .i64 0, .int .i64 0, .int .i64 0, .int .i64 5, .int .i64 0] → Calls Try.prog 5 #[.slice (some ⟨g, 0, none⟩) 3 3, .agg #[.int .i64 (-20), .int .i64 0, .int .i64 0, .int .i64 1, .int .i64 0, .int .i64 0, .int .i64 (-1)]] X fun e w' => e = .returned (.tuple #[.agg #[.int .i64 1, .int .i64 15, .int .i64 1], .bool true]) ∧ Below X.heap.size X w') := Lib.hid (fun g X hX => by
    have h := plain_Closest (some ⟨g, 0, none⟩) 3 3 awP (-20) 0 0 1 0 0 (-1) X (aw_prims hX) (by unfold I3 I64; simp) (by unfold I3 I64; simp) (by unfold I64; omega) (by omega)
    rw [show hClosest awP 3 (-20, 0, 0) (1, 0, 0) (-1) = ((1, 15, 1), true) by decide +kernel] at h
    exact h)
  have KL1 : Hid (∀ g X, Bk X g 26 #[.int .i64 2, .int .i64 30, .int .i64 0, .int .i64 0, .int .i64 0, .int .i64 0, .int .i64 0, .int .i64 0, .int .i64 0, .int .i64 0, .int .i64 5, .int .i64 0, .int .i64 2, .int .i64 0, .int .i64 0, .int .i64 0, .int .i64 0, .int .i64 0, .int .i64 0, .int .i64 0, .int .i64 0, .int .i64 0, .int .i64 5, .int .i64 0, .int .i64 2, .int .i64 0, .int .i64 0, .int .i64 0, .int .i64 0, .int .i64 0, .int .i64 0, .int .i64 0, .int .i64 0, .int .i64 0, .int .i64 5, .int .i64 0] → Calls Try.prog 6 #[.slice (some ⟨g, 0, none⟩) 3 3, .agg #[.int .i64 (-20), .int .i64 0, .int .i64 0, .int .i64 1, .int .i64 0, .int .i64 0, .int .i64 1]] X fun e w' => ∃ o cp, e = .returned (.slice o 3 cp) ∧ Below X.heap.size X w') := Lib.hid (fun g X hX => by
    refine (plain_All (some ⟨g, 0, none⟩) 3 3 awP (-20) 0 0 1 0 0 1 X (aw_prims hX) (by unfold I3 I64; simp) (by unfold I3 I64; simp) (by unfold I64; omega) (by omega)).mono ?_
    rintro e w1 ⟨u, rfl, hu, hb⟩
    rw [show (hUp awP 3 (-20, 0, 0) (1, 0, 0) 1).length = 3 by decide +kernel] at hu
    obtain ⟨o, cp, rfl⟩ := owns_slice hu
    exact ⟨o, cp, rfl, hb⟩)
  go_enter Try.func4, Try.ntmps4
  go_upto_region 2 with (go_at_call 5; refine (KC0.out _).mono ?_; rintro e w1 ⟨rfl, hb1⟩)
  obtain ⟨W1, hW1⟩ : ∃ W, W = w1.alloc (.cells #[.int .i64 0, .int .i64 0, .int .i64 0] 33) := ⟨_, rfl⟩
  have B1 : Below w.heap.size w W1 := by rw [hW1]; exact hb1.alloc hb1.size _
  have k_z : Bk W1 w1.heap.size 33 #[.int .i64 0, .int .i64 0, .int .i64 0] := by rw [hW1]; exact Bk.new _ _ _
  have l_z : w.heap.size ≤ w1.heap.size := hb1.size
  rw [← hW1]
  clear hW1 hb1
  generalize w1.heap.size = g_z at *
  obtain ⟨c_z_0, c_z_1, c_z_2⟩ := bwc3 (k_z)
  obtain ⟨p1, hp1⟩ : ∃ p : BW W1, p.w = W1 := ⟨BW.start W1, rfl⟩
  rw [← hp1]
  clear hp1
  go_upto_region 3 with (fail)
  obtain ⟨W2, hW2⟩ : ∃ W, W = p1.w.alloc (.cells #[.int .i64 2, .int .i64 30, .int .i64 0, .int .i64 0, .int .i64 0, .int .i64 0, .int .i64 0, .int .i64 0, .int .i64 0, .int .i64 0, .int .i64 5, .int .i64 0, .int .i64 2, .int .i64 0, .int .i64 0, .int .i64 0, .int .i64 0, .int .i64 0, .int .i64 0, .int .i64 0, .int .i64 0, .int .i64 0, .int .i64 5, .int .i64 0, .int .i64 2, .int .i64 0, .int .i64 0, .int .i64 0, .int .i64 0, .int .i64 0, .int .i64 0, .int .i64 0, .int .i64 0, .int .i64 0, .int .i64 5, .int .i64 0] 26) := ⟨_, rfl⟩
  have B2 : Below w.heap.size w W2 := by rw [hW2]; exact (bw_below B1 p1).alloc (bw_below B1 p1).size _
  have l_l : g_z < p1.w.heap.size := (k_z.below p1.h).lt
  have o_l : w.heap.size ≤ p1.w.heap.size := (bw_below B1 p1).size
  have k_z := bka hW2 (k_z.below p1.h)
  have k_l := bkn hW2
  rw [← hW2]
  clear hW2
  clear B1
  clear c_z_0 c_z_1 c_z_2
  generalize p1.w.heap.size = g_l at *
  obtain ⟨LA, hLA⟩ : ∃ LA : Array Value, LA = #[.int .i64 2, .int .i64 30, .int .i64 0, .int .i64 0, .int .i64 0, .int .i64 0, .int .i64 0, .int .i64 0, .int .i64 0, .int .i64 0, .int .i64 5, .int .i64 0, .int .i64 2, .int .i64 0, .int .i64 0, .int .i64 0, .int .i64 0, .int .i64 0, .int .i64 0, .int .i64 0, .int .i64 0, .int .i64 0, .int .i64 5, .int .i64 0, .int .i64 2, .int .i64 0, .int .i64 0, .int .i64 0, .int .i64 0, .int .i64 0, .int .i64 0, .int .i64 0, .int .i64 0, .int .i64 0, .int .i64 5, .int .i64 0] := ⟨_, rfl⟩
  rw [← hLA] at k_l KC1 KL1
  clear hLA
  obtain ⟨c_z_0, c_z_1, c_z_2⟩ := bwc3 (k_z)
  obtain ⟨p2, hp2⟩ : ∃ p : BW W2, p.w = W2 := ⟨BW.start W2, rfl⟩
  rw [← hp2]
  clear hp2
  go_upto_region 4 with (go_at_call 5; refine (KC1.out _ _ (k_l.below (BW.h _))).mono ?_; rintro e w1 ⟨rfl, hb⟩; obtain ⟨q, rfl⟩ := bw_take hb)
  obtain ⟨W3, hW3⟩ : ∃ W, W = q.w.alloc (.cells #[.int .i64 1, .int .i64 15, .int .i64 1] 33) := ⟨_, rfl⟩
  have B3 : Below w.heap.size w W3 := by rw [hW3]; exact (bw_below B2 q).alloc (bw_below B2 q).size _
  have l_h : g_l < q.w.heap.size := (k_l.below q.h).lt
  have o_h : w.heap.size ≤ q.w.heap.size := (bw_below B2 q).size
  have k_z := bka hW3 (k_z.below q.h)
  have k_l := bka hW3 (k_l.below q.h)
  have k_h := bkn hW3
  rw [← hW3]
  clear hW3
  clear B2
  clear c_z_0 c_z_1 c_z_2
  generalize q.w.heap.size = g_h at *
  obtain ⟨c_z_0, c_z_1, c_z_2⟩ := bwc3 (k_z)
  obtain ⟨c_h_0, c_h_1, c_h_2⟩ := bwc3 (k_h)
  obtain ⟨p3, hp3⟩ : ∃ p : BW W3, p.w = W3 := ⟨BW.start W3, rfl⟩
  rw [← hp3]
  clear hp3
  go_wp2_with (go_at_call 6; refine (KL1.out _ _ (k_l.below (BW.h _))).mono ?_; rintro e w1 ⟨o, cp, rfl, hb⟩; obtain ⟨q, rfl⟩ := bw_take hb)
  go_ret
  exact ⟨rfl, bw_below B3 _⟩

end Go.Proofs.Ytokkankfaofooaa
