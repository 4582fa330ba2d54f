/- Contracts of the document's own answers, layer 16: a whole tree gone through; ordered, depth, leaves. -/
import Derived.Test.YtomlcglnkdfemaaTt32


namespace Go.Proofs.Ytomlcglnkdfemaa
section

open Go.RowKit Go.Proofs.Sky

set_option linter.unusedVariables false

set_option linter.unusedSimpArgs false

set_option maxRecDepth 100000 in
set_option maxHeartbeats 8000000 in
theorem whole16_z (a b : Option Addr) (n cap m capo : Nat) (w : World) (hn : n = 0) (hm : m = 0) :
    Calls Try.prog 18 #[.agg #[.slice a n cap, .slice b m capo]] w fun en w' => en = .returned (.agg #[.int .i64 0, .int .i64 0, .int .i64 0, .int .i64 0, .bool true]) ∧ Below w.heap.size w w' := by
  subst hn
  subst hm
  go_enter Try.func18, Try.ntmps18
  go_upto_region 1 with (fail)
  obtain ⟨W1, hW1⟩ : ∃ W, W = (w.alloc (.cells #[.slice a 0 cap, .slice b 0 capo] 25)).alloc (.cells #[.int .i64 0, .int .i64 0, .int .i64 0, .int .i64 0, .bool false] 57) := ⟨_, rfl⟩
  obtain ⟨k_t, k_r, B1⟩ := st2 hW1
  rw [← hW1]
  clear hW1
  have l_r : w.heap.size < w.heap.size + 1 := by omega
  generalize w.heap.size + 1 = g_r at *
  obtain ⟨c_t_0, c_t_1⟩ := bwc2 (k_t)
  obtain ⟨c_r_0, c_r_1, c_r_2, c_r_3, c_r_4⟩ := bwc5 (k_r)
  obtain ⟨f_r_0, f_r_1, f_r_2, f_r_3, f_r_4⟩ := bwf5 (k_r)
  obtain ⟨p1, hp1⟩ : ∃ p : BW W1, p.w = W1 := ⟨BW.start W1, rfl⟩
  rw [← hp1]
  clear hp1
  go_wp2
  have kr := bkp5 (k_r.below p1.h) (.int .i64 0) (.int .i64 0) (.int .i64 0) (.int .i64 0) (.bool true)
  obtain ⟨rc0, rc1, rc2, rc3, rc4⟩ := rwc5 kr
  exact bodyPost_ret (v := .agg #[.int .i64 0, .int .i64 0, .int .i64 0, .int .i64 0, .bool true]) (by simp [results, Try.results18, go_sem, rc0, rc1, rc2, rc3, rc4]) rfl ⟨rfl, blp5 (bw_below B1 p1) (by omega)⟩

set_option maxRecDepth 100000 in
set_option maxHeartbeats 8000000 in
theorem whole16_a0 (a b : Option Addr) (n cap m capo : Nat) (s1 s2 s3 s4 : Int) (sb : Bool) (w : World) (hn : n = 0) (hm : ¬ m = 0) (K : Hid (∀ X, Below w.heap.size w X → Calls Try.prog 33 #[.agg #[.slice a n cap, .slice b m capo], .int .i64 0, .int .i64 0] X fun e w' => e = .returned (.agg #[.int .i64 s1, .int .i64 s2, .int .i64 s3, .int .i64 s4, .bool sb]) ∧ Below X.heap.size X w')) (h1 : sb = false) :
    Calls Try.prog 18 #[.agg #[.slice a n cap, .slice b m capo]] w fun en w' => en = .returned (.agg #[.int .i64 s1, .int .i64 s2, .int .i64 s3, .int .i64 s4, .bool false]) ∧ Below w.heap.size w w' := by
  subst hn
  have t2 : ((m : Int) == 0) = false := by rw [beq_eq_false_iff_ne]; omega
  clear hm
  subst h1
  go_enter Try.func18, Try.ntmps18
  go_upto_region 1 with (fail)
  obtain ⟨W1, hW1⟩ : ∃ W, W = (w.alloc (.cells #[.slice a 0 cap, .slice b m capo] 25)).alloc (.cells #[.int .i64 0, .int .i64 0, .int .i64 0, .int .i64 0, .bool false] 57) := ⟨_, rfl⟩
  obtain ⟨k_t, k_r, B1⟩ := st2 hW1
  rw [← hW1]
  clear hW1
  have l_r : w.heap.size < w.heap.size + 1 := by omega
  generalize w.heap.size + 1 = g_r at *
  obtain ⟨c_t_0, c_t_1⟩ := bwc2 (k_t)
  obtain ⟨c_r_0, c_r_1, c_r_2, c_r_3, c_r_4⟩ := bwc5 (k_r)
  obtain ⟨f_r_0, f_r_1, f_r_2, f_r_3, f_r_4⟩ := bwf5 (k_r)
  obtain ⟨p1, hp1⟩ : ∃ p : BW W1, p.w = W1 := ⟨BW.start W1, rfl⟩
  rw [← hp1]
  clear hp1
  go_upto_region 4 with (go_at_call 33; (with_reducible refine (K.out _ (bw_below B1 _)).mono ?_); rintro e w1 ⟨rfl, hb⟩; obtain ⟨q, rfl⟩ := bw_take hb)
  obtain ⟨W2, hW2⟩ : ∃ W, W = q.w.alloc (.cells #[.int .i64 s1, .int .i64 s2, .int .i64 s3, .int .i64 s4, .bool false] 57) := ⟨_, rfl⟩
  have B2 : Below w.heap.size w W2 := by rw [hW2]; exact (bw_below B1 q).alloc (bw_below B1 q).size _
  have l_p : g_r < q.w.heap.size := (k_r.below q.h).lt
  have o_p : w.heap.size ≤ q.w.heap.size := (bw_below B1 q).size
  have k_t := bka hW2 (k_t.below q.h)
  have k_r := bka hW2 (k_r.below q.h)
  have k_p := bkn hW2
  rw [← hW2]
  clear hW2
  clear B1
  clear c_t_0 c_t_1 c_r_0 c_r_1 c_r_2 c_r_3 c_r_4 f_r_0 f_r_1 f_r_2 f_r_3 f_r_4
  generalize q.w.heap.size = g_p at *
  obtain ⟨c_t_0, c_t_1⟩ := bwc2 (k_t)
  obtain ⟨c_r_0, c_r_1, c_r_2, c_r_3, c_r_4⟩ := bwc5 (k_r)
  obtain ⟨f_r_0, f_r_1, f_r_2, f_r_3, f_r_4⟩ := bwf5 (k_r)
  obtain ⟨c_p_0, c_p_1, c_p_2, c_p_3, c_p_4⟩ := bwc5 (k_p)
  obtain ⟨f_p_0, f_p_1, f_p_2, f_p_3, f_p_4⟩ := bwf5 (k_p)
  obtain ⟨p2, hp2⟩ : ∃ p : BW W2, p.w = W2 := ⟨BW.start W2, rfl⟩
  rw [← hp2]
  clear hp2
  go_upto_region 5 with (fail)
  obtain ⟨W3, hW3⟩ : ∃ W, W = p2.w.setCell ⟨g_p, 4, none⟩ (.bool false) := ⟨_, rfl⟩
  have B3 : Below w.heap.size w W3 := by rw [hW3]; exact ((bw_below B2 p2).setCell (p := ⟨g_p, 4, none⟩) (by show w.heap.size ≤ g_p; omega) _)
  have k_t : Bk W3 (w.heap.size) 25 #[.slice a 0 cap, .slice b m capo] := by rw [hW3]; exact ((k_t.below p2.h).other (a := ⟨g_p, 4, none⟩) (by show ¬ w.heap.size = g_p; omega) (.bool false))
  have k_r : Bk W3 (g_r) 57 #[.int .i64 0, .int .i64 0, .int .i64 0, .int .i64 0, .bool false] := by rw [hW3]; exact ((k_r.below p2.h).other (a := ⟨g_p, 4, none⟩) (by show ¬ g_r = g_p; omega) (.bool false))
  have k_p : Bk W3 (g_p) 57 #[.int .i64 s1, .int .i64 s2, .int .i64 s3, .int .i64 s4, .bool false] := by rw [hW3]; exact ((k_p.below p2.h).set 4 (.bool false)).cast (by simp)
  rw [← hW3]
  clear hW3
  clear B2
  clear c_t_0 c_t_1 c_r_0 c_r_1 c_r_2 c_r_3 c_r_4 f_r_0 f_r_1 f_r_2 f_r_3 f_r_4 c_p_0 c_p_1 c_p_2 c_p_3 c_p_4 f_p_0 f_p_1 f_p_2 f_p_3 f_p_4
  obtain ⟨c_t_0, c_t_1⟩ := bwc2 (k_t)
  obtain ⟨c_r_0, c_r_1, c_r_2, c_r_3, c_r_4⟩ := bwc5 (k_r)
  obtain ⟨f_r_0, f_r_1, f_r_2, f_r_3, f_r_4⟩ := bwf5 (k_r)
  obtain ⟨c_p_0, c_p_1, c_p_2, c_p_3, c_p_4⟩ := bwc5 (k_p)
  obtain ⟨p3, hp3⟩ : ∃ p : BW W3, p.w = W3 := ⟨BW.start W3, rfl⟩
  rw [← hp3]
  clear hp3
  go_wp2
  have kr := bkp5 (k_r.below p3.h) (.int .i64 s1) (.int .i64 s2) (.int .i64 s3) (.int .i64 s4) (.bool false)
  obtain ⟨rc0, rc1, rc2, rc3, rc4⟩ := rwc5 kr
  exact bodyPost_ret (v := .agg #[.int .i64 s1, .int .i64 s2, .int .i64 s3, .int .i64 s4, .bool false]) (by simp [results, Try.results18, go_sem, rc0, rc1, rc2, rc3, rc4]) rfl ⟨rfl, blp5 (bw_below B3 p3) (by omega)⟩

set_option maxRecDepth 100000 in
set_option maxHeartbeats 8000000 in
theorem whole16_b0 (a b : Option Addr) (n cap m capo : Nat) (s1 s2 s3 s4 : Int) (sb : Bool) (w : World) (hn : ¬ n = 0) (K : Hid (∀ X, Below w.heap.size w X → Calls Try.prog 33 #[.agg #[.slice a n cap, .slice b m capo], .int .i64 0, .int .i64 0] X fun e w' => e = .returned (.agg #[.int .i64 s1, .int .i64 s2, .int .i64 s3, .int .i64 s4, .bool sb]) ∧ Below X.heap.size X w')) (h1 : sb = false) :
    Calls Try.prog 18 #[.agg #[.slice a n cap, .slice b m capo]] w fun en w' => en = .returned (.agg #[.int .i64 s1, .int .i64 s2, .int .i64 s3, .int .i64 s4, .bool false]) ∧ Below w.heap.size w w' := by
  have t1 : ((n : Int) == 0) = false := by rw [beq_eq_false_iff_ne]; omega
  clear hn
  subst h1
  go_enter Try.func18, Try.ntmps18
  go_upto_region 1 with (fail)
  obtain ⟨W1, hW1⟩ : ∃ W, W = (w.alloc (.cells #[.slice a n cap, .slice b m capo] 25)).alloc (.cells #[.int .i64 0, .int .i64 0, .int .i64 0, .int .i64 0, .bool false] 57) := ⟨_, rfl⟩
  obtain ⟨k_t, k_r, B1⟩ := st2 hW1
  rw [← hW1]
  clear hW1
  have l_r : w.heap.size < w.heap.size + 1 := by omega
  generalize w.heap.size + 1 = g_r at *
  obtain ⟨c_t_0, c_t_1⟩ := bwc2 (k_t)
  obtain ⟨c_r_0, c_r_1, c_r_2, c_r_3, c_r_4⟩ := bwc5 (k_r)
  obtain ⟨f_r_0, f_r_1, f_r_2, f_r_3, f_r_4⟩ := bwf5 (k_r)
  obtain ⟨p1, hp1⟩ : ∃ p : BW W1, p.w = W1 := ⟨BW.start W1, rfl⟩
  rw [← hp1]
  clear hp1
  go_upto_region 4 with (go_at_call 33; (with_reducible refine (K.out _ (bw_below B1 _)).mono ?_); rintro e w1 ⟨rfl, hb⟩; obtain ⟨q, rfl⟩ := bw_take hb)
  obtain ⟨W2, hW2⟩ : ∃ W, W = q.w.alloc (.cells #[.int .i64 s1, .int .i64 s2, .int .i64 s3, .int .i64 s4, .bool false] 57) := ⟨_, rfl⟩
  have B2 : Below w.heap.size w W2 := by rw [hW2]; exact (bw_below B1 q).alloc (bw_below B1 q).size _
  have l_p : g_r < q.w.heap.size := (k_r.below q.h).lt
  have o_p : w.heap.size ≤ q.w.heap.size := (bw_below B1 q).size
  have k_t := bka hW2 (k_t.below q.h)
  have k_r := bka hW2 (k_r.below q.h)
  have k_p := bkn hW2
  rw [← hW2]
  clear hW2
  clear B1
  clear c_t_0 c_t_1 c_r_0 c_r_1 c_r_2 c_r_3 c_r_4 f_r_0 f_r_1 f_r_2 f_r_3 f_r_4
  generalize q.w.heap.size = g_p at *
  obtain ⟨c_t_0, c_t_1⟩ := bwc2 (k_t)
  obtain ⟨c_r_0, c_r_1, c_r_2, c_r_3, c_r_4⟩ := bwc5 (k_r)
  obtain ⟨f_r_0, f_r_1, f_r_2, f_r_3, f_r_4⟩ := bwf5 (k_r)
  obtain ⟨c_p_0, c_p_1, c_p_2, c_p_3, c_p_4⟩ := bwc5 (k_p)
  obtain ⟨f_p_0, f_p_1, f_p_2, f_p_3, f_p_4⟩ := bwf5 (k_p)
  obtain ⟨p2, hp2⟩ : ∃ p : BW W2, p.w = W2 := ⟨BW.start W2, rfl⟩
  rw [← hp2]
  clear hp2
  go_upto_region 5 with (fail)
  obtain ⟨W3, hW3⟩ : ∃ W, W = p2.w.setCell ⟨g_p, 4, none⟩ (.bool false) := ⟨_, rfl⟩
  have B3 : Below w.heap.size w W3 := by rw [hW3]; exact ((bw_below B2 p2).setCell (p := ⟨g_p, 4, none⟩) (by show w.heap.size ≤ g_p; omega) _)
  have k_t : Bk W3 (w.heap.size) 25 #[.slice a n cap, .slice b m capo] := by rw [hW3]; exact ((k_t.below p2.h).other (a := ⟨g_p, 4, none⟩) (by show ¬ w.heap.size = g_p; omega) (.bool false))
  have k_r : Bk W3 (g_r) 57 #[.int .i64 0, .int .i64 0, .int .i64 0, .int .i64 0, .bool false] := by rw [hW3]; exact ((k_r.below p2.h).other (a := ⟨g_p, 4, none⟩) (by show ¬ g_r = g_p; omega) (.bool false))
  have k_p : Bk W3 (g_p) 57 #[.int .i64 s1, .int .i64 s2, .int .i64 s3, .int .i64 s4, .bool false] := by rw [hW3]; exact ((k_p.below p2.h).set 4 (.bool false)).cast (by simp)
  rw [← hW3]
  clear hW3
  clear B2
  clear c_t_0 c_t_1 c_r_0 c_r_1 c_r_2 c_r_3 c_r_4 f_r_0 f_r_1 f_r_2 f_r_3 f_r_4 c_p_0 c_p_1 c_p_2 c_p_3 c_p_4 f_p_0 f_p_1 f_p_2 f_p_3 f_p_4
  obtain ⟨c_t_0, c_t_1⟩ := bwc2 (k_t)
  obtain ⟨c_r_0, c_r_1, c_r_2, c_r_3, c_r_4⟩ := bwc5 (k_r)
  obtain ⟨f_r_0, f_r_1, f_r_2, f_r_3, f_r_4⟩ := bwf5 (k_r)
  obtain ⟨c_p_0, c_p_1, c_p_2, c_p_3, c_p_4⟩ := bwc5 (k_p)
  obtain ⟨p3, hp3⟩ : ∃ p : BW W3, p.w = W3 := ⟨BW.start W3, rfl⟩
  rw [← hp3]
  clear hp3
  go_wp2
  have kr := bkp5 (k_r.below p3.h) (.int .i64 s1) (.int .i64 s2) (.int .i64 s3) (.int .i64 s4) (.bool false)
  obtain ⟨rc0, rc1, rc2, rc3, rc4⟩ := rwc5 kr
  exact bodyPost_ret (v := .agg #[.int .i64 s1, .int .i64 s2, .int .i64 s3, .int .i64 s4, .bool false]) (by simp [results, Try.results18, go_sem, rc0, rc1, rc2, rc3, rc4]) rfl ⟨rfl, blp5 (bw_below B3 p3) (by omega)⟩

set_option maxRecDepth 100000 in
set_option maxHeartbeats 8000000 in
theorem whole16_b1 (a b : Option Addr) (n cap m capo : Nat) (s1 s2 s3 s4 : Int) (sb : Bool) (w : World) (hn : ¬ n = 0) (K : Hid (∀ X, Below w.heap.size w X → Calls Try.prog 33 #[.agg #[.slice a n cap, .slice b m capo], .int .i64 0, .int .i64 0] X fun e w' => e = .returned (.agg #[.int .i64 s1, .int .i64 s2, .int .i64 s3, .int .i64 s4, .bool sb]) ∧ Below X.heap.size X w')) (h1 : sb = true) (h2 : ¬ s1 = n) :
    Calls Try.prog 18 #[.agg #[.slice a n cap, .slice b m capo]] w fun en w' => en = .returned (.agg #[.int .i64 s1, .int .i64 s2, .int .i64 s3, .int .i64 s4, .bool false]) ∧ Below w.heap.size w w' := by
  have t1 : ((n : Int) == 0) = false := by rw [beq_eq_false_iff_ne]; omega
  clear hn
  subst h1
  have t3 : (s1 == (n : Int)) = false := by rw [beq_eq_false_iff_ne]; exact h2
  clear h2
  go_enter Try.func18, Try.ntmps18
  go_upto_region 1 with (fail)
  obtain ⟨W1, hW1⟩ : ∃ W, W = (w.alloc (.cells #[.slice a n cap, .slice b m capo] 25)).alloc (.cells #[.int .i64 0, .int .i64 0, .int .i64 0, .int .i64 0, .bool false] 57) := ⟨_, rfl⟩
  obtain ⟨k_t, k_r, B1⟩ := st2 hW1
  rw [← hW1]
  clear hW1
  have l_r : w.heap.size < w.heap.size + 1 := by omega
  generalize w.heap.size + 1 = g_r at *
  obtain ⟨c_t_0, c_t_1⟩ := bwc2 (k_t)
  obtain ⟨c_r_0, c_r_1, c_r_2, c_r_3, c_r_4⟩ := bwc5 (k_r)
  obtain ⟨f_r_0, f_r_1, f_r_2, f_r_3, f_r_4⟩ := bwf5 (k_r)
  obtain ⟨p1, hp1⟩ : ∃ p : BW W1, p.w = W1 := ⟨BW.start W1, rfl⟩
  rw [← hp1]
  clear hp1
  go_upto_region 4 with (go_at_call 33; (with_reducible refine (K.out _ (bw_below B1 _)).mono ?_); rintro e w1 ⟨rfl, hb⟩; obtain ⟨q, rfl⟩ := bw_take hb)
  obtain ⟨W2, hW2⟩ : ∃ W, W = q.w.alloc (.cells #[.int .i64 s1, .int .i64 s2, .int .i64 s3, .int .i64 s4, .bool true] 57) := ⟨_, rfl⟩
  have B2 : Below w.heap.size w W2 := by rw [hW2]; exact (bw_below B1 q).alloc (bw_below B1 q).size _
  have l_p : g_r < q.w.heap.size := (k_r.below q.h).lt
  have o_p : w.heap.size ≤ q.w.heap.size := (bw_below B1 q).size
  have k_t := bka hW2 (k_t.below q.h)
  have k_r := bka hW2 (k_r.below q.h)
  have k_p := bkn hW2
  rw [← hW2]
  clear hW2
  clear B1
  clear c_t_0 c_t_1 c_r_0 c_r_1 c_r_2 c_r_3 c_r_4 f_r_0 f_r_1 f_r_2 f_r_3 f_r_4
  generalize q.w.heap.size = g_p at *
  obtain ⟨c_t_0, c_t_1⟩ := bwc2 (k_t)
  obtain ⟨c_r_0, c_r_1, c_r_2, c_r_3, c_r_4⟩ := bwc5 (k_r)
  obtain ⟨f_r_0, f_r_1, f_r_2, f_r_3, f_r_4⟩ := bwf5 (k_r)
  obtain ⟨c_p_0, c_p_1, c_p_2, c_p_3, c_p_4⟩ := bwc5 (k_p)
  obtain ⟨f_p_0, f_p_1, f_p_2, f_p_3, f_p_4⟩ := bwf5 (k_p)
  obtain ⟨p2, hp2⟩ : ∃ p : BW W2, p.w = W2 := ⟨BW.start W2, rfl⟩
  rw [← hp2]
  clear hp2
  go_upto_region 5 with (fail)
  obtain ⟨W3, hW3⟩ : ∃ W, W = p2.w.setCell ⟨g_p, 4, none⟩ (.bool false) := ⟨_, rfl⟩
  have B3 : Below w.heap.size w W3 := by rw [hW3]; exact ((bw_below B2 p2).setCell (p := ⟨g_p, 4, none⟩) (by show w.heap.size ≤ g_p; omega) _)
  have k_t : Bk W3 (w.heap.size) 25 #[.slice a n cap, .slice b m capo] := by rw [hW3]; exact ((k_t.below p2.h).other (a := ⟨g_p, 4, none⟩) (by show ¬ w.heap.size = g_p; omega) (.bool false))
  have k_r : Bk W3 (g_r) 57 #[.int .i64 0, .int .i64 0, .int .i64 0, .int .i64 0, .bool false] := by rw [hW3]; exact ((k_r.below p2.h).other (a := ⟨g_p, 4, none⟩) (by show ¬ g_r = g_p; omega) (.bool false))
  have k_p : Bk W3 (g_p) 57 #[.int .i64 s1, .int .i64 s2, .int .i64 s3, .int .i64 s4, .bool false] := by rw [hW3]; exact ((k_p.below p2.h).set 4 (.bool false)).cast (by simp)
  rw [← hW3]
  clear hW3
  clear B2
  clear c_t_0 c_t_1 c_r_0 c_r_1 c_r_2 c_r_3 c_r_4 f_r_0 f_r_1 f_r_2 f_r_3 f_r_4 c_p_0 c_p_1 c_p_2 c_p_3 c_p_4 f_p_0 f_p_1 f_p_2 f_p_3 f_p_4
  obtain ⟨c_t_0, c_t_1⟩ := bwc2 (k_t)
  obtain ⟨c_r_0, c_r_1, c_r_2, c_r_3, c_r_4⟩ := bwc5 (k_r)
  obtain ⟨f_r_0, f_r_1, f_r_2, f_r_3, f_r_4⟩ := bwf5 (k_r)
  obtain ⟨c_p_0, c_p_1, c_p_2, c_p_3, c_p_4⟩ := bwc5 (k_p)
  obtain ⟨p3, hp3⟩ : ∃ p : BW W3, p.w = W3 := ⟨BW.start W3, rfl⟩
  rw [← hp3]
  clear hp3
  go_wp2
  have kr := bkp5 (k_r.below p3.h) (.int .i64 s1) (.int .i64 s2) (.int .i64 s3) (.int .i64 s4) (.bool false)
  obtain ⟨rc0, rc1, rc2, rc3, rc4⟩ := rwc5 kr
  exact bodyPost_ret (v := .agg #[.int .i64 s1, .int .i64 s2, .int .i64 s3, .int .i64 s4, .bool false]) (by simp [results, Try.results18, go_sem, rc0, rc1, rc2, rc3, rc4]) rfl ⟨rfl, blp5 (bw_below B3 p3) (by omega)⟩

set_option maxRecDepth 100000 in
set_option maxHeartbeats 8000000 in
theorem whole16_b2 (a b : Option Addr) (n cap m capo : Nat) (s1 s2 s3 s4 : Int) (sb : Bool) (w : World) (hn : ¬ n = 0) (K : Hid (∀ X, Below w.heap.size w X → Calls Try.prog 33 #[.agg #[.slice a n cap, .slice b m capo], .int .i64 0, .int .i64 0] X fun e w' => e = .returned (.agg #[.int .i64 s1, .int .i64 s2, .int .i64 s3, .int .i64 s4, .bool sb]) ∧ Below X.heap.size X w')) (h1 : sb = true) (h2 : s1 = n) (h3 : ¬ s2 = m) :
    Calls Try.prog 18 #[.agg #[.slice a n cap, .slice b m capo]] w fun en w' => en = .returned (.agg #[.int .i64 s1, .int .i64 s2, .int .i64 s3, .int .i64 s4, .bool false]) ∧ Below w.heap.size w w' := by
  have t1 : ((n : Int) == 0) = false := by rw [beq_eq_false_iff_ne]; omega
  clear hn
  subst h1
  subst h2
  have t4 : (s2 == (m : Int)) = false := by rw [beq_eq_false_iff_ne]; exact h3
  clear h3
  go_enter Try.func18, Try.ntmps18
  go_upto_region 1 with (fail)
  obtain ⟨W1, hW1⟩ : ∃ W, W = (w.alloc (.cells #[.slice a n cap, .slice b m capo] 25)).alloc (.cells #[.int .i64 0, .int .i64 0, .int .i64 0, .int .i64 0, .bool false] 57) := ⟨_, rfl⟩
  obtain ⟨k_t, k_r, B1⟩ := st2 hW1
  rw [← hW1]
  clear hW1
  have l_r : w.heap.size < w.heap.size + 1 := by omega
  generalize w.heap.size + 1 = g_r at *
  obtain ⟨c_t_0, c_t_1⟩ := bwc2 (k_t)
  obtain ⟨c_r_0, c_r_1, c_r_2, c_r_3, c_r_4⟩ := bwc5 (k_r)
  obtain ⟨f_r_0, f_r_1, f_r_2, f_r_3, f_r_4⟩ := bwf5 (k_r)
  obtain ⟨p1, hp1⟩ : ∃ p : BW W1, p.w = W1 := ⟨BW.start W1, rfl⟩
  rw [← hp1]
  clear hp1
  go_upto_region 4 with (go_at_call 33; (with_reducible refine (K.out _ (bw_below B1 _)).mono ?_); rintro e w1 ⟨rfl, hb⟩; obtain ⟨q, rfl⟩ := bw_take hb)
  obtain ⟨W2, hW2⟩ : ∃ W, W = q.w.alloc (.cells #[.int .i64 n, .int .i64 s2, .int .i64 s3, .int .i64 s4, .bool true] 57) := ⟨_, rfl⟩
  have B2 : Below w.heap.size w W2 := by rw [hW2]; exact (bw_below B1 q).alloc (bw_below B1 q).size _
  have l_p : g_r < q.w.heap.size := (k_r.below q.h).lt
  have o_p : w.heap.size ≤ q.w.heap.size := (bw_below B1 q).size
  have k_t := bka hW2 (k_t.below q.h)
  have k_r := bka hW2 (k_r.below q.h)
  have k_p := bkn hW2
  rw [← hW2]
  clear hW2
  clear B1
  clear c_t_0 c_t_1 c_r_0 c_r_1 c_r_2 c_r_3 c_r_4 f_r_0 f_r_1 f_r_2 f_r_3 f_r_4
  generalize q.w.heap.size = g_p at *
  obtain ⟨c_t_0, c_t_1⟩ := bwc2 (k_t)
  obtain ⟨c_r_0, c_r_1, c_r_2, c_r_3, c_r_4⟩ := bwc5 (k_r)
  obtain ⟨f_r_0, f_r_1, f_r_2, f_r_3, f_r_4⟩ := bwf5 (k_r)
  obtain ⟨c_p_0, c_p_1, c_p_2, c_p_3, c_p_4⟩ := bwc5 (k_p)
  obtain ⟨f_p_0, f_p_1, f_p_2, f_p_3, f_p_4⟩ := bwf5 (k_p)
  obtain ⟨p2, hp2⟩ : ∃ p : BW W2, p.w = W2 := ⟨BW.start W2, rfl⟩
  rw [← hp2]
  clear hp2
  go_upto_region 5 with (fail)
  obtain ⟨W3, hW3⟩ : ∃ W, W = p2.w.setCell ⟨g_p, 4, none⟩ (.bool false) := ⟨_, rfl⟩
  have B3 : Below w.heap.size w W3 := by rw [hW3]; exact ((bw_below B2 p2).setCell (p := ⟨g_p, 4, none⟩) (by show w.heap.size ≤ g_p; omega) _)
  have k_t : Bk W3 (w.heap.size) 25 #[.slice a n cap, .slice b m capo] := by rw [hW3]; exact ((k_t.below p2.h).other (a := ⟨g_p, 4, none⟩) (by show ¬ w.heap.size = g_p; omega) (.bool false))
  have k_r : Bk W3 (g_r) 57 #[.int .i64 0, .int .i64 0, .int .i64 0, .int .i64 0, .bool false] := by rw [hW3]; exact ((k_r.below p2.h).other (a := ⟨g_p, 4, none⟩) (by show ¬ g_r = g_p; omega) (.bool false))
  have k_p : Bk W3 (g_p) 57 #[.int .i64 n, .int .i64 s2, .int .i64 s3, .int .i64 s4, .bool false] := by rw [hW3]; exact ((k_p.below p2.h).set 4 (.bool false)).cast (by simp)
  rw [← hW3]
  clear hW3
  clear B2
  clear c_t_0 c_t_1 c_r_0 c_r_1 c_r_2 c_r_3 c_r_4 f_r_0 f_r_1 f_r_2 f_r_3 f_r_4 c_p_0 c_p_1 c_p_2 c_p_3 c_p_4 f_p_0 f_p_1 f_p_2 f_p_3 f_p_4
  obtain ⟨c_t_0, c_t_1⟩ := bwc2 (k_t)
  obtain ⟨c_r_0, c_r_1, c_r_2, c_r_3, c_r_4⟩ := bwc5 (k_r)
  obtain ⟨f_r_0, f_r_1, f_r_2, f_r_3, f_r_4⟩ := bwf5 (k_r)
  obtain ⟨c_p_0, c_p_1, c_p_2, c_p_3, c_p_4⟩ := bwc5 (k_p)
  obtain ⟨p3, hp3⟩ : ∃ p : BW W3, p.w = W3 := ⟨BW.start W3, rfl⟩
  rw [← hp3]
  clear hp3
  go_wp2
  have kr := bkp5 (k_r.below p3.h) (.int .i64 n) (.int .i64 s2) (.int .i64 s3) (.int .i64 s4) (.bool false)
  obtain ⟨rc0, rc1, rc2, rc3, rc4⟩ := rwc5 kr
  exact bodyPost_ret (v := .agg #[.int .i64 n, .int .i64 s2, .int .i64 s3, .int .i64 s4, .bool false]) (by simp [results, Try.results18, go_sem, rc0, rc1, rc2, rc3, rc4]) rfl ⟨rfl, blp5 (bw_below B3 p3) (by omega)⟩

set_option maxRecDepth 100000 in
set_option maxHeartbeats 8000000 in
theorem whole16_b3 (a b : Option Addr) (n cap m capo : Nat) (s1 s2 s3 s4 : Int) (sb : Bool) (w : World) (hn : ¬ n = 0) (K : Hid (∀ X, Below w.heap.size w X → Calls Try.prog 33 #[.agg #[.slice a n cap, .slice b m capo], .int .i64 0, .int .i64 0] X fun e w' => e = .returned (.agg #[.int .i64 s1, .int .i64 s2, .int .i64 s3, .int .i64 s4, .bool sb]) ∧ Below X.heap.size X w')) (h1 : sb = true) (h2 : s1 = n) (h3 : s2 = m) :
    Calls Try.prog 18 #[.agg #[.slice a n cap, .slice b m capo]] w fun en w' => en = .returned (.agg #[.int .i64 s1, .int .i64 s2, .int .i64 s3, .int .i64 s4, .bool true]) ∧ Below w.heap.size w w' := by
  have t1 : ((n : Int) == 0) = false := by rw [beq_eq_false_iff_ne]; omega
  clear hn
  subst h1
  subst h2
  subst h3
  go_enter Try.func18, Try.ntmps18
  go_upto_region 1 with (fail)
  obtain ⟨W1, hW1⟩ : ∃ W, W = (w.alloc (.cells #[.slice a n cap, .slice b m capo] 25)).alloc (.cells #[.int .i64 0, .int .i64 0, .int .i64 0, .int .i64 0, .bool false] 57) := ⟨_, rfl⟩
  obtain ⟨k_t, k_r, B1⟩ := st2 hW1
  rw [← hW1]
  clear hW1
  have l_r : w.heap.size < w.heap.size + 1 := by omega
  generalize w.heap.size + 1 = g_r at *
  obtain ⟨c_t_0, c_t_1⟩ := bwc2 (k_t)
  obtain ⟨c_r_0, c_r_1, c_r_2, c_r_3, c_r_4⟩ := bwc5 (k_r)
  obtain ⟨f_r_0, f_r_1, f_r_2, f_r_3, f_r_4⟩ := bwf5 (k_r)
  obtain ⟨p1, hp1⟩ : ∃ p : BW W1, p.w = W1 := ⟨BW.start W1, rfl⟩
  rw [← hp1]
  clear hp1
  go_upto_region 4 with (go_at_call 33; (with_reducible refine (K.out _ (bw_below B1 _)).mono ?_); rintro e w1 ⟨rfl, hb⟩; obtain ⟨q, rfl⟩ := bw_take hb)
  obtain ⟨W2, hW2⟩ : ∃ W, W = q.w.alloc (.cells #[.int .i64 n, .int .i64 m, .int .i64 s3, .int .i64 s4, .bool true] 57) := ⟨_, rfl⟩
  have B2 : Below w.heap.size w W2 := by rw [hW2]; exact (bw_below B1 q).alloc (bw_below B1 q).size _
  have l_p : g_r < q.w.heap.size := (k_r.below q.h).lt
  have o_p : w.heap.size ≤ q.w.heap.size := (bw_below B1 q).size
  have k_t := bka hW2 (k_t.below q.h)
  have k_r := bka hW2 (k_r.below q.h)
  have k_p := bkn hW2
  rw [← hW2]
  clear hW2
  clear B1
  clear c_t_0 c_t_1 c_r_0 c_r_1 c_r_2 c_r_3 c_r_4 f_r_0 f_r_1 f_r_2 f_r_3 f_r_4
  generalize q.w.heap.size = g_p at *
  obtain ⟨c_t_0, c_t_1⟩ := bwc2 (k_t)
  obtain ⟨c_r_0, c_r_1, c_r_2, c_r_3, c_r_4⟩ := bwc5 (k_r)
  obtain ⟨f_r_0, f_r_1, f_r_2, f_r_3, f_r_4⟩ := bwf5 (k_r)
  obtain ⟨c_p_0, c_p_1, c_p_2, c_p_3, c_p_4⟩ := bwc5 (k_p)
  obtain ⟨f_p_0, f_p_1, f_p_2, f_p_3, f_p_4⟩ := bwf5 (k_p)
  obtain ⟨p2, hp2⟩ : ∃ p : BW W2, p.w = W2 := ⟨BW.start W2, rfl⟩
  rw [← hp2]
  clear hp2
  go_upto_region 5 with (fail)
  obtain ⟨W3, hW3⟩ : ∃ W, W = p2.w.setCell ⟨g_p, 4, none⟩ (.bool true) := ⟨_, rfl⟩
  have B3 : Below w.heap.size w W3 := by rw [hW3]; exact ((bw_below B2 p2).setCell (p := ⟨g_p, 4, none⟩) (by show w.heap.size ≤ g_p; omega) _)
  have k_t : Bk W3 (w.heap.size) 25 #[.slice a n cap, .slice b m capo] := by rw [hW3]; exact ((k_t.below p2.h).other (a := ⟨g_p, 4, none⟩) (by show ¬ w.heap.size = g_p; omega) (.bool true))
  have k_r : Bk W3 (g_r) 57 #[.int .i64 0, .int .i64 0, .int .i64 0, .int .i64 0, .bool false] := by rw [hW3]; exact ((k_r.below p2.h).other (a := ⟨g_p, 4, none⟩) (by show ¬ g_r = g_p; omega) (.bool true))
  have k_p : Bk W3 (g_p) 57 #[.int .i64 n, .int .i64 m, .int .i64 s3, .int .i64 s4, .bool true] := by rw [hW3]; exact ((k_p.below p2.h).set 4 (.bool true)).cast (by simp)
  rw [← hW3]
  clear hW3
  clear B2
  clear c_t_0 c_t_1 c_r_0 c_r_1 c_r_2 c_r_3 c_r_4 f_r_0 f_r_1 f_r_2 f_r_3 f_r_4 c_p_0 c_p_1 c_p_2 c_p_3 c_p_4 f_p_0 f_p_1 f_p_2 f_p_3 f_p_4
  obtain ⟨c_t_0, c_t_1⟩ := bwc2 (k_t)
  obtain ⟨c_r_0, c_r_1, c_r_2, c_r_3, c_r_4⟩ := bwc5 (k_r)
  obtain ⟨f_r_0, f_r_1, f_r_2, f_r_3, f_r_4⟩ := bwf5 (k_r)
  obtain ⟨c_p_0, c_p_1, c_p_2, c_p_3, c_p_4⟩ := bwc5 (k_p)
  obtain ⟨p3, hp3⟩ : ∃ p : BW W3, p.w = W3 := ⟨BW.start W3, rfl⟩
  rw [← hp3]
  clear hp3
  go_wp2
  have kr := bkp5 (k_r.below p3.h) (.int .i64 n) (.int .i64 m) (.int .i64 s3) (.int .i64 s4) (.bool true)
  obtain ⟨rc0, rc1, rc2, rc3, rc4⟩ := rwc5 kr
  exact bodyPost_ret (v := .agg #[.int .i64 n, .int .i64 m, .int .i64 s3, .int .i64 s4, .bool true]) (by simp [results, Try.results18, go_sem, rc0, rc1, rc2, rc3, rc4]) rfl ⟨rfl, blp5 (bw_below B3 p3) (by omega)⟩

theorem ref16_whole (ns : List Nd) (tv : Value) (b : Option Addr) (m capo : Nat) (hm : m ≤ 1048576) (hn : ns.length ≤ 1048576) (w : World) (hN : Nodes w tv ns) :
    Calls Try.prog 18 #[.agg #[tv, .slice b m capo]] w fun en w' => en = .returned (pv (mWhole ns m)) ∧ Below w.heap.size w w' := by
  have K := fun X hX => ref16_walk ns tv b m capo hm hn (ns.length + 1 - 0) 0 0 X (by omega) (hN.below hX (Nat.le_refl _)) (by omega) (by omega)
  obtain ⟨a, cap, rfl, hmx, h⟩ := hN
  clear h hmx
  have K1 : Hid (∀ X, Below w.heap.size w X → Calls Try.prog 33 #[.agg #[.slice a ns.length cap, .slice b m capo], .int .i64 0, .int .i64 0] X fun e w' => e = .returned (.agg #[.int .i64 (mPart ns m 0 0).1, .int .i64 (mPart ns m 0 0).2.1, .int .i64 (mPart ns m 0 0).2.2.1, .int .i64 (mPart ns m 0 0).2.2.2.1, .bool (mPart ns m 0 0).2.2.2.2]) ∧ Below X.heap.size X w') := Lib.hid K
  clear K
  unfold mWhole
  by_cases h0 : ns.length = 0 ∧ (m : Int) = 0
  · rw [if_pos h0]
    exact whole16_z a b _ cap m capo w h0.1 (by omega)
  · rw [if_neg h0]
    have h00 : ns.length = 0 → (mPart ns m 0 0).2.2.2.2 = false := fun e => by unfold mPart; rw [show ns.length + 1 - 0 = ns.length + 1 from rfl, mWalk_out (by omega)]; rfl
    generalize mPart ns m 0 0 = p at *
    by_cases h1 : p.2.2.2.2 = false
    · have e : pv (p.1, p.2.1, p.2.2.1, p.2.2.2.1, p.2.2.2.2 && (decide (p.1 = ns.length) && decide (p.2.1 = m))) = .agg #[.int .i64 p.1, .int .i64 p.2.1, .int .i64 p.2.2.1, .int .i64 p.2.2.2.1, .bool false] := by unfold pv; rw [h1]; rfl
      rw [e]
      by_cases hz : ns.length = 0
      · exact whole16_a0 a b _ cap m capo _ _ _ _ _ w hz (fun e => h0 ⟨hz, by omega⟩) K1 h1
      · exact whole16_b0 a b _ cap m capo _ _ _ _ _ w hz K1 h1
    · have h1 : p.2.2.2.2 = true := by simpa using h1
      have hz : ¬ ns.length = 0 := fun e => by rw [h00 e] at h1; cases h1
      by_cases h2 : p.1 = ns.length
      · by_cases h3 : p.2.1 = m
        · have e : pv (p.1, p.2.1, p.2.2.1, p.2.2.2.1, p.2.2.2.2 && (decide (p.1 = ns.length) && decide (p.2.1 = m))) = .agg #[.int .i64 p.1, .int .i64 p.2.1, .int .i64 p.2.2.1, .int .i64 p.2.2.2.1, .bool true] := by unfold pv; rw [h1, decide_eq_true h2, decide_eq_true h3]; rfl
          rw [e]
          exact whole16_b3 a b _ cap m capo _ _ _ _ _ w hz K1 h1 h2 h3
        · have e : pv (p.1, p.2.1, p.2.2.1, p.2.2.2.1, p.2.2.2.2 && (decide (p.1 = ns.length) && decide (p.2.1 = m))) = .agg #[.int .i64 p.1, .int .i64 p.2.1, .int .i64 p.2.2.1, .int .i64 p.2.2.2.1, .bool false] := by unfold pv; rw [decide_eq_false h3, Bool.and_false, Bool.and_false]
          rw [e]
          exact whole16_b2 a b _ cap m capo _ _ _ _ _ w hz K1 h1 h2 h3
      · have e : pv (p.1, p.2.1, p.2.2.1, p.2.2.2.1, p.2.2.2.2 && (decide (p.1 = ns.length) && decide (p.2.1 = m))) = .agg #[.int .i64 p.1, .int .i64 p.2.1, .int .i64 p.2.2.1, .int .i64 p.2.2.2.1, .bool false] := by unfold pv; rw [decide_eq_false h2, Bool.false_and, Bool.and_false]
        rw [e]
        exact whole16_b1 a b _ cap m capo _ _ _ _ _ w hz K1 h1 h2

set_option maxRecDepth 100000 in
set_option maxHeartbeats 8000000 in
theorem tell16_Ordered (tv ov : Value) (s1 s2 s3 s4 : Int) (sb : Bool) (w : World) (K : Hid (∀ X, Below w.heap.size w X → Calls Try.prog 18 #[.agg #[tv, ov]] X fun e w' => e = .returned (.agg #[.int .i64 s1, .int .i64 s2, .int .i64 s3, .int .i64 s4, .bool sb]) ∧ Below X.heap.size X w')) :
    Calls Try.prog 8 #[.agg #[tv, ov]] w fun en w' => en = .returned (.bool sb) ∧ Below w.heap.size w w' := by
  have hf : ∀ w, (Instr.field 57 (.agg #[.int .i64 s1, .int .i64 s2, .int .i64 s3, .int .i64 s4, .bool sb]) 4).run Try.prog w = .ok (.bool sb) w := fun _ => by kernel_rfl
  go_enter Try.func8, Try.ntmps8
  go_upto_region 1 with (fail)
  obtain ⟨W1, hW1⟩ : ∃ W, W = w.alloc (.cells #[tv, ov] 25) := ⟨_, rfl⟩
  obtain ⟨k_t, B1⟩ := st1 hW1
  rw [← hW1]
  clear hW1
  obtain ⟨c_t_0, c_t_1⟩ := bwc2 (k_t)
  obtain ⟨p1, hp1⟩ : ∃ p : BW W1, p.w = W1 := ⟨BW.start W1, rfl⟩
  rw [← hp1]
  clear hp1
  go_wp2_with (go_at_call 18; (with_reducible refine (K.out _ (bw_below B1 _)).mono ?_); rintro e w1 ⟨rfl, hb⟩; obtain ⟨q, rfl⟩ := bw_take hb)
  go_ret
  exact ⟨rfl, bw_below B1 _⟩

set_option maxRecDepth 100000 in
set_option maxHeartbeats 8000000 in
theorem tell16_Depthtrue (tv ov : Value) (s1 s2 s3 s4 : Int) (sb : Bool) (w : World) (K : Hid (∀ X, Below w.heap.size w X → Calls Try.prog 18 #[.agg #[tv, ov]] X fun e w' => e = .returned (.agg #[.int .i64 s1, .int .i64 s2, .int .i64 s3, .int .i64 s4, .bool sb]) ∧ Below X.heap.size X w')) (hs : sb = true) :
    Calls Try.prog 12 #[.agg #[tv, ov]] w fun en w' => en = .returned (.int .i64 s3) ∧ Below w.heap.size w w' := by
  subst hs
  go_enter Try.func12, Try.ntmps12
  go_upto_region 1 with (fail)
  obtain ⟨W1, hW1⟩ : ∃ W, W = w.alloc (.cells #[tv, ov] 25) := ⟨_, rfl⟩
  obtain ⟨k_t, B1⟩ := st1 hW1
  rw [← hW1]
  clear hW1
  obtain ⟨c_t_0, c_t_1⟩ := bwc2 (k_t)
  obtain ⟨p1, hp1⟩ : ∃ p : BW W1, p.w = W1 := ⟨BW.start W1, rfl⟩
  rw [← hp1]
  clear hp1
  go_upto_region 2 with (go_at_call 18; (with_reducible refine (K.out _ (bw_below B1 _)).mono ?_); rintro e w1 ⟨rfl, hb⟩; obtain ⟨q, rfl⟩ := bw_take hb)
  obtain ⟨W2, hW2⟩ : ∃ W, W = q.w.alloc (.cells #[.int .i64 s1, .int .i64 s2, .int .i64 s3, .int .i64 s4, .bool true] 57) := ⟨_, rfl⟩
  have B2 : Below w.heap.size w W2 := by rw [hW2]; exact (bw_below B1 q).alloc (bw_below B1 q).size _
  have l_p : w.heap.size < q.w.heap.size := (k_t.below q.h).lt
  have o_p : w.heap.size ≤ q.w.heap.size := (bw_below B1 q).size
  have k_t := bka hW2 (k_t.below q.h)
  have k_p := bkn hW2
  rw [← hW2]
  clear hW2
  clear B1
  clear c_t_0 c_t_1
  generalize q.w.heap.size = g_p at *
  obtain ⟨c_t_0, c_t_1⟩ := bwc2 (k_t)
  obtain ⟨c_p_0, c_p_1, c_p_2, c_p_3, c_p_4⟩ := bwc5 (k_p)
  obtain ⟨p2, hp2⟩ : ∃ p : BW W2, p.w = W2 := ⟨BW.start W2, rfl⟩
  rw [← hp2]
  clear hp2
  go_wp2
  go_ret
  exact ⟨rfl, bw_below B2 _⟩

set_option maxRecDepth 100000 in
set_option maxHeartbeats 8000000 in
theorem tell16_Depthfalse (tv ov : Value) (s1 s2 s3 s4 : Int) (sb : Bool) (w : World) (K : Hid (∀ X, Below w.heap.size w X → Calls Try.prog 18 #[.agg #[tv, ov]] X fun e w' => e = .returned (.agg #[.int .i64 s1, .int .i64 s2, .int .i64 s3, .int .i64 s4, .bool sb]) ∧ Below X.heap.size X w')) (hs : sb = false) :
    Calls Try.prog 12 #[.agg #[tv, ov]] w fun en w' => en = .returned (.int .i64 0) ∧ Below w.heap.size w w' := by
  subst hs
  go_enter Try.func12, Try.ntmps12
  go_upto_region 1 with (fail)
  obtain ⟨W1, hW1⟩ : ∃ W, W = w.alloc (.cells #[tv, ov] 25) := ⟨_, rfl⟩
  obtain ⟨k_t, B1⟩ := st1 hW1
  rw [← hW1]
  clear hW1
  obtain ⟨c_t_0, c_t_1⟩ := bwc2 (k_t)
  obtain ⟨p1, hp1⟩ : ∃ p : BW W1, p.w = W1 := ⟨BW.start W1, rfl⟩
  rw [← hp1]
  clear hp1
  go_upto_region 2 with (go_at_call 18; (with_reducible refine (K.out _ (bw_below B1 _)).mono ?_); rintro e w1 ⟨rfl, hb⟩; obtain ⟨q, rfl⟩ := bw_take hb)
  obtain ⟨W2, hW2⟩ : ∃ W, W = q.w.alloc (.cells #[.int .i64 s1, .int .i64 s2, .int .i64 s3, .int .i64 s4, .bool false] 57) := ⟨_, rfl⟩
  have B2 : Below w.heap.size w W2 := by rw [hW2]; exact (bw_below B1 q).alloc (bw_below B1 q).size _
  have l_p : w.heap.size < q.w.heap.size := (k_t.below q.h).lt
  have o_p : w.heap.size ≤ q.w.heap.size := (bw_below B1 q).size
  have k_t := bka hW2 (k_t.below q.h)
  have k_p := bkn hW2
  rw [← hW2]
  clear hW2
  clear B1
  clear c_t_0 c_t_1
  generalize q.w.heap.size = g_p at *
  obtain ⟨c_t_0, c_t_1⟩ := bwc2 (k_t)
  obtain ⟨c_p_0, c_p_1, c_p_2, c_p_3, c_p_4⟩ := bwc5 (k_p)
  obtain ⟨p2, hp2⟩ : ∃ p : BW W2, p.w = W2 := ⟨BW.start W2, rfl⟩
  rw [← hp2]
  clear hp2
  go_wp2
  go_ret
  exact ⟨rfl, bw_below B2 _⟩

set_option maxRecDepth 100000 in
set_option maxHeartbeats 8000000 in
theorem tell16_Leavestrue (tv ov : Value) (s1 s2 s3 s4 : Int) (sb : Bool) (w : World) (K : Hid (∀ X, Below w.heap.size w X → Calls Try.prog 18 #[.agg #[tv, ov]] X fun e w' => e = .returned (.agg #[.int .i64 s1, .int .i64 s2, .int .i64 s3, .int .i64 s4, .bool sb]) ∧ Below X.heap.size X w')) (hs : sb = true) :
    Calls Try.prog 14 #[.agg #[tv, ov]] w fun en w' => en = .returned (.int .i64 s4) ∧ Below w.heap.size w w' := by
  subst hs
  go_enter Try.func14, Try.ntmps14
  go_upto_region 1 with (fail)
  obtain ⟨W1, hW1⟩ : ∃ W, W = w.alloc (.cells #[tv, ov] 25) := ⟨_, rfl⟩
  obtain ⟨k_t, B1⟩ := st1 hW1
  rw [← hW1]
  clear hW1
  obtain ⟨c_t_0, c_t_1⟩ := bwc2 (k_t)
  obtain ⟨p1, hp1⟩ : ∃ p : BW W1, p.w = W1 := ⟨BW.start W1, rfl⟩
  rw [← hp1]
  clear hp1
  go_upto_region 2 with (go_at_call 18; (with_reducible refine (K.out _ (bw_below B1 _)).mono ?_); rintro e w1 ⟨rfl, hb⟩; obtain ⟨q, rfl⟩ := bw_take hb)
  obtain ⟨W2, hW2⟩ : ∃ W, W = q.w.alloc (.cells #[.int .i64 s1, .int .i64 s2, .int .i64 s3, .int .i64 s4, .bool true] 57) := ⟨_, rfl⟩
  have B2 : Below w.heap.size w W2 := by rw [hW2]; exact (bw_below B1 q).alloc (bw_below B1 q).size _
  have l_p : w.heap.size < q.w.heap.size := (k_t.below q.h).lt
  have o_p : w.heap.size ≤ q.w.heap.size := (bw_below B1 q).size
  have k_t := bka hW2 (k_t.below q.h)
  have k_p := bkn hW2
  rw [← hW2]
  clear hW2
  clear B1
  clear c_t_0 c_t_1
  generalize q.w.heap.size = g_p at *
  obtain ⟨c_t_0, c_t_1⟩ := bwc2 (k_t)
  obtain ⟨c_p_0, c_p_1, c_p_2, c_p_3, c_p_4⟩ := bwc5 (k_p)
  obtain ⟨p2, hp2⟩ : ∃ p : BW W2, p.w = W2 := ⟨BW.start W2, rfl⟩
  rw [← hp2]
  clear hp2
  go_wp2
  go_ret
  exact ⟨rfl, bw_below B2 _⟩

set_option maxRecDepth 100000 in
set_option maxHeartbeats 8000000 in
theorem tell16_Leavesfalse (tv ov : Value) (s1 s2 s3 s4 : Int) (sb : Bool) (w : World) (K : Hid (∀ X, Below w.heap.size w X → Calls Try.prog 18 #[.agg #[tv, ov]] X fun e w' => e = .returned (.agg #[.int .i64 s1, .int .i64 s2, .int .i64 s3, .int .i64 s4, .bool sb]) ∧ Below X.heap.size X w')) (hs : sb = false) :
    Calls Try.prog 14 #[.agg #[tv, ov]] w fun en w' => en = .returned (.int .i64 0) ∧ Below w.heap.size w w' := by
  subst hs
  go_enter Try.func14, Try.ntmps14
  go_upto_region 1 with (fail)
  obtain ⟨W1, hW1⟩ : ∃ W, W = w.alloc (.cells #[tv, ov] 25) := ⟨_, rfl⟩
  obtain ⟨k_t, B1⟩ := st1 hW1
  rw [← hW1]
  clear hW1
  obtain ⟨c_t_0, c_t_1⟩ := bwc2 (k_t)
  obtain ⟨p1, hp1⟩ : ∃ p : BW W1, p.w = W1 := ⟨BW.start W1, rfl⟩
  rw [← hp1]
  clear hp1
  go_upto_region 2 with (go_at_call 18; (with_reducible refine (K.out _ (bw_below B1 _)).mono ?_); rintro e w1 ⟨rfl, hb⟩; obtain ⟨q, rfl⟩ := bw_take hb)
  obtain ⟨W2, hW2⟩ : ∃ W, W = q.w.alloc (.cells #[.int .i64 s1, .int .i64 s2, .int .i64 s3, .int .i64 s4, .bool false] 57) := ⟨_, rfl⟩
  have B2 : Below w.heap.size w W2 := by rw [hW2]; exact (bw_below B1 q).alloc (bw_below B1 q).size _
  have l_p : w.heap.size < q.w.heap.size := (k_t.below q.h).lt
  have o_p : w.heap.size ≤ q.w.heap.size := (bw_below B1 q).size
  have k_t := bka hW2 (k_t.below q.h)
  have k_p := bkn hW2
  rw [← hW2]
  clear hW2
  clear B1
  clear c_t_0 c_t_1
  generalize q.w.heap.size = g_p at *
  obtain ⟨c_t_0, c_t_1⟩ := bwc2 (k_t)
  obtain ⟨c_p_0, c_p_1, c_p_2, c_p_3, c_p_4⟩ := bwc5 (k_p)
  obtain ⟨p2, hp2⟩ : ∃ p : BW W2, p.w = W2 := ⟨BW.start W2, rfl⟩
  rw [← hp2]
  clear hp2
  go_wp2
  go_ret
  exact ⟨rfl, bw_below B2 _⟩

theorem whole_pv (ns : List Nd) (tv : Value) (b : Option Addr) (m capo : Nat) (hm : m ≤ 1048576) (hn : ns.length ≤ 1048576) (w : World) (hN : Nodes w tv ns) {c : Bool} (hc : (mWhole ns m).2.2.2.2 = c) :
    Hid (∀ X, Below w.heap.size w X → Calls Try.prog 18 #[.agg #[tv, .slice b m capo]] X fun e w' => e = .returned (.agg #[.int .i64 (mWhole ns m).1, .int .i64 (mWhole ns m).2.1, .int .i64 (mWhole ns m).2.2.1, .int .i64 (mWhole ns m).2.2.2.1, .bool c]) ∧ Below X.heap.size X w') :=
  Lib.hid (fun X hX => by subst hc; exact ref16_whole ns tv b m capo hm hn X (hN.below hX (Nat.le_refl _)))

theorem ref16_Ordered (ns : List Nd) (tv : Value) (b : Option Addr) (m capo : Nat) (hm : m ≤ 1048576) (hn : ns.length ≤ 1048576) (w : World) (hN : Nodes w tv ns) :
    Calls Try.prog 8 #[.agg #[tv, .slice b m capo]] w fun en w' => en = .returned (.bool (mWhole ns m).2.2.2.2) ∧ Below w.heap.size w w' :=
  tell16_Ordered tv _ _ _ _ _ _ w (whole_pv ns tv b m capo hm hn w hN rfl)

theorem ref16_Depth (ns : List Nd) (tv : Value) (b : Option Addr) (m capo : Nat) (hm : m ≤ 1048576) (hn : ns.length ≤ 1048576) (w : World) (hN : Nodes w tv ns) :
    Calls Try.prog 12 #[.agg #[tv, .slice b m capo]] w fun en w' => en = .returned (.int .i64 (mDeep ns m)) ∧ Below w.heap.size w w' := by
  unfold mDeep
  by_cases h : (mWhole ns m).2.2.2.2 = true
  · rw [if_pos h]
    exact tell16_Depthtrue tv _ _ _ _ _ _ w (whole_pv ns tv b m capo hm hn w hN h) rfl
  · rw [if_neg h]
    exact tell16_Depthfalse tv _ _ _ _ _ _ w (whole_pv ns tv b m capo hm hn w hN (by simpa using h)) rfl

theorem ref16_Leaves (ns : List Nd) (tv : Value) (b : Option Addr) (m capo : Nat) (hm : m ≤ 1048576) (hn : ns.length ≤ 1048576) (w : World) (hN : Nodes w tv ns) :
    Calls Try.prog 14 #[.agg #[tv, .slice b m capo]] w fun en w' => en = .returned (.int .i64 (mLeaves ns m)) ∧ Below w.heap.size w w' := by
  unfold mLeaves
  by_cases h : (mWhole ns m).2.2.2.2 = true
  · rw [if_pos h]
    exact tell16_Leavestrue tv _ _ _ _ _ _ w (whole_pv ns tv b m capo hm hn w hN h) rfl
  · rw [if_neg h]
    exact tell16_Leavesfalse tv _ _ _ _ _ _ w (whole_pv ns tv b m capo hm hn w hN (by simpa using h)) rfl

end
end Go.Proofs.Ytomlcglnkdfemaa
