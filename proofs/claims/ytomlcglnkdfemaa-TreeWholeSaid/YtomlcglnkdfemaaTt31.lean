/- Contracts of the document's own answers: layer 10's Mid, Join and Area; layer 15's Bin and Left. Contracts of the document's own answers, layer 15: Sides, part, Cost, Best. Contract of the document's own best split, layer 15. -/
import Derived.Test.YtomlcglnkdfemaaTt15
import Derived.Test.YtomlcglnkdfemaaTt9
import Derived.Test.YtomlcglnkdfemaaTt17
import Derived.Test.YtomlcglnkdfemaaTt7
import Derived.Test.YtomlcglnkdfemaaTt5
import Derived.Lib.MinMax
import Derived.Deep.DeepCutAuto
import Derived.Test.YtomlcglnkdfemaaTt29
import Derived.Test.YtomlcglnkdfemaaTt6


namespace Go.Proofs.Ytomlcglnkdfemaa
section

section

open Go.RowKit Go.Proofs.Sky

set_option linter.unusedVariables false

set_option maxRecDepth 100000 in
set_option maxHeartbeats 4000000 in
theorem ref10_Join_noa (a1 a2 a3 a4 a5 a6 b1 b2 b3 b4 b5 b6 : Int) (w : World) (h1 : bRight ((a1, a2, a3), (a4, a5, a6)) = false) :
    Calls Try.prog 38 #[.agg #[.int .i64 a1, .int .i64 a2, .int .i64 a3, .int .i64 a4, .int .i64 a5, .int .i64 a6], .agg #[.int .i64 b1, .int .i64 b2, .int .i64 b3, .int .i64 b4, .int .i64 b5, .int .i64 b6]] w fun en w' => en = .returned (.agg #[.int .i64 0, .int .i64 0, .int .i64 0, .int .i64 0, .int .i64 0, .int .i64 0]) ∧ Below w.heap.size w w' := by
  have KA := Lib.hid (fun w => ref10_Right a1 a2 a3 a4 a5 a6 w)
  rw [h1] at KA
  clear h1
  go_enter Try.func38, Try.ntmps38
  go_upto_region 1 with (fail)
  obtain ⟨W1, hW1⟩ : ∃ W, W = ((w.alloc (.cells #[.int .i64 a1, .int .i64 a2, .int .i64 a3, .int .i64 a4, .int .i64 a5, .int .i64 a6] 41)).alloc (.cells #[.int .i64 b1, .int .i64 b2, .int .i64 b3, .int .i64 b4, .int .i64 b5, .int .i64 b6] 41)).alloc (.cells #[.int .i64 0, .int .i64 0, .int .i64 0, .int .i64 0, .int .i64 0, .int .i64 0] 41) := ⟨_, rfl⟩
  obtain ⟨k_a, k_b, k_r, B1⟩ := st3 hW1
  rw [← hW1]
  clear hW1
  have l_b : w.heap.size < w.heap.size + 1 := by omega
  have l_r : w.heap.size + 1 < w.heap.size + 1 + 1 := by omega
  generalize w.heap.size + 1 + 1 = g_r at *
  generalize w.heap.size + 1 = g_b at *
  obtain ⟨c_a_0, c_a_1, c_a_2, c_a_3, c_a_4, c_a_5⟩ := bwc6 (k_a)
  obtain ⟨c_b_0, c_b_1, c_b_2, c_b_3, c_b_4, c_b_5⟩ := bwc6 (k_b)
  obtain ⟨c_r_0, c_r_1, c_r_2, c_r_3, c_r_4, c_r_5⟩ := bwc6 (k_r)
  obtain ⟨f_r_0, f_r_1, f_r_2, f_r_3, f_r_4, f_r_5⟩ := bwf6 (k_r)
  obtain ⟨p1, hp1⟩ : ∃ p : BW W1, p.w = W1 := ⟨BW.start W1, rfl⟩
  rw [← hp1]
  clear hp1
  go_wp2_with (first
    | (go_at_call 52; (first | (with_reducible refine (bw_call KA.out _).mono ?_)); rintro e w' ⟨rfl, q, rfl⟩))
  have kr := bkp6 (k_r.below q.h) (.int .i64 0) (.int .i64 0) (.int .i64 0) (.int .i64 0) (.int .i64 0) (.int .i64 0)
  obtain ⟨rc0, rc1, rc2, rc3, rc4, rc5⟩ := rwc6 kr
  exact bodyPost_ret (v := .agg #[.int .i64 0, .int .i64 0, .int .i64 0, .int .i64 0, .int .i64 0, .int .i64 0]) (by simp [results, Try.results38, go_sem, rc0, rc1, rc2, rc3, rc4, rc5]) rfl ⟨rfl, blp6 (bw_below B1 q) (by omega)⟩

set_option maxRecDepth 100000 in
set_option maxHeartbeats 4000000 in
theorem ref10_Join_nob (a1 a2 a3 a4 a5 a6 b1 b2 b3 b4 b5 b6 : Int) (w : World) (h1 : bRight ((a1, a2, a3), (a4, a5, a6)) = true) (h2 : bRight ((b1, b2, b3), (b4, b5, b6)) = false) :
    Calls Try.prog 38 #[.agg #[.int .i64 a1, .int .i64 a2, .int .i64 a3, .int .i64 a4, .int .i64 a5, .int .i64 a6], .agg #[.int .i64 b1, .int .i64 b2, .int .i64 b3, .int .i64 b4, .int .i64 b5, .int .i64 b6]] w fun en w' => en = .returned (.agg #[.int .i64 0, .int .i64 0, .int .i64 0, .int .i64 0, .int .i64 0, .int .i64 0]) ∧ Below w.heap.size w w' := by
  have KA := Lib.hid (fun w => ref10_Right a1 a2 a3 a4 a5 a6 w)
  rw [h1] at KA
  have KB := Lib.hid (fun w => ref10_Right b1 b2 b3 b4 b5 b6 w)
  rw [h2] at KB
  clear h1 h2
  go_enter Try.func38, Try.ntmps38
  go_upto_region 1 with (fail)
  obtain ⟨W1, hW1⟩ : ∃ W, W = ((w.alloc (.cells #[.int .i64 a1, .int .i64 a2, .int .i64 a3, .int .i64 a4, .int .i64 a5, .int .i64 a6] 41)).alloc (.cells #[.int .i64 b1, .int .i64 b2, .int .i64 b3, .int .i64 b4, .int .i64 b5, .int .i64 b6] 41)).alloc (.cells #[.int .i64 0, .int .i64 0, .int .i64 0, .int .i64 0, .int .i64 0, .int .i64 0] 41) := ⟨_, rfl⟩
  obtain ⟨k_a, k_b, k_r, B1⟩ := st3 hW1
  rw [← hW1]
  clear hW1
  have l_b : w.heap.size < w.heap.size + 1 := by omega
  have l_r : w.heap.size + 1 < w.heap.size + 1 + 1 := by omega
  generalize w.heap.size + 1 + 1 = g_r at *
  generalize w.heap.size + 1 = g_b at *
  obtain ⟨c_a_0, c_a_1, c_a_2, c_a_3, c_a_4, c_a_5⟩ := bwc6 (k_a)
  obtain ⟨c_b_0, c_b_1, c_b_2, c_b_3, c_b_4, c_b_5⟩ := bwc6 (k_b)
  obtain ⟨c_r_0, c_r_1, c_r_2, c_r_3, c_r_4, c_r_5⟩ := bwc6 (k_r)
  obtain ⟨f_r_0, f_r_1, f_r_2, f_r_3, f_r_4, f_r_5⟩ := bwf6 (k_r)
  obtain ⟨p1, hp1⟩ : ∃ p : BW W1, p.w = W1 := ⟨BW.start W1, rfl⟩
  rw [← hp1]
  clear hp1
  go_wp2_with (first
    | (go_at_call 52; (first | (with_reducible refine (bw_call KA.out _).mono ?_) | (with_reducible refine (bw_call KB.out _).mono ?_)); rintro e w' ⟨rfl, q, rfl⟩))
  have kr := bkp6 (k_r.below q.h) (.int .i64 0) (.int .i64 0) (.int .i64 0) (.int .i64 0) (.int .i64 0) (.int .i64 0)
  obtain ⟨rc0, rc1, rc2, rc3, rc4, rc5⟩ := rwc6 kr
  exact bodyPost_ret (v := .agg #[.int .i64 0, .int .i64 0, .int .i64 0, .int .i64 0, .int .i64 0, .int .i64 0]) (by simp [results, Try.results38, go_sem, rc0, rc1, rc2, rc3, rc4, rc5]) rfl ⟨rfl, blp6 (bw_below B1 q) (by omega)⟩

set_option maxRecDepth 100000 in
set_option maxHeartbeats 4000000 in
theorem ref10_Join_yes (a1 a2 a3 a4 a5 a6 b1 b2 b3 b4 b5 b6 : Int) (w : World) (h1 : bRight ((a1, a2, a3), (a4, a5, a6)) = true) (h2 : bRight ((b1, b2, b3), (b4, b5, b6)) = true) :
    Calls Try.prog 38 #[.agg #[.int .i64 a1, .int .i64 a2, .int .i64 a3, .int .i64 a4, .int .i64 a5, .int .i64 a6], .agg #[.int .i64 b1, .int .i64 b2, .int .i64 b3, .int .i64 b4, .int .i64 b5, .int .i64 b6]] w fun en w' => en = .returned (.agg #[.int .i64 (min a1 b1), .int .i64 (min a2 b2), .int .i64 (min a3 b3), .int .i64 (max a4 b4), .int .i64 (max a5 b5), .int .i64 (max a6 b6)]) ∧ Below w.heap.size w w' := by
  have KA := Lib.hid (fun w => ref10_Right a1 a2 a3 a4 a5 a6 w)
  rw [h1] at KA
  have KB := Lib.hid (fun w => ref10_Right b1 b2 b3 b4 b5 b6 w)
  rw [h2] at KB
  obtain ⟨m1, e1⟩ : ∃ m, min a1 b1 = m := ⟨_, rfl⟩
  obtain ⟨m2, e2⟩ : ∃ m, min a2 b2 = m := ⟨_, rfl⟩
  obtain ⟨m3, e3⟩ : ∃ m, min a3 b3 = m := ⟨_, rfl⟩
  obtain ⟨m4, e4⟩ : ∃ m, max a4 b4 = m := ⟨_, rfl⟩
  obtain ⟨m5, e5⟩ : ∃ m, max a5 b5 = m := ⟨_, rfl⟩
  obtain ⟨m6, e6⟩ : ∃ m, max a6 b6 = m := ⟨_, rfl⟩
  rw [e1, e2, e3, e4, e5, e6]
  clear h1 h2
  go_enter Try.func38, Try.ntmps38
  go_upto_region 1 with (fail)
  obtain ⟨W1, hW1⟩ : ∃ W, W = ((w.alloc (.cells #[.int .i64 a1, .int .i64 a2, .int .i64 a3, .int .i64 a4, .int .i64 a5, .int .i64 a6] 41)).alloc (.cells #[.int .i64 b1, .int .i64 b2, .int .i64 b3, .int .i64 b4, .int .i64 b5, .int .i64 b6] 41)).alloc (.cells #[.int .i64 0, .int .i64 0, .int .i64 0, .int .i64 0, .int .i64 0, .int .i64 0] 41) := ⟨_, rfl⟩
  obtain ⟨k_a, k_b, k_r, B1⟩ := st3 hW1
  rw [← hW1]
  clear hW1
  have l_b : w.heap.size < w.heap.size + 1 := by omega
  have l_r : w.heap.size + 1 < w.heap.size + 1 + 1 := by omega
  generalize w.heap.size + 1 + 1 = g_r at *
  generalize w.heap.size + 1 = g_b at *
  obtain ⟨c_a_0, c_a_1, c_a_2, c_a_3, c_a_4, c_a_5⟩ := bwc6 (k_a)
  obtain ⟨c_b_0, c_b_1, c_b_2, c_b_3, c_b_4, c_b_5⟩ := bwc6 (k_b)
  obtain ⟨c_r_0, c_r_1, c_r_2, c_r_3, c_r_4, c_r_5⟩ := bwc6 (k_r)
  obtain ⟨f_r_0, f_r_1, f_r_2, f_r_3, f_r_4, f_r_5⟩ := bwf6 (k_r)
  obtain ⟨p1, hp1⟩ : ∃ p : BW W1, p.w = W1 := ⟨BW.start W1, rfl⟩
  rw [← hp1]
  clear hp1
  go_upto_region 4 with (first
    | (go_at_call 52; (first | (with_reducible refine (bw_call KA.out _).mono ?_) | (with_reducible refine (bw_call KB.out _).mono ?_)); rintro e w' ⟨rfl, q, rfl⟩))
  obtain ⟨W2, hW2⟩ : ∃ W, W = q.w.alloc (.cells #[.int .i64 m1, .int .i64 m2, .int .i64 m3] 39) := ⟨_, rfl⟩
  have B2 : Below w.heap.size w W2 := by rw [hW2]; exact (bw_below B1 q).alloc (bw_below B1 q).size _
  have l_lo : g_r < q.w.heap.size := (k_r.below q.h).lt
  have o_lo : w.heap.size ≤ q.w.heap.size := (bw_below B1 q).size
  have k_a := bka hW2 (k_a.below q.h)
  have k_b := bka hW2 (k_b.below q.h)
  have k_r := bka hW2 (k_r.below q.h)
  have k_lo := bkn hW2
  rw [← hW2]
  clear hW2
  clear B1
  clear c_a_0 c_a_1 c_a_2 c_a_3 c_a_4 c_a_5 c_b_0 c_b_1 c_b_2 c_b_3 c_b_4 c_b_5 c_r_0 c_r_1 c_r_2 c_r_3 c_r_4 c_r_5 f_r_0 f_r_1 f_r_2 f_r_3 f_r_4 f_r_5
  generalize q.w.heap.size = g_lo at *
  obtain ⟨c_a_0, c_a_1, c_a_2, c_a_3, c_a_4, c_a_5⟩ := bwc6 (k_a)
  obtain ⟨c_b_0, c_b_1, c_b_2, c_b_3, c_b_4, c_b_5⟩ := bwc6 (k_b)
  obtain ⟨c_r_0, c_r_1, c_r_2, c_r_3, c_r_4, c_r_5⟩ := bwc6 (k_r)
  obtain ⟨c_lo_0, c_lo_1, c_lo_2⟩ := bwc3 (k_lo)
  obtain ⟨p2, hp2⟩ : ∃ p : BW W2, p.w = W2 := ⟨BW.start W2, rfl⟩
  rw [← hp2]
  clear hp2
  go_upto_region 5 with (fail)
  obtain ⟨W3, hW3⟩ : ∃ W, W = p2.w.alloc (.cells #[.int .i64 m4, .int .i64 m5, .int .i64 m6] 39) := ⟨_, rfl⟩
  have B3 : Below w.heap.size w W3 := by rw [hW3]; exact (bw_below B2 p2).alloc (bw_below B2 p2).size _
  have l_hi : g_lo < p2.w.heap.size := (k_lo.below p2.h).lt
  have o_hi : w.heap.size ≤ p2.w.heap.size := (bw_below B2 p2).size
  have k_a := bka hW3 (k_a.below p2.h)
  have k_b := bka hW3 (k_b.below p2.h)
  have k_r := bka hW3 (k_r.below p2.h)
  have k_lo := bka hW3 (k_lo.below p2.h)
  have k_hi := bkn hW3
  rw [← hW3]
  clear hW3
  clear B2
  clear c_a_0 c_a_1 c_a_2 c_a_3 c_a_4 c_a_5 c_b_0 c_b_1 c_b_2 c_b_3 c_b_4 c_b_5 c_r_0 c_r_1 c_r_2 c_r_3 c_r_4 c_r_5 c_lo_0 c_lo_1 c_lo_2
  generalize p2.w.heap.size = g_hi at *
  obtain ⟨c_a_0, c_a_1, c_a_2, c_a_3, c_a_4, c_a_5⟩ := bwc6 (k_a)
  obtain ⟨c_b_0, c_b_1, c_b_2, c_b_3, c_b_4, c_b_5⟩ := bwc6 (k_b)
  obtain ⟨c_r_0, c_r_1, c_r_2, c_r_3, c_r_4, c_r_5⟩ := bwc6 (k_r)
  obtain ⟨f_r_0, f_r_1, f_r_2, f_r_3, f_r_4, f_r_5⟩ := bwf6 (k_r)
  obtain ⟨c_lo_0, c_lo_1, c_lo_2⟩ := bwc3 (k_lo)
  obtain ⟨c_hi_0, c_hi_1, c_hi_2⟩ := bwc3 (k_hi)
  obtain ⟨p3, hp3⟩ : ∃ p : BW W3, p.w = W3 := ⟨BW.start W3, rfl⟩
  rw [← hp3]
  clear hp3
  go_wp2
  have kr := bkp6 (k_r.below p3.h) (.int .i64 m1) (.int .i64 m2) (.int .i64 m3) (.int .i64 m4) (.int .i64 m5) (.int .i64 m6)
  obtain ⟨rc0, rc1, rc2, rc3, rc4, rc5⟩ := rwc6 kr
  exact bodyPost_ret (v := .agg #[.int .i64 m1, .int .i64 m2, .int .i64 m3, .int .i64 m4, .int .i64 m5, .int .i64 m6]) (by simp [results, Try.results38, go_sem, rc0, rc1, rc2, rc3, rc4, rc5]) rfl ⟨rfl, blp6 (bw_below B3 p3) (by omega)⟩

theorem ref10_Join (a1 a2 a3 a4 a5 a6 b1 b2 b3 b4 b5 b6 : Int) (w : World) :
    Calls Try.prog 38 #[.agg #[.int .i64 a1, .int .i64 a2, .int .i64 a3, .int .i64 a4, .int .i64 a5, .int .i64 a6], .agg #[.int .i64 b1, .int .i64 b2, .int .i64 b3, .int .i64 b4, .int .i64 b5, .int .i64 b6]] w fun en w' => en = .returned (.agg (bx6 (bJoin ((a1, a2, a3), (a4, a5, a6)) ((b1, b2, b3), (b4, b5, b6))))) ∧ Below w.heap.size w w' := by
  unfold bJoin
  cases h1 : bRight ((a1, a2, a3), (a4, a5, a6)) with
  | false => rw [if_neg (fun k => by cases k.1)]; exact ref10_Join_noa a1 a2 a3 a4 a5 a6 b1 b2 b3 b4 b5 b6 w h1
  | true =>
    cases h2 : bRight ((b1, b2, b3), (b4, b5, b6)) with
    | false => rw [if_neg (fun k => by cases k.2)]; exact ref10_Join_nob a1 a2 a3 a4 a5 a6 b1 b2 b3 b4 b5 b6 w h1 h2
    | true => rw [if_pos ⟨rfl, rfl⟩]; exact ref10_Join_yes a1 a2 a3 a4 a5 a6 b1 b2 b3 b4 b5 b6 w h1 h2

end

end
end Go.Proofs.Ytomlcglnkdfemaa

namespace Go.Proofs.Ytomlcglnkdfemaa
section

section

open Go.RowKit Go.Proofs.Sky

set_option linter.unusedVariables false

set_option linter.unusedSimpArgs false

theorem intslice_down15 {w w' : World} {a : Option Addr} {n : Nat} {Z : Nat → Int} (h : IntSlice w a n Z) (hb : Below w.heap.size w w') : IntSlice w' a n Z := by
  rcases h with h | ⟨b, off, e, hc, hlt⟩
  · exact .inl h
  · exact .inr ⟨b, off, e, fun k hk => ⟨(hb.cell (p := ⟨b, off + k, none⟩) hlt).trans (hc k hk).1, (hc k hk).2⟩, Nat.lt_of_lt_of_le hlt hb.size⟩

theorem boxes_at {w : World} {a : Option Addr} {n cap : Nat} {V : Nat → Bx} (h : Boxes w (.slice a n cap) n V) {k : Nat} (hk : k < n) : ∃ b off, a = some ⟨b, off, none⟩ ∧ b < w.heap.size ∧
    w.cell? ⟨b, off + k * 6, none⟩ = some (.int .i64 (V k).1.1) ∧ w.cell? ⟨b, off + k * 6 + 1, none⟩ = some (.int .i64 (V k).1.2.1) ∧ w.cell? ⟨b, off + k * 6 + 2, none⟩ = some (.int .i64 (V k).1.2.2) ∧
    w.cell? ⟨b, off + k * 6 + 3, none⟩ = some (.int .i64 (V k).2.1) ∧ w.cell? ⟨b, off + k * 6 + 4, none⟩ = some (.int .i64 (V k).2.2.1) ∧ w.cell? ⟨b, off + k * 6 + 5, none⟩ = some (.int .i64 (V k).2.2.2) := by
  obtain ⟨_, _, e, _, hS⟩ := h
  cases e
  obtain ⟨b, off, rfl, hb, hc⟩ := hS.resolve_left (by omega)
  exact ⟨b, off, rfl, hb, hc k hk 0 (by omega), hc k hk 1 (by omega), hc k hk 2 (by omega), hc k hk 3 (by omega), hc k hk 4 (by omega), hc k hk 5 (by omega)⟩

end

end
end Go.Proofs.Ytomlcglnkdfemaa

namespace Go.Proofs.Ytomlcglnkdfemaa
section

section

open Go.RowKit Go.Proofs.Sky

set_option linter.unusedVariables false

set_option linter.unusedSimpArgs false

end

end
end Go.Proofs.Ytomlcglnkdfemaa
