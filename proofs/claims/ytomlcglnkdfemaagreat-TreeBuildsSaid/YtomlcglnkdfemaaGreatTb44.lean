/- The reference's Build, layer 16. -/
import Derived.Test.YtomlcglnkdfemaaGreatTb21
import Derived.Test.YtomlcglnkdfemaaGreatTb28
import Derived.Test.YtomlcglnkdfemaaGreatTb41


namespace Go.Proofs.YtomlcglnkdfemaaGreat
section

open Go.RowKit Go.Proofs.Sky

set_option linter.unusedVariables false

set_option linter.unusedSimpArgs false

set_option maxRecDepth 100000 in
set_option maxHeartbeats 8000000 in
theorem rbuild_a (lp : Option Addr) (n lc : Nat) (w : World) (h1 : n = 0) :
    Calls Tryz.prog 8 #[.slice lp n lc] w fun e w' => e = .returned (.agg #[.slice none 0 0, .slice none 0 0]) ∧ Below w.heap.size w w' := by
  subst h1
  go_enter Tryz.func8, Tryz.ntmps8
  go_upto_region 1 with (fail)
  obtain ⟨W1, hW1⟩ : ∃ W, W = w.alloc (.cells #[.slice none 0 0, .slice none 0 0] 33) := ⟨_, rfl⟩
  obtain ⟨k_r, B1⟩ := st1 hW1
  rw [← hW1]
  clear hW1
  obtain ⟨c_r_0, c_r_1⟩ := bwc2 (k_r)
  obtain ⟨f_r_0, f_r_1⟩ := bwf2 (k_r)
  obtain ⟨p1, hp1⟩ : ∃ p : BW W1, p.w = W1 := ⟨BW.start W1, rfl⟩
  rw [← hp1]
  clear hp1
  go_wp2
  have kr := bkp2 (k_r.below p1.h) (.slice none 0 0) (.slice none 0 0)
  obtain ⟨rc0, rc1⟩ := rwc2 kr
  exact bodyPost_ret (v := .agg #[.slice none 0 0, .slice none 0 0]) (by simp [results, Tryz.results8, go_sem, rc0, rc1]) rfl ⟨rfl, blp2 (bw_below B1 p1) (by omega)⟩

set_option maxRecDepth 100000 in
set_option maxHeartbeats 8000000 in
theorem rbuild_b (lp : Option Addr) (n lc : Nat) (w : World) (h1 : ¬ n = 0) (h2 : 1024 < n) :
    Calls Tryz.prog 8 #[.slice lp n lc] w fun e w' => e = .returned (.agg #[.slice none 0 0, .slice none 0 0]) ∧ Below w.heap.size w w' := by
  have t1 : ((n : Int) == 0) = false := by rw [beq_eq_false_iff_ne]; omega
  have t2 : decide (1024 < (n : Int)) = true := decide_eq_true (by omega)
  clear h1 h2
  go_enter Tryz.func8, Tryz.ntmps8
  go_upto_region 1 with (fail)
  obtain ⟨W1, hW1⟩ : ∃ W, W = w.alloc (.cells #[.slice none 0 0, .slice none 0 0] 33) := ⟨_, rfl⟩
  obtain ⟨k_r, B1⟩ := st1 hW1
  rw [← hW1]
  clear hW1
  obtain ⟨c_r_0, c_r_1⟩ := bwc2 (k_r)
  obtain ⟨f_r_0, f_r_1⟩ := bwf2 (k_r)
  obtain ⟨p1, hp1⟩ : ∃ p : BW W1, p.w = W1 := ⟨BW.start W1, rfl⟩
  rw [← hp1]
  clear hp1
  go_wp2
  have kr := bkp2 (k_r.below p1.h) (.slice none 0 0) (.slice none 0 0)
  obtain ⟨rc0, rc1⟩ := rwc2 kr
  exact bodyPost_ret (v := .agg #[.slice none 0 0, .slice none 0 0]) (by simp [results, Tryz.results8, go_sem, rc0, rc1]) rfl ⟨rfl, blp2 (bw_below B1 p1) (by omega)⟩

set_option maxRecDepth 100000 in
set_option maxHeartbeats 8000000 in
theorem rbuild_c (lp : Option Addr) (n lc : Nat) (w : World) (h1 : ¬ n = 0) (h2 : ¬ 1024 < n) (KR : Hid (∀ X, Below w.heap.size w X → Calls Tryz.prog 18 #[.slice lp n lc] X fun e w' => e = .returned (.bool false) ∧ Below X.heap.size X w')) :
    Calls Tryz.prog 8 #[.slice lp n lc] w fun e w' => e = .returned (.agg #[.slice none 0 0, .slice none 0 0]) ∧ Below w.heap.size w w' := by
  have t1 : ((n : Int) == 0) = false := by rw [beq_eq_false_iff_ne]; omega
  have t2 : decide (1024 < (n : Int)) = false := decide_eq_false (by omega)
  clear h1 h2
  go_enter Tryz.func8, Tryz.ntmps8
  go_upto_region 1 with (fail)
  obtain ⟨W1, hW1⟩ : ∃ W, W = w.alloc (.cells #[.slice none 0 0, .slice none 0 0] 33) := ⟨_, rfl⟩
  obtain ⟨k_r, B1⟩ := st1 hW1
  rw [← hW1]
  clear hW1
  obtain ⟨c_r_0, c_r_1⟩ := bwc2 (k_r)
  obtain ⟨f_r_0, f_r_1⟩ := bwf2 (k_r)
  obtain ⟨p1, hp1⟩ : ∃ p : BW W1, p.w = W1 := ⟨BW.start W1, rfl⟩
  rw [← hp1]
  clear hp1
  go_wp2_with (first
    | (go_at_call 18; (with_reducible refine (KR.out _ (bw_below B1 _)).mono ?_); rintro e w' ⟨rfl, hb2⟩; obtain ⟨q, rfl⟩ := bw_take hb2))
  have kr := bkp2 (k_r.below q.h) (.slice none 0 0) (.slice none 0 0)
  obtain ⟨rc0, rc1⟩ := rwc2 kr
  exact bodyPost_ret (v := .agg #[.slice none 0 0, .slice none 0 0]) (by simp [results, Tryz.results8, go_sem, rc0, rc1]) rfl ⟨rfl, blp2 (bw_below B1 q) (by omega)⟩

/-- A row of the reference's nodes that a call made. -/
def RNodRow (w : World) (B : Nat) (v : Value) (ns : List Nd) : Prop := w.ownsRow B 60 9 v ns.length (ns.flatMap ncells)

set_option maxRecDepth 100000 in
set_option maxHeartbeats 8000000 in
theorem rbuild_d (lp : Option Addr) (n lc : Nat) (ns : List Nd) (od : List Nat) (w : World) (h1 : ¬ n = 0) (h2 : ¬ 1024 < n) (KR : Hid (∀ X, Below w.heap.size w X → Calls Tryz.prog 18 #[.slice lp n lc] X fun e w' => e = .returned (.bool true) ∧ Below X.heap.size X w')) (KG : Hid (∀ (X : World) (uw : Value), Below w.heap.size w X → Ints X w.heap.size uw (List.range n) → Calls Tryz.prog 19 #[.agg #[.slice none 0 0, .slice none 0 0], .slice lp n lc, uw] X fun e w' => ∃ u v, e = .returned (.agg #[u, v]) ∧ RNodRow w' X.heap.size u ns ∧ Ints w' X.heap.size v od ∧ Below X.heap.size X w')) :
    Calls Tryz.prog 8 #[.slice lp n lc] w fun e w' => ∃ u v, e = .returned (.agg #[u, v]) ∧ RNodRow w' w.heap.size u ns ∧ Ints w' w.heap.size v od ∧ Below w.heap.size w w' := by
  have t1 : ((n : Int) == 0) = false := by rw [beq_eq_false_iff_ne]; omega
  have t2 : decide (1024 < (n : Int)) = false := decide_eq_false (by omega)
  obtain ⟨i0, hi0, hz0, hz1, hz2⟩ := info_parts int_info15
  go_enter Tryz.func8, Tryz.ntmps8
  go_upto_region 1 with (fail)
  obtain ⟨W1, hW1⟩ : ∃ W, W = w.alloc (.cells #[.slice none 0 0, .slice none 0 0] 33) := ⟨_, rfl⟩
  obtain ⟨k_r, B1⟩ := st1 hW1
  rw [← hW1]
  clear hW1
  obtain ⟨c_r_0, c_r_1⟩ := bwc2 (k_r)
  obtain ⟨f_r_0, f_r_1⟩ := bwf2 (k_r)
  obtain ⟨p1, hp1⟩ : ∃ p : BW W1, p.w = W1 := ⟨BW.start W1, rfl⟩
  rw [← hp1]
  clear hp1
  go_wp2_with (first
    | (go_at_call 18; (with_reducible refine (KR.out _ (bw_below B1 _)).mono ?_); rintro e w' ⟨rfl, hb2⟩; obtain ⟨q, rfl⟩ := bw_take hb2))
  go_wp2
  go_loopw [3, 4] (fun u i wr => ∃ k : Nat, k ≤ n ∧ i = .int .i64 k ∧ Ints wr w.heap.size u (List.range k) ∧ Bk wr w.heap.size 33 #[.slice none 0 0, .slice none 0 0] ∧ Below w.heap.size w wr) (fun _ i _ => n - (intOf i).toNat)
  case atStart => exact ⟨0, by omega, rfl, World.ownsRow_nil _ _ _ _, k_r.below q.h, bw_below B1 q⟩
  case round =>
    clear k_r
    obtain ⟨k, hk, rfl, hu, k_r, BO⟩ := hrel
    have B1 := BO
    by_cases hlt : k < n
    · have hlu : (List.range k).length = k := List.length_range
      have HT := Lib.hid (List.range_succ (n := k))
      generalize List.range k = L at *
      obtain ⟨p1, hp1⟩ : ∃ p : BW wr, p.w = wr := ⟨BW.start wr, rfl⟩
      rw [← hp1]
      clear hp1
      go_wp2_with (at_builtin; refine wpList_append_at rfl _ _ 26 rfl w.heap.size 3 i0 (.int .i64 0) 1 8 Tryz.underlying26 hi0 hz0 hz1 hz2 rfl (by decide) _ _ _ rfl (World.ownsRow.alloc (hu.below (BW.h _)) _) ⟨_, 0, none⟩ 1 1 [.int .i64 (k : Int)] rfl rfl ?g1 ?g2 ?g3 ?g4 ?g5 ?_)
      case g1 => exact cell_one_new _ _ _
      case g2 => first | (intro u hu; simp only [List.mem_cons, List.not_mem_nil, or_false] at hu; rw [hu]; rfl) | rfl | (simp [Value.oneCell'])
      case g3 => unfold maxLen; omega
      case g4 => omega
      case g5 => have := (bw_below B1 p1).size; simp; omega
      intro v' w1 hown hgrow hat
      have hb1 : Below w.heap.size w w1 := ((bw_below B1 p1).alloc (bw_below B1 p1).size _).grown hgrow (by have := (bw_below B1 p1).size; simp; omega) (fun j ej => by have := (World.ownsRow.lt hu _ ej).1; omega)
      have r1 : Ints w1 w.heap.size v' (L ++ [k]) := by unfold Ints; rw [List.length_append, hlu, List.map_append]; exact hown
      have kr1 := grown_bk (World.ownsRow.alloc (hu.below (BW.h p1)) _) ((k_r.below (BW.h p1)).alloc _) (by decide) hgrow
      go_wp2
      go_roundw
      case rel => exact ⟨k + 1, by omega, by go_num, (by rw [HT.out]; exact r1), kr1, hb1⟩
      case measure => simp [intOf]; omega
    · obtain rfl : k = n := by omega
      obtain ⟨c_r_0, c_r_1⟩ := bwc2 (k_r)
      obtain ⟨f_r_0, f_r_1⟩ := bwf2 (k_r)
      obtain ⟨p1, hp1⟩ : ∃ p : BW wr, p.w = wr := ⟨BW.start wr, rfl⟩
      rw [← hp1]
      clear hp1
      go_wp2_with (go_at_call 19; (with_reducible refine (KG.out _ _ (bw_below B1 _) (hu.below (BW.h _))).mono ?_); rintro e w' ⟨u2, v2, rfl, hu2, hv2, hb2⟩; obtain ⟨ax, cx, rfl⟩ := owns_val hu2; obtain ⟨ox, dx, rfl⟩ := owns_val hv2; obtain ⟨q, rfl⟩ := bw_take hb2)
      have hsz := (bw_below B1 p1).size
      have kr2 := bkp2 (k_r.below q.h) (.slice ax ns.length cx) (.slice ox od.length dx)
      obtain ⟨rc0, rc1⟩ := rwc2 kr2
      have hu3 := owns_setbk (owns_setbk (owns_mono hu2 hsz) (a := ⟨w.heap.size, 0, none⟩) (owns_bk hu2 (k_r.below q.h) (by decide)) (.slice ax ns.length cx)) (a := ⟨w.heap.size, 1, none⟩) (owns_bk hu2 (k_r.below q.h) (by decide)) (.slice ox od.length dx)
      have hv3 := owns_setbk (owns_setbk (owns_mono hv2 hsz) (a := ⟨w.heap.size, 0, none⟩) (owns_bk hv2 (k_r.below q.h) (by decide)) (.slice ax ns.length cx)) (a := ⟨w.heap.size, 1, none⟩) (owns_bk hv2 (k_r.below q.h) (by decide)) (.slice ox od.length dx)
      exact bodyPost_ret (v := .agg #[.slice ax ns.length cx, .slice ox od.length dx]) (by simp [results, Tryz.results8, go_sem, rc0, rc1]) rfl ⟨_, _, rfl, hu3, hv3, blp2 (bw_below B1 q) (by omega)⟩

end
end Go.Proofs.YtomlcglnkdfemaaGreat
