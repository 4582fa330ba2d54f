/- The walk of the statement HueTells. -/
import Derived.Test.YtppfemaolaigoaaAwake09
import Derived.Test.YtppfemaolaigoaaRef09
import Derived.Test.YtppfemaolaigoaaOpenv
import Derived.Deep.DeepCutAuto
namespace Go.Proofs.Ytppfemaolaigoaa
open Go.RowKit Go.Proofs.Sky
set_option linter.unusedVariables false

set_option maxRecDepth 100000 in
set_option maxHeartbeats 8000000 in
theorem law_HueTells_no (a b c x y z n d : Int) (sa : Option Addr) (len cap : Nat) (w : World) (hl : 12 < len) (hm : len ≤ maxLen) :
    Calls Try.prog 3 #[.agg #[.int .i64 a, .int .i64 b, .int .i64 c], .agg #[.int .i64 x, .int .i64 y, .int .i64 z], .agg #[.int .i64 n, .int .i64 d], .slice sa len cap] w fun r w' => r = .returned (.bool true) ∧ Below w.heap.size w w' := by
  have HA := Lib.hid (fun w => awake09 w)
  have t : decide ((12 : Int) < (len : Int)) = true := decide_eq_true (by omega)
  clear hl
  go_enter Try.func3, Try.ntmps3
  go_upto_region 1 with (fail)
  obtain ⟨W1, hW1⟩ : ∃ W, W = ((w.alloc (.cells #[.int .i64 a, .int .i64 b, .int .i64 c] 23)).alloc (.cells #[.int .i64 x, .int .i64 y, .int .i64 z] 23)).alloc (.cells #[.int .i64 n, .int .i64 d] 25) := ⟨_, rfl⟩
  obtain ⟨k_w, k_x, k_f, B1⟩ := st3 hW1
  rw [← hW1]
  clear hW1
  have l_x : w.heap.size < w.heap.size + 1 := by omega
  have l_f : w.heap.size + 1 < w.heap.size + 1 + 1 := by omega
  generalize w.heap.size + 1 + 1 = g_f at *
  generalize w.heap.size + 1 = g_x at *
  obtain ⟨c_w_0, c_w_1, c_w_2⟩ := bwc3 (k_w)
  obtain ⟨c_x_0, c_x_1, c_x_2⟩ := bwc3 (k_x)
  obtain ⟨c_f_0, c_f_1⟩ := bwc2 (k_f)
  obtain ⟨p1, hp1⟩ : ∃ p : BW W1, p.w = W1 := ⟨BW.start W1, rfl⟩
  rw [← hp1]
  clear hp1
  go_wp2_with (first
    | (go_at_call 5; (first | (with_reducible refine (bw_call HA.out _).mono ?_)); rintro e w' ⟨rfl, q, rfl⟩))
  go_ret
  exact ⟨rfl, bw_below B1 _⟩

set_option maxRecDepth 100000 in
set_option maxHeartbeats 8000000 in
theorem law_HueTells_yes (a b c x y z n d f1 f2 f3 : Int) (sa : Option Addr) (len cap : Nat) (w : World) (ha : I64 a) (hb : I64 b) (hc : I64 c) (hx : I64 x) (hy : I64 y) (hz : I64 z) (hn : I64 n) (hd : I64 d) (hl : len ≤ 12) (hF1 : ∀ W, Below w.heap.size w W → Calls Try.prog 22 #[.slice sa len cap] W fun e w' => e = .returned (.agg #[.int .i64 f1, .int .i64 f2, .int .i64 f3]) ∧ Below W.heap.size W w') (hF2 : ∀ W, Below w.heap.size w W → Calls Try.prog 23 #[.slice sa len cap] W fun e w' => e = .returned (.agg #[.int .i64 f1, .int .i64 f2, .int .i64 f3]) ∧ Below W.heap.size W w') :
    Calls Try.prog 3 #[.agg #[.int .i64 a, .int .i64 b, .int .i64 c], .agg #[.int .i64 x, .int .i64 y, .int .i64 z], .agg #[.int .i64 n, .int .i64 d], .slice sa len cap] w fun r w' => r = .returned (.bool true) ∧ Below w.heap.size w w' := by
  have HA := Lib.hid (fun w => awake09 w)
  have t : decide ((12 : Int) < (len : Int)) = false := decide_eq_false (by omega)
  have c1 := Lib.hid (fun w => hue_Color x y z w)
  have c2 := Lib.hid (fun w => ref9_Color x y z w)
  generalize rcol (x, y, z) = v1 at *
  have e1 := Lib.hid (fun w => hue_Weight a b c w)
  have e2 := Lib.hid (fun w => ref9_Weight a b c w)
  generalize rwei (a, b, c) = v2 at *
  have m1 := Lib.hid (fun w => hue_Mix a b c x y z w ha hb hc hx hy hz)
  have m2 := Lib.hid (fun w => ref9_Mix a b c x y z w)
  generalize hmix (a, b, c) (x, y, z) = v3 at *
  have a1 := Lib.hid (fun w => hue_Add a b c x y z w ha hb hc hx hy hz)
  have a2 := Lib.hid (fun w => ref9_Add a b c x y z w ha hb hc hx hy hz)
  generalize hadd (a, b, c) (x, y, z) = v4 at *
  have p1' := Lib.hid (fun w => hue_Part a b c n d w ha hb hc hn hd)
  have p2' := Lib.hid (fun w => ref9_Part a b c n d w hn hd)
  generalize hpart (a, b, c) n d = v5 at *
  have o1 := Lib.hid (fun w => hue_Most a b c w ha hb hc)
  have o2 := Lib.hid (fun w => ref9_Most a b c w)
  generalize hmost (a, b, c) = v6 at *
  have g1 := Lib.hid (fun w => hue_Grey a b c w ha hb hc)
  have g2 := Lib.hid (fun w => ref9_Grey a b c w)
  generalize hgrey (a, b, c) = v7 at *
  have b1 := Lib.hid (fun w => hue_Black a b c w)
  have b2 := Lib.hid (fun w => ref9_Black a b c w)
  generalize hblack (a, b, c) = v8 at *
  obtain ⟨x1, x2, x3⟩ := v3
  obtain ⟨y1, y2, y3⟩ := v4
  obtain ⟨z1, z2, z3⟩ := v5
  dsimp only at m1 m2 a1 a2 p1' p2'
  have F1 := Lib.hid hF1
  have F2 := Lib.hid hF2
  clear ha hb hc hx hy hz hn hd hl hF1 hF2
  go_enter Try.func3, Try.ntmps3
  go_upto_region 1 with (fail)
  obtain ⟨W1, hW1⟩ : ∃ W, W = ((w.alloc (.cells #[.int .i64 a, .int .i64 b, .int .i64 c] 23)).alloc (.cells #[.int .i64 x, .int .i64 y, .int .i64 z] 23)).alloc (.cells #[.int .i64 n, .int .i64 d] 25) := ⟨_, rfl⟩
  obtain ⟨k_w, k_x, k_f, B1⟩ := st3 hW1
  rw [← hW1]
  clear hW1
  have l_x : w.heap.size < w.heap.size + 1 := by omega
  have l_f : w.heap.size + 1 < w.heap.size + 1 + 1 := by omega
  generalize w.heap.size + 1 + 1 = g_f at *
  generalize w.heap.size + 1 = g_x at *
  obtain ⟨c_w_0, c_w_1, c_w_2⟩ := bwc3 (k_w)
  obtain ⟨c_x_0, c_x_1, c_x_2⟩ := bwc3 (k_x)
  obtain ⟨c_f_0, c_f_1⟩ := bwc2 (k_f)
  obtain ⟨p1, hp1⟩ : ∃ p : BW W1, p.w = W1 := ⟨BW.start W1, rfl⟩
  rw [← hp1]
  clear hp1
  have KF1 : Hid (∀ p : BW W1, Calls Try.prog 22 #[.slice sa len cap] p.w fun e w' => e = .returned (.agg #[.int .i64 f1, .int .i64 f2, .int .i64 f3]) ∧ Below p.w.heap.size p.w w') := Lib.hid (fun p => F1.out p.w (bw_below B1 p))
  have KF2 : Hid (∀ p : BW W1, Calls Try.prog 23 #[.slice sa len cap] p.w fun e w' => e = .returned (.agg #[.int .i64 f1, .int .i64 f2, .int .i64 f3]) ∧ Below p.w.heap.size p.w w') := Lib.hid (fun p => F2.out p.w (bw_below B1 p))
  go_upto_region 3 with (fail)
  simp only [List.append]
  refine wp_region_bw (by kernel_rfl) (by kernel_rfl) ?_
  repeat (go_big_quiet_step (first
    | (go_at_call 6; (with_reducible exact bw_call c1.out _))
    | (go_at_call 7; (with_reducible exact bw_call c2.out _))
    | (go_at_call 8; (with_reducible exact bw_call e1.out _))
    | (go_at_call 9; (with_reducible exact bw_call e2.out _))
    | (go_at_call 10; (with_reducible exact bw_call m1.out _))
    | (go_at_call 11; (with_reducible exact bw_call m2.out _))
    | (go_at_call 12; (with_reducible exact bw_call a1.out _))
    | (go_at_call 13; (with_reducible exact bw_call a2.out _))
    | (go_at_call 16; (with_reducible exact bw_call o1.out _))
    | (go_at_call 17; (with_reducible exact bw_call o2.out _))
    | (go_at_call 18; (with_reducible exact bw_call g1.out _))
    | (go_at_call 19; (with_reducible exact bw_call g2.out _))
    | (go_at_call 20; (with_reducible exact bw_call b1.out _))
    | (go_at_call 21; (with_reducible exact bw_call b2.out _))
    | (go_at_call 14; (with_reducible exact bw_call p1'.out _))
    | (go_at_call 15; (with_reducible exact bw_call p2'.out _))
    | (go_at_call 5; (with_reducible exact bw_call HA.out _))
    | (go_at_call 22; (with_reducible exact bw_callp KF1.out _))
    | (go_at_call 23; (with_reducible exact bw_callp KF2.out _))))
  refine wpQuiet_nil ?_
  intro _ hw'
  obtain ⟨q, rfl⟩ := hw'
  go_wp2
  go_ret
  exact ⟨rfl, bw_below B1 _⟩

theorem law_HueTells (a b c x y z n d : Int) (sa : Option Addr) (len cap : Nat) (V : Nat → T3) (w : World) (ha : I64 a) (hb : I64 b) (hc : I64 c) (hx : I64 x) (hy : I64 y) (hz : I64 z) (hn : I64 n) (hd : I64 d) (hm : len ≤ maxLen) (hS : VcSlice w sa len V) :
    Calls Try.prog 3 #[.agg #[.int .i64 a, .int .i64 b, .int .i64 c], .agg #[.int .i64 x, .int .i64 y, .int .i64 z], .agg #[.int .i64 n, .int .i64 d], .slice sa len cap] w fun r w' => r = .returned (.bool true) ∧ Below w.heap.size w w' := by
  by_cases hl : 12 < len
  · exact law_HueTells_no a b c x y z n d sa len cap w hl hm
  · rcases hS with rfl | ⟨b0, off, rfl, hrow, hV, hb0⟩
    · exact law_HueTells_yes a b c x y z n d 0 0 0 sa 0 cap w ha hb hc hx hy hz hn hd (by omega) (fun W _ => hue_Fold_none sa cap W) (fun W _ => ref9_Fold_none sa cap W)
    · exact law_HueTells_yes a b c x y z n d (hfold V len).1 (hfold V len).2.1 (hfold V len).2.2 _ len cap w ha hb hc hx hy hz hn hd (by omega) (fun W hB => hue_Fold b0 off cap len V W (hrow.below hB hb0) hV (Nat.lt_of_lt_of_le hb0 hB.size) (by omega)) (fun W hB => ref9_Fold b0 off cap len V W (hrow.below hB hb0) hV (Nat.lt_of_lt_of_le hb0 hB.size) (by omega))

end Go.Proofs.Ytppfemaolaigoaa
