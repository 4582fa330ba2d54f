/- The walk of the statement VecTells. -/
import Derived.Test.YtegflpokeepndaaAwake06
import Derived.Test.YtegflpokeepndaaRefb06
import Derived.Deep.DeepCutAuto
namespace Go.Proofs.Ytegflpokeepndaa
open Go.RowKit Go.Proofs.Sky
set_option linter.unusedVariables false

/-- Two cells of a block that lay in W, in every later world. -/
theorem bw_bk2 {W : World} {g : Nat} {t : TypeId} {a b : Value} (h : Bk W g t #[a, b]) :
    (∀ p : BW W, p.w.cell? ⟨g, 0, none⟩ = some a) ∧ (∀ p : BW W, p.w.cell? ⟨g, 1, none⟩ = some b) :=
  ⟨bw_cell (h.cell rfl), bw_cell (h.cell rfl)⟩

set_option maxRecDepth 100000 in
set_option maxHeartbeats 8000000 in
theorem law_VecTells (x y z a b c d e f n m : Int) (w : World) (hx : I64 x) (hy : I64 y) (hz : I64 z) (ha : I64 a) (hb : I64 b) (hc : I64 c) (hd : I64 d) (he : I64 e) (hf : I64 f) (hn : I64 n) (hm : I64 m) :
    Calls Try.prog 3 #[.agg #[.int .i64 x, .int .i64 y, .int .i64 z], .agg #[.int .i64 a, .int .i64 b, .int .i64 c], .agg #[.int .i64 d, .int .i64 e, .int .i64 f], .agg #[.int .i64 n, .int .i64 m]] w fun r w' => r = .returned (.bool true) ∧ Below w.heap.size w w' := by
  have HA := Lib.hid (fun w => awake06 w)
  have K1 := Lib.hid (fun w => vec_Unit x y z w hx hy hz)
  have J1 := Lib.hid (fun w => ref6_Unit x y z w )
  generalize (vunit x y z).1 = r10 at *
  generalize (vunit x y z).2.1 = r11 at *
  generalize (vunit x y z).2.2 = r12 at *
  generalize vuOk x y z = r13 at *
  have K2 := Lib.hid (fun w => vec_Near x y z w )
  have J2 := Lib.hid (fun w => ref6_Near x y z w )
  generalize vnear x y z = r20 at *
  have K3 := Lib.hid (fun w => vec_Add x y z a b c w hx hy hz ha hb hc)
  have J3 := Lib.hid (fun w => ref6_Add x y z a b c w hx hy hz ha hb hc)
  generalize sat (x + a) = r30 at *
  generalize sat (y + b) = r31 at *
  generalize sat (z + c) = r32 at *
  have K4 := Lib.hid (fun w => vec_Sub x y z a b c w hx hy hz ha hb hc)
  have J4 := Lib.hid (fun w => ref6_Sub x y z a b c w hx hy hz ha hb hc)
  generalize vsub x a = r40 at *
  generalize vsub y b = r41 at *
  generalize vsub z c = r42 at *
  have K5 := Lib.hid (fun w => vec_Dot x y z a b c w )
  have J5 := Lib.hid (fun w => ref6_Dot x y z a b c w )
  generalize vdot x y z a b c = r50 at *
  have K6 := Lib.hid (fun w => vec_Cross x y z a b c w )
  have J6 := Lib.hid (fun w => ref6_Cross x y z a b c w )
  generalize (vcr x y z a b c).1 = r60 at *
  generalize (vcr x y z a b c).2.1 = r61 at *
  generalize (vcr x y z a b c).2.2 = r62 at *
  have K7 := Lib.hid (fun w => vec_Volume x y z a b c d e f w )
  have J7 := Lib.hid (fun w => ref6_Volume x y z a b c d e f w )
  generalize vvol x y z a b c d e f = r70 at *
  have K8 := Lib.hid (fun w => vec_Len x y z w )
  have J8 := Lib.hid (fun w => ref6_Len x y z w )
  generalize vlen x y z = r80 at *
  have K9 := Lib.hid (fun w => vec_Scale x y z n m w hx hy hz hn hm)
  have J9 := Lib.hid (fun w => ref6_Scale x y z n m w hx hy hz hn hm)
  generalize fat x n m = r90 at *
  generalize fat y n m = r91 at *
  generalize fat z n m = r92 at *
  have K10 := Lib.hid (fun w => vec_Along x y z a b c 0 n m w hx hy hz ha hb hc hn hm)
  have J10 := Lib.hid (fun w => ref6_Along x y z a b c 0 n m w hx hy hz ha hb hc hn hm)
  generalize sat (x + fat a n m) = r100 at *
  generalize sat (y + fat b n m) = r101 at *
  generalize sat (z + fat c n m) = r102 at *
  clear hx hy hz ha hb hc hd he hf hn hm
  go_enter Try.func3, Try.ntmps3
  go_upto_region 3 with (first
    | (go_at_call 6; (with_reducible refine (K1.out _).mono ?_); rintro e w1 ⟨rfl, hb1⟩; obtain ⟨hc, hf, y0, y1, y2, y3, y4, y5⟩ := below4 (w := w) w.heap.size (by go_grown) hb1 (by first | (simp; done) | (simp; omega) | omega))
    | (go_at_call 7; (with_reducible refine (J1.out _).mono ?_); rintro e w2 ⟨rfl, hb2⟩))
  clear hc hf y0 y1 y2 y3 y4 y5
  obtain ⟨W1, hW1⟩ : ∃ W, W = (((w.alloc (.cells #[.int .i64 x, .int .i64 y, .int .i64 z] 23)).alloc (.cells #[.int .i64 a, .int .i64 b, .int .i64 c] 23)).alloc (.cells #[.int .i64 d, .int .i64 e, .int .i64 f] 23)).alloc (.cells #[.int .i64 n, .int .i64 m] 25) := ⟨_, rfl⟩
  have B0 : Below w.heap.size w W1 := by rw [hW1]; go_grown
  have k0 : Bk W1 w.heap.size 23 #[.int .i64 x, .int .i64 y, .int .i64 z] := by rw [hW1]; exact (((Bk.new _ _ _).alloc _).alloc _).alloc _
  have k1 : Bk W1 (w.heap.size + 1) 23 #[.int .i64 a, .int .i64 b, .int .i64 c] := by rw [hW1]; exact ((Bk.new_at _ _ _ _ (by simp)).alloc _).alloc _
  have k2 : Bk W1 (w.heap.size + 1 + 1) 23 #[.int .i64 d, .int .i64 e, .int .i64 f] := by rw [hW1]; exact (Bk.new_at _ _ _ _ (by simp)).alloc _
  have k3 : Bk W1 (w.heap.size + 1 + 1 + 1) 25 #[.int .i64 n, .int .i64 m] := by rw [hW1]; exact Bk.new_at _ _ _ _ (by simp)
  rw [← hW1] at hb1
  obtain ⟨W2, hW2⟩ : ∃ W, W = w1.alloc (.cells #[.int .i64 r10, .int .i64 r11, .int .i64 r12] 23) := ⟨_, rfl⟩
  rw [← hW2] at hb2
  obtain ⟨W3, hW3⟩ : ∃ W, W = w2.alloc (.cells #[.int .i64 r10, .int .i64 r11, .int .i64 r12] 23) := ⟨_, rfl⟩
  have hbW2 : Below W1.heap.size W1 W2 := by rw [hW2]; exact hb1.alloc hb1.size _
  have k4 : Bk W2 w1.heap.size 23 #[.int .i64 r10, .int .i64 r11, .int .i64 r12] := by rw [hW2]; exact Bk.new _ _ _
  have hbW3 : Below W2.heap.size W2 W3 := by rw [hW3]; exact hb2.alloc hb2.size _
  have k5 : Bk W3 w2.heap.size 23 #[.int .i64 r10, .int .i64 r11, .int .i64 r12] := by rw [hW3]; exact Bk.new _ _ _
  have hbW13 : Below W1.heap.size W1 W3 := hbW2.trans (hbW3.mono hbW2.size)
  have B3 : Below w.heap.size w W3 := B0.trans (hbW13.mono B0.size)
  obtain ⟨c00, c01, c02⟩ := bw_bk3 (k0.below hbW13)
  obtain ⟨c10, c11, c12⟩ := bw_bk3 (k1.below hbW13)
  obtain ⟨c20, c21, c22⟩ := bw_bk3 (k2.below hbW13)
  obtain ⟨c30, c31⟩ := bw_bk2 (k3.below hbW13)
  obtain ⟨c40, c41, c42⟩ := bw_bk3 (k4.below hbW3)
  obtain ⟨c50, c51, c52⟩ := bw_bk3 k5
  rw [← hW3]
  clear hW1 hW2 hW3 B0 k0 k1 k2 k3 k4 k5 hb1 hb2 hbW2 hbW3 hbW13
  generalize w.heap.size + 1 + 1 + 1 = g3 at *
  generalize w.heap.size + 1 + 1 = g2 at *
  generalize w.heap.size + 1 = g1 at *
  generalize w1.heap.size = g4 at *
  generalize w2.heap.size = g5 at *
  have HB : Hid (∀ q : BW W3, Below w.heap.size w q.w) := Lib.hid (fun q => bw_below B3 q)
  clear B3
  generalize w.heap.size = g0 at c00 c01 c02 ⊢
  obtain ⟨p0, hp0⟩ : ∃ p0 : BW W3, p0.w = W3 := ⟨BW.start W3, rfl⟩
  rw [← hp0]
  clear hp0 K1 J1
  refine wp_region_bw (by kernel_rfl) (by kernel_rfl) ?_
  repeat (go_big_quiet_step (first
    | (go_at_call 8; (with_reducible exact bw_call K2.out _))
    | (go_at_call 9; (with_reducible exact bw_call J2.out _))
    | (go_at_call 10; (with_reducible exact bw_call K3.out _))
    | (go_at_call 11; (with_reducible exact bw_call J3.out _))
    | (go_at_call 12; (with_reducible exact bw_call K4.out _))
    | (go_at_call 13; (with_reducible exact bw_call J4.out _))
    | (go_at_call 14; (with_reducible exact bw_call K5.out _))
    | (go_at_call 15; (with_reducible exact bw_call J5.out _))
    | (go_at_call 16; (with_reducible exact bw_call K6.out _))
    | (go_at_call 17; (with_reducible exact bw_call J6.out _))))
  refine wpQuiet_nil ?_
  intro _ hw'
  obtain ⟨q, rfl⟩ := hw'
  go_wp2
  refine wp_region_bw (by kernel_rfl) (by kernel_rfl) ?_
  repeat (go_big_quiet_step (first
    | (go_at_call 18; (with_reducible exact bw_call K7.out _))
    | (go_at_call 19; (with_reducible exact bw_call J7.out _))
    | (go_at_call 20; (with_reducible exact bw_call K8.out _))
    | (go_at_call 21; (with_reducible exact bw_call J8.out _))
    | (go_at_call 22; (with_reducible exact bw_call K9.out _))
    | (go_at_call 23; (with_reducible exact bw_call J9.out _))
    | (go_at_call 24; (with_reducible exact bw_call K10.out _))
    | (go_at_call 25; (with_reducible exact bw_call J10.out _))
    | (go_at_call 26; (with_reducible exact bw_call HA.out _))))
  refine wpQuiet_nil ?_
  intro _ hw'
  obtain ⟨q, rfl⟩ := hw'
  go_wp2
  go_ret
  exact ⟨rfl, HB.out _⟩

end Go.Proofs.Ytegflpokeepndaa
