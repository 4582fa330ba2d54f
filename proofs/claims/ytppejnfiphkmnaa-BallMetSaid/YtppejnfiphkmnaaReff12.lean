/- Contracts of the document's own answers, layer 12: Value. -/
import Derived.Test.YtppejnfiphkmnaaRefe12
import Derived.Test.YtppejnfiphkmnaaReff02
import Derived.Deep.DeepCutAuto
namespace Go.Proofs.Ytppejnfiphkmnaa
open Go.RowKit Go.Proofs.Sky
set_option linter.unusedVariables false

set_option maxRecDepth 100000 in
set_option maxHeartbeats 8000000 in
theorem ref12_Value (c1 c2 c3 r o1 o2 o3 d1 d2 d3 fr : Int) (n e : Nat) (w : World) (hc : plc (c1, c2, c3) = true) (ho : plc (o1, o2, o3) = true) (hd : nrT (d1, d2, d3) = true) (hr : 4 ≤ r ∧ r ≤ 262144) (hn : n < 9223372036854775808) (he : e < 9223372036854775808) :
    Calls Try.prog 18 #[.agg #[.int .i64 c1, .int .i64 c2, .int .i64 c3], .int .i64 r, .agg #[.int .i64 o1, .int .i64 o2, .int .i64 o3, .int .i64 d1, .int .i64 d2, .int .i64 d3, .int .i64 fr], .int .i64 (n : Int), .int .i64 (e : Int)] w fun en w' => en = .returned (.agg #[.int .i64 (hii (dtT (d1, d2, d3) (d1, d2, d3) * (n : Int) * (n : Int) + 2 * dtT (sbT (o1, o2, o3) (c1, c2, c3)) (d1, d2, d3) * (n : Int) * (e : Int) + ballQ (c1, c2, c3) r (o1, o2, o3) * (e : Int) * (e : Int))), .int .u64 (lon (dtT (d1, d2, d3) (d1, d2, d3) * (n : Int) * (n : Int) + 2 * dtT (sbT (o1, o2, o3) (c1, c2, c3)) (d1, d2, d3) * (n : Int) * (e : Int) + ballQ (c1, c2, c3) r (o1, o2, o3) * (e : Int) * (e : Int)) : Int)]) ∧ Below w.heap.size w w' := by
  have ir := rr_in hr
  have es := sbT_vs ho hc
  dsimp only at es
  have nn := sbT_near ho hc
  have ic := plc_I3 hc
  have io := plc_I3 ho
  have KS := Lib.hid (fun w => ref6_Sub o1 o2 o3 c1 c2 c3 w io.1 io.2.1 io.2.2 ic.1 ic.2.1 ic.2.2)
  have b1 := dtT_near hd hd
  have b2 := dtT_near nn hd
  have b3 := dtT_near nn nn
  have v1 := vdot_dtT hd hd
  have v2 := vdot_dtT nn hd
  have v3 := vdot_dtT nn nn
  rw [← es] at v2 v3
  dsimp only at v1 v2 v3
  unfold ballQ
  generalize vsub o1 c1 = s1 at *
  generalize vsub o2 c2 = s2 at *
  generalize vsub o3 c3 = s3 at *
  rw [← es] at b2 b3 ⊢
  have KA := Lib.hid (fun w => ref6_Dot d1 d2 d3 d1 d2 d3 w)
  have KB := Lib.hid (fun w => ref6_Dot s1 s2 s3 d1 d2 d3 w)
  have KC := Lib.hid (fun w => ref6_Dot s1 s2 s3 s1 s2 s3 w)
  rw [v1] at KA
  rw [v2] at KB
  rw [v3] at KC
  generalize dtT (d1, d2, d3) (d1, d2, d3) = a at *
  generalize dtT (s1, s2, s3) (d1, d2, d3) = b at *
  generalize dtT (s1, s2, s3) (s1, s2, s3) = k at *
  obtain ⟨rr, hrr⟩ : ∃ t, r * r = t := ⟨_, rfl⟩
  have wrr : wrap64 (r * r) = rr := by rw [hrr]; exact IntWalk.wrap64_in _ (by omega)
  have vrr : IntKind.i64.wrap (r * r) = rr := by rw [hrr, i64w]; omega
  rw [hrr] at ir ⊢
  obtain ⟨qq, hq⟩ : ∃ t, k - rr = t := ⟨_, rfl⟩
  have wq : wrap64 (k - rr) = qq := by rw [hq]; exact IntWalk.wrap64_in _ (by omega)
  have vq : IntKind.i64.wrap (k - rr) = qq := by rw [hq, i64w]; omega
  rw [hq]
  obtain ⟨bb, hbb⟩ : ∃ t, 2 * b = t := ⟨_, rfl⟩
  have wb : wrap64 (2 * b) = bb := by rw [hbb]; exact IntWalk.wrap64_in _ (by omega)
  have vb : IntKind.i64.wrap (2 * b) = bb := by rw [hbb, i64w]; omega
  rw [hbb]
  have M1 := Lib.hid (fun w => ref2_Mul a (n : Int) w (by unfold I64; omega) (by unfold I64; omega))
  have M2 := Lib.hid (fun w => ref2_Mul bb (n : Int) w (by unfold I64; omega) (by unfold I64; omega))
  have M3 := Lib.hid (fun w => ref2_Mul qq (e : Int) w (by unfold I64; omega) (by unfold I64; omega))
  have T1 := Lib.hid (fun w => ref12_times (a * (n : Int)) n w hn)
  have T2 := Lib.hid (fun w => ref12_times (bb * (n : Int)) e w he)
  have T3 := Lib.hid (fun w => ref12_times (qq * (e : Int)) e w he)
  generalize a * (n : Int) = y1 at *
  generalize bb * (n : Int) = y2 at *
  generalize qq * (e : Int) = y3 at *
  generalize y1 * (n : Int) = z1 at *
  generalize y2 * (e : Int) = z2 at *
  generalize y3 * (e : Int) = z3 at *
  have D1 := Lib.hid (fun w => ref2_Add z1 z2 w)
  have D2 := Lib.hid (fun w => ref2_Add (z1 + z2) z3 w)
  obtain ⟨z4, hz4⟩ : ∃ t, z1 + z2 = t := ⟨_, rfl⟩
  obtain ⟨z5, hz5⟩ : ∃ t, z4 + z3 = t := ⟨_, rfl⟩
  rw [hz4] at D1 D2 ⊢
  rw [hz5] at D2 ⊢
  generalize (n : Int) = n at *
  generalize (e : Int) = e at *
  clear v1 v2 v3 es nn b1 b2 b3 ir hrr hq hbb hz4 hz5 hc ho hd hr hn he ic io
  go_enter Try.func18, Try.ntmps18
  go_upto_region 1 with (fail)
  obtain ⟨W1, hW1⟩ : ∃ W, W = ((w.alloc (.cells #[.int .i64 c1, .int .i64 c2, .int .i64 c3] 23)).alloc (.cells #[.int .i64 o1, .int .i64 o2, .int .i64 o3, .int .i64 d1, .int .i64 d2, .int .i64 d3, .int .i64 fr] 25)).alloc (.cells #[.int .i64 0, .int .u64 0] 39) := ⟨_, rfl⟩
  obtain ⟨k_c, k_y, k_r, B1⟩ := st3 hW1
  rw [← hW1]
  clear hW1
  have l_y : w.heap.size < w.heap.size + 1 := by omega
  have l_r : w.heap.size + 1 < w.heap.size + 1 + 1 := by omega
  generalize w.heap.size + 1 + 1 = g_r at *
  generalize w.heap.size + 1 = g_y at *
  obtain ⟨c_c_0, c_c_1, c_c_2⟩ := bwc3 (k_c)
  obtain ⟨c_y_0, c_y_1, c_y_2, c_y_3, c_y_4, c_y_5, c_y_6⟩ := bwc7 (k_y)
  obtain ⟨c_r_0, c_r_1⟩ := bwc2 (k_r)
  obtain ⟨f_r_0, f_r_1⟩ := bwf2 (k_r)
  obtain ⟨p1, hp1⟩ : ∃ p : BW W1, p.w = W1 := ⟨BW.start W1, rfl⟩
  rw [← hp1]
  clear hp1
  go_upto_region 2 with (first
    | (go_at_call 20; (first | (with_reducible refine (bw_call KS.out _).mono ?_)); rintro e w' ⟨rfl, q, rfl⟩))
  obtain ⟨W2, hW2⟩ : ∃ W, W = q.w.alloc (.cells #[.int .i64 s1, .int .i64 s2, .int .i64 s3] 23) := ⟨_, rfl⟩
  have B2 : Below w.heap.size w W2 := by rw [hW2]; exact (bw_below B1 q).alloc (bw_below B1 q).size _
  have l_o : g_r < q.w.heap.size := (k_r.below q.h).lt
  have o_o : w.heap.size ≤ q.w.heap.size := (bw_below B1 q).size
  have k_c := bka hW2 (k_c.below q.h)
  have k_y := bka hW2 (k_y.below q.h)
  have k_r := bka hW2 (k_r.below q.h)
  have k_o := bkn hW2
  rw [← hW2]
  clear hW2
  clear B1
  clear c_c_0 c_c_1 c_c_2 c_y_0 c_y_1 c_y_2 c_y_3 c_y_4 c_y_5 c_y_6 c_r_0 c_r_1 f_r_0 f_r_1
  generalize q.w.heap.size = g_o at *
  obtain ⟨c_c_0, c_c_1, c_c_2⟩ := bwc3 (k_c)
  obtain ⟨c_y_0, c_y_1, c_y_2, c_y_3, c_y_4, c_y_5, c_y_6⟩ := bwc7 (k_y)
  obtain ⟨c_r_0, c_r_1⟩ := bwc2 (k_r)
  obtain ⟨f_r_0, f_r_1⟩ := bwf2 (k_r)
  obtain ⟨c_o_0, c_o_1, c_o_2⟩ := bwc3 (k_o)
  obtain ⟨p2, hp2⟩ : ∃ p : BW W2, p.w = W2 := ⟨BW.start W2, rfl⟩
  rw [← hp2]
  clear hp2
  refine wp_region_bw (by kernel_rfl) (by kernel_rfl) ?_
  repeat (go_big_quiet_step (first
    | (go_at_call 22; (first | (with_reducible exact bw_call KA.out _) | (with_reducible exact bw_call KB.out _) | (with_reducible exact bw_call KC.out _)))))
  refine wpQuiet_nil ?_
  intro _ hw'
  obtain ⟨q, rfl⟩ := hw'
  go_wp2_with (first
    | (go_at_call 29; (first | (with_reducible refine (bw_call M1.out _).mono ?_) | (with_reducible refine (bw_call M2.out _).mono ?_) | (with_reducible refine (bw_call M3.out _).mono ?_)); rintro e w' ⟨rfl, q, rfl⟩)
    | (go_at_call 34; (first | (with_reducible refine (bw_call T1.out _).mono ?_) | (with_reducible refine (bw_call T2.out _).mono ?_) | (with_reducible refine (bw_call T3.out _).mono ?_)); rintro e w' ⟨rfl, q, rfl⟩)
    | (go_at_call 33; (first | (with_reducible refine (bw_call D1.out _).mono ?_) | (with_reducible refine (bw_call D2.out _).mono ?_)); rintro e w' ⟨rfl, q, rfl⟩))
  have kr := bkp2 (k_r.below q.h) (.int .i64 (hii (z5))) (.int .u64 (lon (z5) : Int))
  obtain ⟨rc0, rc1⟩ := rwc2 kr
  exact bodyPost_ret (v := .agg #[.int .i64 (hii (z5)), .int .u64 (lon (z5) : Int)]) (by simp [results, Try.results18, go_sem, rc0, rc1]) rfl ⟨rfl, blp2 (bw_below B2 q) (by omega)⟩

end Go.Proofs.Ytppejnfiphkmnaa
