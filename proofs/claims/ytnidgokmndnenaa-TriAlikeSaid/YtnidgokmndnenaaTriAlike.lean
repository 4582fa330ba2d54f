/- The walk of the statement TriAlike. -/
import Derived.Test.YtnidgokmndnenaaAwake11
import Derived.Test.YtnidgokmndnenaaRef11
import Derived.Test.YtnidgokmndnenaaFloatl
import Derived.Test.YtnidgokmndnenaaEdge
import Derived.Deep.WholeRow
import Derived.Deep.DeepCutAuto
namespace Go.Proofs.Ytnidgokmndnenaa
open Go.RowKit Go.Proofs.Sky
set_option linter.unusedVariables false

/-- A great block's first store, its cells by name. -/
theorem store_block {P : Program} {a : Act} {w : World} {next : Act → World → Prop} {Q : Exit → Act → World → Prop} {ty t : TypeId} {ps : String} {af : Array Edge} {gd : Option (Nat × Bool)} {p v : Operand} {c c' : Array Value}
    (hp : a.eval p = .pointer (some ⟨w.heap.size, 0, none⟩)) (hv : a.eval v = .agg c') (hi : (P.info? t).map (·.size) = some c'.size) (ho : c.size = c'.size) (h1 : c'.all (·.oneCell') = true) (hK : next a (w.alloc (.cells c' t))) :
    Oper.wp P { dst := none, op := .store t p v, type := ty, pos := ps, after := af, guard := gd } a (w.alloc (.cells c t)) next Q := by
  unfold Oper.wp
  have e : (execOp a.eval { dst := none, op := .store t p v, type := ty, pos := ps, after := af, guard := gd }).run P (w.alloc (.cells c t)) = .ok .skip (w.alloc (.cells c' t)) := by
    simp only [execOp, hp, hv, Sem.run_bind, run_storeAt_new w t c c' hi ho h1, Sem.run_pure, Result.andThen]
  rw [e]
  exact hK

set_option maxRecDepth 100000 in
set_option maxHeartbeats 8000000 in
theorem law_TriAlike_no1 (a1 a2 a3 b1 b2 b3 c1 c2 c3 o1 o2 o3 d1 d2 d3 fr m1 m2 m3 : Int) (w : World) (h1 : plc (a1, a2, a3) = false) :
    Calls Try.prog 4 #[.agg #[.int .i64 a1, .int .i64 a2, .int .i64 a3], .agg #[.int .i64 b1, .int .i64 b2, .int .i64 b3], .agg #[.int .i64 c1, .int .i64 c2, .int .i64 c3], .agg #[.int .i64 o1, .int .i64 o2, .int .i64 o3, .int .i64 d1, .int .i64 d2, .int .i64 d3, .int .i64 fr], .agg #[.int .i64 m1, .int .i64 m2, .int .i64 m3]] w fun en w' => en = .returned (.bool true) ∧ Below w.heap.size w w' := by
  have HA := Lib.hid (fun w => awake11 w)
  have KQ1 := Lib.hid (fun w => ref11_Place a1 a2 a3 w)
  rw [h1] at KQ1
  clear h1
  go_enter Try.func4, Try.ntmps4
  go_upto_region 1 with (fail)
  obtain ⟨W1, hW1⟩ : ∃ W, W = ((((w.alloc (.cells #[.int .i64 a1, .int .i64 a2, .int .i64 a3] 23)).alloc (.cells #[.int .i64 b1, .int .i64 b2, .int .i64 b3] 23)).alloc (.cells #[.int .i64 c1, .int .i64 c2, .int .i64 c3] 23)).alloc (.cells #[.int .i64 o1, .int .i64 o2, .int .i64 o3, .int .i64 d1, .int .i64 d2, .int .i64 d3, .int .i64 fr] 25)).alloc (.cells #[.int .i64 m1, .int .i64 m2, .int .i64 m3] 23) := ⟨_, rfl⟩
  obtain ⟨k_a, k_b, k_c, k_y, k_m, B1⟩ := st5 hW1
  rw [← hW1]
  clear hW1
  have l_b : w.heap.size < w.heap.size + 1 := by omega
  have l_c : w.heap.size + 1 < w.heap.size + 1 + 1 := by omega
  have l_y : w.heap.size + 1 + 1 < w.heap.size + 1 + 1 + 1 := by omega
  have l_m : w.heap.size + 1 + 1 + 1 < w.heap.size + 1 + 1 + 1 + 1 := by omega
  generalize w.heap.size + 1 + 1 + 1 + 1 = g_m at *
  generalize w.heap.size + 1 + 1 + 1 = g_y at *
  generalize w.heap.size + 1 + 1 = g_c at *
  generalize w.heap.size + 1 = g_b at *
  obtain ⟨c_a_0, c_a_1, c_a_2⟩ := bwc3 (k_a)
  obtain ⟨c_b_0, c_b_1, c_b_2⟩ := bwc3 (k_b)
  obtain ⟨c_c_0, c_c_1, c_c_2⟩ := bwc3 (k_c)
  obtain ⟨c_y_0, c_y_1, c_y_2, c_y_3, c_y_4, c_y_5, c_y_6⟩ := bwc7 (k_y)
  obtain ⟨c_m_0, c_m_1, c_m_2⟩ := bwc3 (k_m)
  obtain ⟨p1, hp1⟩ : ∃ p : BW W1, p.w = W1 := ⟨BW.start W1, rfl⟩
  rw [← hp1]
  clear hp1
  go_wp2_with (first
    | (go_at_call 11; (first | (with_reducible refine (bw_call KQ1.out _).mono ?_)); rintro e w' ⟨rfl, q, rfl⟩)
    | (go_at_call 18; (first | (with_reducible refine (bw_call HA.out _).mono ?_)); rintro e w' ⟨rfl, q, rfl⟩))
  go_ret
  exact ⟨rfl, bw_below B1 _⟩

set_option maxRecDepth 100000 in
set_option maxHeartbeats 8000000 in
theorem law_TriAlike_no2 (a1 a2 a3 b1 b2 b3 c1 c2 c3 o1 o2 o3 d1 d2 d3 fr m1 m2 m3 : Int) (w : World) (h1 : plc (a1, a2, a3) = true) (h2 : plc (b1, b2, b3) = false) :
    Calls Try.prog 4 #[.agg #[.int .i64 a1, .int .i64 a2, .int .i64 a3], .agg #[.int .i64 b1, .int .i64 b2, .int .i64 b3], .agg #[.int .i64 c1, .int .i64 c2, .int .i64 c3], .agg #[.int .i64 o1, .int .i64 o2, .int .i64 o3, .int .i64 d1, .int .i64 d2, .int .i64 d3, .int .i64 fr], .agg #[.int .i64 m1, .int .i64 m2, .int .i64 m3]] w fun en w' => en = .returned (.bool true) ∧ Below w.heap.size w w' := by
  have HA := Lib.hid (fun w => awake11 w)
  have KQ1 := Lib.hid (fun w => ref11_Place a1 a2 a3 w)
  rw [h1] at KQ1
  have KQ2 := Lib.hid (fun w => ref11_Place b1 b2 b3 w)
  rw [h2] at KQ2
  clear h1 h2
  go_enter Try.func4, Try.ntmps4
  go_upto_region 1 with (fail)
  obtain ⟨W1, hW1⟩ : ∃ W, W = ((((w.alloc (.cells #[.int .i64 a1, .int .i64 a2, .int .i64 a3] 23)).alloc (.cells #[.int .i64 b1, .int .i64 b2, .int .i64 b3] 23)).alloc (.cells #[.int .i64 c1, .int .i64 c2, .int .i64 c3] 23)).alloc (.cells #[.int .i64 o1, .int .i64 o2, .int .i64 o3, .int .i64 d1, .int .i64 d2, .int .i64 d3, .int .i64 fr] 25)).alloc (.cells #[.int .i64 m1, .int .i64 m2, .int .i64 m3] 23) := ⟨_, rfl⟩
  obtain ⟨k_a, k_b, k_c, k_y, k_m, B1⟩ := st5 hW1
  rw [← hW1]
  clear hW1
  have l_b : w.heap.size < w.heap.size + 1 := by omega
  have l_c : w.heap.size + 1 < w.heap.size + 1 + 1 := by omega
  have l_y : w.heap.size + 1 + 1 < w.heap.size + 1 + 1 + 1 := by omega
  have l_m : w.heap.size + 1 + 1 + 1 < w.heap.size + 1 + 1 + 1 + 1 := by omega
  generalize w.heap.size + 1 + 1 + 1 + 1 = g_m at *
  generalize w.heap.size + 1 + 1 + 1 = g_y at *
  generalize w.heap.size + 1 + 1 = g_c at *
  generalize w.heap.size + 1 = g_b at *
  obtain ⟨c_a_0, c_a_1, c_a_2⟩ := bwc3 (k_a)
  obtain ⟨c_b_0, c_b_1, c_b_2⟩ := bwc3 (k_b)
  obtain ⟨c_c_0, c_c_1, c_c_2⟩ := bwc3 (k_c)
  obtain ⟨c_y_0, c_y_1, c_y_2, c_y_3, c_y_4, c_y_5, c_y_6⟩ := bwc7 (k_y)
  obtain ⟨c_m_0, c_m_1, c_m_2⟩ := bwc3 (k_m)
  obtain ⟨p1, hp1⟩ : ∃ p : BW W1, p.w = W1 := ⟨BW.start W1, rfl⟩
  rw [← hp1]
  clear hp1
  go_wp2_with (first
    | (go_at_call 11; (first | (with_reducible refine (bw_call KQ1.out _).mono ?_) | (with_reducible refine (bw_call KQ2.out _).mono ?_)); rintro e w' ⟨rfl, q, rfl⟩)
    | (go_at_call 18; (first | (with_reducible refine (bw_call HA.out _).mono ?_)); rintro e w' ⟨rfl, q, rfl⟩))
  go_ret
  exact ⟨rfl, bw_below B1 _⟩

set_option maxRecDepth 100000 in
set_option maxHeartbeats 8000000 in
theorem law_TriAlike_no3 (a1 a2 a3 b1 b2 b3 c1 c2 c3 o1 o2 o3 d1 d2 d3 fr m1 m2 m3 : Int) (w : World) (h1 : plc (a1, a2, a3) = true) (h2 : plc (b1, b2, b3) = true) (h3 : plc (c1, c2, c3) = false) :
    Calls Try.prog 4 #[.agg #[.int .i64 a1, .int .i64 a2, .int .i64 a3], .agg #[.int .i64 b1, .int .i64 b2, .int .i64 b3], .agg #[.int .i64 c1, .int .i64 c2, .int .i64 c3], .agg #[.int .i64 o1, .int .i64 o2, .int .i64 o3, .int .i64 d1, .int .i64 d2, .int .i64 d3, .int .i64 fr], .agg #[.int .i64 m1, .int .i64 m2, .int .i64 m3]] w fun en w' => en = .returned (.bool true) ∧ Below w.heap.size w w' := by
  have HA := Lib.hid (fun w => awake11 w)
  have KQ1 := Lib.hid (fun w => ref11_Place a1 a2 a3 w)
  rw [h1] at KQ1
  have KQ2 := Lib.hid (fun w => ref11_Place b1 b2 b3 w)
  rw [h2] at KQ2
  have KQ3 := Lib.hid (fun w => ref11_Place c1 c2 c3 w)
  rw [h3] at KQ3
  clear h1 h2 h3
  go_enter Try.func4, Try.ntmps4
  go_upto_region 1 with (fail)
  obtain ⟨W1, hW1⟩ : ∃ W, W = ((((w.alloc (.cells #[.int .i64 a1, .int .i64 a2, .int .i64 a3] 23)).alloc (.cells #[.int .i64 b1, .int .i64 b2, .int .i64 b3] 23)).alloc (.cells #[.int .i64 c1, .int .i64 c2, .int .i64 c3] 23)).alloc (.cells #[.int .i64 o1, .int .i64 o2, .int .i64 o3, .int .i64 d1, .int .i64 d2, .int .i64 d3, .int .i64 fr] 25)).alloc (.cells #[.int .i64 m1, .int .i64 m2, .int .i64 m3] 23) := ⟨_, rfl⟩
  obtain ⟨k_a, k_b, k_c, k_y, k_m, B1⟩ := st5 hW1
  rw [← hW1]
  clear hW1
  have l_b : w.heap.size < w.heap.size + 1 := by omega
  have l_c : w.heap.size + 1 < w.heap.size + 1 + 1 := by omega
  have l_y : w.heap.size + 1 + 1 < w.heap.size + 1 + 1 + 1 := by omega
  have l_m : w.heap.size + 1 + 1 + 1 < w.heap.size + 1 + 1 + 1 + 1 := by omega
  generalize w.heap.size + 1 + 1 + 1 + 1 = g_m at *
  generalize w.heap.size + 1 + 1 + 1 = g_y at *
  generalize w.heap.size + 1 + 1 = g_c at *
  generalize w.heap.size + 1 = g_b at *
  obtain ⟨c_a_0, c_a_1, c_a_2⟩ := bwc3 (k_a)
  obtain ⟨c_b_0, c_b_1, c_b_2⟩ := bwc3 (k_b)
  obtain ⟨c_c_0, c_c_1, c_c_2⟩ := bwc3 (k_c)
  obtain ⟨c_y_0, c_y_1, c_y_2, c_y_3, c_y_4, c_y_5, c_y_6⟩ := bwc7 (k_y)
  obtain ⟨c_m_0, c_m_1, c_m_2⟩ := bwc3 (k_m)
  obtain ⟨p1, hp1⟩ : ∃ p : BW W1, p.w = W1 := ⟨BW.start W1, rfl⟩
  rw [← hp1]
  clear hp1
  go_wp2_with (first
    | (go_at_call 11; (first | (with_reducible refine (bw_call KQ1.out _).mono ?_) | (with_reducible refine (bw_call KQ2.out _).mono ?_) | (with_reducible refine (bw_call KQ3.out _).mono ?_)); rintro e w' ⟨rfl, q, rfl⟩)
    | (go_at_call 18; (first | (with_reducible refine (bw_call HA.out _).mono ?_)); rintro e w' ⟨rfl, q, rfl⟩))
  go_ret
  exact ⟨rfl, bw_below B1 _⟩

set_option maxRecDepth 100000 in
set_option maxHeartbeats 8000000 in
theorem law_TriAlike_no4 (a1 a2 a3 b1 b2 b3 c1 c2 c3 o1 o2 o3 d1 d2 d3 fr m1 m2 m3 : Int) (w : World) (h1 : plc (a1, a2, a3) = true) (h2 : plc (b1, b2, b3) = true) (h3 : plc (c1, c2, c3) = true) (h4 : plc (o1, o2, o3) = false) :
    Calls Try.prog 4 #[.agg #[.int .i64 a1, .int .i64 a2, .int .i64 a3], .agg #[.int .i64 b1, .int .i64 b2, .int .i64 b3], .agg #[.int .i64 c1, .int .i64 c2, .int .i64 c3], .agg #[.int .i64 o1, .int .i64 o2, .int .i64 o3, .int .i64 d1, .int .i64 d2, .int .i64 d3, .int .i64 fr], .agg #[.int .i64 m1, .int .i64 m2, .int .i64 m3]] w fun en w' => en = .returned (.bool true) ∧ Below w.heap.size w w' := by
  have HA := Lib.hid (fun w => awake11 w)
  have KQ1 := Lib.hid (fun w => ref11_Place a1 a2 a3 w)
  rw [h1] at KQ1
  have KQ2 := Lib.hid (fun w => ref11_Place b1 b2 b3 w)
  rw [h2] at KQ2
  have KQ3 := Lib.hid (fun w => ref11_Place c1 c2 c3 w)
  rw [h3] at KQ3
  have KQ4 := Lib.hid (fun w => ref11_Place o1 o2 o3 w)
  rw [h4] at KQ4
  clear h1 h2 h3 h4
  go_enter Try.func4, Try.ntmps4
  go_upto_region 1 with (fail)
  obtain ⟨W1, hW1⟩ : ∃ W, W = ((((w.alloc (.cells #[.int .i64 a1, .int .i64 a2, .int .i64 a3] 23)).alloc (.cells #[.int .i64 b1, .int .i64 b2, .int .i64 b3] 23)).alloc (.cells #[.int .i64 c1, .int .i64 c2, .int .i64 c3] 23)).alloc (.cells #[.int .i64 o1, .int .i64 o2, .int .i64 o3, .int .i64 d1, .int .i64 d2, .int .i64 d3, .int .i64 fr] 25)).alloc (.cells #[.int .i64 m1, .int .i64 m2, .int .i64 m3] 23) := ⟨_, rfl⟩
  obtain ⟨k_a, k_b, k_c, k_y, k_m, B1⟩ := st5 hW1
  rw [← hW1]
  clear hW1
  have l_b : w.heap.size < w.heap.size + 1 := by omega
  have l_c : w.heap.size + 1 < w.heap.size + 1 + 1 := by omega
  have l_y : w.heap.size + 1 + 1 < w.heap.size + 1 + 1 + 1 := by omega
  have l_m : w.heap.size + 1 + 1 + 1 < w.heap.size + 1 + 1 + 1 + 1 := by omega
  generalize w.heap.size + 1 + 1 + 1 + 1 = g_m at *
  generalize w.heap.size + 1 + 1 + 1 = g_y at *
  generalize w.heap.size + 1 + 1 = g_c at *
  generalize w.heap.size + 1 = g_b at *
  obtain ⟨c_a_0, c_a_1, c_a_2⟩ := bwc3 (k_a)
  obtain ⟨c_b_0, c_b_1, c_b_2⟩ := bwc3 (k_b)
  obtain ⟨c_c_0, c_c_1, c_c_2⟩ := bwc3 (k_c)
  obtain ⟨c_y_0, c_y_1, c_y_2, c_y_3, c_y_4, c_y_5, c_y_6⟩ := bwc7 (k_y)
  obtain ⟨c_m_0, c_m_1, c_m_2⟩ := bwc3 (k_m)
  obtain ⟨p1, hp1⟩ : ∃ p : BW W1, p.w = W1 := ⟨BW.start W1, rfl⟩
  rw [← hp1]
  clear hp1
  go_wp2_with (first
    | (go_at_call 11; (first | (with_reducible refine (bw_call KQ1.out _).mono ?_) | (with_reducible refine (bw_call KQ2.out _).mono ?_) | (with_reducible refine (bw_call KQ3.out _).mono ?_) | (with_reducible refine (bw_call KQ4.out _).mono ?_)); rintro e w' ⟨rfl, q, rfl⟩)
    | (go_at_call 18; (first | (with_reducible refine (bw_call HA.out _).mono ?_)); rintro e w' ⟨rfl, q, rfl⟩))
  go_ret
  exact ⟨rfl, bw_below B1 _⟩

set_option maxRecDepth 100000 in
set_option maxHeartbeats 8000000 in
theorem law_TriAlike_no5 (a1 a2 a3 b1 b2 b3 c1 c2 c3 o1 o2 o3 d1 d2 d3 fr m1 m2 m3 : Int) (w : World) (h1 : plc (a1, a2, a3) = true) (h2 : plc (b1, b2, b3) = true) (h3 : plc (c1, c2, c3) = true) (h4 : plc (o1, o2, o3) = true) (h5 : nrT (d1, d2, d3) = false) :
    Calls Try.prog 4 #[.agg #[.int .i64 a1, .int .i64 a2, .int .i64 a3], .agg #[.int .i64 b1, .int .i64 b2, .int .i64 b3], .agg #[.int .i64 c1, .int .i64 c2, .int .i64 c3], .agg #[.int .i64 o1, .int .i64 o2, .int .i64 o3, .int .i64 d1, .int .i64 d2, .int .i64 d3, .int .i64 fr], .agg #[.int .i64 m1, .int .i64 m2, .int .i64 m3]] w fun en w' => en = .returned (.bool true) ∧ Below w.heap.size w w' := by
  have HA := Lib.hid (fun w => awake11 w)
  have KQ1 := Lib.hid (fun w => ref11_Place a1 a2 a3 w)
  rw [h1] at KQ1
  have KQ2 := Lib.hid (fun w => ref11_Place b1 b2 b3 w)
  rw [h2] at KQ2
  have KQ3 := Lib.hid (fun w => ref11_Place c1 c2 c3 w)
  rw [h3] at KQ3
  have KQ4 := Lib.hid (fun w => ref11_Place o1 o2 o3 w)
  rw [h4] at KQ4
  have KQ5 := Lib.hid (fun w => ref6_Near d1 d2 d3 w)
  rw [show vnear d1 d2 d3 = _ from h5] at KQ5
  clear h1 h2 h3 h4 h5
  go_enter Try.func4, Try.ntmps4
  go_upto_region 1 with (fail)
  obtain ⟨W1, hW1⟩ : ∃ W, W = ((((w.alloc (.cells #[.int .i64 a1, .int .i64 a2, .int .i64 a3] 23)).alloc (.cells #[.int .i64 b1, .int .i64 b2, .int .i64 b3] 23)).alloc (.cells #[.int .i64 c1, .int .i64 c2, .int .i64 c3] 23)).alloc (.cells #[.int .i64 o1, .int .i64 o2, .int .i64 o3, .int .i64 d1, .int .i64 d2, .int .i64 d3, .int .i64 fr] 25)).alloc (.cells #[.int .i64 m1, .int .i64 m2, .int .i64 m3] 23) := ⟨_, rfl⟩
  obtain ⟨k_a, k_b, k_c, k_y, k_m, B1⟩ := st5 hW1
  rw [← hW1]
  clear hW1
  have l_b : w.heap.size < w.heap.size + 1 := by omega
  have l_c : w.heap.size + 1 < w.heap.size + 1 + 1 := by omega
  have l_y : w.heap.size + 1 + 1 < w.heap.size + 1 + 1 + 1 := by omega
  have l_m : w.heap.size + 1 + 1 + 1 < w.heap.size + 1 + 1 + 1 + 1 := by omega
  generalize w.heap.size + 1 + 1 + 1 + 1 = g_m at *
  generalize w.heap.size + 1 + 1 + 1 = g_y at *
  generalize w.heap.size + 1 + 1 = g_c at *
  generalize w.heap.size + 1 = g_b at *
  obtain ⟨c_a_0, c_a_1, c_a_2⟩ := bwc3 (k_a)
  obtain ⟨c_b_0, c_b_1, c_b_2⟩ := bwc3 (k_b)
  obtain ⟨c_c_0, c_c_1, c_c_2⟩ := bwc3 (k_c)
  obtain ⟨c_y_0, c_y_1, c_y_2, c_y_3, c_y_4, c_y_5, c_y_6⟩ := bwc7 (k_y)
  obtain ⟨c_m_0, c_m_1, c_m_2⟩ := bwc3 (k_m)
  obtain ⟨p1, hp1⟩ : ∃ p : BW W1, p.w = W1 := ⟨BW.start W1, rfl⟩
  rw [← hp1]
  clear hp1
  go_wp2_with (first
    | (go_at_call 11; (first | (with_reducible refine (bw_call KQ1.out _).mono ?_) | (with_reducible refine (bw_call KQ2.out _).mono ?_) | (with_reducible refine (bw_call KQ3.out _).mono ?_) | (with_reducible refine (bw_call KQ4.out _).mono ?_)); rintro e w' ⟨rfl, q, rfl⟩)
    | (go_at_call 19; (first | (with_reducible refine (bw_call KQ5.out _).mono ?_)); rintro e w' ⟨rfl, q, rfl⟩)
    | (go_at_call 18; (first | (with_reducible refine (bw_call HA.out _).mono ?_)); rintro e w' ⟨rfl, q, rfl⟩))
  go_ret
  exact ⟨rfl, bw_below B1 _⟩

set_option maxRecDepth 100000 in
set_option maxHeartbeats 8000000 in
theorem law_TriAlike_no6 (a1 a2 a3 b1 b2 b3 c1 c2 c3 o1 o2 o3 d1 d2 d3 fr m1 m2 m3 : Int) (w : World) (h1 : plc (a1, a2, a3) = true) (h2 : plc (b1, b2, b3) = true) (h3 : plc (c1, c2, c3) = true) (h4 : plc (o1, o2, o3) = true) (h5 : nrT (d1, d2, d3) = true) (h6 : plc (m1, m2, m3) = false) :
    Calls Try.prog 4 #[.agg #[.int .i64 a1, .int .i64 a2, .int .i64 a3], .agg #[.int .i64 b1, .int .i64 b2, .int .i64 b3], .agg #[.int .i64 c1, .int .i64 c2, .int .i64 c3], .agg #[.int .i64 o1, .int .i64 o2, .int .i64 o3, .int .i64 d1, .int .i64 d2, .int .i64 d3, .int .i64 fr], .agg #[.int .i64 m1, .int .i64 m2, .int .i64 m3]] w fun en w' => en = .returned (.bool true) ∧ Below w.heap.size w w' := by
  have HA := Lib.hid (fun w => awake11 w)
  have KQ1 := Lib.hid (fun w => ref11_Place a1 a2 a3 w)
  rw [h1] at KQ1
  have KQ2 := Lib.hid (fun w => ref11_Place b1 b2 b3 w)
  rw [h2] at KQ2
  have KQ3 := Lib.hid (fun w => ref11_Place c1 c2 c3 w)
  rw [h3] at KQ3
  have KQ4 := Lib.hid (fun w => ref11_Place o1 o2 o3 w)
  rw [h4] at KQ4
  have KQ5 := Lib.hid (fun w => ref6_Near d1 d2 d3 w)
  rw [show vnear d1 d2 d3 = _ from h5] at KQ5
  have KQ6 := Lib.hid (fun w => ref11_Place m1 m2 m3 w)
  rw [h6] at KQ6
  clear h1 h2 h3 h4 h5 h6
  go_enter Try.func4, Try.ntmps4
  go_upto_region 1 with (fail)
  obtain ⟨W1, hW1⟩ : ∃ W, W = ((((w.alloc (.cells #[.int .i64 a1, .int .i64 a2, .int .i64 a3] 23)).alloc (.cells #[.int .i64 b1, .int .i64 b2, .int .i64 b3] 23)).alloc (.cells #[.int .i64 c1, .int .i64 c2, .int .i64 c3] 23)).alloc (.cells #[.int .i64 o1, .int .i64 o2, .int .i64 o3, .int .i64 d1, .int .i64 d2, .int .i64 d3, .int .i64 fr] 25)).alloc (.cells #[.int .i64 m1, .int .i64 m2, .int .i64 m3] 23) := ⟨_, rfl⟩
  obtain ⟨k_a, k_b, k_c, k_y, k_m, B1⟩ := st5 hW1
  rw [← hW1]
  clear hW1
  have l_b : w.heap.size < w.heap.size + 1 := by omega
  have l_c : w.heap.size + 1 < w.heap.size + 1 + 1 := by omega
  have l_y : w.heap.size + 1 + 1 < w.heap.size + 1 + 1 + 1 := by omega
  have l_m : w.heap.size + 1 + 1 + 1 < w.heap.size + 1 + 1 + 1 + 1 := by omega
  generalize w.heap.size + 1 + 1 + 1 + 1 = g_m at *
  generalize w.heap.size + 1 + 1 + 1 = g_y at *
  generalize w.heap.size + 1 + 1 = g_c at *
  generalize w.heap.size + 1 = g_b at *
  obtain ⟨c_a_0, c_a_1, c_a_2⟩ := bwc3 (k_a)
  obtain ⟨c_b_0, c_b_1, c_b_2⟩ := bwc3 (k_b)
  obtain ⟨c_c_0, c_c_1, c_c_2⟩ := bwc3 (k_c)
  obtain ⟨c_y_0, c_y_1, c_y_2, c_y_3, c_y_4, c_y_5, c_y_6⟩ := bwc7 (k_y)
  obtain ⟨c_m_0, c_m_1, c_m_2⟩ := bwc3 (k_m)
  obtain ⟨p1, hp1⟩ : ∃ p : BW W1, p.w = W1 := ⟨BW.start W1, rfl⟩
  rw [← hp1]
  clear hp1
  go_wp2_with (first
    | (go_at_call 11; (first | (with_reducible refine (bw_call KQ1.out _).mono ?_) | (with_reducible refine (bw_call KQ2.out _).mono ?_) | (with_reducible refine (bw_call KQ3.out _).mono ?_) | (with_reducible refine (bw_call KQ4.out _).mono ?_) | (with_reducible refine (bw_call KQ6.out _).mono ?_)); rintro e w' ⟨rfl, q, rfl⟩)
    | (go_at_call 19; (first | (with_reducible refine (bw_call KQ5.out _).mono ?_)); rintro e w' ⟨rfl, q, rfl⟩)
    | (go_at_call 18; (first | (with_reducible refine (bw_call HA.out _).mono ?_)); rintro e w' ⟨rfl, q, rfl⟩))
  go_ret
  exact ⟨rfl, bw_below B1 _⟩

set_option maxRecDepth 100000 in
set_option maxHeartbeats 8000000 in
theorem law_TriAlike_yes (a1 a2 a3 b1 b2 b3 c1 c2 c3 o1 o2 o3 d1 d2 d3 fr m1 m2 m3 : Int) (w : World) (h1 : plc (a1, a2, a3) = true) (h2 : plc (b1, b2, b3) = true) (h3 : plc (c1, c2, c3) = true) (h4 : plc (o1, o2, o3) = true) (h5 : nrT (d1, d2, d3) = true) (h6 : plc (m1, m2, m3) = true) :
    Calls Try.prog 4 #[.agg #[.int .i64 a1, .int .i64 a2, .int .i64 a3], .agg #[.int .i64 b1, .int .i64 b2, .int .i64 b3], .agg #[.int .i64 c1, .int .i64 c2, .int .i64 c3], .agg #[.int .i64 o1, .int .i64 o2, .int .i64 o3, .int .i64 d1, .int .i64 d2, .int .i64 d3, .int .i64 fr], .agg #[.int .i64 m1, .int .i64 m2, .int .i64 m3]] w fun en w' => en = .returned (.bool true) ∧ Below w.heap.size w w' := by
  have HA := Lib.hid (fun w => awake11 w)
  have KQ1 := Lib.hid (fun w => ref11_Place a1 a2 a3 w)
  rw [h1] at KQ1
  have KQ2 := Lib.hid (fun w => ref11_Place b1 b2 b3 w)
  rw [h2] at KQ2
  have KQ3 := Lib.hid (fun w => ref11_Place c1 c2 c3 w)
  rw [h3] at KQ3
  have KQ4 := Lib.hid (fun w => ref11_Place o1 o2 o3 w)
  rw [h4] at KQ4
  have KQ5 := Lib.hid (fun w => ref6_Near d1 d2 d3 w)
  rw [show vnear d1 d2 d3 = _ from h5] at KQ5
  have KQ6 := Lib.hid (fun w => ref11_Place m1 m2 m3 w)
  rw [h6] at KQ6
  have ia := plc_I3 h1
  have ib := plc_I3 h2
  have ic := plc_I3 h3
  have io := plc_I3 h4
  have id' := nrT_I3 h5
  have H0 := Lib.hid (fun w => tri_Hit a1 a2 a3 b1 b2 b3 c1 c2 c3 o1 o2 o3 d1 d2 d3 fr w ia ib ic io id')
  have F0 := Lib.hid (fun w => tri_Flat a1 a2 a3 b1 b2 b3 c1 c2 c3 w ia ib ic)
  have A0 := Lib.hid (fun w => tri_Area a1 a2 a3 b1 b2 b3 c1 c2 c3 w ia ib ic)
  have H1 := Lib.hid (fun w => tri_Hit b1 b2 b3 c1 c2 c3 a1 a2 a3 o1 o2 o3 d1 d2 d3 fr w ib ic ia io id')
  rw [tHit_bca (a1, a2, a3) (b1, b2, b3) (c1, c2, c3) (o1, o2, o3) (d1, d2, d3)] at H1
  have F1 := Lib.hid (fun w => tri_Flat b1 b2 b3 c1 c2 c3 a1 a2 a3 w ib ic ia)
  rw [tFlat_bca (a1, a2, a3) (b1, b2, b3) (c1, c2, c3)] at F1
  have A1 := Lib.hid (fun w => tri_Area b1 b2 b3 c1 c2 c3 a1 a2 a3 w ib ic ia)
  rw [tArea_bca (a1, a2, a3) (b1, b2, b3) (c1, c2, c3)] at A1
  have H2 := Lib.hid (fun w => tri_Hit c1 c2 c3 a1 a2 a3 b1 b2 b3 o1 o2 o3 d1 d2 d3 fr w ic ia ib io id')
  rw [(tHit_bca (b1, b2, b3) (c1, c2, c3) (a1, a2, a3) (o1, o2, o3) (d1, d2, d3)).trans (tHit_bca (a1, a2, a3) (b1, b2, b3) (c1, c2, c3) (o1, o2, o3) (d1, d2, d3))] at H2
  have F2 := Lib.hid (fun w => tri_Flat c1 c2 c3 a1 a2 a3 b1 b2 b3 w ic ia ib)
  rw [(tFlat_bca (b1, b2, b3) (c1, c2, c3) (a1, a2, a3)).trans (tFlat_bca (a1, a2, a3) (b1, b2, b3) (c1, c2, c3))] at F2
  have A2 := Lib.hid (fun w => tri_Area c1 c2 c3 a1 a2 a3 b1 b2 b3 w ic ia ib)
  rw [(tArea_bca (b1, b2, b3) (c1, c2, c3) (a1, a2, a3)).trans (tArea_bca (a1, a2, a3) (b1, b2, b3) (c1, c2, c3))] at A2
  have H3 := Lib.hid (fun w => tri_Hit a1 a2 a3 c1 c2 c3 b1 b2 b3 o1 o2 o3 d1 d2 d3 fr w ia ic ib io id')
  rw [tHit_acb (a1, a2, a3) (b1, b2, b3) (c1, c2, c3) (o1, o2, o3) (d1, d2, d3)] at H3
  have F3 := Lib.hid (fun w => tri_Flat a1 a2 a3 c1 c2 c3 b1 b2 b3 w ia ic ib)
  rw [tFlat_acb (a1, a2, a3) (b1, b2, b3) (c1, c2, c3)] at F3
  have A3 := Lib.hid (fun w => tri_Area a1 a2 a3 c1 c2 c3 b1 b2 b3 w ia ic ib)
  rw [tArea_acb (a1, a2, a3) (b1, b2, b3) (c1, c2, c3)] at A3
  have H4 := Lib.hid (fun w => tri_Hit c1 c2 c3 b1 b2 b3 a1 a2 a3 o1 o2 o3 d1 d2 d3 fr w ic ib ia io id')
  rw [(tHit_acb (c1, c2, c3) (a1, a2, a3) (b1, b2, b3) (o1, o2, o3) (d1, d2, d3)).trans ((tHit_bca (b1, b2, b3) (c1, c2, c3) (a1, a2, a3) (o1, o2, o3) (d1, d2, d3)).trans (tHit_bca (a1, a2, a3) (b1, b2, b3) (c1, c2, c3) (o1, o2, o3) (d1, d2, d3)))] at H4
  have F4 := Lib.hid (fun w => tri_Flat c1 c2 c3 b1 b2 b3 a1 a2 a3 w ic ib ia)
  rw [(tFlat_acb (c1, c2, c3) (a1, a2, a3) (b1, b2, b3)).trans ((tFlat_bca (b1, b2, b3) (c1, c2, c3) (a1, a2, a3)).trans (tFlat_bca (a1, a2, a3) (b1, b2, b3) (c1, c2, c3)))] at F4
  have A4 := Lib.hid (fun w => tri_Area c1 c2 c3 b1 b2 b3 a1 a2 a3 w ic ib ia)
  rw [(tArea_acb (c1, c2, c3) (a1, a2, a3) (b1, b2, b3)).trans ((tArea_bca (b1, b2, b3) (c1, c2, c3) (a1, a2, a3)).trans (tArea_bca (a1, a2, a3) (b1, b2, b3) (c1, c2, c3)))] at A4
  have H5 := Lib.hid (fun w => tri_Hit b1 b2 b3 a1 a2 a3 c1 c2 c3 o1 o2 o3 d1 d2 d3 fr w ib ia ic io id')
  rw [(tHit_acb (b1, b2, b3) (c1, c2, c3) (a1, a2, a3) (o1, o2, o3) (d1, d2, d3)).trans (tHit_bca (a1, a2, a3) (b1, b2, b3) (c1, c2, c3) (o1, o2, o3) (d1, d2, d3))] at H5
  have F5 := Lib.hid (fun w => tri_Flat b1 b2 b3 a1 a2 a3 c1 c2 c3 w ib ia ic)
  rw [(tFlat_acb (b1, b2, b3) (c1, c2, c3) (a1, a2, a3)).trans (tFlat_bca (a1, a2, a3) (b1, b2, b3) (c1, c2, c3))] at F5
  have A5 := Lib.hid (fun w => tri_Area b1 b2 b3 a1 a2 a3 c1 c2 c3 w ib ia ic)
  rw [(tArea_acb (b1, b2, b3) (c1, c2, c3) (a1, a2, a3)).trans (tArea_bca (a1, a2, a3) (b1, b2, b3) (c1, c2, c3))] at A5
  have q1 := plc_iff.1 h1
  have q2 := plc_iff.1 h2
  have q3 := plc_iff.1 h3
  have q4 := plc_iff.1 h4
  have q6 := plc_iff.1 h6
  dsimp only at q1 q2 q3 q4 q6
  have sx : ∀ x : Int, -1048576 ≤ x ∧ x ≤ 1048576 → sat x = x := fun x hx => by unfold sat; rw [if_neg (by omega), if_neg (by omega)]
  have KB1 := Lib.hid (fun w => ref6_Add a1 a2 a3 m1 m2 m3 w (by unfold I64; omega) (by unfold I64; omega) (by unfold I64; omega) (by unfold I64; omega) (by unfold I64; omega) (by unfold I64; omega))
  rw [sx (a1 + m1) (by omega), sx (a2 + m2) (by omega), sx (a3 + m3) (by omega)] at KB1
  obtain ⟨aa1, haa1⟩ : ∃ t, t = a1 + m1 := ⟨_, rfl⟩
  obtain ⟨aa2, haa2⟩ : ∃ t, t = a2 + m2 := ⟨_, rfl⟩
  obtain ⟨aa3, haa3⟩ : ∃ t, t = a3 + m3 := ⟨_, rfl⟩
  rw [← haa1, ← haa2, ← haa3] at KB1
  have KP1 := Lib.hid (fun w => ref11_Place aa1 aa2 aa3 w)
  have ad1 : adT (a1, a2, a3) (m1, m2, m3) = (aa1, aa2, aa3) := by unfold adT; rw [haa1, haa2, haa3]
  have KB2 := Lib.hid (fun w => ref6_Add b1 b2 b3 m1 m2 m3 w (by unfold I64; omega) (by unfold I64; omega) (by unfold I64; omega) (by unfold I64; omega) (by unfold I64; omega) (by unfold I64; omega))
  rw [sx (b1 + m1) (by omega), sx (b2 + m2) (by omega), sx (b3 + m3) (by omega)] at KB2
  obtain ⟨bb1, hbb1⟩ : ∃ t, t = b1 + m1 := ⟨_, rfl⟩
  obtain ⟨bb2, hbb2⟩ : ∃ t, t = b2 + m2 := ⟨_, rfl⟩
  obtain ⟨bb3, hbb3⟩ : ∃ t, t = b3 + m3 := ⟨_, rfl⟩
  rw [← hbb1, ← hbb2, ← hbb3] at KB2
  have KP2 := Lib.hid (fun w => ref11_Place bb1 bb2 bb3 w)
  have ad2 : adT (b1, b2, b3) (m1, m2, m3) = (bb1, bb2, bb3) := by unfold adT; rw [hbb1, hbb2, hbb3]
  have KB3 := Lib.hid (fun w => ref6_Add c1 c2 c3 m1 m2 m3 w (by unfold I64; omega) (by unfold I64; omega) (by unfold I64; omega) (by unfold I64; omega) (by unfold I64; omega) (by unfold I64; omega))
  rw [sx (c1 + m1) (by omega), sx (c2 + m2) (by omega), sx (c3 + m3) (by omega)] at KB3
  obtain ⟨cc1, hcc1⟩ : ∃ t, t = c1 + m1 := ⟨_, rfl⟩
  obtain ⟨cc2, hcc2⟩ : ∃ t, t = c2 + m2 := ⟨_, rfl⟩
  obtain ⟨cc3, hcc3⟩ : ∃ t, t = c3 + m3 := ⟨_, rfl⟩
  rw [← hcc1, ← hcc2, ← hcc3] at KB3
  have KP3 := Lib.hid (fun w => ref11_Place cc1 cc2 cc3 w)
  have ad3 : adT (c1, c2, c3) (m1, m2, m3) = (cc1, cc2, cc3) := by unfold adT; rw [hcc1, hcc2, hcc3]
  have KB4 := Lib.hid (fun w => ref6_Add o1 o2 o3 m1 m2 m3 w (by unfold I64; omega) (by unfold I64; omega) (by unfold I64; omega) (by unfold I64; omega) (by unfold I64; omega) (by unfold I64; omega))
  rw [sx (o1 + m1) (by omega), sx (o2 + m2) (by omega), sx (o3 + m3) (by omega)] at KB4
  obtain ⟨oo1, hoo1⟩ : ∃ t, t = o1 + m1 := ⟨_, rfl⟩
  obtain ⟨oo2, hoo2⟩ : ∃ t, t = o2 + m2 := ⟨_, rfl⟩
  obtain ⟨oo3, hoo3⟩ : ∃ t, t = o3 + m3 := ⟨_, rfl⟩
  rw [← hoo1, ← hoo2, ← hoo3] at KB4
  have KP4 := Lib.hid (fun w => ref11_Place oo1 oo2 oo3 w)
  have ad4 : adT (o1, o2, o3) (m1, m2, m3) = (oo1, oo2, oo3) := by unfold adT; rw [hoo1, hoo2, hoo3]
  have hmv : plc (aa1, aa2, aa3) = true → plc (bb1, bb2, bb3) = true → plc (cc1, cc2, cc3) = true → plc (oo1, oo2, oo3) = true → tHit (aa1, aa2, aa3) (bb1, bb2, bb3) (cc1, cc2, cc3) (oo1, oo2, oo3) (d1, d2, d3) = tHit (a1, a2, a3) (b1, b2, b3) (c1, c2, c3) (o1, o2, o3) (d1, d2, d3) := fun k1 k2 k3 k4 => by
    rw [← ad1, ← ad2, ← ad3, ← ad4]
    exact tHit_moved (pl3_iff.2 ⟨h1, h2, h3⟩) h4 (pl3_iff.2 ⟨by rw [ad1]; exact k1, by rw [ad2]; exact k2, by rw [ad3]; exact k3⟩) (by rw [ad4]; exact k4)
  have HM : plc (aa1, aa2, aa3) = true → plc (bb1, bb2, bb3) = true → plc (cc1, cc2, cc3) = true → plc (oo1, oo2, oo3) = true → Hid (∀ w, Calls Try.prog 8 #[.agg #[.int .i64 aa1, .int .i64 aa2, .int .i64 aa3], .agg #[.int .i64 bb1, .int .i64 bb2, .int .i64 bb3], .agg #[.int .i64 cc1, .int .i64 cc2, .int .i64 cc3], .agg #[.int .i64 oo1, .int .i64 oo2, .int .i64 oo3, .int .i64 d1, .int .i64 d2, .int .i64 d3, .int .i64 fr]] w fun en w' => en = .returned (.tuple #[.agg #[.int .i64 (tHit (a1, a2, a3) (b1, b2, b3) (c1, c2, c3) (o1, o2, o3) (d1, d2, d3)).1.1, .int .i64 (tHit (a1, a2, a3) (b1, b2, b3) (c1, c2, c3) (o1, o2, o3) (d1, d2, d3)).1.2], .bool (tHit (a1, a2, a3) (b1, b2, b3) (c1, c2, c3) (o1, o2, o3) (d1, d2, d3)).2]) ∧ Below w.heap.size w w') := fun k1 k2 k3 k4 => Lib.hid (fun w => by
    have := tri_Hit aa1 aa2 aa3 bb1 bb2 bb3 cc1 cc2 cc3 oo1 oo2 oo3 d1 d2 d3 fr w (plc_I3 k1) (plc_I3 k2) (plc_I3 k3) (plc_I3 k4) id'
    rw [hmv k1 k2 k3 k4] at this
    exact this)
  generalize tHit (a1, a2, a3) (b1, b2, b3) (c1, c2, c3) (o1, o2, o3) (d1, d2, d3) = H at *
  generalize tFlat (a1, a2, a3) (b1, b2, b3) (c1, c2, c3) = fl at *
  generalize tArea (a1, a2, a3) (b1, b2, b3) (c1, c2, c3) = ar at *
  obtain ⟨⟨hn, hd⟩, ok⟩ := H
  dsimp only at H0 H1 H2 H3 H4 H5 HM
  generalize plc (aa1, aa2, aa3) = z1 at *
  generalize plc (bb1, bb2, bb3) = z2 at *
  generalize plc (cc1, cc2, cc3) = z3 at *
  generalize plc (oo1, oo2, oo3) = z4 at *
  have HM' : z1 = true ∧ z2 = true ∧ z3 = true ∧ z4 = true → _ := fun h => HM h.1 h.2.1 h.2.2.1 h.2.2.2
  have HMM := Lib.hid HM'
  clear HM HM' hmv ad1 ad2 ad3 ad4 sx q1 q2 q3 q4 q6 ia ib ic io id' h1 h2 h3 h4 h5 h6 haa1 haa2 haa3 hbb1 hbb2 hbb3 hcc1 hcc2 hcc3 hoo1 hoo2 hoo3
  go_enter Try.func4, Try.ntmps4
  go_upto_region 1 with (fail)
  obtain ⟨W1, hW1⟩ : ∃ W, W = ((((w.alloc (.cells #[.int .i64 a1, .int .i64 a2, .int .i64 a3] 23)).alloc (.cells #[.int .i64 b1, .int .i64 b2, .int .i64 b3] 23)).alloc (.cells #[.int .i64 c1, .int .i64 c2, .int .i64 c3] 23)).alloc (.cells #[.int .i64 o1, .int .i64 o2, .int .i64 o3, .int .i64 d1, .int .i64 d2, .int .i64 d3, .int .i64 fr] 25)).alloc (.cells #[.int .i64 m1, .int .i64 m2, .int .i64 m3] 23) := ⟨_, rfl⟩
  obtain ⟨k_a, k_b, k_c, k_y, k_m, B1⟩ := st5 hW1
  rw [← hW1]
  clear hW1
  have l_b : w.heap.size < w.heap.size + 1 := by omega
  have l_c : w.heap.size + 1 < w.heap.size + 1 + 1 := by omega
  have l_y : w.heap.size + 1 + 1 < w.heap.size + 1 + 1 + 1 := by omega
  have l_m : w.heap.size + 1 + 1 + 1 < w.heap.size + 1 + 1 + 1 + 1 := by omega
  generalize w.heap.size + 1 + 1 + 1 + 1 = g_m at *
  generalize w.heap.size + 1 + 1 + 1 = g_y at *
  generalize w.heap.size + 1 + 1 = g_c at *
  generalize w.heap.size + 1 = g_b at *
  obtain ⟨c_a_0, c_a_1, c_a_2⟩ := bwc3 (k_a)
  obtain ⟨c_b_0, c_b_1, c_b_2⟩ := bwc3 (k_b)
  obtain ⟨c_c_0, c_c_1, c_c_2⟩ := bwc3 (k_c)
  obtain ⟨c_y_0, c_y_1, c_y_2, c_y_3, c_y_4, c_y_5, c_y_6⟩ := bwc7 (k_y)
  obtain ⟨c_m_0, c_m_1, c_m_2⟩ := bwc3 (k_m)
  obtain ⟨p1, hp1⟩ : ∃ p : BW W1, p.w = W1 := ⟨BW.start W1, rfl⟩
  rw [← hp1]
  clear hp1
  go_upto_region 4 with (first
    | (go_at_call 11; (first | (with_reducible refine (bw_call KQ1.out _).mono ?_) | (with_reducible refine (bw_call KQ2.out _).mono ?_) | (with_reducible refine (bw_call KQ3.out _).mono ?_) | (with_reducible refine (bw_call KQ4.out _).mono ?_) | (with_reducible refine (bw_call KQ6.out _).mono ?_)); rintro e w' ⟨rfl, q, rfl⟩)
    | (go_at_call 19; (first | (with_reducible refine (bw_call KQ5.out _).mono ?_)); rintro e w' ⟨rfl, q, rfl⟩)
    | (go_at_call 8; (first | (with_reducible refine (bw_call H0.out _).mono ?_)); rintro e w' ⟨rfl, q, rfl⟩))
  obtain ⟨W2, hW2⟩ : ∃ W, W = q.w.alloc (.cells #[.int .i64 hn, .int .i64 hd] 29) := ⟨_, rfl⟩
  have B2 : Below w.heap.size w W2 := by rw [hW2]; exact (bw_below B1 q).alloc (bw_below B1 q).size _
  have l_t : g_m < q.w.heap.size := (k_m.below q.h).lt
  have o_t : w.heap.size ≤ q.w.heap.size := (bw_below B1 q).size
  have k_a := bka hW2 (k_a.below q.h)
  have k_b := bka hW2 (k_b.below q.h)
  have k_c := bka hW2 (k_c.below q.h)
  have k_y := bka hW2 (k_y.below q.h)
  have k_m := bka hW2 (k_m.below q.h)
  have k_t := bkn hW2
  rw [← hW2]
  clear hW2
  clear B1
  clear c_a_0 c_a_1 c_a_2 c_b_0 c_b_1 c_b_2 c_c_0 c_c_1 c_c_2 c_y_0 c_y_1 c_y_2 c_y_3 c_y_4 c_y_5 c_y_6 c_m_0 c_m_1 c_m_2
  generalize q.w.heap.size = g_t at *
  obtain ⟨c_a_0, c_a_1, c_a_2⟩ := bwc3 (k_a)
  obtain ⟨c_b_0, c_b_1, c_b_2⟩ := bwc3 (k_b)
  obtain ⟨c_c_0, c_c_1, c_c_2⟩ := bwc3 (k_c)
  obtain ⟨c_y_0, c_y_1, c_y_2, c_y_3, c_y_4, c_y_5, c_y_6⟩ := bwc7 (k_y)
  obtain ⟨c_m_0, c_m_1, c_m_2⟩ := bwc3 (k_m)
  obtain ⟨c_t_0, c_t_1⟩ := bwc2 (k_t)
  obtain ⟨p2, hp2⟩ : ∃ p : BW W2, p.w = W2 := ⟨BW.start W2, rfl⟩
  rw [← hp2]
  clear hp2
  obtain ⟨LA, hLA⟩ : ∃ LA : Array Value, LA = #[.int .i64 b1, .int .i64 b2, .int .i64 b3, .int .i64 c1, .int .i64 c2, .int .i64 c3, .int .i64 a1, .int .i64 a2, .int .i64 a3, .int .i64 c1, .int .i64 c2, .int .i64 c3, .int .i64 a1, .int .i64 a2, .int .i64 a3, .int .i64 b1, .int .i64 b2, .int .i64 b3, .int .i64 a1, .int .i64 a2, .int .i64 a3, .int .i64 c1, .int .i64 c2, .int .i64 c3, .int .i64 b1, .int .i64 b2, .int .i64 b3, .int .i64 c1, .int .i64 c2, .int .i64 c3, .int .i64 b1, .int .i64 b2, .int .i64 b3, .int .i64 a1, .int .i64 a2, .int .i64 a3, .int .i64 b1, .int .i64 b2, .int .i64 b3, .int .i64 a1, .int .i64 a2, .int .i64 a3, .int .i64 c1, .int .i64 c2, .int .i64 c3] := ⟨_, rfl⟩
  have hi45 : Hid ((Try.prog.info? 39).map (·.size) = some LA.size) := Lib.hid (by rw [hLA]; kernel_rfl)
  have ho45 : Hid ((#[.int .i64 0, .int .i64 0, .int .i64 0, .int .i64 0, .int .i64 0, .int .i64 0, .int .i64 0, .int .i64 0, .int .i64 0, .int .i64 0, .int .i64 0, .int .i64 0, .int .i64 0, .int .i64 0, .int .i64 0, .int .i64 0, .int .i64 0, .int .i64 0, .int .i64 0, .int .i64 0, .int .i64 0, .int .i64 0, .int .i64 0, .int .i64 0, .int .i64 0, .int .i64 0, .int .i64 0, .int .i64 0, .int .i64 0, .int .i64 0, .int .i64 0, .int .i64 0, .int .i64 0, .int .i64 0, .int .i64 0, .int .i64 0, .int .i64 0, .int .i64 0, .int .i64 0, .int .i64 0, .int .i64 0, .int .i64 0, .int .i64 0, .int .i64 0, .int .i64 0] : Array Value).size = LA.size) := Lib.hid (by rw [hLA]; rfl)
  have h145 : Hid (LA.all (·.oneCell') = true) := Lib.hid (by rw [hLA]; kernel_rfl)
  have hb9 : ∀ w, (Instr.build 39 #[(0, .agg #[.int .i64 b1, .int .i64 b2, .int .i64 b3, .int .i64 c1, .int .i64 c2, .int .i64 c3, .int .i64 a1, .int .i64 a2, .int .i64 a3]), (1, .agg #[.int .i64 c1, .int .i64 c2, .int .i64 c3, .int .i64 a1, .int .i64 a2, .int .i64 a3, .int .i64 b1, .int .i64 b2, .int .i64 b3]), (2, .agg #[.int .i64 a1, .int .i64 a2, .int .i64 a3, .int .i64 c1, .int .i64 c2, .int .i64 c3, .int .i64 b1, .int .i64 b2, .int .i64 b3]), (3, .agg #[.int .i64 c1, .int .i64 c2, .int .i64 c3, .int .i64 b1, .int .i64 b2, .int .i64 b3, .int .i64 a1, .int .i64 a2, .int .i64 a3]), (4, .agg #[.int .i64 b1, .int .i64 b2, .int .i64 b3, .int .i64 a1, .int .i64 a2, .int .i64 a3, .int .i64 c1, .int .i64 c2, .int .i64 c3])]).run Try.prog w = .ok (.agg LA) w := fun _ => by rw [hLA]; kernel_rfl
  have HLA := Lib.hid hLA
  clear hLA
  repeat (first | ((with_reducible refine store_block (c' := LA) ?hp ?hv ?hi ?ho ?h1 ?_); (case hp => rfl); (case hv => first | rfl | (rw [HLA.out]; rfl)); (case hi => exact hi45.out); (case ho => exact ho45.out); (case h1 => exact h145.out)) | go_values | go_skip | go_guarded | go_step | go_upon)
  clear hi45 ho45 h145 hb9
  obtain ⟨W3, hW3⟩ : ∃ W, W = p2.w.alloc (.cells LA 39) := ⟨_, rfl⟩
  have B3 : Below w.heap.size w W3 := by rw [hW3]; exact (bw_below B2 p2).alloc (bw_below B2 p2).size _
  have l_l : g_t < p2.w.heap.size := (k_t.below p2.h).lt
  have o_l : w.heap.size ≤ p2.w.heap.size := (bw_below B2 p2).size
  have k_a := bka hW3 (k_a.below p2.h)
  have k_b := bka hW3 (k_b.below p2.h)
  have k_c := bka hW3 (k_c.below p2.h)
  have k_y := bka hW3 (k_y.below p2.h)
  have k_m := bka hW3 (k_m.below p2.h)
  have k_t := bka hW3 (k_t.below p2.h)
  have k_l := bkn hW3
  rw [← hW3]
  clear hW3
  clear B2
  clear c_a_0 c_a_1 c_a_2 c_b_0 c_b_1 c_b_2 c_c_0 c_c_1 c_c_2 c_y_0 c_y_1 c_y_2 c_y_3 c_y_4 c_y_5 c_y_6 c_m_0 c_m_1 c_m_2 c_t_0 c_t_1
  generalize p2.w.heap.size = g_l at *
  clear KQ1 KQ2 KQ3 KQ4 KQ5 KQ6 H0
  go_wp2
  go_loopw [14] (fun i wr => ∃ k : Nat, k ≤ 5 ∧ i = .int .i64 k ∧ Bk wr w.heap.size 23 #[.int .i64 a1, .int .i64 a2, .int .i64 a3] ∧ Bk wr g_b 23 #[.int .i64 b1, .int .i64 b2, .int .i64 b3] ∧ Bk wr g_c 23 #[.int .i64 c1, .int .i64 c2, .int .i64 c3] ∧ Bk wr g_y 25 #[.int .i64 o1, .int .i64 o2, .int .i64 o3, .int .i64 d1, .int .i64 d2, .int .i64 d3, .int .i64 fr] ∧ Bk wr g_m 23 #[.int .i64 m1, .int .i64 m2, .int .i64 m3] ∧ Bk wr g_t 29 #[.int .i64 hn, .int .i64 hd] ∧ Bk wr g_l 39 LA ∧ Below w.heap.size w wr) (fun i _ => 5 - (intOf i).toNat)
  case atStart => exact ⟨0, by omega, rfl, k_a, k_b, k_c, k_y, k_m, k_t, k_l, B3⟩
  case round =>
    clear k_a k_b k_c k_y k_m k_t k_l B3
    obtain ⟨k, hk, rfl, k_a, k_b, k_c, k_y, k_m, k_t, k_l, B20⟩ := hrel
    by_cases hlt : k < 5
    · have row : ∃ r1 r2 r3 r4 r5 r6 r7 r8 r9 : Int, (LA[k * 9]? = some (.int .i64 r1) ∧ LA[k * 9 + 1]? = some (.int .i64 r2) ∧ LA[k * 9 + 2]? = some (.int .i64 r3) ∧ LA[k * 9 + 3]? = some (.int .i64 r4) ∧ LA[k * 9 + 4]? = some (.int .i64 r5) ∧ LA[k * 9 + 5]? = some (.int .i64 r6) ∧ LA[k * 9 + 6]? = some (.int .i64 r7) ∧ LA[k * 9 + 7]? = some (.int .i64 r8) ∧ LA[k * 9 + 8]? = some (.int .i64 r9)) ∧ Hid (∀ w, Calls Try.prog 8 #[.agg #[.int .i64 r1, .int .i64 r2, .int .i64 r3], .agg #[.int .i64 r4, .int .i64 r5, .int .i64 r6], .agg #[.int .i64 r7, .int .i64 r8, .int .i64 r9], .agg #[.int .i64 o1, .int .i64 o2, .int .i64 o3, .int .i64 d1, .int .i64 d2, .int .i64 d3, .int .i64 fr]] w fun en w' => en = .returned (.tuple #[.agg #[.int .i64 hn, .int .i64 hd], .bool ok]) ∧ Below w.heap.size w w') ∧ Hid (∀ w, Calls Try.prog 12 #[.agg #[.int .i64 r1, .int .i64 r2, .int .i64 r3], .agg #[.int .i64 r4, .int .i64 r5, .int .i64 r6], .agg #[.int .i64 r7, .int .i64 r8, .int .i64 r9]] w fun en w' => en = .returned (.bool fl) ∧ Below w.heap.size w w') ∧ Hid (∀ w, Calls Try.prog 14 #[.agg #[.int .i64 r1, .int .i64 r2, .int .i64 r3], .agg #[.int .i64 r4, .int .i64 r5, .int .i64 r6], .agg #[.int .i64 r7, .int .i64 r8, .int .i64 r9]] w fun en w' => en = .returned (.int .i64 ar) ∧ Below w.heap.size w w') := by
        rw [HLA.out]
        obtain rfl | rfl | rfl | rfl | rfl : k = 0 ∨ k = 1 ∨ k = 2 ∨ k = 3 ∨ k = 4 := by omega
        · exact ⟨b1, b2, b3, c1, c2, c3, a1, a2, a3, ⟨rfl, rfl, rfl, rfl, rfl, rfl, rfl, rfl, rfl⟩, H1, F1, A1⟩
        · exact ⟨c1, c2, c3, a1, a2, a3, b1, b2, b3, ⟨rfl, rfl, rfl, rfl, rfl, rfl, rfl, rfl, rfl⟩, H2, F2, A2⟩
        · exact ⟨a1, a2, a3, c1, c2, c3, b1, b2, b3, ⟨rfl, rfl, rfl, rfl, rfl, rfl, rfl, rfl, rfl⟩, H3, F3, A3⟩
        · exact ⟨c1, c2, c3, b1, b2, b3, a1, a2, a3, ⟨rfl, rfl, rfl, rfl, rfl, rfl, rfl, rfl, rfl⟩, H4, F4, A4⟩
        · exact ⟨b1, b2, b3, a1, a2, a3, c1, c2, c3, ⟨rfl, rfl, rfl, rfl, rfl, rfl, rfl, rfl, rfl⟩, H5, F5, A5⟩
      obtain ⟨r1, r2, r3, r4, r5, r6, r7, r8, r9, ⟨l0, l1, l2, l3, l4, l5, l6, l7, l8⟩, KHR, KFR, KAR⟩ := row
      clear HMM H1 H2 H3 H4 H5 F1 F2 F3 F4 F5 A1 A2 A3 A4 A5
      obtain ⟨c_a_0, c_a_1, c_a_2⟩ := bwc3 (k_a)
      obtain ⟨c_b_0, c_b_1, c_b_2⟩ := bwc3 (k_b)
      obtain ⟨c_c_0, c_c_1, c_c_2⟩ := bwc3 (k_c)
      obtain ⟨c_y_0, c_y_1, c_y_2, c_y_3, c_y_4, c_y_5, c_y_6⟩ := bwc7 (k_y)
      obtain ⟨c_m_0, c_m_1, c_m_2⟩ := bwc3 (k_m)
      obtain ⟨c_t_0, c_t_1⟩ := bwc2 (k_t)
      have c_l_r0 : ∀ p : BW wr, p.w.cell? ⟨g_l, k * 9, none⟩ = some (.int .i64 r1) := bw_cell (k_l.cell l0)
      have c_l_r1 : ∀ p : BW wr, p.w.cell? ⟨g_l, k * 9 + 1, none⟩ = some (.int .i64 r2) := bw_cell (k_l.cell l1)
      have c_l_r2 : ∀ p : BW wr, p.w.cell? ⟨g_l, k * 9 + 2, none⟩ = some (.int .i64 r3) := bw_cell (k_l.cell l2)
      have c_l_r3 : ∀ p : BW wr, p.w.cell? ⟨g_l, k * 9 + 3, none⟩ = some (.int .i64 r4) := bw_cell (k_l.cell l3)
      have c_l_r4 : ∀ p : BW wr, p.w.cell? ⟨g_l, k * 9 + 4, none⟩ = some (.int .i64 r5) := bw_cell (k_l.cell l4)
      have c_l_s4 : ∀ p : BW wr, p.w.cell? ⟨g_l, k * 9 + 3 + 1, none⟩ = some (.int .i64 r5) := bw_cell (k_l.cell l4)
      have c_l_r5 : ∀ p : BW wr, p.w.cell? ⟨g_l, k * 9 + 5, none⟩ = some (.int .i64 r6) := bw_cell (k_l.cell l5)
      have c_l_s5 : ∀ p : BW wr, p.w.cell? ⟨g_l, k * 9 + 3 + 2, none⟩ = some (.int .i64 r6) := bw_cell (k_l.cell l5)
      have c_l_r6 : ∀ p : BW wr, p.w.cell? ⟨g_l, k * 9 + 6, none⟩ = some (.int .i64 r7) := bw_cell (k_l.cell l6)
      have c_l_r7 : ∀ p : BW wr, p.w.cell? ⟨g_l, k * 9 + 7, none⟩ = some (.int .i64 r8) := bw_cell (k_l.cell l7)
      have c_l_s7 : ∀ p : BW wr, p.w.cell? ⟨g_l, k * 9 + 6 + 1, none⟩ = some (.int .i64 r8) := bw_cell (k_l.cell l7)
      have c_l_r8 : ∀ p : BW wr, p.w.cell? ⟨g_l, k * 9 + 8, none⟩ = some (.int .i64 r9) := bw_cell (k_l.cell l8)
      have c_l_s8 : ∀ p : BW wr, p.w.cell? ⟨g_l, k * 9 + 6 + 2, none⟩ = some (.int .i64 r9) := bw_cell (k_l.cell l8)
      obtain ⟨p20, hp20⟩ : ∃ p : BW wr, p.w = wr := ⟨BW.start wr, rfl⟩
      rw [← hp20]
      clear hp20
      go_upto_region 8 with (fail)
      refine wp_region_late 16 18 103 (by kernel_rfl) (by kernel_rfl) rfl rfl rfl (fun _ _ _ _ h => h) ?_
      refine any_region_float (t := 29) (zs := #[.int .i64 0, .int .i64 0]) 18 17 15 208 (by kernel_rfl) (by kernel_rfl) (by kernel_rfl) (by kernel_rfl) rfl ?_ ?_
      · intro ev wx
        simp [execOp, go_sem]
      apply Exists.intro
      refine ⟨?_, ?_⟩
      · intro wb' hwb'
        obtain ⟨d_a_0, d_a_1, d_a_2⟩ := bwc3 (k_a.below hwb')
        obtain ⟨d_b_0, d_b_1, d_b_2⟩ := bwc3 (k_b.below hwb')
        obtain ⟨d_c_0, d_c_1, d_c_2⟩ := bwc3 (k_c.below hwb')
        obtain ⟨d_y_0, d_y_1, d_y_2, d_y_3, d_y_4, d_y_5, d_y_6⟩ := bwc7 (k_y.below hwb')
        obtain ⟨d_m_0, d_m_1, d_m_2⟩ := bwc3 (k_m.below hwb')
        obtain ⟨d_t_0, d_t_1⟩ := bwc2 (k_t.below hwb')
        have d_l_r0 : ∀ q : BW wb', q.w.cell? ⟨g_l, k * 9, none⟩ = some (.int .i64 r1) := bw_cell ((k_l.below hwb').cell l0)
        have d_l_r1 : ∀ q : BW wb', q.w.cell? ⟨g_l, k * 9 + 1, none⟩ = some (.int .i64 r2) := bw_cell ((k_l.below hwb').cell l1)
        have d_l_r2 : ∀ q : BW wb', q.w.cell? ⟨g_l, k * 9 + 2, none⟩ = some (.int .i64 r3) := bw_cell ((k_l.below hwb').cell l2)
        have d_l_r3 : ∀ q : BW wb', q.w.cell? ⟨g_l, k * 9 + 3, none⟩ = some (.int .i64 r4) := bw_cell ((k_l.below hwb').cell l3)
        have d_l_r4 : ∀ q : BW wb', q.w.cell? ⟨g_l, k * 9 + 4, none⟩ = some (.int .i64 r5) := bw_cell ((k_l.below hwb').cell l4)
        have d_l_s4 : ∀ q : BW wb', q.w.cell? ⟨g_l, k * 9 + 3 + 1, none⟩ = some (.int .i64 r5) := bw_cell ((k_l.below hwb').cell l4)
        have d_l_r5 : ∀ q : BW wb', q.w.cell? ⟨g_l, k * 9 + 5, none⟩ = some (.int .i64 r6) := bw_cell ((k_l.below hwb').cell l5)
        have d_l_s5 : ∀ q : BW wb', q.w.cell? ⟨g_l, k * 9 + 3 + 2, none⟩ = some (.int .i64 r6) := bw_cell ((k_l.below hwb').cell l5)
        have d_l_r6 : ∀ q : BW wb', q.w.cell? ⟨g_l, k * 9 + 6, none⟩ = some (.int .i64 r7) := bw_cell ((k_l.below hwb').cell l6)
        have d_l_r7 : ∀ q : BW wb', q.w.cell? ⟨g_l, k * 9 + 7, none⟩ = some (.int .i64 r8) := bw_cell ((k_l.below hwb').cell l7)
        have d_l_s7 : ∀ q : BW wb', q.w.cell? ⟨g_l, k * 9 + 6 + 1, none⟩ = some (.int .i64 r8) := bw_cell ((k_l.below hwb').cell l7)
        have d_l_r8 : ∀ q : BW wb', q.w.cell? ⟨g_l, k * 9 + 8, none⟩ = some (.int .i64 r9) := bw_cell ((k_l.below hwb').cell l8)
        have d_l_s8 : ∀ q : BW wb', q.w.cell? ⟨g_l, k * 9 + 6 + 2, none⟩ = some (.int .i64 r9) := bw_cell ((k_l.below hwb').cell l8)
        simp only [edgeAt, maskAt, List.take_succ_cons, List.take_zero]
        repeat (go_big_quiet_step (first
          | (go_at_call 8; (first | (with_reducible exact bw_call KHR.out _)))))
        refine wpQuiet_nil ?_
        exact rfl
      intro W21 g_x hW hg k_x
      have B21 : Below w.heap.size w W21 := B20.trans (hW.mono B20.size)
      have o_x : w.heap.size ≤ g_x := Nat.le_trans B20.size hg
      have l_x : g_l < g_x := Nat.lt_of_lt_of_le k_l.lt hg
      have k_a := k_a.below hW
      have k_b := k_b.below hW
      have k_c := k_c.below hW
      have k_y := k_y.below hW
      have k_m := k_m.below hW
      have k_t := k_t.below hW
      have k_l := k_l.below hW
      clear hW hg B20
      clear c_a_0 c_a_1 c_a_2 c_b_0 c_b_1 c_b_2 c_c_0 c_c_1 c_c_2 c_y_0 c_y_1 c_y_2 c_y_3 c_y_4 c_y_5 c_y_6 c_m_0 c_m_1 c_m_2 c_t_0 c_t_1 c_l_r0 c_l_r1 c_l_r2 c_l_r3 c_l_r4 c_l_s4 c_l_r5 c_l_s5 c_l_r6 c_l_r7 c_l_s7 c_l_r8 c_l_s8
      simp only [edgeAt, List.drop_succ_cons, List.drop_zero, Act.put, List.setIfInBounds_toArray, List.set_cons_zero, List.set_cons_succ]
      obtain ⟨c_a_0, c_a_1, c_a_2⟩ := bwc3 (k_a)
      obtain ⟨c_b_0, c_b_1, c_b_2⟩ := bwc3 (k_b)
      obtain ⟨c_c_0, c_c_1, c_c_2⟩ := bwc3 (k_c)
      obtain ⟨c_y_0, c_y_1, c_y_2, c_y_3, c_y_4, c_y_5, c_y_6⟩ := bwc7 (k_y)
      obtain ⟨c_m_0, c_m_1, c_m_2⟩ := bwc3 (k_m)
      obtain ⟨c_t_0, c_t_1⟩ := bwc2 (k_t)
      have c_l_r0 : ∀ p : BW W21, p.w.cell? ⟨g_l, k * 9, none⟩ = some (.int .i64 r1) := bw_cell (k_l.cell l0)
      have c_l_r1 : ∀ p : BW W21, p.w.cell? ⟨g_l, k * 9 + 1, none⟩ = some (.int .i64 r2) := bw_cell (k_l.cell l1)
      have c_l_r2 : ∀ p : BW W21, p.w.cell? ⟨g_l, k * 9 + 2, none⟩ = some (.int .i64 r3) := bw_cell (k_l.cell l2)
      have c_l_r3 : ∀ p : BW W21, p.w.cell? ⟨g_l, k * 9 + 3, none⟩ = some (.int .i64 r4) := bw_cell (k_l.cell l3)
      have c_l_r4 : ∀ p : BW W21, p.w.cell? ⟨g_l, k * 9 + 4, none⟩ = some (.int .i64 r5) := bw_cell (k_l.cell l4)
      have c_l_s4 : ∀ p : BW W21, p.w.cell? ⟨g_l, k * 9 + 3 + 1, none⟩ = some (.int .i64 r5) := bw_cell (k_l.cell l4)
      have c_l_r5 : ∀ p : BW W21, p.w.cell? ⟨g_l, k * 9 + 5, none⟩ = some (.int .i64 r6) := bw_cell (k_l.cell l5)
      have c_l_s5 : ∀ p : BW W21, p.w.cell? ⟨g_l, k * 9 + 3 + 2, none⟩ = some (.int .i64 r6) := bw_cell (k_l.cell l5)
      have c_l_r6 : ∀ p : BW W21, p.w.cell? ⟨g_l, k * 9 + 6, none⟩ = some (.int .i64 r7) := bw_cell (k_l.cell l6)
      have c_l_r7 : ∀ p : BW W21, p.w.cell? ⟨g_l, k * 9 + 7, none⟩ = some (.int .i64 r8) := bw_cell (k_l.cell l7)
      have c_l_s7 : ∀ p : BW W21, p.w.cell? ⟨g_l, k * 9 + 6 + 1, none⟩ = some (.int .i64 r8) := bw_cell (k_l.cell l7)
      have c_l_r8 : ∀ p : BW W21, p.w.cell? ⟨g_l, k * 9 + 8, none⟩ = some (.int .i64 r9) := bw_cell (k_l.cell l8)
      have c_l_s8 : ∀ p : BW W21, p.w.cell? ⟨g_l, k * 9 + 6 + 2, none⟩ = some (.int .i64 r9) := bw_cell (k_l.cell l8)
      obtain ⟨c_x_0, c_x_1⟩ := bwc2 (k_x)
      obtain ⟨f_x_0, f_x_1⟩ := bwf2 (k_x)
      obtain ⟨p21, hp21⟩ : ∃ p : BW W21, p.w = W21 := ⟨BW.start W21, rfl⟩
      rw [← hp21]
      clear hp21
      go_upto_region 9 with (fail)
      obtain ⟨W22, hW22⟩ : ∃ W, W = (p21.w.setCell ⟨g_x, 0, none⟩ (.int .i64 hn)).setCell ⟨g_x, 1, none⟩ (.int .i64 hd) := ⟨_, rfl⟩
      have B22 : Below w.heap.size w W22 := by rw [hW22]; exact blp2 (bw_below B21 p21) (by omega)
      have k_a := bkoe2 hW22 (k_a.below p21.h) (by omega)
      have k_b := bkoe2 hW22 (k_b.below p21.h) (by omega)
      have k_c := bkoe2 hW22 (k_c.below p21.h) (by omega)
      have k_y := bkoe2 hW22 (k_y.below p21.h) (by omega)
      have k_m := bkoe2 hW22 (k_m.below p21.h) (by omega)
      have k_t := bkoe2 hW22 (k_t.below p21.h) (by omega)
      have k_l := bkoe2 hW22 (k_l.below p21.h) (by omega)
      have k_x := bkpe2 hW22 (k_x.below p21.h)
      rw [← hW22]
      clear hW22
      clear B21
      clear c_a_0 c_a_1 c_a_2 c_b_0 c_b_1 c_b_2 c_c_0 c_c_1 c_c_2 c_y_0 c_y_1 c_y_2 c_y_3 c_y_4 c_y_5 c_y_6 c_m_0 c_m_1 c_m_2 c_t_0 c_t_1 c_l_r0 c_l_r1 c_l_r2 c_l_r3 c_l_r4 c_l_s4 c_l_r5 c_l_s5 c_l_r6 c_l_r7 c_l_s7 c_l_r8 c_l_s8 c_x_0 c_x_1 f_x_0 f_x_1
      obtain ⟨c_a_0, c_a_1, c_a_2⟩ := bwc3 (k_a)
      obtain ⟨c_b_0, c_b_1, c_b_2⟩ := bwc3 (k_b)
      obtain ⟨c_c_0, c_c_1, c_c_2⟩ := bwc3 (k_c)
      obtain ⟨c_y_0, c_y_1, c_y_2, c_y_3, c_y_4, c_y_5, c_y_6⟩ := bwc7 (k_y)
      obtain ⟨c_m_0, c_m_1, c_m_2⟩ := bwc3 (k_m)
      obtain ⟨c_t_0, c_t_1⟩ := bwc2 (k_t)
      have c_l_r0 : ∀ p : BW W22, p.w.cell? ⟨g_l, k * 9, none⟩ = some (.int .i64 r1) := bw_cell (k_l.cell l0)
      have c_l_r1 : ∀ p : BW W22, p.w.cell? ⟨g_l, k * 9 + 1, none⟩ = some (.int .i64 r2) := bw_cell (k_l.cell l1)
      have c_l_r2 : ∀ p : BW W22, p.w.cell? ⟨g_l, k * 9 + 2, none⟩ = some (.int .i64 r3) := bw_cell (k_l.cell l2)
      have c_l_r3 : ∀ p : BW W22, p.w.cell? ⟨g_l, k * 9 + 3, none⟩ = some (.int .i64 r4) := bw_cell (k_l.cell l3)
      have c_l_r4 : ∀ p : BW W22, p.w.cell? ⟨g_l, k * 9 + 4, none⟩ = some (.int .i64 r5) := bw_cell (k_l.cell l4)
      have c_l_s4 : ∀ p : BW W22, p.w.cell? ⟨g_l, k * 9 + 3 + 1, none⟩ = some (.int .i64 r5) := bw_cell (k_l.cell l4)
      have c_l_r5 : ∀ p : BW W22, p.w.cell? ⟨g_l, k * 9 + 5, none⟩ = some (.int .i64 r6) := bw_cell (k_l.cell l5)
      have c_l_s5 : ∀ p : BW W22, p.w.cell? ⟨g_l, k * 9 + 3 + 2, none⟩ = some (.int .i64 r6) := bw_cell (k_l.cell l5)
      have c_l_r6 : ∀ p : BW W22, p.w.cell? ⟨g_l, k * 9 + 6, none⟩ = some (.int .i64 r7) := bw_cell (k_l.cell l6)
      have c_l_r7 : ∀ p : BW W22, p.w.cell? ⟨g_l, k * 9 + 7, none⟩ = some (.int .i64 r8) := bw_cell (k_l.cell l7)
      have c_l_s7 : ∀ p : BW W22, p.w.cell? ⟨g_l, k * 9 + 6 + 1, none⟩ = some (.int .i64 r8) := bw_cell (k_l.cell l7)
      have c_l_r8 : ∀ p : BW W22, p.w.cell? ⟨g_l, k * 9 + 8, none⟩ = some (.int .i64 r9) := bw_cell (k_l.cell l8)
      have c_l_s8 : ∀ p : BW W22, p.w.cell? ⟨g_l, k * 9 + 6 + 2, none⟩ = some (.int .i64 r9) := bw_cell (k_l.cell l8)
      obtain ⟨c_x_0, c_x_1⟩ := bwc2 (k_x)
      obtain ⟨p22, hp22⟩ : ∃ p : BW W22, p.w = W22 := ⟨BW.start W22, rfl⟩
      rw [← hp22]
      clear hp22
      refine wp_region_bw (by kernel_rfl) (by kernel_rfl) ?_
      repeat (go_big_quiet_step (first
        | (go_at_call 12; (first | (with_reducible exact bw_call KFR.out _) | (with_reducible exact bw_call F0.out _)))
        | (go_at_call 14; (first | (with_reducible exact bw_call KAR.out _) | (with_reducible exact bw_call A0.out _)))))
      refine wpQuiet_nil ?_
      intro _ hw'
      obtain ⟨q, rfl⟩ := hw'
      go_wp2
      go_roundw
      case rel => exact ⟨k + 1, by omega, by go_num, k_a.below q.h, k_b.below q.h, k_c.below q.h, k_y.below q.h, k_m.below q.h, k_t.below q.h, k_l.below q.h, bw_below B22 _⟩
      case measure => simp [intOf]; omega
    · clear k_l H1 H2 H3 H4 H5 F0 F1 F2 F3 F4 F5 A0 A1 A2 A3 A4 A5
      obtain rfl : k = 5 := by omega
      obtain ⟨c_a_0, c_a_1, c_a_2⟩ := bwc3 (k_a)
      obtain ⟨c_b_0, c_b_1, c_b_2⟩ := bwc3 (k_b)
      obtain ⟨c_c_0, c_c_1, c_c_2⟩ := bwc3 (k_c)
      obtain ⟨c_y_0, c_y_1, c_y_2, c_y_3, c_y_4, c_y_5, c_y_6⟩ := bwc7 (k_y)
      obtain ⟨c_m_0, c_m_1, c_m_2⟩ := bwc3 (k_m)
      obtain ⟨c_t_0, c_t_1⟩ := bwc2 (k_t)
      obtain ⟨p20, hp20⟩ : ∃ p : BW wr, p.w = wr := ⟨BW.start wr, rfl⟩
      rw [← hp20]
      clear hp20
      go_upto_region 11 with (fail)
      refine wp_region_floatL 17 208 [⟨13, 17, 23, #[.int .i64 0, .int .i64 0, .int .i64 0]⟩, ⟨14, 18, 23, #[.int .i64 0, .int .i64 0, .int .i64 0]⟩, ⟨15, 19, 23, #[.int .i64 0, .int .i64 0, .int .i64 0]⟩, ⟨16, 20, 23, #[.int .i64 0, .int .i64 0, .int .i64 0]⟩] (by kernel_rfl) (by kernel_rfl) (by kernel_rfl) (by kernel_rfl) (by kernel_rfl) (by decide) (by kernel_rfl) ?_ ?_
      · exact ⟨⟨_, rfl, fun ev wx => by simp [execOp, go_sem]⟩, ⟨_, rfl, fun ev wx => by simp [execOp, go_sem]⟩, ⟨_, rfl, fun ev wx => by simp [execOp, go_sem]⟩, ⟨_, rfl, fun ev wx => by simp [execOp, go_sem]⟩, trivial⟩
      apply Exists.intro
      refine ⟨?_, ?_⟩
      · intro wb' hwb'
        obtain ⟨d_a_0, d_a_1, d_a_2⟩ := bwc3 (k_a.below hwb')
        obtain ⟨d_b_0, d_b_1, d_b_2⟩ := bwc3 (k_b.below hwb')
        obtain ⟨d_c_0, d_c_1, d_c_2⟩ := bwc3 (k_c.below hwb')
        obtain ⟨d_y_0, d_y_1, d_y_2, d_y_3, d_y_4, d_y_5, d_y_6⟩ := bwc7 (k_y.below hwb')
        obtain ⟨d_m_0, d_m_1, d_m_2⟩ := bwc3 (k_m.below hwb')
        obtain ⟨d_t_0, d_t_1⟩ := bwc2 (k_t.below hwb')
        simp only [List.map_cons, List.map_nil, maskL, List.foldr_cons, List.foldr_nil, maskAt, List.take_succ_cons, List.take_zero]
        repeat (go_big_quiet_step (first
          | (go_at_call 20; (first | (with_reducible exact bw_call KB1.out _) | (with_reducible exact bw_call KB2.out _) | (with_reducible exact bw_call KB3.out _) | (with_reducible exact bw_call KB4.out _)))))
        refine wpQuiet_nil ?_
        exact rfl
      intro W21 st hW hst hne
      obtain ⟨g_d, e_d, hg_d, k_d⟩ := hst 0 _ rfl
      obtain ⟨g_e, e_e, hg_e, k_e⟩ := hst 1 _ rfl
      obtain ⟨g_f, e_f, hg_f, k_f⟩ := hst 2 _ rfl
      obtain ⟨g_o, e_o, hg_o, k_o⟩ := hst 3 _ rfl
      have n_d_e : g_d ≠ g_e := fun e => hne 0 1 _ (by simp) (by simp) (by omega) e_d (by rw [e]; exact e_e)
      have n_d_f : g_d ≠ g_f := fun e => hne 0 2 _ (by simp) (by simp) (by omega) e_d (by rw [e]; exact e_f)
      have n_d_o : g_d ≠ g_o := fun e => hne 0 3 _ (by simp) (by simp) (by omega) e_d (by rw [e]; exact e_o)
      have n_e_f : g_e ≠ g_f := fun e => hne 1 2 _ (by simp) (by simp) (by omega) e_e (by rw [e]; exact e_f)
      have n_e_o : g_e ≠ g_o := fun e => hne 1 3 _ (by simp) (by simp) (by omega) e_e (by rw [e]; exact e_o)
      have n_f_o : g_f ≠ g_o := fun e => hne 2 3 _ (by simp) (by simp) (by omega) e_f (by rw [e]; exact e_o)
      have B21 : Below w.heap.size w W21 := B20.trans (hW.mono B20.size)
      have l_d : g_t < g_d := Nat.lt_of_lt_of_le k_t.lt hg_d
      have l_e : g_t < g_e := Nat.lt_of_lt_of_le k_t.lt hg_e
      have l_f : g_t < g_f := Nat.lt_of_lt_of_le k_t.lt hg_f
      have l_o : g_t < g_o := Nat.lt_of_lt_of_le k_t.lt hg_o
      have k_a := k_a.below hW
      have k_b := k_b.below hW
      have k_c := k_c.below hW
      have k_y := k_y.below hW
      have k_m := k_m.below hW
      have k_t := k_t.below hW
      simp only [List.drop_succ_cons, List.drop_zero, putAll, Nat.zero_add, Nat.reduceAdd, e_d, e_e, e_f, e_o, putO, Act.put, List.setIfInBounds_toArray, List.set_cons_zero, List.set_cons_succ]
      clear hW hst hne B20 hg_d e_d hg_e e_e hg_f e_f hg_o e_o
      clear c_a_0 c_a_1 c_a_2 c_b_0 c_b_1 c_b_2 c_c_0 c_c_1 c_c_2 c_y_0 c_y_1 c_y_2 c_y_3 c_y_4 c_y_5 c_y_6 c_m_0 c_m_1 c_m_2 c_t_0 c_t_1
      obtain ⟨c_a_0, c_a_1, c_a_2⟩ := bwc3 (k_a)
      obtain ⟨c_b_0, c_b_1, c_b_2⟩ := bwc3 (k_b)
      obtain ⟨c_c_0, c_c_1, c_c_2⟩ := bwc3 (k_c)
      obtain ⟨c_y_0, c_y_1, c_y_2, c_y_3, c_y_4, c_y_5, c_y_6⟩ := bwc7 (k_y)
      obtain ⟨c_m_0, c_m_1, c_m_2⟩ := bwc3 (k_m)
      obtain ⟨c_t_0, c_t_1⟩ := bwc2 (k_t)
      obtain ⟨c_d_0, c_d_1, c_d_2⟩ := bwc3 (k_d)
      obtain ⟨f_d_0, f_d_1, f_d_2⟩ := bwf3 (k_d)
      obtain ⟨c_e_0, c_e_1, c_e_2⟩ := bwc3 (k_e)
      obtain ⟨f_e_0, f_e_1, f_e_2⟩ := bwf3 (k_e)
      obtain ⟨c_f_0, c_f_1, c_f_2⟩ := bwc3 (k_f)
      obtain ⟨f_f_0, f_f_1, f_f_2⟩ := bwf3 (k_f)
      obtain ⟨c_o_0, c_o_1, c_o_2⟩ := bwc3 (k_o)
      obtain ⟨f_o_0, f_o_1, f_o_2⟩ := bwf3 (k_o)
      obtain ⟨p21, hp21⟩ : ∃ p : BW W21, p.w = W21 := ⟨BW.start W21, rfl⟩
      rw [← hp21]
      clear hp21
      go_upto_region 12 with (fail)
      obtain ⟨W22, hW22⟩ : ∃ W, W = ((p21.w.setCell ⟨g_d, 0, none⟩ (.int .i64 aa1)).setCell ⟨g_d, 1, none⟩ (.int .i64 aa2)).setCell ⟨g_d, 2, none⟩ (.int .i64 aa3) := ⟨_, rfl⟩
      have B22 : Below w.heap.size w W22 := by rw [hW22]; exact blp3 (bw_below B21 p21) (by omega)
      have k_a := bkoe3 hW22 (k_a.below p21.h) (by omega)
      have k_b := bkoe3 hW22 (k_b.below p21.h) (by omega)
      have k_c := bkoe3 hW22 (k_c.below p21.h) (by omega)
      have k_y := bkoe3 hW22 (k_y.below p21.h) (by omega)
      have k_m := bkoe3 hW22 (k_m.below p21.h) (by omega)
      have k_t := bkoe3 hW22 (k_t.below p21.h) (by omega)
      have k_d := bkpe3 hW22 (k_d.below p21.h)
      have k_e := bkoe3 hW22 (k_e.below p21.h) (by omega)
      have k_f := bkoe3 hW22 (k_f.below p21.h) (by omega)
      have k_o := bkoe3 hW22 (k_o.below p21.h) (by omega)
      rw [← hW22]
      clear hW22
      clear B21
      clear c_a_0 c_a_1 c_a_2 c_b_0 c_b_1 c_b_2 c_c_0 c_c_1 c_c_2 c_y_0 c_y_1 c_y_2 c_y_3 c_y_4 c_y_5 c_y_6 c_m_0 c_m_1 c_m_2 c_t_0 c_t_1 c_d_0 c_d_1 c_d_2 f_d_0 f_d_1 f_d_2 c_e_0 c_e_1 c_e_2 f_e_0 f_e_1 f_e_2 c_f_0 c_f_1 c_f_2 f_f_0 f_f_1 f_f_2 c_o_0 c_o_1 c_o_2 f_o_0 f_o_1 f_o_2
      obtain ⟨c_a_0, c_a_1, c_a_2⟩ := bwc3 (k_a)
      obtain ⟨c_b_0, c_b_1, c_b_2⟩ := bwc3 (k_b)
      obtain ⟨c_c_0, c_c_1, c_c_2⟩ := bwc3 (k_c)
      obtain ⟨c_y_0, c_y_1, c_y_2, c_y_3, c_y_4, c_y_5, c_y_6⟩ := bwc7 (k_y)
      obtain ⟨c_m_0, c_m_1, c_m_2⟩ := bwc3 (k_m)
      obtain ⟨c_t_0, c_t_1⟩ := bwc2 (k_t)
      obtain ⟨c_d_0, c_d_1, c_d_2⟩ := bwc3 (k_d)
      obtain ⟨f_d_0, f_d_1, f_d_2⟩ := bwf3 (k_d)
      obtain ⟨c_e_0, c_e_1, c_e_2⟩ := bwc3 (k_e)
      obtain ⟨f_e_0, f_e_1, f_e_2⟩ := bwf3 (k_e)
      obtain ⟨c_f_0, c_f_1, c_f_2⟩ := bwc3 (k_f)
      obtain ⟨f_f_0, f_f_1, f_f_2⟩ := bwf3 (k_f)
      obtain ⟨c_o_0, c_o_1, c_o_2⟩ := bwc3 (k_o)
      obtain ⟨f_o_0, f_o_1, f_o_2⟩ := bwf3 (k_o)
      obtain ⟨p22, hp22⟩ : ∃ p : BW W22, p.w = W22 := ⟨BW.start W22, rfl⟩
      rw [← hp22]
      clear hp22
      obtain ⟨W23, hW23⟩ : ∃ W, W = ((p22.w.setCell ⟨g_e, 0, none⟩ (.int .i64 bb1)).setCell ⟨g_e, 1, none⟩ (.int .i64 bb2)).setCell ⟨g_e, 2, none⟩ (.int .i64 bb3) := ⟨_, rfl⟩
      have B23 : Below w.heap.size w W23 := by rw [hW23]; exact blp3 (bw_below B22 p22) (by omega)
      have k_a := bkoe3 hW23 (k_a.below p22.h) (by omega)
      have k_b := bkoe3 hW23 (k_b.below p22.h) (by omega)
      have k_c := bkoe3 hW23 (k_c.below p22.h) (by omega)
      have k_y := bkoe3 hW23 (k_y.below p22.h) (by omega)
      have k_m := bkoe3 hW23 (k_m.below p22.h) (by omega)
      have k_t := bkoe3 hW23 (k_t.below p22.h) (by omega)
      have k_d := bkoe3 hW23 (k_d.below p22.h) (by omega)
      have k_e := bkpe3 hW23 (k_e.below p22.h)
      have k_f := bkoe3 hW23 (k_f.below p22.h) (by omega)
      have k_o := bkoe3 hW23 (k_o.below p22.h) (by omega)
      rw [← hW23]
      clear hW23
      clear B22
      clear c_a_0 c_a_1 c_a_2 c_b_0 c_b_1 c_b_2 c_c_0 c_c_1 c_c_2 c_y_0 c_y_1 c_y_2 c_y_3 c_y_4 c_y_5 c_y_6 c_m_0 c_m_1 c_m_2 c_t_0 c_t_1 c_d_0 c_d_1 c_d_2 f_d_0 f_d_1 f_d_2 c_e_0 c_e_1 c_e_2 f_e_0 f_e_1 f_e_2 c_f_0 c_f_1 c_f_2 f_f_0 f_f_1 f_f_2 c_o_0 c_o_1 c_o_2 f_o_0 f_o_1 f_o_2
      obtain ⟨c_a_0, c_a_1, c_a_2⟩ := bwc3 (k_a)
      obtain ⟨c_b_0, c_b_1, c_b_2⟩ := bwc3 (k_b)
      obtain ⟨c_c_0, c_c_1, c_c_2⟩ := bwc3 (k_c)
      obtain ⟨c_y_0, c_y_1, c_y_2, c_y_3, c_y_4, c_y_5, c_y_6⟩ := bwc7 (k_y)
      obtain ⟨c_m_0, c_m_1, c_m_2⟩ := bwc3 (k_m)
      obtain ⟨c_t_0, c_t_1⟩ := bwc2 (k_t)
      obtain ⟨c_d_0, c_d_1, c_d_2⟩ := bwc3 (k_d)
      obtain ⟨f_d_0, f_d_1, f_d_2⟩ := bwf3 (k_d)
      obtain ⟨c_e_0, c_e_1, c_e_2⟩ := bwc3 (k_e)
      obtain ⟨f_e_0, f_e_1, f_e_2⟩ := bwf3 (k_e)
      obtain ⟨c_f_0, c_f_1, c_f_2⟩ := bwc3 (k_f)
      obtain ⟨f_f_0, f_f_1, f_f_2⟩ := bwf3 (k_f)
      obtain ⟨c_o_0, c_o_1, c_o_2⟩ := bwc3 (k_o)
      obtain ⟨f_o_0, f_o_1, f_o_2⟩ := bwf3 (k_o)
      obtain ⟨p23, hp23⟩ : ∃ p : BW W23, p.w = W23 := ⟨BW.start W23, rfl⟩
      rw [← hp23]
      clear hp23
      obtain ⟨W24, hW24⟩ : ∃ W, W = ((p23.w.setCell ⟨g_f, 0, none⟩ (.int .i64 cc1)).setCell ⟨g_f, 1, none⟩ (.int .i64 cc2)).setCell ⟨g_f, 2, none⟩ (.int .i64 cc3) := ⟨_, rfl⟩
      have B24 : Below w.heap.size w W24 := by rw [hW24]; exact blp3 (bw_below B23 p23) (by omega)
      have k_a := bkoe3 hW24 (k_a.below p23.h) (by omega)
      have k_b := bkoe3 hW24 (k_b.below p23.h) (by omega)
      have k_c := bkoe3 hW24 (k_c.below p23.h) (by omega)
      have k_y := bkoe3 hW24 (k_y.below p23.h) (by omega)
      have k_m := bkoe3 hW24 (k_m.below p23.h) (by omega)
      have k_t := bkoe3 hW24 (k_t.below p23.h) (by omega)
      have k_d := bkoe3 hW24 (k_d.below p23.h) (by omega)
      have k_e := bkoe3 hW24 (k_e.below p23.h) (by omega)
      have k_f := bkpe3 hW24 (k_f.below p23.h)
      have k_o := bkoe3 hW24 (k_o.below p23.h) (by omega)
      rw [← hW24]
      clear hW24
      clear B23
      clear c_a_0 c_a_1 c_a_2 c_b_0 c_b_1 c_b_2 c_c_0 c_c_1 c_c_2 c_y_0 c_y_1 c_y_2 c_y_3 c_y_4 c_y_5 c_y_6 c_m_0 c_m_1 c_m_2 c_t_0 c_t_1 c_d_0 c_d_1 c_d_2 f_d_0 f_d_1 f_d_2 c_e_0 c_e_1 c_e_2 f_e_0 f_e_1 f_e_2 c_f_0 c_f_1 c_f_2 f_f_0 f_f_1 f_f_2 c_o_0 c_o_1 c_o_2 f_o_0 f_o_1 f_o_2
      obtain ⟨c_a_0, c_a_1, c_a_2⟩ := bwc3 (k_a)
      obtain ⟨c_b_0, c_b_1, c_b_2⟩ := bwc3 (k_b)
      obtain ⟨c_c_0, c_c_1, c_c_2⟩ := bwc3 (k_c)
      obtain ⟨c_y_0, c_y_1, c_y_2, c_y_3, c_y_4, c_y_5, c_y_6⟩ := bwc7 (k_y)
      obtain ⟨c_m_0, c_m_1, c_m_2⟩ := bwc3 (k_m)
      obtain ⟨c_t_0, c_t_1⟩ := bwc2 (k_t)
      obtain ⟨c_d_0, c_d_1, c_d_2⟩ := bwc3 (k_d)
      obtain ⟨f_d_0, f_d_1, f_d_2⟩ := bwf3 (k_d)
      obtain ⟨c_e_0, c_e_1, c_e_2⟩ := bwc3 (k_e)
      obtain ⟨f_e_0, f_e_1, f_e_2⟩ := bwf3 (k_e)
      obtain ⟨c_f_0, c_f_1, c_f_2⟩ := bwc3 (k_f)
      obtain ⟨f_f_0, f_f_1, f_f_2⟩ := bwf3 (k_f)
      obtain ⟨c_o_0, c_o_1, c_o_2⟩ := bwc3 (k_o)
      obtain ⟨f_o_0, f_o_1, f_o_2⟩ := bwf3 (k_o)
      obtain ⟨p24, hp24⟩ : ∃ p : BW W24, p.w = W24 := ⟨BW.start W24, rfl⟩
      rw [← hp24]
      clear hp24
      obtain ⟨W25, hW25⟩ : ∃ W, W = ((p24.w.setCell ⟨g_o, 0, none⟩ (.int .i64 oo1)).setCell ⟨g_o, 1, none⟩ (.int .i64 oo2)).setCell ⟨g_o, 2, none⟩ (.int .i64 oo3) := ⟨_, rfl⟩
      have B25 : Below w.heap.size w W25 := by rw [hW25]; exact blp3 (bw_below B24 p24) (by omega)
      have k_a := bkoe3 hW25 (k_a.below p24.h) (by omega)
      have k_b := bkoe3 hW25 (k_b.below p24.h) (by omega)
      have k_c := bkoe3 hW25 (k_c.below p24.h) (by omega)
      have k_y := bkoe3 hW25 (k_y.below p24.h) (by omega)
      have k_m := bkoe3 hW25 (k_m.below p24.h) (by omega)
      have k_t := bkoe3 hW25 (k_t.below p24.h) (by omega)
      have k_d := bkoe3 hW25 (k_d.below p24.h) (by omega)
      have k_e := bkoe3 hW25 (k_e.below p24.h) (by omega)
      have k_f := bkoe3 hW25 (k_f.below p24.h) (by omega)
      have k_o := bkpe3 hW25 (k_o.below p24.h)
      rw [← hW25]
      clear hW25
      clear B24
      clear c_a_0 c_a_1 c_a_2 c_b_0 c_b_1 c_b_2 c_c_0 c_c_1 c_c_2 c_y_0 c_y_1 c_y_2 c_y_3 c_y_4 c_y_5 c_y_6 c_m_0 c_m_1 c_m_2 c_t_0 c_t_1 c_d_0 c_d_1 c_d_2 f_d_0 f_d_1 f_d_2 c_e_0 c_e_1 c_e_2 f_e_0 f_e_1 f_e_2 c_f_0 c_f_1 c_f_2 f_f_0 f_f_1 f_f_2 c_o_0 c_o_1 c_o_2 f_o_0 f_o_1 f_o_2
      obtain ⟨c_a_0, c_a_1, c_a_2⟩ := bwc3 (k_a)
      obtain ⟨c_b_0, c_b_1, c_b_2⟩ := bwc3 (k_b)
      obtain ⟨c_c_0, c_c_1, c_c_2⟩ := bwc3 (k_c)
      obtain ⟨c_y_0, c_y_1, c_y_2, c_y_3, c_y_4, c_y_5, c_y_6⟩ := bwc7 (k_y)
      obtain ⟨c_m_0, c_m_1, c_m_2⟩ := bwc3 (k_m)
      obtain ⟨c_t_0, c_t_1⟩ := bwc2 (k_t)
      obtain ⟨c_d_0, c_d_1, c_d_2⟩ := bwc3 (k_d)
      obtain ⟨c_e_0, c_e_1, c_e_2⟩ := bwc3 (k_e)
      obtain ⟨c_f_0, c_f_1, c_f_2⟩ := bwc3 (k_f)
      obtain ⟨c_o_0, c_o_1, c_o_2⟩ := bwc3 (k_o)
      obtain ⟨p25, hp25⟩ : ∃ p : BW W25, p.w = W25 := ⟨BW.start W25, rfl⟩
      rw [← hp25]
      clear hp25
      have ways : (z1 = true ∧ z2 = true ∧ z3 = true ∧ z4 = true) ∨ (z1 = false) ∨ (z1 = true ∧ z2 = false) ∨ (z1 = true ∧ z2 = true ∧ z3 = false) ∨ (z1 = true ∧ z2 = true ∧ z3 = true ∧ z4 = false) := by cases z1 <;> cases z2 <;> cases z3 <;> cases z4 <;> simp
      rcases ways with hz | hz
      · have HX := HMM.out hz
        obtain ⟨rfl, rfl, rfl, rfl⟩ := hz
        clear HMM
        go_upto_region 15 with (first
          | (go_at_call 11; (first | (with_reducible refine (bw_call KP1.out _).mono ?_) | (with_reducible refine (bw_call KP2.out _).mono ?_) | (with_reducible refine (bw_call KP3.out _).mono ?_) | (with_reducible refine (bw_call KP4.out _).mono ?_)); rintro e w' ⟨rfl, q, rfl⟩)
          | (go_at_call 8; (first | (with_reducible refine (bw_call HX.out _).mono ?_)); rintro e w' ⟨rfl, q, rfl⟩))
        obtain ⟨W26, hW26⟩ : ∃ W, W = q.w.alloc (.cells #[.int .i64 hn, .int .i64 hd] 29) := ⟨_, rfl⟩
        have B26 : Below w.heap.size w W26 := by rw [hW26]; exact (bw_below B25 q).alloc (bw_below B25 q).size _
        have l_v : g_o < q.w.heap.size := (k_o.below q.h).lt
        have o_v : w.heap.size ≤ q.w.heap.size := (bw_below B25 q).size
        have k_a := bka hW26 (k_a.below q.h)
        have k_b := bka hW26 (k_b.below q.h)
        have k_c := bka hW26 (k_c.below q.h)
        have k_y := bka hW26 (k_y.below q.h)
        have k_m := bka hW26 (k_m.below q.h)
        have k_t := bka hW26 (k_t.below q.h)
        have k_d := bka hW26 (k_d.below q.h)
        have k_e := bka hW26 (k_e.below q.h)
        have k_f := bka hW26 (k_f.below q.h)
        have k_o := bka hW26 (k_o.below q.h)
        have k_v := bkn hW26
        rw [← hW26]
        clear hW26
        clear B25
        clear c_a_0 c_a_1 c_a_2 c_b_0 c_b_1 c_b_2 c_c_0 c_c_1 c_c_2 c_y_0 c_y_1 c_y_2 c_y_3 c_y_4 c_y_5 c_y_6 c_m_0 c_m_1 c_m_2 c_t_0 c_t_1 c_d_0 c_d_1 c_d_2 c_e_0 c_e_1 c_e_2 c_f_0 c_f_1 c_f_2 c_o_0 c_o_1 c_o_2
        generalize q.w.heap.size = g_v at *
        obtain ⟨c_a_0, c_a_1, c_a_2⟩ := bwc3 (k_a)
        obtain ⟨c_b_0, c_b_1, c_b_2⟩ := bwc3 (k_b)
        obtain ⟨c_c_0, c_c_1, c_c_2⟩ := bwc3 (k_c)
        obtain ⟨c_y_0, c_y_1, c_y_2, c_y_3, c_y_4, c_y_5, c_y_6⟩ := bwc7 (k_y)
        obtain ⟨c_m_0, c_m_1, c_m_2⟩ := bwc3 (k_m)
        obtain ⟨c_t_0, c_t_1⟩ := bwc2 (k_t)
        obtain ⟨c_d_0, c_d_1, c_d_2⟩ := bwc3 (k_d)
        obtain ⟨c_e_0, c_e_1, c_e_2⟩ := bwc3 (k_e)
        obtain ⟨c_f_0, c_f_1, c_f_2⟩ := bwc3 (k_f)
        obtain ⟨c_o_0, c_o_1, c_o_2⟩ := bwc3 (k_o)
        obtain ⟨c_v_0, c_v_1⟩ := bwc2 (k_v)
        obtain ⟨p26, hp26⟩ : ∃ p : BW W26, p.w = W26 := ⟨BW.start W26, rfl⟩
        rw [← hp26]
        clear hp26
        go_wp2_with (first
          | (go_at_call 18; (first | (with_reducible refine (bw_call HA.out _).mono ?_)); rintro e w' ⟨rfl, q, rfl⟩))
        go_ret
        exact ⟨rfl, bw_below B26 _⟩
      · clear HMM
        rcases hz with rfl | ⟨rfl, rfl⟩ | ⟨rfl, rfl, rfl⟩ | ⟨rfl, rfl, rfl, rfl⟩
        all_goals
          go_wp2_with (first
            | (go_at_call 11; (first | (with_reducible refine (bw_call KP1.out _).mono ?_) | (with_reducible refine (bw_call KP2.out _).mono ?_) | (with_reducible refine (bw_call KP3.out _).mono ?_) | (with_reducible refine (bw_call KP4.out _).mono ?_)); rintro e w' ⟨rfl, q, rfl⟩)
            | (go_at_call 18; (first | (with_reducible refine (bw_call HA.out _).mono ?_)); rintro e w' ⟨rfl, q, rfl⟩))
          go_ret
          exact ⟨rfl, bw_below B25 _⟩

theorem law_TriAlike (a1 a2 a3 b1 b2 b3 c1 c2 c3 o1 o2 o3 d1 d2 d3 fr m1 m2 m3 : Int) (w : World) :
    Calls Try.prog 4 #[.agg #[.int .i64 a1, .int .i64 a2, .int .i64 a3], .agg #[.int .i64 b1, .int .i64 b2, .int .i64 b3], .agg #[.int .i64 c1, .int .i64 c2, .int .i64 c3], .agg #[.int .i64 o1, .int .i64 o2, .int .i64 o3, .int .i64 d1, .int .i64 d2, .int .i64 d3, .int .i64 fr], .agg #[.int .i64 m1, .int .i64 m2, .int .i64 m3]] w fun en w' => en = .returned (.bool true) ∧ Below w.heap.size w w' := by
  cases h1 : plc (a1, a2, a3) with
  | false => exact law_TriAlike_no1 a1 a2 a3 b1 b2 b3 c1 c2 c3 o1 o2 o3 d1 d2 d3 fr m1 m2 m3 w h1
  | true =>
    cases h2 : plc (b1, b2, b3) with
    | false => exact law_TriAlike_no2 a1 a2 a3 b1 b2 b3 c1 c2 c3 o1 o2 o3 d1 d2 d3 fr m1 m2 m3 w h1 h2
    | true =>
      cases h3 : plc (c1, c2, c3) with
      | false => exact law_TriAlike_no3 a1 a2 a3 b1 b2 b3 c1 c2 c3 o1 o2 o3 d1 d2 d3 fr m1 m2 m3 w h1 h2 h3
      | true =>
        cases h4 : plc (o1, o2, o3) with
        | false => exact law_TriAlike_no4 a1 a2 a3 b1 b2 b3 c1 c2 c3 o1 o2 o3 d1 d2 d3 fr m1 m2 m3 w h1 h2 h3 h4
        | true =>
          cases h5 : nrT (d1, d2, d3) with
          | false => exact law_TriAlike_no5 a1 a2 a3 b1 b2 b3 c1 c2 c3 o1 o2 o3 d1 d2 d3 fr m1 m2 m3 w h1 h2 h3 h4 h5
          | true =>
            cases h6 : plc (m1, m2, m3) with
            | false => exact law_TriAlike_no6 a1 a2 a3 b1 b2 b3 c1 c2 c3 o1 o2 o3 d1 d2 d3 fr m1 m2 m3 w h1 h2 h3 h4 h5 h6
            | true =>
              exact law_TriAlike_yes a1 a2 a3 b1 b2 b3 c1 c2 c3 o1 o2 o3 d1 d2 d3 fr m1 m2 m3 w h1 h2 h3 h4 h5 h6

end Go.Proofs.Ytnidgokmndnenaa
