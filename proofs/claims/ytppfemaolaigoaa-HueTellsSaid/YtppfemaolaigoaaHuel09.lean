/- Contracts of package hue, below: Most, within, mixed, sum. -/
import Derived.Test.YtppfemaolaigoaaNum01
import Derived.Test.YtppfemaolaigoaaMath09
import Derived.Test.YtppfemaolaigoaaMem06
import Derived.Test.YtppfemaolaigoaaMem08
import Derived.Laws.Cover1
import Derived.LoopN
import Derived.Deep.DeepCutAuto
namespace Go.Proofs.Ytppfemaolaigoaa
open Go.RowKit Go.Proofs.Sky
set_option linter.unusedVariables false

theorem hfold_ints (V : Nat → T3) (k : Nat) : I64 (hfold V k).1 ∧ I64 (hfold V k).2.1 ∧ I64 (hfold V k).2.2 := by
  cases k with
  | zero => unfold hfold I64; simp
  | succ k => exact ⟨sat_I64 _, sat_I64 _, sat_I64 _⟩

set_option maxRecDepth 100000 in
set_option maxHeartbeats 4000000 in
theorem hue_Most (a b c : Int) (w : World) (_ : I64 a) (_ : I64 b) (_ : I64 c) :
    Calls Try.prog 16 #[.agg #[.int .i64 a, .int .i64 b, .int .i64 c]] w fun e w' => e = .returned (.int .i64 (hmost (a, b, c))) ∧ Below w.heap.size w w' := by
  have e : hmost (a, b, c) = (if c > (if b > a then b else a) then c else (if b > a then b else a)) := by unfold hmost mx3; dsimp only; (repeat' split) <;> omega
  rw [e]
  clear e
  obtain ⟨mx, emx⟩ : ∃ m, m = (if c > (if b > a then b else a) then c else (if b > a then b else a)) := ⟨_, rfl⟩
  have hmx : ∀ (w : World) (ts : Array TypeId) (t : TypeId), (Builtin.max_ ts t #[.int .i64 a, .int .i64 b, .int .i64 c]).run Try.prog w = .ok (.int .i64 mx) w := fun w ts t => by rw [emx]; exact run_max_int3 ..
  rw [← emx]
  clear emx
  go_enter Try.func16, Try.ntmps16
  go_upto_region 1 with (fail)
  obtain ⟨W1, hW1⟩ : ∃ W, W = w.alloc (.cells #[.int .i64 a, .int .i64 b, .int .i64 c] 23) := ⟨_, rfl⟩
  obtain ⟨k_v, B1⟩ := st1 hW1
  rw [← hW1]
  clear hW1
  obtain ⟨c_v_0, c_v_1, c_v_2⟩ := bwc3 (k_v)
  obtain ⟨p1, hp1⟩ : ∃ p : BW W1, p.w = W1 := ⟨BW.start W1, rfl⟩
  rw [← hp1]
  clear hp1
  go_wp2
  go_ret
  exact ⟨rfl, bw_below B1 _⟩

set_option maxRecDepth 100000 in
set_option maxHeartbeats 4000000 in
theorem hue_Most_any (a b c : Int) (w : World) :
    Calls Try.prog 16 #[.agg #[.int .i64 a, .int .i64 b, .int .i64 c]] w fun e w' => e = .returned (.int .i64 (hmost (a, b, c))) ∧ Below w.heap.size w w' := by
  have e : hmost (a, b, c) = (if c > (if b > a then b else a) then c else (if b > a then b else a)) := by unfold hmost mx3; dsimp only; (repeat' split) <;> omega
  rw [e]
  clear e
  obtain ⟨mx, emx⟩ : ∃ m, m = (if c > (if b > a then b else a) then c else (if b > a then b else a)) := ⟨_, rfl⟩
  have hmx : ∀ (w : World) (ts : Array TypeId) (t : TypeId), (Builtin.max_ ts t #[.int .i64 a, .int .i64 b, .int .i64 c]).run Try.prog w = .ok (.int .i64 mx) w := fun w ts t => by rw [emx]; exact run_max_int3 ..
  rw [← emx]
  clear emx
  go_enter Try.func16, Try.ntmps16
  go_upto_region 1 with (fail)
  obtain ⟨W1, hW1⟩ : ∃ W, W = w.alloc (.cells #[.int .i64 a, .int .i64 b, .int .i64 c] 23) := ⟨_, rfl⟩
  obtain ⟨k_v, B1⟩ := st1 hW1
  rw [← hW1]
  clear hW1
  obtain ⟨c_v_0, c_v_1, c_v_2⟩ := bwc3 (k_v)
  obtain ⟨p1, hp1⟩ : ∃ p : BW W1, p.w = W1 := ⟨BW.start W1, rfl⟩
  rw [← hp1]
  clear hp1
  go_wp2
  go_ret
  exact ⟨rfl, bw_below B1 _⟩

set_option maxRecDepth 100000 in
set_option maxHeartbeats 4000000 in
theorem hue_within_no (a b c n : Int) (w : World) (mn : Int) (hmn : ∀ (w : World) (ts : Array TypeId) (t : TypeId), (Builtin.min_ ts t #[.int .i64 a, .int .i64 b, .int .i64 c]).run Try.prog w = .ok (.int .i64 mn) w) (t1 : decide (0 ≤ mn) = false) :
    Calls Try.prog 25 #[.agg #[.int .i64 a, .int .i64 b, .int .i64 c], .int .i64 n] w fun e w' => e = .returned (.bool false) ∧ Below w.heap.size w w' := by
  go_enter Try.func25, Try.ntmps25
  go_upto_region 1 with (fail)
  obtain ⟨W1, hW1⟩ : ∃ W, W = w.alloc (.cells #[.int .i64 a, .int .i64 b, .int .i64 c] 23) := ⟨_, rfl⟩
  obtain ⟨k_v, B1⟩ := st1 hW1
  rw [← hW1]
  clear hW1
  obtain ⟨c_v_0, c_v_1, c_v_2⟩ := bwc3 (k_v)
  obtain ⟨p1, hp1⟩ : ∃ p : BW W1, p.w = W1 := ⟨BW.start W1, rfl⟩
  rw [← hp1]
  clear hp1
  go_wp2
  go_ret
  exact ⟨rfl, bw_below B1 _⟩

set_option maxRecDepth 100000 in
set_option maxHeartbeats 4000000 in
theorem hue_within_yes (a b c n : Int) (w : World) (mn : Int) (hmn : ∀ (w : World) (ts : Array TypeId) (t : TypeId), (Builtin.min_ ts t #[.int .i64 a, .int .i64 b, .int .i64 c]).run Try.prog w = .ok (.int .i64 mn) w) (t1 : decide (0 ≤ mn) = true) :
    Calls Try.prog 25 #[.agg #[.int .i64 a, .int .i64 b, .int .i64 c], .int .i64 n] w fun e w' => e = .returned (.bool (decide (hmost (a, b, c) ≤ n))) ∧ Below w.heap.size w w' := by
  have M := Lib.hid (fun w => hue_Most_any a b c w)
  generalize hmost (a, b, c) = mx at *
  go_enter Try.func25, Try.ntmps25
  go_upto_region 1 with (fail)
  obtain ⟨W1, hW1⟩ : ∃ W, W = w.alloc (.cells #[.int .i64 a, .int .i64 b, .int .i64 c] 23) := ⟨_, rfl⟩
  obtain ⟨k_v, B1⟩ := st1 hW1
  rw [← hW1]
  clear hW1
  obtain ⟨c_v_0, c_v_1, c_v_2⟩ := bwc3 (k_v)
  obtain ⟨p1, hp1⟩ : ∃ p : BW W1, p.w = W1 := ⟨BW.start W1, rfl⟩
  rw [← hp1]
  clear hp1
  go_wp2_with (first
    | (go_at_call 16; (first | (with_reducible refine (bw_call M.out _).mono ?_)); rintro e w' ⟨rfl, q, rfl⟩))
  go_ret
  exact ⟨rfl, bw_below B1 _⟩

theorem hue_within (a b c n : Int) (w : World) :
    Calls Try.prog 25 #[.agg #[.int .i64 a, .int .i64 b, .int .i64 c], .int .i64 n] w fun e w' => e = .returned (.bool (rin n (a, b, c))) ∧ Below w.heap.size w w' := by
  obtain ⟨mn, emn⟩ : ∃ m, m = (if c < (if b < a then b else a) then c else (if b < a then b else a)) := ⟨_, rfl⟩
  have hmn : ∀ (w : World) (ts : Array TypeId) (t : TypeId), (Builtin.min_ ts t #[.int .i64 a, .int .i64 b, .int .i64 c]).run Try.prog w = .ok (.int .i64 mn) w := fun w ts t => by rw [emn]; exact run_min_int3 ..
  by_cases h : 0 ≤ mn
  · have e : rin n (a, b, c) = decide (hmost (a, b, c) ≤ n) := by
      have e1 : rin n (a, b, c) = true ↔ decide (hmost (a, b, c) ≤ n) = true := by
        rw [rin_iff, decide_eq_true_iff]
        unfold hmost mx3
        dsimp only
        constructor
        · intro h2
          split <;> split <;> omega
        · intro h2
          have k : 0 ≤ a ∧ 0 ≤ b ∧ 0 ≤ c := by
            split at emn <;> split at emn <;> omega
          clear emn
          split at h2 <;> split at h2 <;> omega
      cases h1 : rin n (a, b, c) <;> cases h2 : decide (hmost (a, b, c) ≤ n) <;> simp_all
    rw [e]
    exact hue_within_yes a b c n w mn hmn (decide_eq_true h)
  · have e : rin n (a, b, c) = false := by
      cases h1 : rin n (a, b, c) with
      | false => rfl
      | true =>
        rw [rin_iff] at h1
        dsimp only at h1
        exfalso
        split at emn <;> split at emn <;> omega
    rw [e]
    exact hue_within_no a b c n w mn hmn (decide_eq_false h)

set_option maxRecDepth 100000 in
set_option maxHeartbeats 4000000 in
theorem hue_mixed (x y : Int) (w : World) (hx : 0 ≤ x ∧ x ≤ 1099511627776) (hy : 0 ≤ y ∧ y ≤ 65536) :
    Calls Try.prog 27 #[.int .i64 x, .int .i64 y] w fun e w' => e = .returned (.int .i64 (x * y / 65536)) ∧ Below w.heap.size w w' := by
  have m := @mul_small x y (by omega) (by omega) (by omega) (by omega)
  obtain ⟨u, hu⟩ : ∃ u, u = x * y := ⟨_, rfl⟩
  have e1 : wrap64 (x * y) = u := by rw [hu]; exact IntWalk.wrap64_in _ (by omega)
  have e2 : IntKind.i64.wrap (x * y) = u := by rw [hu, i64w]; omega
  rw [← hu] at m
  have D := Lib.hid (below_of_same (fun w => num_Div u 65536 w (by unfold I64; omega) (by unfold I64; omega)))
  rw [show dv u 65536 = x * y / 65536 by unfold dv; rw [if_neg (by omega), hu]] at D
  generalize x * y / 65536 = r at *
  clear hx hy hu m
  go_enter Try.func27, Try.ntmps27
  go_wp2_with (go_at_call 36; (with_reducible refine (D.out _).mono ?_); rintro e w' ⟨rfl, hb⟩)
  go_ret
  exact ⟨rfl, hb⟩

set_option maxRecDepth 100000 in
set_option maxHeartbeats 4000000 in
theorem hue_sum (b off cap n : Nat) (V : Nat → T3) (w : World) (hrow : VcRow w b off n V) (hV : ∀ k, k < n → I64 (V k).1 ∧ I64 (V k).2.1 ∧ I64 (V k).2.2) (hb : b < w.heap.size) (hn : n ≤ 1048576) :
    Calls Try.prog 29 #[.slice (some ⟨b, off, none⟩) n cap] w fun e w' => e = .returned (.agg #[.int .i64 (hfold V n).1, .int .i64 (hfold V n).2.1, .int .i64 (hfold V n).2.2]) ∧ Below w.heap.size w w' := by
  have HR := Lib.hid hrow
  have HV := Lib.hid hV
  clear hrow hV
  go_enter Try.func29, Try.ntmps29
  go_upto_region 1 with (fail)
  obtain ⟨W1, hW1⟩ : ∃ W, W = w.alloc (.cells #[.int .i64 0, .int .i64 0, .int .i64 0] 23) := ⟨_, rfl⟩
  obtain ⟨k_r, B1⟩ := st1 hW1
  rw [← hW1]
  clear hW1
  obtain ⟨c_r_0, c_r_1, c_r_2⟩ := bwc3 (k_r)
  obtain ⟨p1, hp1⟩ : ∃ p : BW W1, p.w = W1 := ⟨BW.start W1, rfl⟩
  rw [← hp1]
  clear hp1
  go_upto_region 2 with (fail)
  obtain ⟨W2, hW2⟩ : ∃ W, W = p1.w.alloc (.cells #[.int .i64 0, .int .i64 0, .int .i64 0] 23) := ⟨_, rfl⟩
  have B2 : Below w.heap.size w W2 := by rw [hW2]; exact (bw_below B1 p1).alloc (bw_below B1 p1).size _
  have l_s : w.heap.size < p1.w.heap.size := (k_r.below p1.h).lt
  have o_s : w.heap.size ≤ p1.w.heap.size := (bw_below B1 p1).size
  have k_r := bka hW2 (k_r.below p1.h)
  have k_s := bkn hW2
  rw [← hW2]
  clear hW2
  clear B1
  clear c_r_0 c_r_1 c_r_2
  generalize p1.w.heap.size = g_s at *
  go_wp2
  go_loopw [8] (fun i wr => ∃ k : Nat, k ≤ n ∧ i = .int .i64 k ∧ Bk wr g_s 23 #[.int .i64 ((hfold V k).1), .int .i64 ((hfold V k).2.1), .int .i64 ((hfold V k).2.2)] ∧ Bk wr w.heap.size 23 #[.int .i64 0, .int .i64 0, .int .i64 0] ∧ Below w.heap.size w wr) (fun i _ => n - (intOf i).toNat)
  case atStart => exact ⟨0, by omega, rfl, k_s, k_r, B2⟩
  case round =>
    clear k_s k_r B2
    obtain ⟨k, hk, rfl, k_s, k_r, B20⟩ := hrel
    obtain ⟨i1, i2, i3⟩ := hfold_ints V k
    by_cases hlt : k < n
    · obtain ⟨x0, x1, x2⟩ := HR.out k hlt
      obtain ⟨v1, v2, v3⟩ := HV.out k hlt
      have K1 := Lib.hid (fun w => below_of_same (fun w => num_Plus (hfold V k).1 (V k).1 w i1 v1) w)
      have K2 := Lib.hid (fun w => below_of_same (fun w => num_Plus (hfold V k).2.1 (V k).2.1 w i2 v2) w)
      have K3 := Lib.hid (fun w => below_of_same (fun w => num_Plus (hfold V k).2.2 (V k).2.2 w i3 v3) w)
      obtain ⟨f1, e1⟩ : ∃ f, f = sat ((hfold V k).1 + (V k).1) := ⟨_, rfl⟩
      obtain ⟨f2, e2⟩ : ∃ f, f = sat ((hfold V k).2.1 + (V k).2.1) := ⟨_, rfl⟩
      obtain ⟨f3, e3⟩ : ∃ f, f = sat ((hfold V k).2.2 + (V k).2.2) := ⟨_, rfl⟩
      have HF : Hid (hfold V (k + 1) = (f1, f2, f3)) := Lib.hid (by rw [e1, e2, e3]; rfl)
      rw [← e1] at K1
      rw [← e2] at K2
      rw [← e3] at K3
      have z0 : ∀ p : BW wr, p.w.cell? ⟨b, off + k * 3, none⟩ = some (.int .i64 (V k).1) := bw_cell ((B20.cell (p := ⟨b, off + k * 3, none⟩) hb).trans x0)
      have z1 : ∀ p : BW wr, p.w.cell? ⟨b, off + k * 3 + 1, none⟩ = some (.int .i64 (V k).2.1) := bw_cell ((B20.cell (p := ⟨b, off + k * 3 + 1, none⟩) hb).trans x1)
      have z2 : ∀ p : BW wr, p.w.cell? ⟨b, off + k * 3 + 2, none⟩ = some (.int .i64 (V k).2.2) := bw_cell ((B20.cell (p := ⟨b, off + k * 3 + 2, none⟩) hb).trans x2)
      clear e1 e2 e3 x0 x1 x2 v1 v2 v3 i1 i2 i3
      generalize hfold V k = S at *
      generalize V k = vk at *
      obtain ⟨s1, s2, s3⟩ := S
      obtain ⟨x, y, z⟩ := vk
      dsimp only at K1 K2 K3 z0 z1 z2 k_s
      obtain ⟨c_r_0, c_r_1, c_r_2⟩ := bwc3 (k_r)
      obtain ⟨c_s_0, c_s_1, c_s_2⟩ := bwc3 (k_s)
      obtain ⟨p20, hp20⟩ : ∃ p : BW wr, p.w = wr := ⟨BW.start wr, rfl⟩
      rw [← hp20]
      clear hp20
      go_upto_region 5 with (fail)
      obtain ⟨W21, hW21⟩ : ∃ W, W = p20.w.alloc (.cells #[.int .i64 x, .int .i64 y, .int .i64 z] 23) := ⟨_, rfl⟩
      have B21 : Below w.heap.size w W21 := by rw [hW21]; exact (bw_below B20 p20).alloc (bw_below B20 p20).size _
      have l_d : g_s < p20.w.heap.size := (k_s.below p20.h).lt
      have o_d : w.heap.size ≤ p20.w.heap.size := (bw_below B20 p20).size
      have k_r := bka hW21 (k_r.below p20.h)
      have k_s := bka hW21 (k_s.below p20.h)
      have k_d := bkn hW21
      rw [← hW21]
      clear hW21
      clear B20
      clear c_r_0 c_r_1 c_r_2 c_s_0 c_s_1 c_s_2
      generalize p20.w.heap.size = g_d at *
      clear z0 z1 z2
      obtain ⟨c_r_0, c_r_1, c_r_2⟩ := bwc3 (k_r)
      obtain ⟨c_s_0, c_s_1, c_s_2⟩ := bwc3 (k_s)
      obtain ⟨f_s_0, f_s_1, f_s_2⟩ := bwf3 (k_s)
      obtain ⟨c_d_0, c_d_1, c_d_2⟩ := bwc3 (k_d)
      obtain ⟨p21, hp21⟩ : ∃ p : BW W21, p.w = W21 := ⟨BW.start W21, rfl⟩
      rw [← hp21]
      clear hp21
      go_upto_region 6 with (first
        | (go_at_call 37; (first | (with_reducible refine (bw_call K1.out _).mono ?_)); rintro e w' ⟨rfl, q, rfl⟩))
      obtain ⟨W22, hW22⟩ : ∃ W, W = q.w.setCell ⟨g_s, 0, none⟩ (.int .i64 f1) := ⟨_, rfl⟩
      have B22 : Below w.heap.size w W22 := by rw [hW22]; exact ((bw_below B21 q).setCell (p := ⟨g_s, 0, none⟩) (by show w.heap.size ≤ g_s; omega) _)
      have k_r : Bk W22 (w.heap.size) 23 #[.int .i64 0, .int .i64 0, .int .i64 0] := by rw [hW22]; exact ((k_r.below q.h).other (a := ⟨g_s, 0, none⟩) (by show ¬ w.heap.size = g_s; omega) (.int .i64 f1))
      have k_s : Bk W22 (g_s) 23 #[.int .i64 f1, .int .i64 s2, .int .i64 s3] := by rw [hW22]; exact ((k_s.below q.h).set 0 (.int .i64 f1)).cast (by simp)
      have k_d : Bk W22 (g_d) 23 #[.int .i64 x, .int .i64 y, .int .i64 z] := by rw [hW22]; exact ((k_d.below q.h).other (a := ⟨g_s, 0, none⟩) (by show ¬ g_d = g_s; omega) (.int .i64 f1))
      rw [← hW22]
      clear hW22
      clear B21
      clear c_r_0 c_r_1 c_r_2 c_s_0 c_s_1 c_s_2 f_s_0 f_s_1 f_s_2 c_d_0 c_d_1 c_d_2
      obtain ⟨c_r_0, c_r_1, c_r_2⟩ := bwc3 (k_r)
      obtain ⟨c_s_0, c_s_1, c_s_2⟩ := bwc3 (k_s)
      obtain ⟨f_s_0, f_s_1, f_s_2⟩ := bwf3 (k_s)
      obtain ⟨c_d_0, c_d_1, c_d_2⟩ := bwc3 (k_d)
      obtain ⟨p22, hp22⟩ : ∃ p : BW W22, p.w = W22 := ⟨BW.start W22, rfl⟩
      rw [← hp22]
      clear hp22
      go_upto_region 7 with (first
        | (go_at_call 37; (first | (with_reducible refine (bw_call K2.out _).mono ?_)); rintro e w' ⟨rfl, q, rfl⟩))
      obtain ⟨W23, hW23⟩ : ∃ W, W = q.w.setCell ⟨g_s, 1, none⟩ (.int .i64 f2) := ⟨_, rfl⟩
      have B23 : Below w.heap.size w W23 := by rw [hW23]; exact ((bw_below B22 q).setCell (p := ⟨g_s, 1, none⟩) (by show w.heap.size ≤ g_s; omega) _)
      have k_r : Bk W23 (w.heap.size) 23 #[.int .i64 0, .int .i64 0, .int .i64 0] := by rw [hW23]; exact ((k_r.below q.h).other (a := ⟨g_s, 1, none⟩) (by show ¬ w.heap.size = g_s; omega) (.int .i64 f2))
      have k_s : Bk W23 (g_s) 23 #[.int .i64 f1, .int .i64 f2, .int .i64 s3] := by rw [hW23]; exact ((k_s.below q.h).set 1 (.int .i64 f2)).cast (by simp)
      have k_d : Bk W23 (g_d) 23 #[.int .i64 x, .int .i64 y, .int .i64 z] := by rw [hW23]; exact ((k_d.below q.h).other (a := ⟨g_s, 1, none⟩) (by show ¬ g_d = g_s; omega) (.int .i64 f2))
      rw [← hW23]
      clear hW23
      clear B22
      clear c_r_0 c_r_1 c_r_2 c_s_0 c_s_1 c_s_2 f_s_0 f_s_1 f_s_2 c_d_0 c_d_1 c_d_2
      obtain ⟨c_r_0, c_r_1, c_r_2⟩ := bwc3 (k_r)
      obtain ⟨c_s_0, c_s_1, c_s_2⟩ := bwc3 (k_s)
      obtain ⟨f_s_0, f_s_1, f_s_2⟩ := bwf3 (k_s)
      obtain ⟨c_d_0, c_d_1, c_d_2⟩ := bwc3 (k_d)
      obtain ⟨p23, hp23⟩ : ∃ p : BW W23, p.w = W23 := ⟨BW.start W23, rfl⟩
      rw [← hp23]
      clear hp23
      go_upto_region 8 with (first
        | (go_at_call 37; (first | (with_reducible refine (bw_call K3.out _).mono ?_)); rintro e w' ⟨rfl, q, rfl⟩))
      obtain ⟨W24, hW24⟩ : ∃ W, W = q.w.setCell ⟨g_s, 2, none⟩ (.int .i64 f3) := ⟨_, rfl⟩
      have B24 : Below w.heap.size w W24 := by rw [hW24]; exact ((bw_below B23 q).setCell (p := ⟨g_s, 2, none⟩) (by show w.heap.size ≤ g_s; omega) _)
      have k_r : Bk W24 (w.heap.size) 23 #[.int .i64 0, .int .i64 0, .int .i64 0] := by rw [hW24]; exact ((k_r.below q.h).other (a := ⟨g_s, 2, none⟩) (by show ¬ w.heap.size = g_s; omega) (.int .i64 f3))
      have k_s : Bk W24 (g_s) 23 #[.int .i64 f1, .int .i64 f2, .int .i64 f3] := by rw [hW24]; exact ((k_s.below q.h).set 2 (.int .i64 f3)).cast (by simp)
      have k_d : Bk W24 (g_d) 23 #[.int .i64 x, .int .i64 y, .int .i64 z] := by rw [hW24]; exact ((k_d.below q.h).other (a := ⟨g_s, 2, none⟩) (by show ¬ g_d = g_s; omega) (.int .i64 f3))
      rw [← hW24]
      clear hW24
      clear B23
      clear c_r_0 c_r_1 c_r_2 c_s_0 c_s_1 c_s_2 f_s_0 f_s_1 f_s_2 c_d_0 c_d_1 c_d_2
      go_wp2
      go_roundw
      case rel => exact ⟨k + 1, by omega, by go_num, by rw [HF.out]; exact k_s, k_r, B24⟩
      case measure => simp [intOf]; omega
    · obtain rfl : k = n := by omega
      obtain ⟨c_r_0, c_r_1, c_r_2⟩ := bwc3 (k_r)
      obtain ⟨f_r_0, f_r_1, f_r_2⟩ := bwf3 (k_r)
      obtain ⟨c_s_0, c_s_1, c_s_2⟩ := bwc3 (k_s)
      obtain ⟨p20, hp20⟩ : ∃ p : BW wr, p.w = wr := ⟨BW.start wr, rfl⟩
      rw [← hp20]
      clear hp20
      go_wp2
      have kr := bkp3 (k_r.below p20.h) (.int .i64 ((hfold V k).1)) (.int .i64 ((hfold V k).2.1)) (.int .i64 ((hfold V k).2.2))
      obtain ⟨rc0, rc1, rc2⟩ := rwc3 kr
      exact bodyPost_ret (v := .agg #[.int .i64 ((hfold V k).1), .int .i64 ((hfold V k).2.1), .int .i64 ((hfold V k).2.2)]) (by simp [results, Try.results29, go_sem, rc0, rc1, rc2]) rfl ⟨rfl, blp3 (bw_below B20 p20) (by omega)⟩

set_option maxRecDepth 100000 in
set_option maxHeartbeats 4000000 in
theorem hue_sum_none (p : Option Addr) (cap : Nat) (w : World) :
    Calls Try.prog 29 #[.slice p 0 cap] w fun e w' => e = .returned (.agg #[.int .i64 0, .int .i64 0, .int .i64 0]) ∧ Below w.heap.size w w' := by
  go_enter Try.func29, Try.ntmps29
  go_upto_region 1 with (fail)
  obtain ⟨W1, hW1⟩ : ∃ W, W = w.alloc (.cells #[.int .i64 0, .int .i64 0, .int .i64 0] 23) := ⟨_, rfl⟩
  obtain ⟨k_r, B1⟩ := st1 hW1
  rw [← hW1]
  clear hW1
  obtain ⟨c_r_0, c_r_1, c_r_2⟩ := bwc3 (k_r)
  obtain ⟨p1, hp1⟩ : ∃ p : BW W1, p.w = W1 := ⟨BW.start W1, rfl⟩
  rw [← hp1]
  clear hp1
  go_upto_region 2 with (fail)
  obtain ⟨W2, hW2⟩ : ∃ W, W = p1.w.alloc (.cells #[.int .i64 0, .int .i64 0, .int .i64 0] 23) := ⟨_, rfl⟩
  have B2 : Below w.heap.size w W2 := by rw [hW2]; exact (bw_below B1 p1).alloc (bw_below B1 p1).size _
  have l_s : w.heap.size < p1.w.heap.size := (k_r.below p1.h).lt
  have o_s : w.heap.size ≤ p1.w.heap.size := (bw_below B1 p1).size
  have k_r := bka hW2 (k_r.below p1.h)
  have k_s := bkn hW2
  rw [← hW2]
  clear hW2
  clear B1
  clear c_r_0 c_r_1 c_r_2
  generalize p1.w.heap.size = g_s at *
  obtain ⟨c_r_0, c_r_1, c_r_2⟩ := bwc3 (k_r)
  obtain ⟨f_r_0, f_r_1, f_r_2⟩ := bwf3 (k_r)
  obtain ⟨c_s_0, c_s_1, c_s_2⟩ := bwc3 (k_s)
  obtain ⟨p2, hp2⟩ : ∃ p : BW W2, p.w = W2 := ⟨BW.start W2, rfl⟩
  rw [← hp2]
  clear hp2
  go_wp2
  go_rounds 1
  have kr := bkp3 (k_r.below p2.h) (.int .i64 0) (.int .i64 0) (.int .i64 0)
  obtain ⟨rc0, rc1, rc2⟩ := rwc3 kr
  exact bodyPost_ret (v := .agg #[.int .i64 0, .int .i64 0, .int .i64 0]) (by simp [results, Try.results29, go_sem, rc0, rc1, rc2]) rfl ⟨rfl, blp3 (bw_below B2 p2) (by omega)⟩

def rw2 (u v : T3) : Nat → T3 | 0 => u | _ => v
theorem hfold2 {u v : T3} (h1 : I64 u.1) (h2 : I64 u.2.1) (h3 : I64 u.2.2) : hfold (rw2 u v) 2 = hadd u v := by
  have t : ∀ x : Int, I64 x → sat (0 + x) = x := fun x h => by unfold I64 at h; unfold sat; rw [if_neg (by omega), if_neg (by omega)]; omega
  show hadd (hadd (0, 0, 0) u) v = hadd u v
  rw [show hadd (0, 0, 0) u = u by unfold hadd; dsimp only; rw [t _ h1, t _ h2, t _ h3]]

/-- As hue_sum, of two, in the block that was made last. -/
theorem hue_sum2 (cap : Nat) (a b c x y z : Int) (wb w0 w : World) (hw : w = w0.alloc (.cells #[.int .i64 a, .int .i64 b, .int .i64 c, .int .i64 x, .int .i64 y, .int .i64 z] 23)) (hB : Below wb.heap.size wb w0) (ha : I64 a) (hb : I64 b) (hc : I64 c) (hx : I64 x) (hy : I64 y) (hz : I64 z) :
    Calls Try.prog 29 #[.slice (some ⟨w0.heap.size, 0, none⟩) 2 cap] w fun e w' => e = .returned (.agg #[.int .i64 (hadd (a, b, c) (x, y, z)).1, .int .i64 (hadd (a, b, c) (x, y, z)).2.1, .int .i64 (hadd (a, b, c) (x, y, z)).2.2]) ∧ Below wb.heap.size wb w' := by
  have kb : Bk w w0.heap.size 23 #[.int .i64 a, .int .i64 b, .int .i64 c, .int .i64 x, .int .i64 y, .int .i64 z] := by rw [hw]; exact Bk.new _ _ _
  have B0 : Below wb.heap.size wb w := by rw [hw]; exact hB.alloc hB.size _
  clear hw
  rw [← hfold2 (u := (a, b, c)) (v := (x, y, z)) ha hb hc]
  refine (hue_sum w0.heap.size 0 cap 2 (rw2 (a, b, c) (x, y, z)) w (fun k hk => ?_) (fun k hk => ?_) kb.lt (by omega)).mono (fun e w' h => ⟨h.1, B0.trans (h.2.mono B0.size)⟩)
  · match k, hk with
    | 0, _ => exact ⟨kb.cell rfl, kb.cell rfl, kb.cell rfl⟩
    | 1, _ => exact ⟨kb.cell rfl, kb.cell rfl, kb.cell rfl⟩
  · match k, hk with
    | 0, _ => exact ⟨ha, hb, hc⟩
    | 1, _ => exact ⟨hx, hy, hz⟩

end Go.Proofs.Ytppfemaolaigoaa
