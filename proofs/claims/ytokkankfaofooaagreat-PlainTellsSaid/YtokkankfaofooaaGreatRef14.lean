/- Contracts of the document's own answers, layer 14: Better, All. -/
import Derived.Test.YtokkankfaofooaaGreatRef13
import Derived.Test.YtokkankfaofooaaGreatRef03
import Derived.Test.YtokkankfaofooaaGreatMem14
import Derived.Test.YtokkankfaofooaaGreatFloat
import Derived.Laws.AppendOwn
import Derived.Deep.DeepCutAuto
namespace Go.Proofs.YtokkankfaofooaaGreat
open Go.RowKit Go.Proofs.Sky
set_option linter.unusedVariables false

theorem hit_info : (Tryz.prog.info? 31).map (fun i => (i.zero, i.size, i.bytes)) = some (some (.agg #[.int .i64 0, .int .i64 0, .int .i64 0]), 3, 24) := by kernel_rfl

set_option maxRecDepth 100000 in
set_option maxHeartbeats 8000000 in
theorem ref14_Better_less (x1 x2 x3 y1 y2 y3 : Int) (w : World) 
    (KL : Hid (∀ w, Calls Tryz.prog 24 #[.agg #[.int .i64 x2, .int .i64 x3], .agg #[.int .i64 y2, .int .i64 y3]] w fun en w' => en = .returned (.bool true) ∧ Below w.heap.size w w')) :
    Calls Tryz.prog 12 #[.agg #[.int .i64 x1, .int .i64 x2, .int .i64 x3], .agg #[.int .i64 y1, .int .i64 y2, .int .i64 y3]] w fun en w' => en = .returned (.bool true) ∧ Below w.heap.size w w' := by
  go_enter Tryz.func12, Tryz.ntmps12
  go_upto_region 1 with (fail)
  obtain ⟨W1, hW1⟩ : ∃ W, W = (w.alloc (.cells #[.int .i64 x1, .int .i64 x2, .int .i64 x3] 31)).alloc (.cells #[.int .i64 y1, .int .i64 y2, .int .i64 y3] 31) := ⟨_, rfl⟩
  obtain ⟨k_x, k_y, B1⟩ := st2 hW1
  rw [← hW1]
  clear hW1
  have l_y : w.heap.size < w.heap.size + 1 := by omega
  generalize w.heap.size + 1 = g_y at *
  obtain ⟨c_x_0, c_x_1, c_x_2⟩ := bwc3 (k_x)
  obtain ⟨c_y_0, c_y_1, c_y_2⟩ := bwc3 (k_y)
  obtain ⟨p1, hp1⟩ : ∃ p : BW W1, p.w = W1 := ⟨BW.start W1, rfl⟩
  rw [← hp1]
  clear hp1
  go_wp2_with (first
    | (go_at_call 24; (first | (with_reducible refine (bw_call KL.out _).mono ?_)); rintro e w' ⟨rfl, q, rfl⟩))
  go_ret
  exact ⟨rfl, bw_below B1 _⟩

set_option maxRecDepth 100000 in
set_option maxHeartbeats 8000000 in
theorem ref14_Better_unlike (x1 x2 x3 y1 y2 y3 : Int) (w : World) 
    (KL : Hid (∀ w, Calls Tryz.prog 24 #[.agg #[.int .i64 x2, .int .i64 x3], .agg #[.int .i64 y2, .int .i64 y3]] w fun en w' => en = .returned (.bool false) ∧ Below w.heap.size w w'))
    (KS : Hid (∀ w, Calls Tryz.prog 26 #[.agg #[.int .i64 x2, .int .i64 x3], .agg #[.int .i64 y2, .int .i64 y3]] w fun en w' => en = .returned (.bool false) ∧ Below w.heap.size w w')) :
    Calls Tryz.prog 12 #[.agg #[.int .i64 x1, .int .i64 x2, .int .i64 x3], .agg #[.int .i64 y1, .int .i64 y2, .int .i64 y3]] w fun en w' => en = .returned (.bool false) ∧ Below w.heap.size w w' := by
  go_enter Tryz.func12, Tryz.ntmps12
  go_upto_region 1 with (fail)
  obtain ⟨W1, hW1⟩ : ∃ W, W = (w.alloc (.cells #[.int .i64 x1, .int .i64 x2, .int .i64 x3] 31)).alloc (.cells #[.int .i64 y1, .int .i64 y2, .int .i64 y3] 31) := ⟨_, rfl⟩
  obtain ⟨k_x, k_y, B1⟩ := st2 hW1
  rw [← hW1]
  clear hW1
  have l_y : w.heap.size < w.heap.size + 1 := by omega
  generalize w.heap.size + 1 = g_y at *
  obtain ⟨c_x_0, c_x_1, c_x_2⟩ := bwc3 (k_x)
  obtain ⟨c_y_0, c_y_1, c_y_2⟩ := bwc3 (k_y)
  obtain ⟨p1, hp1⟩ : ∃ p : BW W1, p.w = W1 := ⟨BW.start W1, rfl⟩
  rw [← hp1]
  clear hp1
  go_wp2_with (first
    | (go_at_call 24; (first | (with_reducible refine (bw_call KL.out _).mono ?_)); rintro e w' ⟨rfl, q, rfl⟩)
    | (go_at_call 26; (first | (with_reducible refine (bw_call KS.out _).mono ?_)); rintro e w' ⟨rfl, q, rfl⟩))
  go_ret
  exact ⟨rfl, bw_below B1 _⟩

set_option maxRecDepth 100000 in
set_option maxHeartbeats 8000000 in
theorem ref14_Better_same (x1 x2 x3 y1 y2 y3 : Int) (w : World) 
    (KL : Hid (∀ w, Calls Tryz.prog 24 #[.agg #[.int .i64 x2, .int .i64 x3], .agg #[.int .i64 y2, .int .i64 y3]] w fun en w' => en = .returned (.bool false) ∧ Below w.heap.size w w'))
    (KS : Hid (∀ w, Calls Tryz.prog 26 #[.agg #[.int .i64 x2, .int .i64 x3], .agg #[.int .i64 y2, .int .i64 y3]] w fun en w' => en = .returned (.bool true) ∧ Below w.heap.size w w')) :
    Calls Tryz.prog 12 #[.agg #[.int .i64 x1, .int .i64 x2, .int .i64 x3], .agg #[.int .i64 y1, .int .i64 y2, .int .i64 y3]] w fun en w' => en = .returned (.bool (decide (x1 < y1))) ∧ Below w.heap.size w w' := by
  go_enter Tryz.func12, Tryz.ntmps12
  go_upto_region 1 with (fail)
  obtain ⟨W1, hW1⟩ : ∃ W, W = (w.alloc (.cells #[.int .i64 x1, .int .i64 x2, .int .i64 x3] 31)).alloc (.cells #[.int .i64 y1, .int .i64 y2, .int .i64 y3] 31) := ⟨_, rfl⟩
  obtain ⟨k_x, k_y, B1⟩ := st2 hW1
  rw [← hW1]
  clear hW1
  have l_y : w.heap.size < w.heap.size + 1 := by omega
  generalize w.heap.size + 1 = g_y at *
  obtain ⟨c_x_0, c_x_1, c_x_2⟩ := bwc3 (k_x)
  obtain ⟨c_y_0, c_y_1, c_y_2⟩ := bwc3 (k_y)
  obtain ⟨p1, hp1⟩ : ∃ p : BW W1, p.w = W1 := ⟨BW.start W1, rfl⟩
  rw [← hp1]
  clear hp1
  go_wp2_with (first
    | (go_at_call 24; (first | (with_reducible refine (bw_call KL.out _).mono ?_)); rintro e w' ⟨rfl, q, rfl⟩)
    | (go_at_call 26; (first | (with_reducible refine (bw_call KS.out _).mono ?_)); rintro e w' ⟨rfl, q, rfl⟩))
  go_ret
  exact ⟨rfl, bw_below B1 _⟩

theorem ref14_Better (x1 x2 x3 y1 y2 y3 : Int) (w : World) (i1 : I64 x2) (i2 : I64 x3) (i3 : I64 y2) (i4 : I64 y3) :
    Calls Tryz.prog 12 #[.agg #[.int .i64 x1, .int .i64 x2, .int .i64 x3], .agg #[.int .i64 y1, .int .i64 y2, .int .i64 y3]] w fun en w' => en = .returned (.bool (hb (x1, x2, x3) (y1, y2, y3))) ∧ Below w.heap.size w w' := by
  have KL := Lib.hid (fun w => ref3_Less x2 x3 y2 y3 w i1 i2 i3 i4)
  have KS := Lib.hid (fun w => ref3_Same x2 x3 y2 y3 w i1 i2 i3 i4)
  unfold hb
  dsimp only
  cases h1 : fless x2 x3 y2 y3 with
  | true => rw [h1] at KL; exact ref14_Better_less x1 x2 x3 y1 y2 y3 w KL
  | false =>
    rw [h1] at KL
    cases h2 : fsame x2 x3 y2 y3 with
    | false => rw [h2] at KS; exact ref14_Better_unlike x1 x2 x3 y1 y2 y3 w KL KS
    | true => rw [h2] at KS; rw [Bool.false_or, Bool.true_and]; exact ref14_Better_same x1 x2 x3 y1 y2 y3 w KL KS

set_option maxRecDepth 100000 in
set_option maxHeartbeats 8000000 in
theorem ref14_All (v : Value) (n : Nat) (P : Nat → Pr) (o1 o2 o3 d1 d2 d3 fr : Int) (w : World) (hs : Prims w v n P) (ho : I3 (o1, o2, o3)) (hd : I3 (d1, d2, d3)) (hf : I64 fr) (hn : n ≤ 1000000) :
    Calls Tryz.prog 15 #[v, .agg #[.int .i64 o1, .int .i64 o2, .int .i64 o3, .int .i64 d1, .int .i64 d2, .int .i64 d3, .int .i64 fr]] w fun e w' => ∃ u, e = .returned u ∧ w'.ownsRow w.heap.size 31 3 u (hUp P n (o1, o2, o3) (d1, d2, d3) fr).length ((hUp P n (o1, o2, o3) (d1, d2, d3) fr).flatMap hcells) ∧ Below w.heap.size w w' := by
  obtain ⟨hsl, hI⟩ := hs
  obtain ⟨a, cap, rfl, hm, hS⟩ := hsl
  obtain ⟨i0, hi, hz0, hz1, hz2⟩ := info_parts hit_info
  have HS := Lib.hid hS
  clear hS
  go_enter Tryz.func15, Tryz.ntmps15
  go_upto_region 1 with (fail)
  obtain ⟨W1, hW1⟩ : ∃ W, W = w.alloc (.cells #[.int .i64 o1, .int .i64 o2, .int .i64 o3, .int .i64 d1, .int .i64 d2, .int .i64 d3, .int .i64 fr] 27) := ⟨_, rfl⟩
  obtain ⟨k_y, B1⟩ := st1 hW1
  rw [← hW1]
  clear hW1
  go_wp2
  go_loopw [5, 6] (fun u i wr => ∃ k : Nat, k ≤ n ∧ i = .int .i64 k ∧ wr.ownsRow (w.heap.size + 1) 31 3 u (hUp P k (o1, o2, o3) (d1, d2, d3) fr).length ((hUp P k (o1, o2, o3) (d1, d2, d3) fr).flatMap hcells) ∧ Bk wr w.heap.size 27 #[.int .i64 o1, .int .i64 o2, .int .i64 o3, .int .i64 d1, .int .i64 d2, .int .i64 d3, .int .i64 fr] ∧ Below w.heap.size w wr) (fun _ i _ => n - (intOf i).toNat)
  case atStart => exact ⟨0, by omega, rfl, World.ownsRow_nil _ _ _ _, k_y, B1⟩
  case round =>
    clear k_y B1
    obtain ⟨k, hk, rfl, hown, k_y, BO⟩ := hrel
    by_cases hlt : k < n
    · obtain ⟨b, off, rfl, hb, hcell⟩ := HS.out.resolve_left (by omega)
      have hx := hcell k hlt
      have hIk := hI k hlt
      have KH := Lib.hid (fun w => ref13_Hit (P k).k (P k).a.1 (P k).a.2.1 (P k).a.2.2 (P k).b.1 (P k).b.2.1 (P k).b.2.2 (P k).c.1 (P k).c.2.1 (P k).c.2.2 (P k).r (P k).m k o1 o2 o3 d1 d2 d3 fr w hIk (by unfold I64; omega) ho hd hf)
      have hU := fun h => flat_hits_next P k (o1, o2, o3) (d1, d2, d3) fr h
      have hV := fun h => flat_hits_same P k (o1, o2, o3) (d1, d2, d3) fr h
      have hlen := hUp_len P (o1, o2, o3) (d1, d2, d3) fr k
      have x0 : wr.cell? ⟨b, off + k * 12 + 0, none⟩ = some (.int .i64 (P k).k) := (BO.cell (p := ⟨b, off + k * 12 + 0, none⟩) hb).trans (hx 0 (by omega))
      have x1 : wr.cell? ⟨b, off + k * 12 + 1, none⟩ = some (.int .i64 (P k).a.1) := (BO.cell (p := ⟨b, off + k * 12 + 1, none⟩) hb).trans (hx 1 (by omega))
      have x2 : wr.cell? ⟨b, off + k * 12 + 2, none⟩ = some (.int .i64 (P k).a.2.1) := (BO.cell (p := ⟨b, off + k * 12 + 2, none⟩) hb).trans (hx 2 (by omega))
      have x3 : wr.cell? ⟨b, off + k * 12 + 3, none⟩ = some (.int .i64 (P k).a.2.2) := (BO.cell (p := ⟨b, off + k * 12 + 3, none⟩) hb).trans (hx 3 (by omega))
      have x4 : wr.cell? ⟨b, off + k * 12 + 4, none⟩ = some (.int .i64 (P k).b.1) := (BO.cell (p := ⟨b, off + k * 12 + 4, none⟩) hb).trans (hx 4 (by omega))
      have x5 : wr.cell? ⟨b, off + k * 12 + 5, none⟩ = some (.int .i64 (P k).b.2.1) := (BO.cell (p := ⟨b, off + k * 12 + 5, none⟩) hb).trans (hx 5 (by omega))
      have x6 : wr.cell? ⟨b, off + k * 12 + 6, none⟩ = some (.int .i64 (P k).b.2.2) := (BO.cell (p := ⟨b, off + k * 12 + 6, none⟩) hb).trans (hx 6 (by omega))
      have x7 : wr.cell? ⟨b, off + k * 12 + 7, none⟩ = some (.int .i64 (P k).c.1) := (BO.cell (p := ⟨b, off + k * 12 + 7, none⟩) hb).trans (hx 7 (by omega))
      have x8 : wr.cell? ⟨b, off + k * 12 + 8, none⟩ = some (.int .i64 (P k).c.2.1) := (BO.cell (p := ⟨b, off + k * 12 + 8, none⟩) hb).trans (hx 8 (by omega))
      have x9 : wr.cell? ⟨b, off + k * 12 + 9, none⟩ = some (.int .i64 (P k).c.2.2) := (BO.cell (p := ⟨b, off + k * 12 + 9, none⟩) hb).trans (hx 9 (by omega))
      have x10 : wr.cell? ⟨b, off + k * 12 + 10, none⟩ = some (.int .i64 (P k).r) := (BO.cell (p := ⟨b, off + k * 12 + 10, none⟩) hb).trans (hx 10 (by omega))
      have x11 : wr.cell? ⟨b, off + k * 12 + 11, none⟩ = some (.int .i64 (P k).m) := (BO.cell (p := ⟨b, off + k * 12 + 11, none⟩) hb).trans (hx 11 (by omega))
      have hb := Nat.lt_of_lt_of_le hb BO.size
      have B1 : Below wr.heap.size wr wr := Below.refl _ _
      obtain ⟨l1, e1⟩ : ∃ l, l = hUp P (k + 1) (o1, o2, o3) (d1, d2, d3) fr := ⟨_, rfl⟩
      obtain ⟨l0, e0⟩ : ∃ l, l = hUp P k (o1, o2, o3) (d1, d2, d3) fr := ⟨_, rfl⟩
      rw [← e0] at hU hV hlen hown
      rw [← e1] at hU hV
      have HE := Lib.hid e1
      clear e0 e1
      change Hid (∀ w, Calls Tryz.prog 28 _ w fun en w' => en = .returned (.tuple #[.agg #[.int .i64 (pHit (P k) k (o1, o2, o3) (d1, d2, d3) fr).1.1, .int .i64 (pHit (P k) k (o1, o2, o3) (d1, d2, d3) fr).1.2], .bool (pHit (P k) k (o1, o2, o3) (d1, d2, d3) fr).2]) ∧ Below w.heap.size w w') at KH
      generalize pHit (P k) k (o1, o2, o3) (d1, d2, d3) fr = R at *
      generalize P k = pk at *
      obtain ⟨kk, ⟨a1, a2, a3⟩, ⟨b1, b2, b3⟩, ⟨c1, c2, c3⟩, r, m⟩ := pk
      obtain ⟨⟨rn, rd⟩, ok⟩ := R
      dsimp only at KH hU hV x0 x1 x2 x3 x4 x5 x6 x7 x8 x9 x10 x11
      have HU := Lib.hid hU
      have HV := Lib.hid hV
      have HOWN := Lib.hid hown
      clear hx hIk hU hV hcell hI hown
      cases ok with
      | false =>
        obtain ⟨c_y_0, c_y_1, c_y_2, c_y_3, c_y_4, c_y_5, c_y_6⟩ := bwc7 (k_y)
        have c_e0 : ∀ p : BW wr, p.w.cell? ⟨b, off + k * 12, none⟩ = some (.int .i64 kk) := bw_cell ((B1.cell (p := ⟨b, off + k * 12, none⟩) hb).trans x0)
        have c_e1 : ∀ p : BW wr, p.w.cell? ⟨b, off + k * 12 + 1, none⟩ = some (.int .i64 a1) := bw_cell ((B1.cell (p := ⟨b, off + k * 12 + 1, none⟩) hb).trans x1)
        have c_e2 : ∀ p : BW wr, p.w.cell? ⟨b, off + k * 12 + 2, none⟩ = some (.int .i64 a2) := bw_cell ((B1.cell (p := ⟨b, off + k * 12 + 2, none⟩) hb).trans x2)
        have c_e3 : ∀ p : BW wr, p.w.cell? ⟨b, off + k * 12 + 3, none⟩ = some (.int .i64 a3) := bw_cell ((B1.cell (p := ⟨b, off + k * 12 + 3, none⟩) hb).trans x3)
        have c_e4 : ∀ p : BW wr, p.w.cell? ⟨b, off + k * 12 + 4, none⟩ = some (.int .i64 b1) := bw_cell ((B1.cell (p := ⟨b, off + k * 12 + 4, none⟩) hb).trans x4)
        have c_e5 : ∀ p : BW wr, p.w.cell? ⟨b, off + k * 12 + 5, none⟩ = some (.int .i64 b2) := bw_cell ((B1.cell (p := ⟨b, off + k * 12 + 5, none⟩) hb).trans x5)
        have c_e6 : ∀ p : BW wr, p.w.cell? ⟨b, off + k * 12 + 6, none⟩ = some (.int .i64 b3) := bw_cell ((B1.cell (p := ⟨b, off + k * 12 + 6, none⟩) hb).trans x6)
        have c_e7 : ∀ p : BW wr, p.w.cell? ⟨b, off + k * 12 + 7, none⟩ = some (.int .i64 c1) := bw_cell ((B1.cell (p := ⟨b, off + k * 12 + 7, none⟩) hb).trans x7)
        have c_e8 : ∀ p : BW wr, p.w.cell? ⟨b, off + k * 12 + 8, none⟩ = some (.int .i64 c2) := bw_cell ((B1.cell (p := ⟨b, off + k * 12 + 8, none⟩) hb).trans x8)
        have c_e9 : ∀ p : BW wr, p.w.cell? ⟨b, off + k * 12 + 9, none⟩ = some (.int .i64 c3) := bw_cell ((B1.cell (p := ⟨b, off + k * 12 + 9, none⟩) hb).trans x9)
        have c_e10 : ∀ p : BW wr, p.w.cell? ⟨b, off + k * 12 + 10, none⟩ = some (.int .i64 r) := bw_cell ((B1.cell (p := ⟨b, off + k * 12 + 10, none⟩) hb).trans x10)
        have c_e11 : ∀ p : BW wr, p.w.cell? ⟨b, off + k * 12 + 11, none⟩ = some (.int .i64 m) := bw_cell ((B1.cell (p := ⟨b, off + k * 12 + 11, none⟩) hb).trans x11)
        obtain ⟨p1, hp1⟩ : ∃ p : BW wr, p.w = wr := ⟨BW.start wr, rfl⟩
        rw [← hp1]
        clear hp1
        go_upto_region 5 with (fail)
        refine wp_region_late 9 11 24 (by kernel_rfl) (by kernel_rfl) rfl rfl rfl (fun _ _ _ _ h => h) ?_
        refine any_region_float (t := 29) (zs := #[.int .i64 0, .int .i64 0]) 11 10 7 33 (by kernel_rfl) (by kernel_rfl) (by kernel_rfl) (by kernel_rfl) rfl ?_ ?_
        · intro ev wx
          simp [execOp, go_sem]
        apply Exists.intro
        refine ⟨?_, ?_⟩
        · intro wb' hwb'
          obtain ⟨d_y_0, d_y_1, d_y_2, d_y_3, d_y_4, d_y_5, d_y_6⟩ := bwc7 (k_y.below hwb')
          have d_e0 : ∀ q : BW wb', q.w.cell? ⟨b, off + k * 12, none⟩ = some (.int .i64 kk) := bw_cell ((hwb'.cell (p := ⟨b, off + k * 12, none⟩) (Nat.lt_of_lt_of_le hb B1.size)).trans ((B1.cell (p := ⟨b, off + k * 12, none⟩) hb).trans x0))
          have d_e1 : ∀ q : BW wb', q.w.cell? ⟨b, off + k * 12 + 1, none⟩ = some (.int .i64 a1) := bw_cell ((hwb'.cell (p := ⟨b, off + k * 12 + 1, none⟩) (Nat.lt_of_lt_of_le hb B1.size)).trans ((B1.cell (p := ⟨b, off + k * 12 + 1, none⟩) hb).trans x1))
          have d_e2 : ∀ q : BW wb', q.w.cell? ⟨b, off + k * 12 + 2, none⟩ = some (.int .i64 a2) := bw_cell ((hwb'.cell (p := ⟨b, off + k * 12 + 2, none⟩) (Nat.lt_of_lt_of_le hb B1.size)).trans ((B1.cell (p := ⟨b, off + k * 12 + 2, none⟩) hb).trans x2))
          have d_e3 : ∀ q : BW wb', q.w.cell? ⟨b, off + k * 12 + 3, none⟩ = some (.int .i64 a3) := bw_cell ((hwb'.cell (p := ⟨b, off + k * 12 + 3, none⟩) (Nat.lt_of_lt_of_le hb B1.size)).trans ((B1.cell (p := ⟨b, off + k * 12 + 3, none⟩) hb).trans x3))
          have d_e4 : ∀ q : BW wb', q.w.cell? ⟨b, off + k * 12 + 4, none⟩ = some (.int .i64 b1) := bw_cell ((hwb'.cell (p := ⟨b, off + k * 12 + 4, none⟩) (Nat.lt_of_lt_of_le hb B1.size)).trans ((B1.cell (p := ⟨b, off + k * 12 + 4, none⟩) hb).trans x4))
          have d_e5 : ∀ q : BW wb', q.w.cell? ⟨b, off + k * 12 + 5, none⟩ = some (.int .i64 b2) := bw_cell ((hwb'.cell (p := ⟨b, off + k * 12 + 5, none⟩) (Nat.lt_of_lt_of_le hb B1.size)).trans ((B1.cell (p := ⟨b, off + k * 12 + 5, none⟩) hb).trans x5))
          have d_e6 : ∀ q : BW wb', q.w.cell? ⟨b, off + k * 12 + 6, none⟩ = some (.int .i64 b3) := bw_cell ((hwb'.cell (p := ⟨b, off + k * 12 + 6, none⟩) (Nat.lt_of_lt_of_le hb B1.size)).trans ((B1.cell (p := ⟨b, off + k * 12 + 6, none⟩) hb).trans x6))
          have d_e7 : ∀ q : BW wb', q.w.cell? ⟨b, off + k * 12 + 7, none⟩ = some (.int .i64 c1) := bw_cell ((hwb'.cell (p := ⟨b, off + k * 12 + 7, none⟩) (Nat.lt_of_lt_of_le hb B1.size)).trans ((B1.cell (p := ⟨b, off + k * 12 + 7, none⟩) hb).trans x7))
          have d_e8 : ∀ q : BW wb', q.w.cell? ⟨b, off + k * 12 + 8, none⟩ = some (.int .i64 c2) := bw_cell ((hwb'.cell (p := ⟨b, off + k * 12 + 8, none⟩) (Nat.lt_of_lt_of_le hb B1.size)).trans ((B1.cell (p := ⟨b, off + k * 12 + 8, none⟩) hb).trans x8))
          have d_e9 : ∀ q : BW wb', q.w.cell? ⟨b, off + k * 12 + 9, none⟩ = some (.int .i64 c3) := bw_cell ((hwb'.cell (p := ⟨b, off + k * 12 + 9, none⟩) (Nat.lt_of_lt_of_le hb B1.size)).trans ((B1.cell (p := ⟨b, off + k * 12 + 9, none⟩) hb).trans x9))
          have d_e10 : ∀ q : BW wb', q.w.cell? ⟨b, off + k * 12 + 10, none⟩ = some (.int .i64 r) := bw_cell ((hwb'.cell (p := ⟨b, off + k * 12 + 10, none⟩) (Nat.lt_of_lt_of_le hb B1.size)).trans ((B1.cell (p := ⟨b, off + k * 12 + 10, none⟩) hb).trans x10))
          have d_e11 : ∀ q : BW wb', q.w.cell? ⟨b, off + k * 12 + 11, none⟩ = some (.int .i64 m) := bw_cell ((hwb'.cell (p := ⟨b, off + k * 12 + 11, none⟩) (Nat.lt_of_lt_of_le hb B1.size)).trans ((B1.cell (p := ⟨b, off + k * 12 + 11, none⟩) hb).trans x11))
          simp only [edgeAt, maskAt, List.take_succ_cons, List.take_zero]
          repeat (go_big_quiet_step (first
            | (go_at_call 28; (first | (with_reducible exact bw_call KH.out _)))))
          refine wpQuiet_nil ?_
          exact rfl
        intro W2 g_t hW hg k_t
        have B2 : Below wr.heap.size wr W2 := B1.trans (hW.mono B1.size)
        have o_t : wr.heap.size ≤ g_t := Nat.le_trans B1.size hg
        have l_t : w.heap.size < g_t := Nat.lt_of_lt_of_le k_y.lt hg
        have k_y := k_y.below hW
        clear hW hg B1
        clear c_y_0 c_y_1 c_y_2 c_y_3 c_y_4 c_y_5 c_y_6 c_e0 c_e1 c_e2 c_e3 c_e4 c_e5 c_e6 c_e7 c_e8 c_e9 c_e10 c_e11
        simp only [edgeAt, List.drop_succ_cons, List.drop_zero, Act.put, List.setIfInBounds_toArray, List.set_cons_zero, List.set_cons_succ]
        obtain ⟨c_y_0, c_y_1, c_y_2, c_y_3, c_y_4, c_y_5, c_y_6⟩ := bwc7 (k_y)
        obtain ⟨c_t_0, c_t_1⟩ := bwc2 (k_t)
        obtain ⟨f_t_0, f_t_1⟩ := bwf2 (k_t)
        have c_e0 : ∀ p : BW W2, p.w.cell? ⟨b, off + k * 12, none⟩ = some (.int .i64 kk) := bw_cell ((B2.cell (p := ⟨b, off + k * 12, none⟩) hb).trans x0)
        have c_e1 : ∀ p : BW W2, p.w.cell? ⟨b, off + k * 12 + 1, none⟩ = some (.int .i64 a1) := bw_cell ((B2.cell (p := ⟨b, off + k * 12 + 1, none⟩) hb).trans x1)
        have c_e2 : ∀ p : BW W2, p.w.cell? ⟨b, off + k * 12 + 2, none⟩ = some (.int .i64 a2) := bw_cell ((B2.cell (p := ⟨b, off + k * 12 + 2, none⟩) hb).trans x2)
        have c_e3 : ∀ p : BW W2, p.w.cell? ⟨b, off + k * 12 + 3, none⟩ = some (.int .i64 a3) := bw_cell ((B2.cell (p := ⟨b, off + k * 12 + 3, none⟩) hb).trans x3)
        have c_e4 : ∀ p : BW W2, p.w.cell? ⟨b, off + k * 12 + 4, none⟩ = some (.int .i64 b1) := bw_cell ((B2.cell (p := ⟨b, off + k * 12 + 4, none⟩) hb).trans x4)
        have c_e5 : ∀ p : BW W2, p.w.cell? ⟨b, off + k * 12 + 5, none⟩ = some (.int .i64 b2) := bw_cell ((B2.cell (p := ⟨b, off + k * 12 + 5, none⟩) hb).trans x5)
        have c_e6 : ∀ p : BW W2, p.w.cell? ⟨b, off + k * 12 + 6, none⟩ = some (.int .i64 b3) := bw_cell ((B2.cell (p := ⟨b, off + k * 12 + 6, none⟩) hb).trans x6)
        have c_e7 : ∀ p : BW W2, p.w.cell? ⟨b, off + k * 12 + 7, none⟩ = some (.int .i64 c1) := bw_cell ((B2.cell (p := ⟨b, off + k * 12 + 7, none⟩) hb).trans x7)
        have c_e8 : ∀ p : BW W2, p.w.cell? ⟨b, off + k * 12 + 8, none⟩ = some (.int .i64 c2) := bw_cell ((B2.cell (p := ⟨b, off + k * 12 + 8, none⟩) hb).trans x8)
        have c_e9 : ∀ p : BW W2, p.w.cell? ⟨b, off + k * 12 + 9, none⟩ = some (.int .i64 c3) := bw_cell ((B2.cell (p := ⟨b, off + k * 12 + 9, none⟩) hb).trans x9)
        have c_e10 : ∀ p : BW W2, p.w.cell? ⟨b, off + k * 12 + 10, none⟩ = some (.int .i64 r) := bw_cell ((B2.cell (p := ⟨b, off + k * 12 + 10, none⟩) hb).trans x10)
        have c_e11 : ∀ p : BW W2, p.w.cell? ⟨b, off + k * 12 + 11, none⟩ = some (.int .i64 m) := bw_cell ((B2.cell (p := ⟨b, off + k * 12 + 11, none⟩) hb).trans x11)
        obtain ⟨p2, hp2⟩ : ∃ p : BW W2, p.w = W2 := ⟨BW.start W2, rfl⟩
        rw [← hp2]
        clear hp2
        go_upto_region 6 with (fail)
        obtain ⟨W3, hW3⟩ : ∃ W, W = (p2.w.setCell ⟨g_t, 0, none⟩ (.int .i64 rn)).setCell ⟨g_t, 1, none⟩ (.int .i64 rd) := ⟨_, rfl⟩
        have B3 : Below wr.heap.size wr W3 := by rw [hW3]; exact blp2 (bw_below B2 p2) (by omega)
        have k_y := bkoe2 hW3 (k_y.below p2.h) (by omega)
        have k_t := bkpe2 hW3 (k_t.below p2.h)
        rw [← hW3]
        clear hW3
        clear B2
        clear c_y_0 c_y_1 c_y_2 c_y_3 c_y_4 c_y_5 c_y_6 c_t_0 c_t_1 f_t_0 f_t_1 c_e0 c_e1 c_e2 c_e3 c_e4 c_e5 c_e6 c_e7 c_e8 c_e9 c_e10 c_e11
        obtain ⟨c_y_0, c_y_1, c_y_2, c_y_3, c_y_4, c_y_5, c_y_6⟩ := bwc7 (k_y)
        obtain ⟨c_t_0, c_t_1⟩ := bwc2 (k_t)
        have c_e0 : ∀ p : BW W3, p.w.cell? ⟨b, off + k * 12, none⟩ = some (.int .i64 kk) := bw_cell ((B3.cell (p := ⟨b, off + k * 12, none⟩) hb).trans x0)
        have c_e1 : ∀ p : BW W3, p.w.cell? ⟨b, off + k * 12 + 1, none⟩ = some (.int .i64 a1) := bw_cell ((B3.cell (p := ⟨b, off + k * 12 + 1, none⟩) hb).trans x1)
        have c_e2 : ∀ p : BW W3, p.w.cell? ⟨b, off + k * 12 + 2, none⟩ = some (.int .i64 a2) := bw_cell ((B3.cell (p := ⟨b, off + k * 12 + 2, none⟩) hb).trans x2)
        have c_e3 : ∀ p : BW W3, p.w.cell? ⟨b, off + k * 12 + 3, none⟩ = some (.int .i64 a3) := bw_cell ((B3.cell (p := ⟨b, off + k * 12 + 3, none⟩) hb).trans x3)
        have c_e4 : ∀ p : BW W3, p.w.cell? ⟨b, off + k * 12 + 4, none⟩ = some (.int .i64 b1) := bw_cell ((B3.cell (p := ⟨b, off + k * 12 + 4, none⟩) hb).trans x4)
        have c_e5 : ∀ p : BW W3, p.w.cell? ⟨b, off + k * 12 + 5, none⟩ = some (.int .i64 b2) := bw_cell ((B3.cell (p := ⟨b, off + k * 12 + 5, none⟩) hb).trans x5)
        have c_e6 : ∀ p : BW W3, p.w.cell? ⟨b, off + k * 12 + 6, none⟩ = some (.int .i64 b3) := bw_cell ((B3.cell (p := ⟨b, off + k * 12 + 6, none⟩) hb).trans x6)
        have c_e7 : ∀ p : BW W3, p.w.cell? ⟨b, off + k * 12 + 7, none⟩ = some (.int .i64 c1) := bw_cell ((B3.cell (p := ⟨b, off + k * 12 + 7, none⟩) hb).trans x7)
        have c_e8 : ∀ p : BW W3, p.w.cell? ⟨b, off + k * 12 + 8, none⟩ = some (.int .i64 c2) := bw_cell ((B3.cell (p := ⟨b, off + k * 12 + 8, none⟩) hb).trans x8)
        have c_e9 : ∀ p : BW W3, p.w.cell? ⟨b, off + k * 12 + 9, none⟩ = some (.int .i64 c3) := bw_cell ((B3.cell (p := ⟨b, off + k * 12 + 9, none⟩) hb).trans x9)
        have c_e10 : ∀ p : BW W3, p.w.cell? ⟨b, off + k * 12 + 10, none⟩ = some (.int .i64 r) := bw_cell ((B3.cell (p := ⟨b, off + k * 12 + 10, none⟩) hb).trans x10)
        have c_e11 : ∀ p : BW W3, p.w.cell? ⟨b, off + k * 12 + 11, none⟩ = some (.int .i64 m) := bw_cell ((B3.cell (p := ⟨b, off + k * 12 + 11, none⟩) hb).trans x11)
        obtain ⟨p3, hp3⟩ : ∃ p : BW W3, p.w = W3 := ⟨BW.start W3, rfl⟩
        rw [← hp3]
        clear hp3
        go_wp2
        go_roundw
        case rel => exact ⟨k + 1, by omega, by go_num, (by rw [← HE.out, HV.out (by simp)]; exact owns_below HOWN.out (bw_below B3 p3)), k_y.below p3.h, BO.trans ((bw_below B3 p3).mono BO.size)⟩
        case measure => simp [intOf]; omega
      | true =>
        obtain ⟨c_y_0, c_y_1, c_y_2, c_y_3, c_y_4, c_y_5, c_y_6⟩ := bwc7 (k_y)
        have c_e0 : ∀ p : BW wr, p.w.cell? ⟨b, off + k * 12, none⟩ = some (.int .i64 kk) := bw_cell ((B1.cell (p := ⟨b, off + k * 12, none⟩) hb).trans x0)
        have c_e1 : ∀ p : BW wr, p.w.cell? ⟨b, off + k * 12 + 1, none⟩ = some (.int .i64 a1) := bw_cell ((B1.cell (p := ⟨b, off + k * 12 + 1, none⟩) hb).trans x1)
        have c_e2 : ∀ p : BW wr, p.w.cell? ⟨b, off + k * 12 + 2, none⟩ = some (.int .i64 a2) := bw_cell ((B1.cell (p := ⟨b, off + k * 12 + 2, none⟩) hb).trans x2)
        have c_e3 : ∀ p : BW wr, p.w.cell? ⟨b, off + k * 12 + 3, none⟩ = some (.int .i64 a3) := bw_cell ((B1.cell (p := ⟨b, off + k * 12 + 3, none⟩) hb).trans x3)
        have c_e4 : ∀ p : BW wr, p.w.cell? ⟨b, off + k * 12 + 4, none⟩ = some (.int .i64 b1) := bw_cell ((B1.cell (p := ⟨b, off + k * 12 + 4, none⟩) hb).trans x4)
        have c_e5 : ∀ p : BW wr, p.w.cell? ⟨b, off + k * 12 + 5, none⟩ = some (.int .i64 b2) := bw_cell ((B1.cell (p := ⟨b, off + k * 12 + 5, none⟩) hb).trans x5)
        have c_e6 : ∀ p : BW wr, p.w.cell? ⟨b, off + k * 12 + 6, none⟩ = some (.int .i64 b3) := bw_cell ((B1.cell (p := ⟨b, off + k * 12 + 6, none⟩) hb).trans x6)
        have c_e7 : ∀ p : BW wr, p.w.cell? ⟨b, off + k * 12 + 7, none⟩ = some (.int .i64 c1) := bw_cell ((B1.cell (p := ⟨b, off + k * 12 + 7, none⟩) hb).trans x7)
        have c_e8 : ∀ p : BW wr, p.w.cell? ⟨b, off + k * 12 + 8, none⟩ = some (.int .i64 c2) := bw_cell ((B1.cell (p := ⟨b, off + k * 12 + 8, none⟩) hb).trans x8)
        have c_e9 : ∀ p : BW wr, p.w.cell? ⟨b, off + k * 12 + 9, none⟩ = some (.int .i64 c3) := bw_cell ((B1.cell (p := ⟨b, off + k * 12 + 9, none⟩) hb).trans x9)
        have c_e10 : ∀ p : BW wr, p.w.cell? ⟨b, off + k * 12 + 10, none⟩ = some (.int .i64 r) := bw_cell ((B1.cell (p := ⟨b, off + k * 12 + 10, none⟩) hb).trans x10)
        have c_e11 : ∀ p : BW wr, p.w.cell? ⟨b, off + k * 12 + 11, none⟩ = some (.int .i64 m) := bw_cell ((B1.cell (p := ⟨b, off + k * 12 + 11, none⟩) hb).trans x11)
        obtain ⟨p1, hp1⟩ : ∃ p : BW wr, p.w = wr := ⟨BW.start wr, rfl⟩
        rw [← hp1]
        clear hp1
        go_upto_region 5 with (fail)
        refine wp_region_late 9 11 24 (by kernel_rfl) (by kernel_rfl) rfl rfl rfl (fun _ _ _ _ h => h) ?_
        refine any_region_float (t := 29) (zs := #[.int .i64 0, .int .i64 0]) 11 10 7 33 (by kernel_rfl) (by kernel_rfl) (by kernel_rfl) (by kernel_rfl) rfl ?_ ?_
        · intro ev wx
          simp [execOp, go_sem]
        apply Exists.intro
        refine ⟨?_, ?_⟩
        · intro wb' hwb'
          obtain ⟨d_y_0, d_y_1, d_y_2, d_y_3, d_y_4, d_y_5, d_y_6⟩ := bwc7 (k_y.below hwb')
          have d_e0 : ∀ q : BW wb', q.w.cell? ⟨b, off + k * 12, none⟩ = some (.int .i64 kk) := bw_cell ((hwb'.cell (p := ⟨b, off + k * 12, none⟩) (Nat.lt_of_lt_of_le hb B1.size)).trans ((B1.cell (p := ⟨b, off + k * 12, none⟩) hb).trans x0))
          have d_e1 : ∀ q : BW wb', q.w.cell? ⟨b, off + k * 12 + 1, none⟩ = some (.int .i64 a1) := bw_cell ((hwb'.cell (p := ⟨b, off + k * 12 + 1, none⟩) (Nat.lt_of_lt_of_le hb B1.size)).trans ((B1.cell (p := ⟨b, off + k * 12 + 1, none⟩) hb).trans x1))
          have d_e2 : ∀ q : BW wb', q.w.cell? ⟨b, off + k * 12 + 2, none⟩ = some (.int .i64 a2) := bw_cell ((hwb'.cell (p := ⟨b, off + k * 12 + 2, none⟩) (Nat.lt_of_lt_of_le hb B1.size)).trans ((B1.cell (p := ⟨b, off + k * 12 + 2, none⟩) hb).trans x2))
          have d_e3 : ∀ q : BW wb', q.w.cell? ⟨b, off + k * 12 + 3, none⟩ = some (.int .i64 a3) := bw_cell ((hwb'.cell (p := ⟨b, off + k * 12 + 3, none⟩) (Nat.lt_of_lt_of_le hb B1.size)).trans ((B1.cell (p := ⟨b, off + k * 12 + 3, none⟩) hb).trans x3))
          have d_e4 : ∀ q : BW wb', q.w.cell? ⟨b, off + k * 12 + 4, none⟩ = some (.int .i64 b1) := bw_cell ((hwb'.cell (p := ⟨b, off + k * 12 + 4, none⟩) (Nat.lt_of_lt_of_le hb B1.size)).trans ((B1.cell (p := ⟨b, off + k * 12 + 4, none⟩) hb).trans x4))
          have d_e5 : ∀ q : BW wb', q.w.cell? ⟨b, off + k * 12 + 5, none⟩ = some (.int .i64 b2) := bw_cell ((hwb'.cell (p := ⟨b, off + k * 12 + 5, none⟩) (Nat.lt_of_lt_of_le hb B1.size)).trans ((B1.cell (p := ⟨b, off + k * 12 + 5, none⟩) hb).trans x5))
          have d_e6 : ∀ q : BW wb', q.w.cell? ⟨b, off + k * 12 + 6, none⟩ = some (.int .i64 b3) := bw_cell ((hwb'.cell (p := ⟨b, off + k * 12 + 6, none⟩) (Nat.lt_of_lt_of_le hb B1.size)).trans ((B1.cell (p := ⟨b, off + k * 12 + 6, none⟩) hb).trans x6))
          have d_e7 : ∀ q : BW wb', q.w.cell? ⟨b, off + k * 12 + 7, none⟩ = some (.int .i64 c1) := bw_cell ((hwb'.cell (p := ⟨b, off + k * 12 + 7, none⟩) (Nat.lt_of_lt_of_le hb B1.size)).trans ((B1.cell (p := ⟨b, off + k * 12 + 7, none⟩) hb).trans x7))
          have d_e8 : ∀ q : BW wb', q.w.cell? ⟨b, off + k * 12 + 8, none⟩ = some (.int .i64 c2) := bw_cell ((hwb'.cell (p := ⟨b, off + k * 12 + 8, none⟩) (Nat.lt_of_lt_of_le hb B1.size)).trans ((B1.cell (p := ⟨b, off + k * 12 + 8, none⟩) hb).trans x8))
          have d_e9 : ∀ q : BW wb', q.w.cell? ⟨b, off + k * 12 + 9, none⟩ = some (.int .i64 c3) := bw_cell ((hwb'.cell (p := ⟨b, off + k * 12 + 9, none⟩) (Nat.lt_of_lt_of_le hb B1.size)).trans ((B1.cell (p := ⟨b, off + k * 12 + 9, none⟩) hb).trans x9))
          have d_e10 : ∀ q : BW wb', q.w.cell? ⟨b, off + k * 12 + 10, none⟩ = some (.int .i64 r) := bw_cell ((hwb'.cell (p := ⟨b, off + k * 12 + 10, none⟩) (Nat.lt_of_lt_of_le hb B1.size)).trans ((B1.cell (p := ⟨b, off + k * 12 + 10, none⟩) hb).trans x10))
          have d_e11 : ∀ q : BW wb', q.w.cell? ⟨b, off + k * 12 + 11, none⟩ = some (.int .i64 m) := bw_cell ((hwb'.cell (p := ⟨b, off + k * 12 + 11, none⟩) (Nat.lt_of_lt_of_le hb B1.size)).trans ((B1.cell (p := ⟨b, off + k * 12 + 11, none⟩) hb).trans x11))
          simp only [edgeAt, maskAt, List.take_succ_cons, List.take_zero]
          repeat (go_big_quiet_step (first
            | (go_at_call 28; (first | (with_reducible exact bw_call KH.out _)))))
          refine wpQuiet_nil ?_
          exact rfl
        intro W2 g_t hW hg k_t
        have B2 : Below wr.heap.size wr W2 := B1.trans (hW.mono B1.size)
        have o_t : wr.heap.size ≤ g_t := Nat.le_trans B1.size hg
        have l_t : w.heap.size < g_t := Nat.lt_of_lt_of_le k_y.lt hg
        have k_y := k_y.below hW
        clear hW hg B1
        clear c_y_0 c_y_1 c_y_2 c_y_3 c_y_4 c_y_5 c_y_6 c_e0 c_e1 c_e2 c_e3 c_e4 c_e5 c_e6 c_e7 c_e8 c_e9 c_e10 c_e11
        simp only [edgeAt, List.drop_succ_cons, List.drop_zero, Act.put, List.setIfInBounds_toArray, List.set_cons_zero, List.set_cons_succ]
        obtain ⟨c_y_0, c_y_1, c_y_2, c_y_3, c_y_4, c_y_5, c_y_6⟩ := bwc7 (k_y)
        obtain ⟨c_t_0, c_t_1⟩ := bwc2 (k_t)
        obtain ⟨f_t_0, f_t_1⟩ := bwf2 (k_t)
        have c_e0 : ∀ p : BW W2, p.w.cell? ⟨b, off + k * 12, none⟩ = some (.int .i64 kk) := bw_cell ((B2.cell (p := ⟨b, off + k * 12, none⟩) hb).trans x0)
        have c_e1 : ∀ p : BW W2, p.w.cell? ⟨b, off + k * 12 + 1, none⟩ = some (.int .i64 a1) := bw_cell ((B2.cell (p := ⟨b, off + k * 12 + 1, none⟩) hb).trans x1)
        have c_e2 : ∀ p : BW W2, p.w.cell? ⟨b, off + k * 12 + 2, none⟩ = some (.int .i64 a2) := bw_cell ((B2.cell (p := ⟨b, off + k * 12 + 2, none⟩) hb).trans x2)
        have c_e3 : ∀ p : BW W2, p.w.cell? ⟨b, off + k * 12 + 3, none⟩ = some (.int .i64 a3) := bw_cell ((B2.cell (p := ⟨b, off + k * 12 + 3, none⟩) hb).trans x3)
        have c_e4 : ∀ p : BW W2, p.w.cell? ⟨b, off + k * 12 + 4, none⟩ = some (.int .i64 b1) := bw_cell ((B2.cell (p := ⟨b, off + k * 12 + 4, none⟩) hb).trans x4)
        have c_e5 : ∀ p : BW W2, p.w.cell? ⟨b, off + k * 12 + 5, none⟩ = some (.int .i64 b2) := bw_cell ((B2.cell (p := ⟨b, off + k * 12 + 5, none⟩) hb).trans x5)
        have c_e6 : ∀ p : BW W2, p.w.cell? ⟨b, off + k * 12 + 6, none⟩ = some (.int .i64 b3) := bw_cell ((B2.cell (p := ⟨b, off + k * 12 + 6, none⟩) hb).trans x6)
        have c_e7 : ∀ p : BW W2, p.w.cell? ⟨b, off + k * 12 + 7, none⟩ = some (.int .i64 c1) := bw_cell ((B2.cell (p := ⟨b, off + k * 12 + 7, none⟩) hb).trans x7)
        have c_e8 : ∀ p : BW W2, p.w.cell? ⟨b, off + k * 12 + 8, none⟩ = some (.int .i64 c2) := bw_cell ((B2.cell (p := ⟨b, off + k * 12 + 8, none⟩) hb).trans x8)
        have c_e9 : ∀ p : BW W2, p.w.cell? ⟨b, off + k * 12 + 9, none⟩ = some (.int .i64 c3) := bw_cell ((B2.cell (p := ⟨b, off + k * 12 + 9, none⟩) hb).trans x9)
        have c_e10 : ∀ p : BW W2, p.w.cell? ⟨b, off + k * 12 + 10, none⟩ = some (.int .i64 r) := bw_cell ((B2.cell (p := ⟨b, off + k * 12 + 10, none⟩) hb).trans x10)
        have c_e11 : ∀ p : BW W2, p.w.cell? ⟨b, off + k * 12 + 11, none⟩ = some (.int .i64 m) := bw_cell ((B2.cell (p := ⟨b, off + k * 12 + 11, none⟩) hb).trans x11)
        obtain ⟨p2, hp2⟩ : ∃ p : BW W2, p.w = W2 := ⟨BW.start W2, rfl⟩
        rw [← hp2]
        clear hp2
        go_upto_region 6 with (fail)
        obtain ⟨W3, hW3⟩ : ∃ W, W = (p2.w.setCell ⟨g_t, 0, none⟩ (.int .i64 rn)).setCell ⟨g_t, 1, none⟩ (.int .i64 rd) := ⟨_, rfl⟩
        have B3 : Below wr.heap.size wr W3 := by rw [hW3]; exact blp2 (bw_below B2 p2) (by omega)
        have k_y := bkoe2 hW3 (k_y.below p2.h) (by omega)
        have k_t := bkpe2 hW3 (k_t.below p2.h)
        rw [← hW3]
        clear hW3
        clear B2
        clear c_y_0 c_y_1 c_y_2 c_y_3 c_y_4 c_y_5 c_y_6 c_t_0 c_t_1 f_t_0 f_t_1 c_e0 c_e1 c_e2 c_e3 c_e4 c_e5 c_e6 c_e7 c_e8 c_e9 c_e10 c_e11
        obtain ⟨c_y_0, c_y_1, c_y_2, c_y_3, c_y_4, c_y_5, c_y_6⟩ := bwc7 (k_y)
        obtain ⟨c_t_0, c_t_1⟩ := bwc2 (k_t)
        have c_e0 : ∀ p : BW W3, p.w.cell? ⟨b, off + k * 12, none⟩ = some (.int .i64 kk) := bw_cell ((B3.cell (p := ⟨b, off + k * 12, none⟩) hb).trans x0)
        have c_e1 : ∀ p : BW W3, p.w.cell? ⟨b, off + k * 12 + 1, none⟩ = some (.int .i64 a1) := bw_cell ((B3.cell (p := ⟨b, off + k * 12 + 1, none⟩) hb).trans x1)
        have c_e2 : ∀ p : BW W3, p.w.cell? ⟨b, off + k * 12 + 2, none⟩ = some (.int .i64 a2) := bw_cell ((B3.cell (p := ⟨b, off + k * 12 + 2, none⟩) hb).trans x2)
        have c_e3 : ∀ p : BW W3, p.w.cell? ⟨b, off + k * 12 + 3, none⟩ = some (.int .i64 a3) := bw_cell ((B3.cell (p := ⟨b, off + k * 12 + 3, none⟩) hb).trans x3)
        have c_e4 : ∀ p : BW W3, p.w.cell? ⟨b, off + k * 12 + 4, none⟩ = some (.int .i64 b1) := bw_cell ((B3.cell (p := ⟨b, off + k * 12 + 4, none⟩) hb).trans x4)
        have c_e5 : ∀ p : BW W3, p.w.cell? ⟨b, off + k * 12 + 5, none⟩ = some (.int .i64 b2) := bw_cell ((B3.cell (p := ⟨b, off + k * 12 + 5, none⟩) hb).trans x5)
        have c_e6 : ∀ p : BW W3, p.w.cell? ⟨b, off + k * 12 + 6, none⟩ = some (.int .i64 b3) := bw_cell ((B3.cell (p := ⟨b, off + k * 12 + 6, none⟩) hb).trans x6)
        have c_e7 : ∀ p : BW W3, p.w.cell? ⟨b, off + k * 12 + 7, none⟩ = some (.int .i64 c1) := bw_cell ((B3.cell (p := ⟨b, off + k * 12 + 7, none⟩) hb).trans x7)
        have c_e8 : ∀ p : BW W3, p.w.cell? ⟨b, off + k * 12 + 8, none⟩ = some (.int .i64 c2) := bw_cell ((B3.cell (p := ⟨b, off + k * 12 + 8, none⟩) hb).trans x8)
        have c_e9 : ∀ p : BW W3, p.w.cell? ⟨b, off + k * 12 + 9, none⟩ = some (.int .i64 c3) := bw_cell ((B3.cell (p := ⟨b, off + k * 12 + 9, none⟩) hb).trans x9)
        have c_e10 : ∀ p : BW W3, p.w.cell? ⟨b, off + k * 12 + 10, none⟩ = some (.int .i64 r) := bw_cell ((B3.cell (p := ⟨b, off + k * 12 + 10, none⟩) hb).trans x10)
        have c_e11 : ∀ p : BW W3, p.w.cell? ⟨b, off + k * 12 + 11, none⟩ = some (.int .i64 m) := bw_cell ((B3.cell (p := ⟨b, off + k * 12 + 11, none⟩) hb).trans x11)
        obtain ⟨p3, hp3⟩ : ∃ p : BW W3, p.w = W3 := ⟨BW.start W3, rfl⟩
        rw [← hp3]
        clear hp3
        have hown := owns_below HOWN.out (bw_below B3 p3)
        have hbase : w.heap.size + 1 ≤ p3.w.heap.size := (k_y.below p3.h).lt
        go_wp2_with (at_builtin; refine wpList_append_own _ rfl _ _ 39 rfl (w.heap.size + 1) 31 i0 (.agg #[.int .i64 0, .int .i64 0, .int .i64 0]) 3 24 Tryz.underlying39 hi hz0 hz1 hz2 rfl (by decide) _ _ _ rfl (hown.alloc _) ⟨p3.w.heap.size, 0, none⟩ 1 1 [.int .i64 k, .int .i64 rn, .int .i64 rd] rfl rfl ?g1 ?g2 ?g3 ?g4 ?g5 ?_)
        case g2 => first | exact ⟨rfl, rfl, rfl⟩ | (intro u hu; simp only [List.mem_cons, List.not_mem_nil, or_false] at hu; rcases hu with rfl | rfl | rfl <;> rfl)
        case g3 => unfold maxLen; omega
        case g4 => omega
        case g5 => first | omega | (simp; omega)
        intro v' w1 hown' hgrow hne
        have hB1 : Below w.heap.size w w1 := ((BO.trans ((bw_below B3 p3).mono BO.size)).alloc (by omega) _).grown hgrow (by simp; omega) (fun j ej => by have := (hown.lt j ej).1; omega)
        have k_y1 : Bk w1 w.heap.size 27 #[.int .i64 o1, .int .i64 o2, .int .i64 o3, .int .i64 d1, .int .i64 d2, .int .i64 d3, .int .i64 fr] := Bk.grown ((k_y.below p3.h).alloc _) hgrow (fun e => by have := (hown.lt _ e.symm).1; omega)
        have HO : Hid (w1.ownsRow (w.heap.size + 1) 31 3 v' l1.length (l1.flatMap hcells)) := Lib.hid (by rw [(HU.out (by simp)).1, (HU.out (by simp)).2]; exact hown')
        clear hown' hgrow hne hown
        go_wp2
        go_roundw
        case rel => exact ⟨k + 1, by omega, by go_num, (by rw [← HE.out]; exact HO.out), k_y1, hB1⟩
        case measure => simp [intOf]; omega
    · obtain rfl : k = n := by omega
      go_wp2
      go_ret
      exact ⟨_, rfl, owns_mono hown (by omega), BO⟩

end Go.Proofs.YtokkankfaofooaaGreat
