/- Contracts of package tri, below: Place, places, surround, upright, times. -/
import Derived.Test.YtneacfhoinaeeaaMc22
import Derived.Test.YtneacfhoinaeeaaMc17
import Derived.Test.YtneacfhoinaeeaaMc12
import Derived.Test.YtneacfhoinaeeaaMc1
import Derived.Lib.MinMax
import Derived.Laws.Cover1
import Derived.LoopN
import Derived.Deep.DeepCutAuto


namespace Go.Proofs.Ytneacfhoinaeeaa
section

open Go.RowKit Go.Proofs.Sky

set_option linter.unusedVariables false

set_option maxRecDepth 100000 in
set_option maxHeartbeats 4000000 in
theorem tri_Place_no (x y z : Int) (w : World) (mn : Int) (hmn : ∀ (w : World) (ts : Array TypeId) (t : TypeId), (Builtin.min_ ts t #[.int .i64 x, .int .i64 y, .int .i64 z]).run Try.prog w = .ok (.int .i64 mn) w) (t1 : decide (-524288 ≤ mn) = false) :
    Calls Try.prog 37 #[.agg #[.int .i64 x, .int .i64 y, .int .i64 z]] w fun en w' => en = .returned (.bool false) ∧ Below w.heap.size w w' := by
  go_enter Try.func37, Try.ntmps37
  go_upto_region 1 with (fail)
  obtain ⟨W1, hW1⟩ : ∃ W, W = w.alloc (.cells #[.int .i64 x, .int .i64 y, .int .i64 z] 23) := ⟨_, rfl⟩
  obtain ⟨k_v, B1⟩ := st1 hW1
  rw [← hW1]
  clear hW1
  obtain ⟨c_v_0, c_v_1, c_v_2⟩ := bwc3 (k_v)
  obtain ⟨p1, hp1⟩ : ∃ p : BW W1, p.w = W1 := ⟨BW.start W1, rfl⟩
  rw [← hp1]
  clear hp1
  go_wp2
  go_ret
  exact ⟨rfl, bw_below B1 _⟩

set_option maxRecDepth 100000 in
set_option maxHeartbeats 4000000 in
theorem tri_Place_yes (x y z : Int) (w : World) (mn : Int) (hmn : ∀ (w : World) (ts : Array TypeId) (t : TypeId), (Builtin.min_ ts t #[.int .i64 x, .int .i64 y, .int .i64 z]).run Try.prog w = .ok (.int .i64 mn) w) (t1 : decide (-524288 ≤ mn) = true) (mx : Int) (hmx : ∀ (w : World) (ts : Array TypeId) (t : TypeId), (Builtin.max_ ts t #[.int .i64 x, .int .i64 y, .int .i64 z]).run Try.prog w = .ok (.int .i64 mx) w) :
    Calls Try.prog 37 #[.agg #[.int .i64 x, .int .i64 y, .int .i64 z]] w fun en w' => en = .returned (.bool (decide (mx ≤ 524288))) ∧ Below w.heap.size w w' := by
  go_enter Try.func37, Try.ntmps37
  go_upto_region 1 with (fail)
  obtain ⟨W1, hW1⟩ : ∃ W, W = w.alloc (.cells #[.int .i64 x, .int .i64 y, .int .i64 z] 23) := ⟨_, rfl⟩
  obtain ⟨k_v, B1⟩ := st1 hW1
  rw [← hW1]
  clear hW1
  obtain ⟨c_v_0, c_v_1, c_v_2⟩ := bwc3 (k_v)
  obtain ⟨p1, hp1⟩ : ∃ p : BW W1, p.w = W1 := ⟨BW.start W1, rfl⟩
  rw [← hp1]
  clear hp1
  go_wp2
  go_ret
  exact ⟨rfl, bw_below B1 _⟩

theorem tri_Place (x y z : Int) (w : World) :
    Calls Try.prog 37 #[.agg #[.int .i64 x, .int .i64 y, .int .i64 z]] w fun en w' => en = .returned (.bool (plc (x, y, z))) ∧ Below w.heap.size w w' := by
  obtain ⟨mn, emn⟩ : ∃ m, m = (if z < (if y < x then y else x) then z else (if y < x then y else x)) := ⟨_, rfl⟩
  obtain ⟨mx, emx⟩ : ∃ m, m = (if z > (if y > x then y else x) then z else (if y > x then y else x)) := ⟨_, rfl⟩
  have hmn : ∀ (w : World) (ts : Array TypeId) (t : TypeId), (Builtin.min_ ts t #[.int .i64 x, .int .i64 y, .int .i64 z]).run Try.prog w = .ok (.int .i64 mn) w := fun w ts t => by rw [emn]; exact run_min_int3 ..
  have hmx : ∀ (w : World) (ts : Array TypeId) (t : TypeId), (Builtin.max_ ts t #[.int .i64 x, .int .i64 y, .int .i64 z]).run Try.prog w = .ok (.int .i64 mx) w := fun w ts t => by rw [emx]; exact run_max_int3 ..
  have e1 : mn ≤ x ∧ mn ≤ y ∧ mn ≤ z ∧ (mn = x ∨ mn = y ∨ mn = z) := by
    split at emn <;> split at emn <;> omega
  have e2 : x ≤ mx ∧ y ≤ mx ∧ z ≤ mx ∧ (mx = x ∨ mx = y ∨ mx = z) := by
    split at emx <;> split at emx <;> omega
  clear emn emx
  by_cases h : -524288 ≤ mn
  · have e : plc (x, y, z) = decide (mx ≤ 524288) := by
      rw [Bool.eq_iff_iff, plc_iff, decide_eq_true_iff]
      dsimp only
      omega
    rw [e]
    exact tri_Place_yes x y z w mn hmn (decide_eq_true h) mx hmx
  · have e : plc (x, y, z) = false := by
      rw [Bool.eq_false_iff, Ne, plc_iff]
      dsimp only
      omega
    rw [e]
    exact tri_Place_no x y z w mn hmn (decide_eq_false h)

set_option maxRecDepth 100000 in
set_option maxHeartbeats 4000000 in
theorem tri_places (b off cap n : Nat) (V : Nat → T3) (w : World) (hrow : VcRow w b off n V) (hb : b < w.heap.size) (hn : n ≤ 1048576) :
    Calls Try.prog 66 #[.slice (some ⟨b, off, none⟩) n cap] w fun e w' => e = .returned (.bool (allp V n)) ∧ Below w.heap.size w w' := by
  have HR := Lib.hid hrow
  clear hrow
  go_enter Try.func66, Try.ntmps66
  go_wp2
  go_loopw [7] (fun i wr => ∃ k : Nat, k ≤ n ∧ i = .int .i64 k ∧ Hid (allp V k = true) ∧ Below w.heap.size w wr) (fun i _ => n - (intOf i).toNat)
  case atStart => exact ⟨0, by omega, rfl, Lib.hid rfl, Below.refl _ _⟩
  case round =>
    obtain ⟨k, hk, rfl, HA, B20⟩ := hrel
    by_cases hlt : k < n
    · obtain ⟨x0, x1, x2⟩ := HR.out k hlt
      have z0 : ∀ p : BW wr, p.w.cell? ⟨b, off + k * 3, none⟩ = some (.int .i64 (V k).1) := bw_cell ((B20.cell (p := ⟨b, off + k * 3, none⟩) hb).trans x0)
      have z1 : ∀ p : BW wr, p.w.cell? ⟨b, off + k * 3 + 1, none⟩ = some (.int .i64 (V k).2.1) := bw_cell ((B20.cell (p := ⟨b, off + k * 3 + 1, none⟩) hb).trans x1)
      have z2 : ∀ p : BW wr, p.w.cell? ⟨b, off + k * 3 + 2, none⟩ = some (.int .i64 (V k).2.2) := bw_cell ((B20.cell (p := ⟨b, off + k * 3 + 2, none⟩) hb).trans x2)
      have KP := Lib.hid (fun w => tri_Place (V k).1 (V k).2.1 (V k).2.2 w)
      obtain ⟨t, ht⟩ : ∃ t, t = plc (V k) := ⟨_, rfl⟩
      rw [show ((V k).1, (V k).2.1, (V k).2.2) = V k from rfl, ← ht] at KP
      have HT : Hid (plc (V k) = t) := Lib.hid ht.symm
      clear x0 x1 x2 ht
      obtain ⟨v1, e1⟩ : ∃ v, (V k).1 = v := ⟨_, rfl⟩
      obtain ⟨v2, e2⟩ : ∃ v, (V k).2.1 = v := ⟨_, rfl⟩
      obtain ⟨v3, e3⟩ : ∃ v, (V k).2.2 = v := ⟨_, rfl⟩
      rw [e1] at KP z0
      rw [e2] at KP z1
      rw [e3] at KP z2
      clear e1 e2 e3
      obtain ⟨p20, hp20⟩ : ∃ p : BW wr, p.w = wr := ⟨BW.start wr, rfl⟩
      rw [← hp20]
      clear hp20
      go_upto_region 4 with (fail)
      obtain ⟨W21, hW21⟩ : ∃ W, W = p20.w.alloc (.cells #[.int .i64 v1, .int .i64 v2, .int .i64 v3] 23) := ⟨_, rfl⟩
      have B21 : Below w.heap.size w W21 := by rw [hW21]; exact (bw_below B20 p20).alloc (bw_below B20 p20).size _
      have o_v : w.heap.size ≤ p20.w.heap.size := (bw_below B20 p20).size
      have k_v := bkn hW21
      rw [← hW21]
      clear hW21
      clear B20
      generalize p20.w.heap.size = g_v at *
      clear z0 z1 z2
      obtain ⟨c_v_0, c_v_1, c_v_2⟩ := bwc3 (k_v)
      obtain ⟨p21, hp21⟩ : ∃ p : BW W21, p.w = W21 := ⟨BW.start W21, rfl⟩
      rw [← hp21]
      clear hp21
      cases t with
      | false =>
        go_wp2_with (first
          | (go_at_call 37; (first | (with_reducible refine (bw_call KP.out _).mono ?_)); rintro e w' ⟨rfl, q, rfl⟩))
        go_ret
        exact ⟨by rw [allp_no HT.out n hlt]; rfl, bw_below B21 _⟩
      | true =>
        go_wp2_with (first
          | (go_at_call 37; (first | (with_reducible refine (bw_call KP.out _).mono ?_)); rintro e w' ⟨rfl, q, rfl⟩))
        go_roundw
        case rel => exact ⟨k + 1, by omega, by go_num, Lib.hid (by unfold allp; rw [HA.out, HT.out]; rfl), bw_below B21 _⟩
        case measure => simp [intOf]; omega
    · obtain rfl : k = n := by omega
      go_wp2
      go_ret
      exact ⟨by rw [HA.out]; rfl, B20⟩

/-- As tri_places, of 3, in the block that was made last. -/
theorem tri_places3 (cap : Nat) (a1 a2 a3 b1 b2 b3 c1 c2 c3 : Int) (wb w0 w : World) (hw : w = w0.alloc (.cells #[.int .i64 a1, .int .i64 a2, .int .i64 a3, .int .i64 b1, .int .i64 b2, .int .i64 b3, .int .i64 c1, .int .i64 c2, .int .i64 c3] 23)) (hB : Below wb.heap.size wb w0) :
    Calls Try.prog 66 #[.slice (some ⟨w0.heap.size, 0, none⟩) 3 cap] w fun e w' => e = .returned (.bool (pl3 (a1, a2, a3) (b1, b2, b3) (c1, c2, c3))) ∧ Below wb.heap.size wb w' := by
  have kb : Bk w w0.heap.size 23 #[.int .i64 a1, .int .i64 a2, .int .i64 a3, .int .i64 b1, .int .i64 b2, .int .i64 b3, .int .i64 c1, .int .i64 c2, .int .i64 c3] := by rw [hw]; exact Bk.new _ _ _
  have B0 : Below wb.heap.size wb w := by rw [hw]; exact hB.alloc hB.size _
  clear hw
  rw [← allp3]
  refine (tri_places w0.heap.size 0 cap 3 (rw3 (a1, a2, a3) (b1, b2, b3) (c1, c2, c3)) w (fun k hk => ?_) kb.lt (by omega)).mono (fun e w' h => ⟨h.1, B0.trans (h.2.mono B0.size)⟩)
  match k, hk with
  | 0, _ => exact ⟨kb.cell rfl, kb.cell rfl, kb.cell rfl⟩
  | 1, _ => exact ⟨kb.cell rfl, kb.cell rfl, kb.cell rfl⟩
  | 2, _ => exact ⟨kb.cell rfl, kb.cell rfl, kb.cell rfl⟩

set_option maxRecDepth 100000 in
set_option maxHeartbeats 4000000 in
theorem tri_upright_no (a1 a2 a3 b1 b2 b3 c1 c2 c3 : Int) (w : World) (hp : pl3 (a1, a2, a3) (b1, b2, b3) (c1, c2, c3) = false) :
    Calls Try.prog 54 #[.agg #[.int .i64 a1, .int .i64 a2, .int .i64 a3], .agg #[.int .i64 b1, .int .i64 b2, .int .i64 b3], .agg #[.int .i64 c1, .int .i64 c2, .int .i64 c3]] w fun en w' => en = .returned (.agg #[.int .i64 0, .int .i64 0, .int .i64 0]) ∧ Below w.heap.size w w' := by
  go_enter Try.func54, Try.ntmps54
  go_upto_region 1 with (fail)
  obtain ⟨W1, hW1⟩ : ∃ W, W = (((w.alloc (.cells #[.int .i64 a1, .int .i64 a2, .int .i64 a3] 23)).alloc (.cells #[.int .i64 b1, .int .i64 b2, .int .i64 b3] 23)).alloc (.cells #[.int .i64 c1, .int .i64 c2, .int .i64 c3] 23)).alloc (.cells #[.int .i64 0, .int .i64 0, .int .i64 0] 23) := ⟨_, rfl⟩
  obtain ⟨k_a, k_b, k_c, k_r, B1⟩ := st4 hW1
  rw [← hW1]
  clear hW1
  have l_b : w.heap.size < w.heap.size + 1 := by omega
  have l_c : w.heap.size + 1 < w.heap.size + 1 + 1 := by omega
  have l_r : w.heap.size + 1 + 1 < w.heap.size + 1 + 1 + 1 := by omega
  generalize w.heap.size + 1 + 1 + 1 = g_r at *
  generalize w.heap.size + 1 + 1 = g_c at *
  generalize w.heap.size + 1 = g_b at *
  obtain ⟨c_a_0, c_a_1, c_a_2⟩ := bwc3 (k_a)
  obtain ⟨c_b_0, c_b_1, c_b_2⟩ := bwc3 (k_b)
  obtain ⟨c_c_0, c_c_1, c_c_2⟩ := bwc3 (k_c)
  obtain ⟨c_r_0, c_r_1, c_r_2⟩ := bwc3 (k_r)
  obtain ⟨f_r_0, f_r_1, f_r_2⟩ := bwf3 (k_r)
  obtain ⟨p1, hp1⟩ : ∃ p : BW W1, p.w = W1 := ⟨BW.start W1, rfl⟩
  rw [← hp1]
  clear hp1
  have KC : ∀ p : BW W1, Calls Try.prog 66 #[.slice (some ⟨p.w.heap.size, 0, none⟩) 3 3] (p.w.alloc (.cells #[.int .i64 a1, .int .i64 a2, .int .i64 a3, .int .i64 b1, .int .i64 b2, .int .i64 b3, .int .i64 c1, .int .i64 c2, .int .i64 c3] 23)) fun e w' => e = .returned (.bool false) ∧ ∃ q : BW W1, w' = q.w := fun p =>
    (tri_places3 3 a1 a2 a3 b1 b2 b3 c1 c2 c3 W1 p.w _ rfl p.h).mono fun e w' h => ⟨by rw [hp] at h; exact h.1, ⟨w', h.2⟩, rfl⟩
  clear hp
  go_wp2_with (go_at_call 66; (with_reducible refine (KC _).mono ?_); rintro e w' ⟨rfl, q, rfl⟩)
  have kr := bkp3 (k_r.below q.h) (.int .i64 0) (.int .i64 0) (.int .i64 0)
  obtain ⟨rc0, rc1, rc2⟩ := rwc3 kr
  exact bodyPost_ret (v := .agg #[.int .i64 0, .int .i64 0, .int .i64 0]) (by simp [results, Try.results54, go_sem, rc0, rc1, rc2]) rfl ⟨rfl, blp3 (bw_below B1 q) (by omega)⟩

set_option maxRecDepth 100000 in
set_option maxHeartbeats 4000000 in
theorem tri_upright_yes (a1 a2 a3 b1 b2 b3 c1 c2 c3 : Int) (w : World) (hp : pl3 (a1, a2, a3) (b1, b2, b3) (c1, c2, c3) = true) :
    Calls Try.prog 54 #[.agg #[.int .i64 a1, .int .i64 a2, .int .i64 a3], .agg #[.int .i64 b1, .int .i64 b2, .int .i64 b3], .agg #[.int .i64 c1, .int .i64 c2, .int .i64 c3]] w fun en w' => en = .returned (.agg #[.int .i64 (upsT (a1, a2, a3) (b1, b2, b3) (c1, c2, c3)).1, .int .i64 (upsT (a1, a2, a3) (b1, b2, b3) (c1, c2, c3)).2.1, .int .i64 (upsT (a1, a2, a3) (b1, b2, b3) (c1, c2, c3)).2.2]) ∧ Below w.heap.size w w' := by
  obtain ⟨h1, h2, h3⟩ := pl3_iff.1 hp
  have q1 := plc_iff.1 h1
  dsimp only at q1
  have q2 := plc_iff.1 h2
  dsimp only at q2
  have q3 := plc_iff.1 h3
  dsimp only at q3
  have KB := Lib.hid (fun w => vec_Sub b1 b2 b3 a1 a2 a3 w (by unfold I64; omega) (by unfold I64; omega) (by unfold I64; omega) (by unfold I64; omega) (by unfold I64; omega) (by unfold I64; omega))
  rw [vsub_pl (x := b1) (a := a1) (by omega) (by omega), vsub_pl (x := b2) (a := a2) (by omega) (by omega), vsub_pl (x := b3) (a := a3) (by omega) (by omega)] at KB
  obtain ⟨u1, hu1⟩ : ∃ t, t = b1 - a1 := ⟨_, rfl⟩
  obtain ⟨u2, hu2⟩ : ∃ t, t = b2 - a2 := ⟨_, rfl⟩
  obtain ⟨u3, hu3⟩ : ∃ t, t = b3 - a3 := ⟨_, rfl⟩
  rw [← hu1, ← hu2, ← hu3] at KB
  have KC2 := Lib.hid (fun w => vec_Sub c1 c2 c3 a1 a2 a3 w (by unfold I64; omega) (by unfold I64; omega) (by unfold I64; omega) (by unfold I64; omega) (by unfold I64; omega) (by unfold I64; omega))
  rw [vsub_pl (x := c1) (a := a1) (by omega) (by omega), vsub_pl (x := c2) (a := a2) (by omega) (by omega), vsub_pl (x := c3) (a := a3) (by omega) (by omega)] at KC2
  obtain ⟨v1, hv1⟩ : ∃ t, t = c1 - a1 := ⟨_, rfl⟩
  obtain ⟨v2, hv2⟩ : ∃ t, t = c2 - a2 := ⟨_, rfl⟩
  obtain ⟨v3, hv3⟩ : ∃ t, t = c3 - a3 := ⟨_, rfl⟩
  rw [← hv1, ← hv2, ← hv3] at KC2
  have KX := Lib.hid (fun w => vec_Cross u1 u2 u3 v1 v2 v3 w)
  have hu : upsT (a1, a2, a3) (b1, b2, b3) (c1, c2, c3) = vcr u1 u2 u3 v1 v2 v3 := by
    have := vcr_X (nr_sb h2 h1) (nr_sb h3 h1)
    unfold upsT
    rw [← this]
    unfold sbT
    dsimp only
    rw [hu1, hu2, hu3, hv1, hv2, hv3]
  rw [hu]
  generalize vcr u1 u2 u3 v1 v2 v3 = X at *
  obtain ⟨r1, r2, r3⟩ := X
  dsimp only at KX ⊢
  clear hu h1 h2 h3 q1 q2 q3 hu1 hu2 hu3 hv1 hv2 hv3
  go_enter Try.func54, Try.ntmps54
  go_upto_region 1 with (fail)
  obtain ⟨W1, hW1⟩ : ∃ W, W = (((w.alloc (.cells #[.int .i64 a1, .int .i64 a2, .int .i64 a3] 23)).alloc (.cells #[.int .i64 b1, .int .i64 b2, .int .i64 b3] 23)).alloc (.cells #[.int .i64 c1, .int .i64 c2, .int .i64 c3] 23)).alloc (.cells #[.int .i64 0, .int .i64 0, .int .i64 0] 23) := ⟨_, rfl⟩
  obtain ⟨k_a, k_b, k_c, k_r, B1⟩ := st4 hW1
  rw [← hW1]
  clear hW1
  have l_b : w.heap.size < w.heap.size + 1 := by omega
  have l_c : w.heap.size + 1 < w.heap.size + 1 + 1 := by omega
  have l_r : w.heap.size + 1 + 1 < w.heap.size + 1 + 1 + 1 := by omega
  generalize w.heap.size + 1 + 1 + 1 = g_r at *
  generalize w.heap.size + 1 + 1 = g_c at *
  generalize w.heap.size + 1 = g_b at *
  obtain ⟨c_a_0, c_a_1, c_a_2⟩ := bwc3 (k_a)
  obtain ⟨c_b_0, c_b_1, c_b_2⟩ := bwc3 (k_b)
  obtain ⟨c_c_0, c_c_1, c_c_2⟩ := bwc3 (k_c)
  obtain ⟨c_r_0, c_r_1, c_r_2⟩ := bwc3 (k_r)
  obtain ⟨f_r_0, f_r_1, f_r_2⟩ := bwf3 (k_r)
  obtain ⟨p1, hp1⟩ : ∃ p : BW W1, p.w = W1 := ⟨BW.start W1, rfl⟩
  rw [← hp1]
  clear hp1
  have KC : ∀ p : BW W1, Calls Try.prog 66 #[.slice (some ⟨p.w.heap.size, 0, none⟩) 3 3] (p.w.alloc (.cells #[.int .i64 a1, .int .i64 a2, .int .i64 a3, .int .i64 b1, .int .i64 b2, .int .i64 b3, .int .i64 c1, .int .i64 c2, .int .i64 c3] 23)) fun e w' => e = .returned (.bool true) ∧ ∃ q : BW W1, w' = q.w := fun p =>
    (tri_places3 3 a1 a2 a3 b1 b2 b3 c1 c2 c3 W1 p.w _ rfl p.h).mono fun e w' h => ⟨by rw [hp] at h; exact h.1, ⟨w', h.2⟩, rfl⟩
  clear hp
  go_upto_region 3 with (go_at_call 66; (with_reducible refine (KC _).mono ?_); rintro e w' ⟨rfl, q, rfl⟩)
  clear KC
  refine wp_region_bw_tail 7 (by kernel_rfl) (by kernel_rfl) (by kernel_rfl) ?_
  simp only [List.take_succ_cons, List.take_zero, List.drop_succ_cons, List.drop_zero]
  repeat (go_big_quiet_step (first
    | (go_at_call 68; (first | (with_reducible exact bw_call KB.out _) | (with_reducible exact bw_call KC2.out _)))
    | (go_at_call 67; (first | (with_reducible exact bw_call KX.out _)))))
  refine wpQuiet_nil ?_
  intro _ hw'
  obtain ⟨q, rfl⟩ := hw'
  go_wp2
  have kr := bkp3 (k_r.below q.h) (.int .i64 r1) (.int .i64 r2) (.int .i64 r3)
  obtain ⟨rc0, rc1, rc2⟩ := rwc3 kr
  exact bodyPost_ret (v := .agg #[.int .i64 r1, .int .i64 r2, .int .i64 r3]) (by simp [results, Try.results54, go_sem, rc0, rc1, rc2]) rfl ⟨rfl, blp3 (bw_below B1 q) (by omega)⟩

theorem tri_upright (a1 a2 a3 b1 b2 b3 c1 c2 c3 : Int) (w : World) :
    Calls Try.prog 54 #[.agg #[.int .i64 a1, .int .i64 a2, .int .i64 a3], .agg #[.int .i64 b1, .int .i64 b2, .int .i64 b3], .agg #[.int .i64 c1, .int .i64 c2, .int .i64 c3]] w fun en w' => en = .returned (.agg #[.int .i64 (uprT (a1, a2, a3) (b1, b2, b3) (c1, c2, c3)).1, .int .i64 (uprT (a1, a2, a3) (b1, b2, b3) (c1, c2, c3)).2.1, .int .i64 (uprT (a1, a2, a3) (b1, b2, b3) (c1, c2, c3)).2.2]) ∧ Below w.heap.size w w' := by
  unfold uprT
  cases hp : pl3 (a1, a2, a3) (b1, b2, b3) (c1, c2, c3) with
  | false => rw [if_neg (by simp)]; exact tri_upright_no a1 a2 a3 b1 b2 b3 c1 c2 c3 w hp
  | true => rw [if_pos rfl]; exact tri_upright_yes a1 a2 a3 b1 b2 b3 c1 c2 c3 w hp

end
end Go.Proofs.Ytneacfhoinaeeaa
