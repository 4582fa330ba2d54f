/- The walk of the statement PoseQuarters. -/
import Derived.Test.YtnoaljfdbfbhmaaAwake08
import Derived.Test.YtnoaljfdbfbhmaaOpen
import Derived.Test.YtnoaljfdbfbhmaaFloatc
import Derived.Deep.DeepCutAuto
namespace Go.Proofs.Ytnoaljfdbfbhmaa
open Go.RowKit Go.Proofs.Sky
set_option linter.unusedVariables false

def v3 (t : T3) : Array Value := #[.int .i64 t.1, .int .i64 t.2.1, .int .i64 t.2.2]

set_option maxRecDepth 100000 in
set_option maxHeartbeats 8000000 in
theorem law_PoseQuarters_no (a : Option Addr) (len cap : Nat) (x y z : Int) (w : World) (hl : 12 < len) (hm : len ≤ maxLen) :
    Calls Try.prog 4 #[.slice a len cap, .agg #[.int .i64 x, .int .i64 y, .int .i64 z]] w fun r w' => r = .returned (.bool true) ∧ Below w.heap.size w w' := by
  have HA := Lib.hid (fun w => awake08 w)
  have t : decide ((12 : Int) < (len : Int)) = true := decide_eq_true (by omega)
  clear hl
  go_enter Try.func4, Try.ntmps4
  go_upto_region 1 with (fail)
  have hb0 : Below w.heap.size w (w.alloc (.cells #[.int .i64 x, .int .i64 y, .int .i64 z] 23)) := by go_grown
  go_wp2_with (go_at_call 6; refine (HA.out _).mono ?_; rintro e w1 ⟨rfl, hb⟩)
  go_ret
  exact ⟨rfl, hb0.trans (hb.mono hb0.size)⟩

set_option maxRecDepth 100000 in
set_option maxHeartbeats 8000000 in
theorem law_PoseQuarters_yes (a : Option Addr) (len cap : Nat) (Z : Nat → Int) (x y z : Int) (w : World) (hl : len ≤ 12) (hm : len ≤ maxLen) (hZ : IntSlice w a len Z) :
    Calls Try.prog 4 #[.slice a len cap, .agg #[.int .i64 x, .int .i64 y, .int .i64 z]] w fun r w' => r = .returned (.bool true) ∧ Below w.heap.size w w' := by
  have HA := Lib.hid (fun w => awake08 w)
  have N1 := Lib.hid (fun w => pose_None w)
  have HZ := Lib.hid hZ
  have t : decide ((12 : Int) < (len : Int)) = false := decide_eq_false (by omega)
  have tm : ∀ u : Int, -1000 ≤ u.tmod 1001 ∧ u.tmod 1001 ≤ 1000 := fun u => by
    have a := Int.tmod_lt_of_pos u (show (0 : Int) < 1001 by omega)
    have b := Int.lt_tmod_of_pos u (show (0 : Int) < 1001 by omega)
    omega
  obtain ⟨xx, hxx⟩ : ∃ t, t = x.tmod 1001 := ⟨_, rfl⟩
  obtain ⟨yy, hyy⟩ : ∃ t, t = y.tmod 1001 := ⟨_, rfl⟩
  obtain ⟨zz, hzz⟩ : ∃ t, t = z.tmod 1001 := ⟨_, rfl⟩
  have hv : in3 1000 (xx, yy, zz) := by rw [hxx, hyy, hzz]; exact ⟨tm x, tm y, tm z⟩
  have j1 : x.tmod 1001 = xx := hxx.symm
  have j2 : y.tmod 1001 = yy := hyy.symm
  have j3 : z.tmod 1001 = zz := hzz.symm
  have HV := Lib.hid hv
  have TM := Lib.hid tm
  have hl' : (len : Int) ≤ 12 := by omega
  clear hxx hyy hzz hv tm hZ hm hl
  go_enter Try.func4, Try.ntmps4
  go_upto_region 1 with (fail)
  obtain ⟨W1, hW1⟩ : ∃ W, W = w.alloc (.cells #[.int .i64 x, .int .i64 y, .int .i64 z] 23) := ⟨_, rfl⟩
  have B1 : Below w.heap.size w W1 := by rw [hW1]; go_grown
  have k_v : Bk W1 (w.heap.size) 23 #[.int .i64 x, .int .i64 y, .int .i64 z] := by rw [hW1]; exact Bk.new _ _ _
  rw [← hW1]
  clear hW1
  have c_v_0 : ∀ p : BW W1, p.w.cell? ⟨w.heap.size, 0, none⟩ = some (.int .i64 x) := bw_cell (k_v.cell rfl)
  have f_v_0 : ∀ p : BW W1, p.w.frozen? ⟨w.heap.size, 0, none⟩ = false := fun p => (k_v.below p.h).frozen 0
  have c_v_1 : ∀ p : BW W1, p.w.cell? ⟨w.heap.size, 1, none⟩ = some (.int .i64 y) := bw_cell (k_v.cell rfl)
  have f_v_1 : ∀ p : BW W1, p.w.frozen? ⟨w.heap.size, 1, none⟩ = false := fun p => (k_v.below p.h).frozen 1
  have c_v_2 : ∀ p : BW W1, p.w.cell? ⟨w.heap.size, 2, none⟩ = some (.int .i64 z) := bw_cell (k_v.cell rfl)
  have f_v_2 : ∀ p : BW W1, p.w.frozen? ⟨w.heap.size, 2, none⟩ = false := fun p => (k_v.below p.h).frozen 2
  obtain ⟨p1, hp1⟩ : ∃ p : BW W1, p.w = W1 := ⟨BW.start W1, rfl⟩
  rw [← hp1]
  clear hp1
  go_upto_region 4 with (fail)
  obtain ⟨W2, hW2⟩ : ∃ W, W = ((p1.w.setCell ⟨w.heap.size, 0, none⟩ (.int .i64 xx)).setCell ⟨w.heap.size, 1, none⟩ (.int .i64 yy)).setCell ⟨w.heap.size, 2, none⟩ (.int .i64 zz) := ⟨_, rfl⟩
  have B2 : Below w.heap.size w W2 := by rw [hW2]; exact ((((bw_below B1 p1).setCell (p := ⟨w.heap.size, 0, none⟩) (by show w.heap.size ≤ w.heap.size; omega) _).setCell (p := ⟨w.heap.size, 1, none⟩) (by show w.heap.size ≤ w.heap.size; omega) _).setCell (p := ⟨w.heap.size, 2, none⟩) (by show w.heap.size ≤ w.heap.size; omega) _)
  have k_v : Bk W2 (w.heap.size) 23 #[.int .i64 xx, .int .i64 yy, .int .i64 zz] := by rw [hW2]; exact ((((k_v.below p1.h).set 0 (.int .i64 xx)).set 1 (.int .i64 yy)).set 2 (.int .i64 zz))
  rw [← hW2]
  clear hW2
  clear B1
  clear c_v_0 f_v_0 c_v_1 f_v_1 c_v_2 f_v_2
  have c_v_0 : ∀ p : BW W2, p.w.cell? ⟨w.heap.size, 0, none⟩ = some (.int .i64 xx) := bw_cell (k_v.cell rfl)
  have c_v_1 : ∀ p : BW W2, p.w.cell? ⟨w.heap.size, 1, none⟩ = some (.int .i64 yy) := bw_cell (k_v.cell rfl)
  have c_v_2 : ∀ p : BW W2, p.w.cell? ⟨w.heap.size, 2, none⟩ = some (.int .i64 zz) := bw_cell (k_v.cell rfl)
  obtain ⟨p2, hp2⟩ : ∃ p : BW W2, p.w = W2 := ⟨BW.start W2, rfl⟩
  rw [← hp2]
  clear hp2
  refine wp_region_float3 (t1 := 29) (z1 := #[.int .i64 0, .int .i64 0, .int .i64 0, .int .i64 0, .int .i64 0, .int .i64 0, .int .i64 0, .int .i64 0, .int .i64 0, .int .i64 0, .int .i64 0, .int .i64 0]) (y1 := #[.int .i64 16384, .int .i64 0, .int .i64 0, .int .i64 0, .int .i64 16384, .int .i64 0, .int .i64 0, .int .i64 0, .int .i64 16384, .int .i64 0, .int .i64 0, .int .i64 0]) (t2 := 23) (z2 := #[.int .i64 0, .int .i64 0, .int .i64 0]) 5 2 3 4 5 6 24 0 67 (by kernel_rfl) (by kernel_rfl) (by kernel_rfl) (by kernel_rfl) (by decide) (by kernel_rfl) rfl rfl rfl ?_ ?_ (fun W g => setFrom W g 0 [.int .i64 16384, .int .i64 0, .int .i64 0, .int .i64 0, .int .i64 16384, .int .i64 0, .int .i64 0, .int .i64 0, .int .i64 16384, .int .i64 0, .int .i64 0, .int .i64 0]) (setFrom_all rfl) ?_
  · intro ev wx
    simp [execOp, go_sem]
  · intro ev wx
    simp [execOp, go_sem]
  apply Exists.intro
  refine ⟨?_, ?_, ?_⟩
  · intro wb' hwb'
    have d_v_0 : ∀ q : BW wb', q.w.cell? ⟨w.heap.size, 0, none⟩ = some (.int .i64 xx) := bw_cell ((k_v.below hwb').cell rfl)
    have d_v_1 : ∀ q : BW wb', q.w.cell? ⟨w.heap.size, 1, none⟩ = some (.int .i64 yy) := bw_cell ((k_v.below hwb').cell rfl)
    have d_v_2 : ∀ q : BW wb', q.w.cell? ⟨w.heap.size, 2, none⟩ = some (.int .i64 zz) := bw_cell ((k_v.below hwb').cell rfl)
    simp only [mask3, mask2, maskAt, List.take_succ_cons, List.take_zero]
    repeat (go_big_quiet_step (first
      | (go_at_call 10; (first | (with_reducible exact bw_call N1.out _)))))
    refine wpQuiet_nil ?_
    exact rfl
  · intro ax wx gx hp1 hp2 kx
    simp only [Act.put, List.setIfInBounds_toArray, List.set_cons_zero, List.set_cons_succ, List.getElem?_toArray, List.getElem?_cons_succ, List.getElem?_cons_zero] at hp2
    have c0 : wx.cell? ⟨gx, 0, none⟩ = some (.int .i64 0) := kx.cell rfl
    have f0 := kx.frozen 0
    have c1 : wx.cell? ⟨gx, 1, none⟩ = some (.int .i64 0) := kx.cell rfl
    have f1 := kx.frozen 1
    have c2 : wx.cell? ⟨gx, 2, none⟩ = some (.int .i64 0) := kx.cell rfl
    have f2 := kx.frozen 2
    have c3 : wx.cell? ⟨gx, 3, none⟩ = some (.int .i64 0) := kx.cell rfl
    have f3 := kx.frozen 3
    have c4 : wx.cell? ⟨gx, 4, none⟩ = some (.int .i64 0) := kx.cell rfl
    have f4 := kx.frozen 4
    have c5 : wx.cell? ⟨gx, 5, none⟩ = some (.int .i64 0) := kx.cell rfl
    have f5 := kx.frozen 5
    have c6 : wx.cell? ⟨gx, 6, none⟩ = some (.int .i64 0) := kx.cell rfl
    have f6 := kx.frozen 6
    have c7 : wx.cell? ⟨gx, 7, none⟩ = some (.int .i64 0) := kx.cell rfl
    have f7 := kx.frozen 7
    have c8 : wx.cell? ⟨gx, 8, none⟩ = some (.int .i64 0) := kx.cell rfl
    have f8 := kx.frozen 8
    have c9 : wx.cell? ⟨gx, 9, none⟩ = some (.int .i64 0) := kx.cell rfl
    have f9 := kx.frozen 9
    have c10 : wx.cell? ⟨gx, 10, none⟩ = some (.int .i64 0) := kx.cell rfl
    have f10 := kx.frozen 10
    have c11 : wx.cell? ⟨gx, 11, none⟩ = some (.int .i64 0) := kx.cell rfl
    have f11 := kx.frozen 11
    simp [execOp, go_sem, Act.eval, hp1, hp2, setFrom, c0, f0, c1, f1, c2, f2, c3, f3, c4, f4, c5, f5, c6, f6, c7, f7, c8, f8, c9, f9, c10, f10, c11, f11]
  intro W3 g_p g_u hW hga hgb n_u k_p k_u
  have B3 : Below w.heap.size w W3 := B2.trans (hW.mono B2.size)
  have l_p : w.heap.size < g_p := Nat.lt_of_lt_of_le k_v.lt hga
  have l_u : w.heap.size < g_u := Nat.lt_of_lt_of_le k_v.lt hgb
  have k_v := k_v.below hW
  clear hW hga hgb B2
  clear c_v_0 c_v_1 c_v_2
  simp only [List.drop_succ_cons, List.drop_zero, Act.put, List.setIfInBounds_toArray, List.set_cons_zero, List.set_cons_succ]
  have c_v_0 : ∀ p : BW W3, p.w.cell? ⟨w.heap.size, 0, none⟩ = some (.int .i64 xx) := bw_cell (k_v.cell rfl)
  have c_v_1 : ∀ p : BW W3, p.w.cell? ⟨w.heap.size, 1, none⟩ = some (.int .i64 yy) := bw_cell (k_v.cell rfl)
  have c_v_2 : ∀ p : BW W3, p.w.cell? ⟨w.heap.size, 2, none⟩ = some (.int .i64 zz) := bw_cell (k_v.cell rfl)
  have c_p_0 : ∀ p : BW W3, p.w.cell? ⟨g_p, 0, none⟩ = some (.int .i64 16384) := bw_cell (k_p.cell rfl)
  have c_p_1 : ∀ p : BW W3, p.w.cell? ⟨g_p, 1, none⟩ = some (.int .i64 0) := bw_cell (k_p.cell rfl)
  have c_p_2 : ∀ p : BW W3, p.w.cell? ⟨g_p, 2, none⟩ = some (.int .i64 0) := bw_cell (k_p.cell rfl)
  have c_p_3 : ∀ p : BW W3, p.w.cell? ⟨g_p, 3, none⟩ = some (.int .i64 0) := bw_cell (k_p.cell rfl)
  have c_p_4 : ∀ p : BW W3, p.w.cell? ⟨g_p, 4, none⟩ = some (.int .i64 16384) := bw_cell (k_p.cell rfl)
  have c_p_5 : ∀ p : BW W3, p.w.cell? ⟨g_p, 5, none⟩ = some (.int .i64 0) := bw_cell (k_p.cell rfl)
  have c_p_6 : ∀ p : BW W3, p.w.cell? ⟨g_p, 6, none⟩ = some (.int .i64 0) := bw_cell (k_p.cell rfl)
  have c_p_7 : ∀ p : BW W3, p.w.cell? ⟨g_p, 7, none⟩ = some (.int .i64 0) := bw_cell (k_p.cell rfl)
  have c_p_8 : ∀ p : BW W3, p.w.cell? ⟨g_p, 8, none⟩ = some (.int .i64 16384) := bw_cell (k_p.cell rfl)
  have c_p_9 : ∀ p : BW W3, p.w.cell? ⟨g_p, 9, none⟩ = some (.int .i64 0) := bw_cell (k_p.cell rfl)
  have c_p_10 : ∀ p : BW W3, p.w.cell? ⟨g_p, 10, none⟩ = some (.int .i64 0) := bw_cell (k_p.cell rfl)
  have c_p_11 : ∀ p : BW W3, p.w.cell? ⟨g_p, 11, none⟩ = some (.int .i64 0) := bw_cell (k_p.cell rfl)
  have c_u_0 : ∀ p : BW W3, p.w.cell? ⟨g_u, 0, none⟩ = some (.int .i64 0) := bw_cell (k_u.cell rfl)
  have f_u_0 : ∀ p : BW W3, p.w.frozen? ⟨g_u, 0, none⟩ = false := fun p => (k_u.below p.h).frozen 0
  have c_u_1 : ∀ p : BW W3, p.w.cell? ⟨g_u, 1, none⟩ = some (.int .i64 0) := bw_cell (k_u.cell rfl)
  have f_u_1 : ∀ p : BW W3, p.w.frozen? ⟨g_u, 1, none⟩ = false := fun p => (k_u.below p.h).frozen 1
  have c_u_2 : ∀ p : BW W3, p.w.cell? ⟨g_u, 2, none⟩ = some (.int .i64 0) := bw_cell (k_u.cell rfl)
  have f_u_2 : ∀ p : BW W3, p.w.frozen? ⟨g_u, 2, none⟩ = false := fun p => (k_u.below p.h).frozen 2
  obtain ⟨p3, hp3⟩ : ∃ p : BW W3, p.w = W3 := ⟨BW.start W3, rfl⟩
  rw [← hp3]
  clear hp3
  go_upto_region 5 with (fail)
  obtain ⟨W4, hW4⟩ : ∃ W, W = ((p3.w.setCell ⟨g_u, 0, none⟩ (.int .i64 xx)).setCell ⟨g_u, 1, none⟩ (.int .i64 yy)).setCell ⟨g_u, 2, none⟩ (.int .i64 zz) := ⟨_, rfl⟩
  have B4 : Below w.heap.size w W4 := by rw [hW4]; exact ((((bw_below B3 p3).setCell (p := ⟨g_u, 0, none⟩) (by show w.heap.size ≤ g_u; omega) _).setCell (p := ⟨g_u, 1, none⟩) (by show w.heap.size ≤ g_u; omega) _).setCell (p := ⟨g_u, 2, none⟩) (by show w.heap.size ≤ g_u; omega) _)
  have k_v : Bk W4 (w.heap.size) 23 #[.int .i64 xx, .int .i64 yy, .int .i64 zz] := by rw [hW4]; exact ((((k_v.below p3.h).other (a := ⟨g_u, 0, none⟩) (by show ¬ w.heap.size = g_u; omega) (.int .i64 xx)).other (a := ⟨g_u, 1, none⟩) (by show ¬ w.heap.size = g_u; omega) (.int .i64 yy)).other (a := ⟨g_u, 2, none⟩) (by show ¬ w.heap.size = g_u; omega) (.int .i64 zz))
  have k_p : Bk W4 (g_p) 29 #[.int .i64 16384, .int .i64 0, .int .i64 0, .int .i64 0, .int .i64 16384, .int .i64 0, .int .i64 0, .int .i64 0, .int .i64 16384, .int .i64 0, .int .i64 0, .int .i64 0] := by rw [hW4]; exact ((((k_p.below p3.h).other (a := ⟨g_u, 0, none⟩) (by show ¬ g_p = g_u; omega) (.int .i64 xx)).other (a := ⟨g_u, 1, none⟩) (by show ¬ g_p = g_u; omega) (.int .i64 yy)).other (a := ⟨g_u, 2, none⟩) (by show ¬ g_p = g_u; omega) (.int .i64 zz))
  have k_u : Bk W4 (g_u) 23 #[.int .i64 xx, .int .i64 yy, .int .i64 zz] := by rw [hW4]; exact ((((k_u.below p3.h).set 0 (.int .i64 xx)).set 1 (.int .i64 yy)).set 2 (.int .i64 zz))
  rw [← hW4]
  clear hW4
  clear B3
  clear c_v_0 c_v_1 c_v_2 c_p_0 c_p_1 c_p_2 c_p_3 c_p_4 c_p_5 c_p_6 c_p_7 c_p_8 c_p_9 c_p_10 c_p_11 c_u_0 f_u_0 c_u_1 f_u_1 c_u_2 f_u_2
  clear j1 j2 j3
  go_wp2
  go_loopw [7] (fun i wr => ∃ (k : Nat) (m : P4), k ≤ len ∧ i = .int .i64 k ∧ qs m (2000 * (k : Int)) ∧ Bk wr g_p 29 (p12 (up m)) ∧ Bk wr g_u 23 (v3 (ap m (xx, yy, zz))) ∧ Bk wr w.heap.size 23 #[.int .i64 xx, .int .i64 yy, .int .i64 zz] ∧ Below w.heap.size w wr) (fun i _ => len - (intOf i).toNat)
  case atStart =>
    refine ⟨0, qNone, by omega, rfl, qNone_qs, ?_, ?_, k_v, B4⟩
    · rw [qNone_up]; exact k_p
    · rw [qNone_ap]; exact k_u
  case round =>
    clear k_p k_u k_v B4
    obtain ⟨k, m, hk, rfl, hq, k_p, k_u, k_v, B20⟩ := hrel
    obtain ⟨C, hC⟩ : ∃ C : Int, C = 2000 * (k : Int) := ⟨_, rfl⟩
    rw [← hC] at hq
    have hC0 : C ≤ 24000 := by omega
    obtain ⟨D, hD⟩ : ∃ D, D = ap m (xx, yy, zz) := ⟨_, rfl⟩
    have dD : in3 (1000 + C) D := by rw [hD]; exact ap_in hq HV.out
    obtain ⟨U, hU⟩ : ∃ U, U = up m := ⟨_, rfl⟩
    rw [← hU] at k_p
    rw [← hD] at k_u
    by_cases hlt : k < len
    · obtain ⟨b, off, rfl, hall, hb⟩ := HZ.out.resolve_left (by omega)
      obtain ⟨hz, iz⟩ := hall k hlt
      clear hall
      generalize Z k = zk at *
      obtain ⟨s, hs⟩ : ∃ s, s = zk.tmod 1001 := ⟨_, rfl⟩
      have s0 : -1000 ≤ s ∧ s ≤ 1000 := by rw [hs]; exact TM.out zk
      have js : zk.tmod 1001 = s := hs.symm
      clear hs iz
      by_cases hneg : s < 0
      · have M0 := Lib.hid (fun w => pose_Moved s (2 * s) (-s) w)
        generalize pMoved (s, 2 * s, -s) = O at *
        obtain ⟨⟨o1, o2, o3⟩, ⟨o4, o5, o6⟩, ⟨o7, o8, o9⟩, ⟨o10, o11, o12⟩⟩ := O
        unfold p12 at M0
        dsimp only at M0
        obtain ⟨ax, hax⟩ : ∃ t, t = (-s).tmod 3 := ⟨_, rfl⟩
        have x0 : 0 ≤ ax ∧ ax < 3 := by rw [hax, Int.tmod_eq_emod_of_nonneg (by omega)]; omega
        have j1 : (-s).tmod 3 = ax := hax.symm
        have M1 := Lib.hid (fun w => pose_Turned ax (16384 * -s) w (by unfold I64; omega))
        obtain ⟨mq, e1, hmq'⟩ := turned_q (k := -s) x0.1 x0.2
        rw [e1] at M1
        have hmq : qs mq 2000 := ⟨hmq'.1, hmq'.2.1, hmq'.2.2.1, by have := hmq'.2.2.2; unfold in3 at this ⊢; omega⟩
        clear hmq' e1 hax x0
        obtain ⟨Q, hQ⟩ : ∃ Q, Q = up mq := ⟨_, rfl⟩
        rw [← hQ] at M1
        have e1 : pThen U Q = up (tn m mq) := by rw [hU, hQ]; exact pThen_q hq hmq (by omega) (by omega)
        have e2 : pPut Q D = ap (tn m mq) (xx, yy, zz) := by rw [hQ, ap_tn, ← hD]; exact pPut_q hmq (by omega) dD (by omega)
        have hn := tn_qs hq hmq
        obtain ⟨N, hN⟩ : ∃ N, N = up (tn m mq) := ⟨_, rfl⟩
        obtain ⟨E, hE⟩ : ∃ E, E = ap (tn m mq) (xx, yy, zz) := ⟨_, rfl⟩
        rw [← hN] at e1
        rw [← hE] at e2
        clear hU hQ hD dD
        obtain ⟨⟨u1, u2, u3⟩, ⟨u4, u5, u6⟩, ⟨u7, u8, u9⟩, ⟨u10, u11, u12⟩⟩ := U
        obtain ⟨⟨q1, q2, q3⟩, ⟨q4, q5, q6⟩, ⟨q7, q8, q9⟩, ⟨q10, q11, q12⟩⟩ := Q
        obtain ⟨⟨n1, n2, n3⟩, ⟨n4, n5, n6⟩, ⟨n7, n8, n9⟩, ⟨n10, n11, n12⟩⟩ := N
        obtain ⟨a1, a2, a3⟩ := D
        obtain ⟨b1, b2, b3⟩ := E
        have T1 := Lib.hid (fun w => pose_Then u1 u2 u3 u4 u5 u6 u7 u8 u9 u10 u11 u12 q1 q2 q3 q4 q5 q6 q7 q8 q9 q10 q11 q12 w)
        have P1 := Lib.hid (fun w => pose_Put q1 q2 q3 q4 q5 q6 q7 q8 q9 q10 q11 q12 a1 a2 a3 w)
        rw [e1] at T1
        rw [e2] at P1
        unfold p12 at k_p T1 M1
        unfold v3 at k_u
        dsimp only at k_p k_u T1 P1 M1
        have HN := Lib.hid hN
        have HE := Lib.hid hE
        have HQ : Hid (qs (tn m mq) (2000 * ((k + 1 : Nat) : Int))) := Lib.hid (by rw [show 2000 * ((k + 1 : Nat) : Int) = C + 2000 by omega]; exact hn)
        have hz0 : ∀ p : BW wr, p.w.cell? ⟨b, off + k, none⟩ = some (.int .i64 zk) := bw_cell ((B20.cell (p := ⟨b, off + k, none⟩) hb).trans hz)
        clear e1 e2 hN hE hn hq hmq
        have c_v_0 : ∀ p : BW wr, p.w.cell? ⟨w.heap.size, 0, none⟩ = some (.int .i64 xx) := bw_cell (k_v.cell rfl)
        have c_v_1 : ∀ p : BW wr, p.w.cell? ⟨w.heap.size, 1, none⟩ = some (.int .i64 yy) := bw_cell (k_v.cell rfl)
        have c_v_2 : ∀ p : BW wr, p.w.cell? ⟨w.heap.size, 2, none⟩ = some (.int .i64 zz) := bw_cell (k_v.cell rfl)
        have c_p_0 : ∀ p : BW wr, p.w.cell? ⟨g_p, 0, none⟩ = some (.int .i64 u1) := bw_cell (k_p.cell rfl)
        have f_p_0 : ∀ p : BW wr, p.w.frozen? ⟨g_p, 0, none⟩ = false := fun p => (k_p.below p.h).frozen 0
        have c_p_1 : ∀ p : BW wr, p.w.cell? ⟨g_p, 1, none⟩ = some (.int .i64 u2) := bw_cell (k_p.cell rfl)
        have f_p_1 : ∀ p : BW wr, p.w.frozen? ⟨g_p, 1, none⟩ = false := fun p => (k_p.below p.h).frozen 1
        have c_p_2 : ∀ p : BW wr, p.w.cell? ⟨g_p, 2, none⟩ = some (.int .i64 u3) := bw_cell (k_p.cell rfl)
        have f_p_2 : ∀ p : BW wr, p.w.frozen? ⟨g_p, 2, none⟩ = false := fun p => (k_p.below p.h).frozen 2
        have c_p_3 : ∀ p : BW wr, p.w.cell? ⟨g_p, 3, none⟩ = some (.int .i64 u4) := bw_cell (k_p.cell rfl)
        have f_p_3 : ∀ p : BW wr, p.w.frozen? ⟨g_p, 3, none⟩ = false := fun p => (k_p.below p.h).frozen 3
        have c_p_4 : ∀ p : BW wr, p.w.cell? ⟨g_p, 4, none⟩ = some (.int .i64 u5) := bw_cell (k_p.cell rfl)
        have f_p_4 : ∀ p : BW wr, p.w.frozen? ⟨g_p, 4, none⟩ = false := fun p => (k_p.below p.h).frozen 4
        have c_p_5 : ∀ p : BW wr, p.w.cell? ⟨g_p, 5, none⟩ = some (.int .i64 u6) := bw_cell (k_p.cell rfl)
        have f_p_5 : ∀ p : BW wr, p.w.frozen? ⟨g_p, 5, none⟩ = false := fun p => (k_p.below p.h).frozen 5
        have c_p_6 : ∀ p : BW wr, p.w.cell? ⟨g_p, 6, none⟩ = some (.int .i64 u7) := bw_cell (k_p.cell rfl)
        have f_p_6 : ∀ p : BW wr, p.w.frozen? ⟨g_p, 6, none⟩ = false := fun p => (k_p.below p.h).frozen 6
        have c_p_7 : ∀ p : BW wr, p.w.cell? ⟨g_p, 7, none⟩ = some (.int .i64 u8) := bw_cell (k_p.cell rfl)
        have f_p_7 : ∀ p : BW wr, p.w.frozen? ⟨g_p, 7, none⟩ = false := fun p => (k_p.below p.h).frozen 7
        have c_p_8 : ∀ p : BW wr, p.w.cell? ⟨g_p, 8, none⟩ = some (.int .i64 u9) := bw_cell (k_p.cell rfl)
        have f_p_8 : ∀ p : BW wr, p.w.frozen? ⟨g_p, 8, none⟩ = false := fun p => (k_p.below p.h).frozen 8
        have c_p_9 : ∀ p : BW wr, p.w.cell? ⟨g_p, 9, none⟩ = some (.int .i64 u10) := bw_cell (k_p.cell rfl)
        have f_p_9 : ∀ p : BW wr, p.w.frozen? ⟨g_p, 9, none⟩ = false := fun p => (k_p.below p.h).frozen 9
        have c_p_10 : ∀ p : BW wr, p.w.cell? ⟨g_p, 10, none⟩ = some (.int .i64 u11) := bw_cell (k_p.cell rfl)
        have f_p_10 : ∀ p : BW wr, p.w.frozen? ⟨g_p, 10, none⟩ = false := fun p => (k_p.below p.h).frozen 10
        have c_p_11 : ∀ p : BW wr, p.w.cell? ⟨g_p, 11, none⟩ = some (.int .i64 u12) := bw_cell (k_p.cell rfl)
        have f_p_11 : ∀ p : BW wr, p.w.frozen? ⟨g_p, 11, none⟩ = false := fun p => (k_p.below p.h).frozen 11
        have c_u_0 : ∀ p : BW wr, p.w.cell? ⟨g_u, 0, none⟩ = some (.int .i64 a1) := bw_cell (k_u.cell rfl)
        have f_u_0 : ∀ p : BW wr, p.w.frozen? ⟨g_u, 0, none⟩ = false := fun p => (k_u.below p.h).frozen 0
        have c_u_1 : ∀ p : BW wr, p.w.cell? ⟨g_u, 1, none⟩ = some (.int .i64 a2) := bw_cell (k_u.cell rfl)
        have f_u_1 : ∀ p : BW wr, p.w.frozen? ⟨g_u, 1, none⟩ = false := fun p => (k_u.below p.h).frozen 1
        have c_u_2 : ∀ p : BW wr, p.w.cell? ⟨g_u, 2, none⟩ = some (.int .i64 a3) := bw_cell (k_u.cell rfl)
        have f_u_2 : ∀ p : BW wr, p.w.frozen? ⟨g_u, 2, none⟩ = false := fun p => (k_u.below p.h).frozen 2
        obtain ⟨p20, hp20⟩ : ∃ p : BW wr, p.w = wr := ⟨BW.start wr, rfl⟩
        rw [← hp20]
        clear hp20
        go_upto_region 10 with (first
          | (go_at_call 21; (first | (with_reducible refine (bw_call M0.out _).mono ?_)); rintro e w' ⟨rfl, q, rfl⟩))
        obtain ⟨W21, hW21⟩ : ∃ W, W = q.w.alloc (.cells #[.int .i64 o1, .int .i64 o2, .int .i64 o3, .int .i64 o4, .int .i64 o5, .int .i64 o6, .int .i64 o7, .int .i64 o8, .int .i64 o9, .int .i64 o10, .int .i64 o11, .int .i64 o12] 29) := ⟨_, rfl⟩
        have B21 : Below w.heap.size w W21 := by rw [hW21]; exact (bw_below B20 q).alloc (bw_below B20 q).size _
        have l_q : g_u < q.w.heap.size := (k_u.below q.h).lt
        have l_q_p : g_p < q.w.heap.size := (k_p.below q.h).lt
        have k_v := (k_v.below q.h).alloc (.cells #[.int .i64 o1, .int .i64 o2, .int .i64 o3, .int .i64 o4, .int .i64 o5, .int .i64 o6, .int .i64 o7, .int .i64 o8, .int .i64 o9, .int .i64 o10, .int .i64 o11, .int .i64 o12] 29)
        rw [← hW21] at k_v
        have k_p := (k_p.below q.h).alloc (.cells #[.int .i64 o1, .int .i64 o2, .int .i64 o3, .int .i64 o4, .int .i64 o5, .int .i64 o6, .int .i64 o7, .int .i64 o8, .int .i64 o9, .int .i64 o10, .int .i64 o11, .int .i64 o12] 29)
        rw [← hW21] at k_p
        have k_u := (k_u.below q.h).alloc (.cells #[.int .i64 o1, .int .i64 o2, .int .i64 o3, .int .i64 o4, .int .i64 o5, .int .i64 o6, .int .i64 o7, .int .i64 o8, .int .i64 o9, .int .i64 o10, .int .i64 o11, .int .i64 o12] 29)
        rw [← hW21] at k_u
        have k_q : Bk W21 q.w.heap.size 29 #[.int .i64 o1, .int .i64 o2, .int .i64 o3, .int .i64 o4, .int .i64 o5, .int .i64 o6, .int .i64 o7, .int .i64 o8, .int .i64 o9, .int .i64 o10, .int .i64 o11, .int .i64 o12] := by rw [hW21]; exact Bk.new _ _ _
        rw [← hW21]
        clear hW21
        clear B20
        clear c_v_0 c_v_1 c_v_2 c_p_0 f_p_0 c_p_1 f_p_1 c_p_2 f_p_2 c_p_3 f_p_3 c_p_4 f_p_4 c_p_5 f_p_5 c_p_6 f_p_6 c_p_7 f_p_7 c_p_8 f_p_8 c_p_9 f_p_9 c_p_10 f_p_10 c_p_11 f_p_11 c_u_0 f_u_0 c_u_1 f_u_1 c_u_2 f_u_2
        generalize q.w.heap.size = g_q at *
        have c_v_0 : ∀ p : BW W21, p.w.cell? ⟨w.heap.size, 0, none⟩ = some (.int .i64 xx) := bw_cell (k_v.cell rfl)
        have c_v_1 : ∀ p : BW W21, p.w.cell? ⟨w.heap.size, 1, none⟩ = some (.int .i64 yy) := bw_cell (k_v.cell rfl)
        have c_v_2 : ∀ p : BW W21, p.w.cell? ⟨w.heap.size, 2, none⟩ = some (.int .i64 zz) := bw_cell (k_v.cell rfl)
        have c_p_0 : ∀ p : BW W21, p.w.cell? ⟨g_p, 0, none⟩ = some (.int .i64 u1) := bw_cell (k_p.cell rfl)
        have c_p_1 : ∀ p : BW W21, p.w.cell? ⟨g_p, 1, none⟩ = some (.int .i64 u2) := bw_cell (k_p.cell rfl)
        have c_p_2 : ∀ p : BW W21, p.w.cell? ⟨g_p, 2, none⟩ = some (.int .i64 u3) := bw_cell (k_p.cell rfl)
        have c_p_3 : ∀ p : BW W21, p.w.cell? ⟨g_p, 3, none⟩ = some (.int .i64 u4) := bw_cell (k_p.cell rfl)
        have c_p_4 : ∀ p : BW W21, p.w.cell? ⟨g_p, 4, none⟩ = some (.int .i64 u5) := bw_cell (k_p.cell rfl)
        have c_p_5 : ∀ p : BW W21, p.w.cell? ⟨g_p, 5, none⟩ = some (.int .i64 u6) := bw_cell (k_p.cell rfl)
        have c_p_6 : ∀ p : BW W21, p.w.cell? ⟨g_p, 6, none⟩ = some (.int .i64 u7) := bw_cell (k_p.cell rfl)
        have c_p_7 : ∀ p : BW W21, p.w.cell? ⟨g_p, 7, none⟩ = some (.int .i64 u8) := bw_cell (k_p.cell rfl)
        have c_p_8 : ∀ p : BW W21, p.w.cell? ⟨g_p, 8, none⟩ = some (.int .i64 u9) := bw_cell (k_p.cell rfl)
        have c_p_9 : ∀ p : BW W21, p.w.cell? ⟨g_p, 9, none⟩ = some (.int .i64 u10) := bw_cell (k_p.cell rfl)
        have c_p_10 : ∀ p : BW W21, p.w.cell? ⟨g_p, 10, none⟩ = some (.int .i64 u11) := bw_cell (k_p.cell rfl)
        have c_p_11 : ∀ p : BW W21, p.w.cell? ⟨g_p, 11, none⟩ = some (.int .i64 u12) := bw_cell (k_p.cell rfl)
        have c_u_0 : ∀ p : BW W21, p.w.cell? ⟨g_u, 0, none⟩ = some (.int .i64 a1) := bw_cell (k_u.cell rfl)
        have c_u_1 : ∀ p : BW W21, p.w.cell? ⟨g_u, 1, none⟩ = some (.int .i64 a2) := bw_cell (k_u.cell rfl)
        have c_u_2 : ∀ p : BW W21, p.w.cell? ⟨g_u, 2, none⟩ = some (.int .i64 a3) := bw_cell (k_u.cell rfl)
        have c_q_0 : ∀ p : BW W21, p.w.cell? ⟨g_q, 0, none⟩ = some (.int .i64 o1) := bw_cell (k_q.cell rfl)
        have f_q_0 : ∀ p : BW W21, p.w.frozen? ⟨g_q, 0, none⟩ = false := fun p => (k_q.below p.h).frozen 0
        have c_q_1 : ∀ p : BW W21, p.w.cell? ⟨g_q, 1, none⟩ = some (.int .i64 o2) := bw_cell (k_q.cell rfl)
        have f_q_1 : ∀ p : BW W21, p.w.frozen? ⟨g_q, 1, none⟩ = false := fun p => (k_q.below p.h).frozen 1
        have c_q_2 : ∀ p : BW W21, p.w.cell? ⟨g_q, 2, none⟩ = some (.int .i64 o3) := bw_cell (k_q.cell rfl)
        have f_q_2 : ∀ p : BW W21, p.w.frozen? ⟨g_q, 2, none⟩ = false := fun p => (k_q.below p.h).frozen 2
        have c_q_3 : ∀ p : BW W21, p.w.cell? ⟨g_q, 3, none⟩ = some (.int .i64 o4) := bw_cell (k_q.cell rfl)
        have f_q_3 : ∀ p : BW W21, p.w.frozen? ⟨g_q, 3, none⟩ = false := fun p => (k_q.below p.h).frozen 3
        have c_q_4 : ∀ p : BW W21, p.w.cell? ⟨g_q, 4, none⟩ = some (.int .i64 o5) := bw_cell (k_q.cell rfl)
        have f_q_4 : ∀ p : BW W21, p.w.frozen? ⟨g_q, 4, none⟩ = false := fun p => (k_q.below p.h).frozen 4
        have c_q_5 : ∀ p : BW W21, p.w.cell? ⟨g_q, 5, none⟩ = some (.int .i64 o6) := bw_cell (k_q.cell rfl)
        have f_q_5 : ∀ p : BW W21, p.w.frozen? ⟨g_q, 5, none⟩ = false := fun p => (k_q.below p.h).frozen 5
        have c_q_6 : ∀ p : BW W21, p.w.cell? ⟨g_q, 6, none⟩ = some (.int .i64 o7) := bw_cell (k_q.cell rfl)
        have f_q_6 : ∀ p : BW W21, p.w.frozen? ⟨g_q, 6, none⟩ = false := fun p => (k_q.below p.h).frozen 6
        have c_q_7 : ∀ p : BW W21, p.w.cell? ⟨g_q, 7, none⟩ = some (.int .i64 o8) := bw_cell (k_q.cell rfl)
        have f_q_7 : ∀ p : BW W21, p.w.frozen? ⟨g_q, 7, none⟩ = false := fun p => (k_q.below p.h).frozen 7
        have c_q_8 : ∀ p : BW W21, p.w.cell? ⟨g_q, 8, none⟩ = some (.int .i64 o9) := bw_cell (k_q.cell rfl)
        have f_q_8 : ∀ p : BW W21, p.w.frozen? ⟨g_q, 8, none⟩ = false := fun p => (k_q.below p.h).frozen 8
        have c_q_9 : ∀ p : BW W21, p.w.cell? ⟨g_q, 9, none⟩ = some (.int .i64 o10) := bw_cell (k_q.cell rfl)
        have f_q_9 : ∀ p : BW W21, p.w.frozen? ⟨g_q, 9, none⟩ = false := fun p => (k_q.below p.h).frozen 9
        have c_q_10 : ∀ p : BW W21, p.w.cell? ⟨g_q, 10, none⟩ = some (.int .i64 o11) := bw_cell (k_q.cell rfl)
        have f_q_10 : ∀ p : BW W21, p.w.frozen? ⟨g_q, 10, none⟩ = false := fun p => (k_q.below p.h).frozen 10
        have c_q_11 : ∀ p : BW W21, p.w.cell? ⟨g_q, 11, none⟩ = some (.int .i64 o12) := bw_cell (k_q.cell rfl)
        have f_q_11 : ∀ p : BW W21, p.w.frozen? ⟨g_q, 11, none⟩ = false := fun p => (k_q.below p.h).frozen 11
        obtain ⟨p21, hp21⟩ : ∃ p : BW W21, p.w = W21 := ⟨BW.start W21, rfl⟩
        rw [← hp21]
        clear hp21
        go_upto_region 12 with (first
          | (go_at_call 12; (first | (with_reducible refine (bw_call M1.out _).mono ?_)); rintro e w' ⟨rfl, q, rfl⟩))
        obtain ⟨W22, hW22⟩ : ∃ W, W = (((((((((((q.w.setCell ⟨g_q, 0, none⟩ (.int .i64 q1)).setCell ⟨g_q, 1, none⟩ (.int .i64 q2)).setCell ⟨g_q, 2, none⟩ (.int .i64 q3)).setCell ⟨g_q, 3, none⟩ (.int .i64 q4)).setCell ⟨g_q, 4, none⟩ (.int .i64 q5)).setCell ⟨g_q, 5, none⟩ (.int .i64 q6)).setCell ⟨g_q, 6, none⟩ (.int .i64 q7)).setCell ⟨g_q, 7, none⟩ (.int .i64 q8)).setCell ⟨g_q, 8, none⟩ (.int .i64 q9)).setCell ⟨g_q, 9, none⟩ (.int .i64 q10)).setCell ⟨g_q, 10, none⟩ (.int .i64 q11)).setCell ⟨g_q, 11, none⟩ (.int .i64 q12) := ⟨_, rfl⟩
        have B22 : Below w.heap.size w W22 := by rw [hW22]; exact (((((((((((((bw_below B21 q).setCell (p := ⟨g_q, 0, none⟩) (by show w.heap.size ≤ g_q; omega) _).setCell (p := ⟨g_q, 1, none⟩) (by show w.heap.size ≤ g_q; omega) _).setCell (p := ⟨g_q, 2, none⟩) (by show w.heap.size ≤ g_q; omega) _).setCell (p := ⟨g_q, 3, none⟩) (by show w.heap.size ≤ g_q; omega) _).setCell (p := ⟨g_q, 4, none⟩) (by show w.heap.size ≤ g_q; omega) _).setCell (p := ⟨g_q, 5, none⟩) (by show w.heap.size ≤ g_q; omega) _).setCell (p := ⟨g_q, 6, none⟩) (by show w.heap.size ≤ g_q; omega) _).setCell (p := ⟨g_q, 7, none⟩) (by show w.heap.size ≤ g_q; omega) _).setCell (p := ⟨g_q, 8, none⟩) (by show w.heap.size ≤ g_q; omega) _).setCell (p := ⟨g_q, 9, none⟩) (by show w.heap.size ≤ g_q; omega) _).setCell (p := ⟨g_q, 10, none⟩) (by show w.heap.size ≤ g_q; omega) _).setCell (p := ⟨g_q, 11, none⟩) (by show w.heap.size ≤ g_q; omega) _)
        have k_v : Bk W22 (w.heap.size) 23 #[.int .i64 xx, .int .i64 yy, .int .i64 zz] := by rw [hW22]; exact (((((((((((((k_v.below q.h).other (a := ⟨g_q, 0, none⟩) (by show ¬ w.heap.size = g_q; omega) (.int .i64 q1)).other (a := ⟨g_q, 1, none⟩) (by show ¬ w.heap.size = g_q; omega) (.int .i64 q2)).other (a := ⟨g_q, 2, none⟩) (by show ¬ w.heap.size = g_q; omega) (.int .i64 q3)).other (a := ⟨g_q, 3, none⟩) (by show ¬ w.heap.size = g_q; omega) (.int .i64 q4)).other (a := ⟨g_q, 4, none⟩) (by show ¬ w.heap.size = g_q; omega) (.int .i64 q5)).other (a := ⟨g_q, 5, none⟩) (by show ¬ w.heap.size = g_q; omega) (.int .i64 q6)).other (a := ⟨g_q, 6, none⟩) (by show ¬ w.heap.size = g_q; omega) (.int .i64 q7)).other (a := ⟨g_q, 7, none⟩) (by show ¬ w.heap.size = g_q; omega) (.int .i64 q8)).other (a := ⟨g_q, 8, none⟩) (by show ¬ w.heap.size = g_q; omega) (.int .i64 q9)).other (a := ⟨g_q, 9, none⟩) (by show ¬ w.heap.size = g_q; omega) (.int .i64 q10)).other (a := ⟨g_q, 10, none⟩) (by show ¬ w.heap.size = g_q; omega) (.int .i64 q11)).other (a := ⟨g_q, 11, none⟩) (by show ¬ w.heap.size = g_q; omega) (.int .i64 q12))
        have k_p : Bk W22 (g_p) 29 #[.int .i64 u1, .int .i64 u2, .int .i64 u3, .int .i64 u4, .int .i64 u5, .int .i64 u6, .int .i64 u7, .int .i64 u8, .int .i64 u9, .int .i64 u10, .int .i64 u11, .int .i64 u12] := by rw [hW22]; exact (((((((((((((k_p.below q.h).other (a := ⟨g_q, 0, none⟩) (by show ¬ g_p = g_q; omega) (.int .i64 q1)).other (a := ⟨g_q, 1, none⟩) (by show ¬ g_p = g_q; omega) (.int .i64 q2)).other (a := ⟨g_q, 2, none⟩) (by show ¬ g_p = g_q; omega) (.int .i64 q3)).other (a := ⟨g_q, 3, none⟩) (by show ¬ g_p = g_q; omega) (.int .i64 q4)).other (a := ⟨g_q, 4, none⟩) (by show ¬ g_p = g_q; omega) (.int .i64 q5)).other (a := ⟨g_q, 5, none⟩) (by show ¬ g_p = g_q; omega) (.int .i64 q6)).other (a := ⟨g_q, 6, none⟩) (by show ¬ g_p = g_q; omega) (.int .i64 q7)).other (a := ⟨g_q, 7, none⟩) (by show ¬ g_p = g_q; omega) (.int .i64 q8)).other (a := ⟨g_q, 8, none⟩) (by show ¬ g_p = g_q; omega) (.int .i64 q9)).other (a := ⟨g_q, 9, none⟩) (by show ¬ g_p = g_q; omega) (.int .i64 q10)).other (a := ⟨g_q, 10, none⟩) (by show ¬ g_p = g_q; omega) (.int .i64 q11)).other (a := ⟨g_q, 11, none⟩) (by show ¬ g_p = g_q; omega) (.int .i64 q12))
        have k_u : Bk W22 (g_u) 23 #[.int .i64 a1, .int .i64 a2, .int .i64 a3] := by rw [hW22]; exact (((((((((((((k_u.below q.h).other (a := ⟨g_q, 0, none⟩) (by show ¬ g_u = g_q; omega) (.int .i64 q1)).other (a := ⟨g_q, 1, none⟩) (by show ¬ g_u = g_q; omega) (.int .i64 q2)).other (a := ⟨g_q, 2, none⟩) (by show ¬ g_u = g_q; omega) (.int .i64 q3)).other (a := ⟨g_q, 3, none⟩) (by show ¬ g_u = g_q; omega) (.int .i64 q4)).other (a := ⟨g_q, 4, none⟩) (by show ¬ g_u = g_q; omega) (.int .i64 q5)).other (a := ⟨g_q, 5, none⟩) (by show ¬ g_u = g_q; omega) (.int .i64 q6)).other (a := ⟨g_q, 6, none⟩) (by show ¬ g_u = g_q; omega) (.int .i64 q7)).other (a := ⟨g_q, 7, none⟩) (by show ¬ g_u = g_q; omega) (.int .i64 q8)).other (a := ⟨g_q, 8, none⟩) (by show ¬ g_u = g_q; omega) (.int .i64 q9)).other (a := ⟨g_q, 9, none⟩) (by show ¬ g_u = g_q; omega) (.int .i64 q10)).other (a := ⟨g_q, 10, none⟩) (by show ¬ g_u = g_q; omega) (.int .i64 q11)).other (a := ⟨g_q, 11, none⟩) (by show ¬ g_u = g_q; omega) (.int .i64 q12))
        have k_q : Bk W22 (g_q) 29 #[.int .i64 q1, .int .i64 q2, .int .i64 q3, .int .i64 q4, .int .i64 q5, .int .i64 q6, .int .i64 q7, .int .i64 q8, .int .i64 q9, .int .i64 q10, .int .i64 q11, .int .i64 q12] := by rw [hW22]; exact (((((((((((((k_q.below q.h).set 0 (.int .i64 q1)).set 1 (.int .i64 q2)).set 2 (.int .i64 q3)).set 3 (.int .i64 q4)).set 4 (.int .i64 q5)).set 5 (.int .i64 q6)).set 6 (.int .i64 q7)).set 7 (.int .i64 q8)).set 8 (.int .i64 q9)).set 9 (.int .i64 q10)).set 10 (.int .i64 q11)).set 11 (.int .i64 q12)).cast (by simp)
        rw [← hW22]
        clear hW22
        clear B21
        clear c_v_0 c_v_1 c_v_2 c_p_0 c_p_1 c_p_2 c_p_3 c_p_4 c_p_5 c_p_6 c_p_7 c_p_8 c_p_9 c_p_10 c_p_11 c_u_0 c_u_1 c_u_2 c_q_0 f_q_0 c_q_1 f_q_1 c_q_2 f_q_2 c_q_3 f_q_3 c_q_4 f_q_4 c_q_5 f_q_5 c_q_6 f_q_6 c_q_7 f_q_7 c_q_8 f_q_8 c_q_9 f_q_9 c_q_10 f_q_10 c_q_11 f_q_11
        have c_v_0 : ∀ p : BW W22, p.w.cell? ⟨w.heap.size, 0, none⟩ = some (.int .i64 xx) := bw_cell (k_v.cell rfl)
        have c_v_1 : ∀ p : BW W22, p.w.cell? ⟨w.heap.size, 1, none⟩ = some (.int .i64 yy) := bw_cell (k_v.cell rfl)
        have c_v_2 : ∀ p : BW W22, p.w.cell? ⟨w.heap.size, 2, none⟩ = some (.int .i64 zz) := bw_cell (k_v.cell rfl)
        have c_p_0 : ∀ p : BW W22, p.w.cell? ⟨g_p, 0, none⟩ = some (.int .i64 u1) := bw_cell (k_p.cell rfl)
        have f_p_0 : ∀ p : BW W22, p.w.frozen? ⟨g_p, 0, none⟩ = false := fun p => (k_p.below p.h).frozen 0
        have c_p_1 : ∀ p : BW W22, p.w.cell? ⟨g_p, 1, none⟩ = some (.int .i64 u2) := bw_cell (k_p.cell rfl)
        have f_p_1 : ∀ p : BW W22, p.w.frozen? ⟨g_p, 1, none⟩ = false := fun p => (k_p.below p.h).frozen 1
        have c_p_2 : ∀ p : BW W22, p.w.cell? ⟨g_p, 2, none⟩ = some (.int .i64 u3) := bw_cell (k_p.cell rfl)
        have f_p_2 : ∀ p : BW W22, p.w.frozen? ⟨g_p, 2, none⟩ = false := fun p => (k_p.below p.h).frozen 2
        have c_p_3 : ∀ p : BW W22, p.w.cell? ⟨g_p, 3, none⟩ = some (.int .i64 u4) := bw_cell (k_p.cell rfl)
        have f_p_3 : ∀ p : BW W22, p.w.frozen? ⟨g_p, 3, none⟩ = false := fun p => (k_p.below p.h).frozen 3
        have c_p_4 : ∀ p : BW W22, p.w.cell? ⟨g_p, 4, none⟩ = some (.int .i64 u5) := bw_cell (k_p.cell rfl)
        have f_p_4 : ∀ p : BW W22, p.w.frozen? ⟨g_p, 4, none⟩ = false := fun p => (k_p.below p.h).frozen 4
        have c_p_5 : ∀ p : BW W22, p.w.cell? ⟨g_p, 5, none⟩ = some (.int .i64 u6) := bw_cell (k_p.cell rfl)
        have f_p_5 : ∀ p : BW W22, p.w.frozen? ⟨g_p, 5, none⟩ = false := fun p => (k_p.below p.h).frozen 5
        have c_p_6 : ∀ p : BW W22, p.w.cell? ⟨g_p, 6, none⟩ = some (.int .i64 u7) := bw_cell (k_p.cell rfl)
        have f_p_6 : ∀ p : BW W22, p.w.frozen? ⟨g_p, 6, none⟩ = false := fun p => (k_p.below p.h).frozen 6
        have c_p_7 : ∀ p : BW W22, p.w.cell? ⟨g_p, 7, none⟩ = some (.int .i64 u8) := bw_cell (k_p.cell rfl)
        have f_p_7 : ∀ p : BW W22, p.w.frozen? ⟨g_p, 7, none⟩ = false := fun p => (k_p.below p.h).frozen 7
        have c_p_8 : ∀ p : BW W22, p.w.cell? ⟨g_p, 8, none⟩ = some (.int .i64 u9) := bw_cell (k_p.cell rfl)
        have f_p_8 : ∀ p : BW W22, p.w.frozen? ⟨g_p, 8, none⟩ = false := fun p => (k_p.below p.h).frozen 8
        have c_p_9 : ∀ p : BW W22, p.w.cell? ⟨g_p, 9, none⟩ = some (.int .i64 u10) := bw_cell (k_p.cell rfl)
        have f_p_9 : ∀ p : BW W22, p.w.frozen? ⟨g_p, 9, none⟩ = false := fun p => (k_p.below p.h).frozen 9
        have c_p_10 : ∀ p : BW W22, p.w.cell? ⟨g_p, 10, none⟩ = some (.int .i64 u11) := bw_cell (k_p.cell rfl)
        have f_p_10 : ∀ p : BW W22, p.w.frozen? ⟨g_p, 10, none⟩ = false := fun p => (k_p.below p.h).frozen 10
        have c_p_11 : ∀ p : BW W22, p.w.cell? ⟨g_p, 11, none⟩ = some (.int .i64 u12) := bw_cell (k_p.cell rfl)
        have f_p_11 : ∀ p : BW W22, p.w.frozen? ⟨g_p, 11, none⟩ = false := fun p => (k_p.below p.h).frozen 11
        have c_u_0 : ∀ p : BW W22, p.w.cell? ⟨g_u, 0, none⟩ = some (.int .i64 a1) := bw_cell (k_u.cell rfl)
        have c_u_1 : ∀ p : BW W22, p.w.cell? ⟨g_u, 1, none⟩ = some (.int .i64 a2) := bw_cell (k_u.cell rfl)
        have c_u_2 : ∀ p : BW W22, p.w.cell? ⟨g_u, 2, none⟩ = some (.int .i64 a3) := bw_cell (k_u.cell rfl)
        have c_q_0 : ∀ p : BW W22, p.w.cell? ⟨g_q, 0, none⟩ = some (.int .i64 q1) := bw_cell (k_q.cell rfl)
        have c_q_1 : ∀ p : BW W22, p.w.cell? ⟨g_q, 1, none⟩ = some (.int .i64 q2) := bw_cell (k_q.cell rfl)
        have c_q_2 : ∀ p : BW W22, p.w.cell? ⟨g_q, 2, none⟩ = some (.int .i64 q3) := bw_cell (k_q.cell rfl)
        have c_q_3 : ∀ p : BW W22, p.w.cell? ⟨g_q, 3, none⟩ = some (.int .i64 q4) := bw_cell (k_q.cell rfl)
        have c_q_4 : ∀ p : BW W22, p.w.cell? ⟨g_q, 4, none⟩ = some (.int .i64 q5) := bw_cell (k_q.cell rfl)
        have c_q_5 : ∀ p : BW W22, p.w.cell? ⟨g_q, 5, none⟩ = some (.int .i64 q6) := bw_cell (k_q.cell rfl)
        have c_q_6 : ∀ p : BW W22, p.w.cell? ⟨g_q, 6, none⟩ = some (.int .i64 q7) := bw_cell (k_q.cell rfl)
        have c_q_7 : ∀ p : BW W22, p.w.cell? ⟨g_q, 7, none⟩ = some (.int .i64 q8) := bw_cell (k_q.cell rfl)
        have c_q_8 : ∀ p : BW W22, p.w.cell? ⟨g_q, 8, none⟩ = some (.int .i64 q9) := bw_cell (k_q.cell rfl)
        have c_q_9 : ∀ p : BW W22, p.w.cell? ⟨g_q, 9, none⟩ = some (.int .i64 q10) := bw_cell (k_q.cell rfl)
        have c_q_10 : ∀ p : BW W22, p.w.cell? ⟨g_q, 10, none⟩ = some (.int .i64 q11) := bw_cell (k_q.cell rfl)
        have c_q_11 : ∀ p : BW W22, p.w.cell? ⟨g_q, 11, none⟩ = some (.int .i64 q12) := bw_cell (k_q.cell rfl)
        obtain ⟨p22, hp22⟩ : ∃ p : BW W22, p.w = W22 := ⟨BW.start W22, rfl⟩
        rw [← hp22]
        clear hp22
        go_upto_region 13 with (first
          | (go_at_call 16; (first | (with_reducible refine (bw_call T1.out _).mono ?_)); rintro e w' ⟨rfl, q, rfl⟩))
        obtain ⟨W23, hW23⟩ : ∃ W, W = (((((((((((q.w.setCell ⟨g_p, 0, none⟩ (.int .i64 n1)).setCell ⟨g_p, 1, none⟩ (.int .i64 n2)).setCell ⟨g_p, 2, none⟩ (.int .i64 n3)).setCell ⟨g_p, 3, none⟩ (.int .i64 n4)).setCell ⟨g_p, 4, none⟩ (.int .i64 n5)).setCell ⟨g_p, 5, none⟩ (.int .i64 n6)).setCell ⟨g_p, 6, none⟩ (.int .i64 n7)).setCell ⟨g_p, 7, none⟩ (.int .i64 n8)).setCell ⟨g_p, 8, none⟩ (.int .i64 n9)).setCell ⟨g_p, 9, none⟩ (.int .i64 n10)).setCell ⟨g_p, 10, none⟩ (.int .i64 n11)).setCell ⟨g_p, 11, none⟩ (.int .i64 n12) := ⟨_, rfl⟩
        have B23 : Below w.heap.size w W23 := by rw [hW23]; exact (((((((((((((bw_below B22 q).setCell (p := ⟨g_p, 0, none⟩) (by show w.heap.size ≤ g_p; omega) _).setCell (p := ⟨g_p, 1, none⟩) (by show w.heap.size ≤ g_p; omega) _).setCell (p := ⟨g_p, 2, none⟩) (by show w.heap.size ≤ g_p; omega) _).setCell (p := ⟨g_p, 3, none⟩) (by show w.heap.size ≤ g_p; omega) _).setCell (p := ⟨g_p, 4, none⟩) (by show w.heap.size ≤ g_p; omega) _).setCell (p := ⟨g_p, 5, none⟩) (by show w.heap.size ≤ g_p; omega) _).setCell (p := ⟨g_p, 6, none⟩) (by show w.heap.size ≤ g_p; omega) _).setCell (p := ⟨g_p, 7, none⟩) (by show w.heap.size ≤ g_p; omega) _).setCell (p := ⟨g_p, 8, none⟩) (by show w.heap.size ≤ g_p; omega) _).setCell (p := ⟨g_p, 9, none⟩) (by show w.heap.size ≤ g_p; omega) _).setCell (p := ⟨g_p, 10, none⟩) (by show w.heap.size ≤ g_p; omega) _).setCell (p := ⟨g_p, 11, none⟩) (by show w.heap.size ≤ g_p; omega) _)
        have k_v : Bk W23 (w.heap.size) 23 #[.int .i64 xx, .int .i64 yy, .int .i64 zz] := by rw [hW23]; exact (((((((((((((k_v.below q.h).other (a := ⟨g_p, 0, none⟩) (by show ¬ w.heap.size = g_p; omega) (.int .i64 n1)).other (a := ⟨g_p, 1, none⟩) (by show ¬ w.heap.size = g_p; omega) (.int .i64 n2)).other (a := ⟨g_p, 2, none⟩) (by show ¬ w.heap.size = g_p; omega) (.int .i64 n3)).other (a := ⟨g_p, 3, none⟩) (by show ¬ w.heap.size = g_p; omega) (.int .i64 n4)).other (a := ⟨g_p, 4, none⟩) (by show ¬ w.heap.size = g_p; omega) (.int .i64 n5)).other (a := ⟨g_p, 5, none⟩) (by show ¬ w.heap.size = g_p; omega) (.int .i64 n6)).other (a := ⟨g_p, 6, none⟩) (by show ¬ w.heap.size = g_p; omega) (.int .i64 n7)).other (a := ⟨g_p, 7, none⟩) (by show ¬ w.heap.size = g_p; omega) (.int .i64 n8)).other (a := ⟨g_p, 8, none⟩) (by show ¬ w.heap.size = g_p; omega) (.int .i64 n9)).other (a := ⟨g_p, 9, none⟩) (by show ¬ w.heap.size = g_p; omega) (.int .i64 n10)).other (a := ⟨g_p, 10, none⟩) (by show ¬ w.heap.size = g_p; omega) (.int .i64 n11)).other (a := ⟨g_p, 11, none⟩) (by show ¬ w.heap.size = g_p; omega) (.int .i64 n12))
        have k_p : Bk W23 (g_p) 29 #[.int .i64 n1, .int .i64 n2, .int .i64 n3, .int .i64 n4, .int .i64 n5, .int .i64 n6, .int .i64 n7, .int .i64 n8, .int .i64 n9, .int .i64 n10, .int .i64 n11, .int .i64 n12] := by rw [hW23]; exact (((((((((((((k_p.below q.h).set 0 (.int .i64 n1)).set 1 (.int .i64 n2)).set 2 (.int .i64 n3)).set 3 (.int .i64 n4)).set 4 (.int .i64 n5)).set 5 (.int .i64 n6)).set 6 (.int .i64 n7)).set 7 (.int .i64 n8)).set 8 (.int .i64 n9)).set 9 (.int .i64 n10)).set 10 (.int .i64 n11)).set 11 (.int .i64 n12)).cast (by simp)
        have k_u : Bk W23 (g_u) 23 #[.int .i64 a1, .int .i64 a2, .int .i64 a3] := by rw [hW23]; exact (((((((((((((k_u.below q.h).other (a := ⟨g_p, 0, none⟩) (by show ¬ g_u = g_p; omega) (.int .i64 n1)).other (a := ⟨g_p, 1, none⟩) (by show ¬ g_u = g_p; omega) (.int .i64 n2)).other (a := ⟨g_p, 2, none⟩) (by show ¬ g_u = g_p; omega) (.int .i64 n3)).other (a := ⟨g_p, 3, none⟩) (by show ¬ g_u = g_p; omega) (.int .i64 n4)).other (a := ⟨g_p, 4, none⟩) (by show ¬ g_u = g_p; omega) (.int .i64 n5)).other (a := ⟨g_p, 5, none⟩) (by show ¬ g_u = g_p; omega) (.int .i64 n6)).other (a := ⟨g_p, 6, none⟩) (by show ¬ g_u = g_p; omega) (.int .i64 n7)).other (a := ⟨g_p, 7, none⟩) (by show ¬ g_u = g_p; omega) (.int .i64 n8)).other (a := ⟨g_p, 8, none⟩) (by show ¬ g_u = g_p; omega) (.int .i64 n9)).other (a := ⟨g_p, 9, none⟩) (by show ¬ g_u = g_p; omega) (.int .i64 n10)).other (a := ⟨g_p, 10, none⟩) (by show ¬ g_u = g_p; omega) (.int .i64 n11)).other (a := ⟨g_p, 11, none⟩) (by show ¬ g_u = g_p; omega) (.int .i64 n12))
        have k_q : Bk W23 (g_q) 29 #[.int .i64 q1, .int .i64 q2, .int .i64 q3, .int .i64 q4, .int .i64 q5, .int .i64 q6, .int .i64 q7, .int .i64 q8, .int .i64 q9, .int .i64 q10, .int .i64 q11, .int .i64 q12] := by rw [hW23]; exact (((((((((((((k_q.below q.h).other (a := ⟨g_p, 0, none⟩) (by show ¬ g_q = g_p; omega) (.int .i64 n1)).other (a := ⟨g_p, 1, none⟩) (by show ¬ g_q = g_p; omega) (.int .i64 n2)).other (a := ⟨g_p, 2, none⟩) (by show ¬ g_q = g_p; omega) (.int .i64 n3)).other (a := ⟨g_p, 3, none⟩) (by show ¬ g_q = g_p; omega) (.int .i64 n4)).other (a := ⟨g_p, 4, none⟩) (by show ¬ g_q = g_p; omega) (.int .i64 n5)).other (a := ⟨g_p, 5, none⟩) (by show ¬ g_q = g_p; omega) (.int .i64 n6)).other (a := ⟨g_p, 6, none⟩) (by show ¬ g_q = g_p; omega) (.int .i64 n7)).other (a := ⟨g_p, 7, none⟩) (by show ¬ g_q = g_p; omega) (.int .i64 n8)).other (a := ⟨g_p, 8, none⟩) (by show ¬ g_q = g_p; omega) (.int .i64 n9)).other (a := ⟨g_p, 9, none⟩) (by show ¬ g_q = g_p; omega) (.int .i64 n10)).other (a := ⟨g_p, 10, none⟩) (by show ¬ g_q = g_p; omega) (.int .i64 n11)).other (a := ⟨g_p, 11, none⟩) (by show ¬ g_q = g_p; omega) (.int .i64 n12))
        rw [← hW23]
        clear hW23
        clear B22
        clear c_v_0 c_v_1 c_v_2 c_p_0 f_p_0 c_p_1 f_p_1 c_p_2 f_p_2 c_p_3 f_p_3 c_p_4 f_p_4 c_p_5 f_p_5 c_p_6 f_p_6 c_p_7 f_p_7 c_p_8 f_p_8 c_p_9 f_p_9 c_p_10 f_p_10 c_p_11 f_p_11 c_u_0 c_u_1 c_u_2 c_q_0 c_q_1 c_q_2 c_q_3 c_q_4 c_q_5 c_q_6 c_q_7 c_q_8 c_q_9 c_q_10 c_q_11
        have c_v_0 : ∀ p : BW W23, p.w.cell? ⟨w.heap.size, 0, none⟩ = some (.int .i64 xx) := bw_cell (k_v.cell rfl)
        have c_v_1 : ∀ p : BW W23, p.w.cell? ⟨w.heap.size, 1, none⟩ = some (.int .i64 yy) := bw_cell (k_v.cell rfl)
        have c_v_2 : ∀ p : BW W23, p.w.cell? ⟨w.heap.size, 2, none⟩ = some (.int .i64 zz) := bw_cell (k_v.cell rfl)
        have c_p_0 : ∀ p : BW W23, p.w.cell? ⟨g_p, 0, none⟩ = some (.int .i64 n1) := bw_cell (k_p.cell rfl)
        have c_p_1 : ∀ p : BW W23, p.w.cell? ⟨g_p, 1, none⟩ = some (.int .i64 n2) := bw_cell (k_p.cell rfl)
        have c_p_2 : ∀ p : BW W23, p.w.cell? ⟨g_p, 2, none⟩ = some (.int .i64 n3) := bw_cell (k_p.cell rfl)
        have c_p_3 : ∀ p : BW W23, p.w.cell? ⟨g_p, 3, none⟩ = some (.int .i64 n4) := bw_cell (k_p.cell rfl)
        have c_p_4 : ∀ p : BW W23, p.w.cell? ⟨g_p, 4, none⟩ = some (.int .i64 n5) := bw_cell (k_p.cell rfl)
        have c_p_5 : ∀ p : BW W23, p.w.cell? ⟨g_p, 5, none⟩ = some (.int .i64 n6) := bw_cell (k_p.cell rfl)
        have c_p_6 : ∀ p : BW W23, p.w.cell? ⟨g_p, 6, none⟩ = some (.int .i64 n7) := bw_cell (k_p.cell rfl)
        have c_p_7 : ∀ p : BW W23, p.w.cell? ⟨g_p, 7, none⟩ = some (.int .i64 n8) := bw_cell (k_p.cell rfl)
        have c_p_8 : ∀ p : BW W23, p.w.cell? ⟨g_p, 8, none⟩ = some (.int .i64 n9) := bw_cell (k_p.cell rfl)
        have c_p_9 : ∀ p : BW W23, p.w.cell? ⟨g_p, 9, none⟩ = some (.int .i64 n10) := bw_cell (k_p.cell rfl)
        have c_p_10 : ∀ p : BW W23, p.w.cell? ⟨g_p, 10, none⟩ = some (.int .i64 n11) := bw_cell (k_p.cell rfl)
        have c_p_11 : ∀ p : BW W23, p.w.cell? ⟨g_p, 11, none⟩ = some (.int .i64 n12) := bw_cell (k_p.cell rfl)
        have c_u_0 : ∀ p : BW W23, p.w.cell? ⟨g_u, 0, none⟩ = some (.int .i64 a1) := bw_cell (k_u.cell rfl)
        have f_u_0 : ∀ p : BW W23, p.w.frozen? ⟨g_u, 0, none⟩ = false := fun p => (k_u.below p.h).frozen 0
        have c_u_1 : ∀ p : BW W23, p.w.cell? ⟨g_u, 1, none⟩ = some (.int .i64 a2) := bw_cell (k_u.cell rfl)
        have f_u_1 : ∀ p : BW W23, p.w.frozen? ⟨g_u, 1, none⟩ = false := fun p => (k_u.below p.h).frozen 1
        have c_u_2 : ∀ p : BW W23, p.w.cell? ⟨g_u, 2, none⟩ = some (.int .i64 a3) := bw_cell (k_u.cell rfl)
        have f_u_2 : ∀ p : BW W23, p.w.frozen? ⟨g_u, 2, none⟩ = false := fun p => (k_u.below p.h).frozen 2
        have c_q_0 : ∀ p : BW W23, p.w.cell? ⟨g_q, 0, none⟩ = some (.int .i64 q1) := bw_cell (k_q.cell rfl)
        have c_q_1 : ∀ p : BW W23, p.w.cell? ⟨g_q, 1, none⟩ = some (.int .i64 q2) := bw_cell (k_q.cell rfl)
        have c_q_2 : ∀ p : BW W23, p.w.cell? ⟨g_q, 2, none⟩ = some (.int .i64 q3) := bw_cell (k_q.cell rfl)
        have c_q_3 : ∀ p : BW W23, p.w.cell? ⟨g_q, 3, none⟩ = some (.int .i64 q4) := bw_cell (k_q.cell rfl)
        have c_q_4 : ∀ p : BW W23, p.w.cell? ⟨g_q, 4, none⟩ = some (.int .i64 q5) := bw_cell (k_q.cell rfl)
        have c_q_5 : ∀ p : BW W23, p.w.cell? ⟨g_q, 5, none⟩ = some (.int .i64 q6) := bw_cell (k_q.cell rfl)
        have c_q_6 : ∀ p : BW W23, p.w.cell? ⟨g_q, 6, none⟩ = some (.int .i64 q7) := bw_cell (k_q.cell rfl)
        have c_q_7 : ∀ p : BW W23, p.w.cell? ⟨g_q, 7, none⟩ = some (.int .i64 q8) := bw_cell (k_q.cell rfl)
        have c_q_8 : ∀ p : BW W23, p.w.cell? ⟨g_q, 8, none⟩ = some (.int .i64 q9) := bw_cell (k_q.cell rfl)
        have c_q_9 : ∀ p : BW W23, p.w.cell? ⟨g_q, 9, none⟩ = some (.int .i64 q10) := bw_cell (k_q.cell rfl)
        have c_q_10 : ∀ p : BW W23, p.w.cell? ⟨g_q, 10, none⟩ = some (.int .i64 q11) := bw_cell (k_q.cell rfl)
        have c_q_11 : ∀ p : BW W23, p.w.cell? ⟨g_q, 11, none⟩ = some (.int .i64 q12) := bw_cell (k_q.cell rfl)
        obtain ⟨p23, hp23⟩ : ∃ p : BW W23, p.w = W23 := ⟨BW.start W23, rfl⟩
        rw [← hp23]
        clear hp23
        go_upto_region 7 with (first
          | (go_at_call 20; (first | (with_reducible refine (bw_call P1.out _).mono ?_)); rintro e w' ⟨rfl, q, rfl⟩))
        obtain ⟨W24, hW24⟩ : ∃ W, W = ((q.w.setCell ⟨g_u, 0, none⟩ (.int .i64 b1)).setCell ⟨g_u, 1, none⟩ (.int .i64 b2)).setCell ⟨g_u, 2, none⟩ (.int .i64 b3) := ⟨_, rfl⟩
        have B24 : Below w.heap.size w W24 := by rw [hW24]; exact ((((bw_below B23 q).setCell (p := ⟨g_u, 0, none⟩) (by show w.heap.size ≤ g_u; omega) _).setCell (p := ⟨g_u, 1, none⟩) (by show w.heap.size ≤ g_u; omega) _).setCell (p := ⟨g_u, 2, none⟩) (by show w.heap.size ≤ g_u; omega) _)
        have k_v : Bk W24 (w.heap.size) 23 #[.int .i64 xx, .int .i64 yy, .int .i64 zz] := by rw [hW24]; exact ((((k_v.below q.h).other (a := ⟨g_u, 0, none⟩) (by show ¬ w.heap.size = g_u; omega) (.int .i64 b1)).other (a := ⟨g_u, 1, none⟩) (by show ¬ w.heap.size = g_u; omega) (.int .i64 b2)).other (a := ⟨g_u, 2, none⟩) (by show ¬ w.heap.size = g_u; omega) (.int .i64 b3))
        have k_p : Bk W24 (g_p) 29 #[.int .i64 n1, .int .i64 n2, .int .i64 n3, .int .i64 n4, .int .i64 n5, .int .i64 n6, .int .i64 n7, .int .i64 n8, .int .i64 n9, .int .i64 n10, .int .i64 n11, .int .i64 n12] := by rw [hW24]; exact ((((k_p.below q.h).other (a := ⟨g_u, 0, none⟩) (by show ¬ g_p = g_u; omega) (.int .i64 b1)).other (a := ⟨g_u, 1, none⟩) (by show ¬ g_p = g_u; omega) (.int .i64 b2)).other (a := ⟨g_u, 2, none⟩) (by show ¬ g_p = g_u; omega) (.int .i64 b3))
        have k_u : Bk W24 (g_u) 23 #[.int .i64 b1, .int .i64 b2, .int .i64 b3] := by rw [hW24]; exact ((((k_u.below q.h).set 0 (.int .i64 b1)).set 1 (.int .i64 b2)).set 2 (.int .i64 b3))
        have k_q : Bk W24 (g_q) 29 #[.int .i64 q1, .int .i64 q2, .int .i64 q3, .int .i64 q4, .int .i64 q5, .int .i64 q6, .int .i64 q7, .int .i64 q8, .int .i64 q9, .int .i64 q10, .int .i64 q11, .int .i64 q12] := by rw [hW24]; exact ((((k_q.below q.h).other (a := ⟨g_u, 0, none⟩) (by show ¬ g_q = g_u; omega) (.int .i64 b1)).other (a := ⟨g_u, 1, none⟩) (by show ¬ g_q = g_u; omega) (.int .i64 b2)).other (a := ⟨g_u, 2, none⟩) (by show ¬ g_q = g_u; omega) (.int .i64 b3))
        rw [← hW24]
        clear hW24
        clear B23
        clear c_v_0 c_v_1 c_v_2 c_p_0 c_p_1 c_p_2 c_p_3 c_p_4 c_p_5 c_p_6 c_p_7 c_p_8 c_p_9 c_p_10 c_p_11 c_u_0 f_u_0 c_u_1 f_u_1 c_u_2 f_u_2 c_q_0 c_q_1 c_q_2 c_q_3 c_q_4 c_q_5 c_q_6 c_q_7 c_q_8 c_q_9 c_q_10 c_q_11
        go_wp2
        go_roundw
        case rel => exact ⟨k + 1, tn m mq, by omega, by go_num, HQ.out, by rw [← HN.out]; exact k_p, by rw [← HE.out]; exact k_u, k_v, B24⟩
        case measure => simp [intOf]; omega

      · have M1 := Lib.hid (fun w => pose_Moved s (2 * s) (-s) w)
        have vs : in3 2000 (s, 2 * s, -s) := by unfold in3; dsimp only; omega
        rw [qMove_up vs (by omega)] at M1
        have hmq := qMove_qs vs
        generalize qMove (s, 2 * s, -s) = mq at *
        obtain ⟨Q, hQ⟩ : ∃ Q, Q = up mq := ⟨_, rfl⟩
        rw [← hQ] at M1
        have e1 : pThen U Q = up (tn m mq) := by rw [hU, hQ]; exact pThen_q hq hmq (by omega) (by omega)
        have e2 : pPut Q D = ap (tn m mq) (xx, yy, zz) := by rw [hQ, ap_tn, ← hD]; exact pPut_q hmq (by omega) dD (by omega)
        have hn := tn_qs hq hmq
        obtain ⟨N, hN⟩ : ∃ N, N = up (tn m mq) := ⟨_, rfl⟩
        obtain ⟨E, hE⟩ : ∃ E, E = ap (tn m mq) (xx, yy, zz) := ⟨_, rfl⟩
        rw [← hN] at e1
        rw [← hE] at e2
        clear hU hQ hD dD
        obtain ⟨⟨u1, u2, u3⟩, ⟨u4, u5, u6⟩, ⟨u7, u8, u9⟩, ⟨u10, u11, u12⟩⟩ := U
        obtain ⟨⟨q1, q2, q3⟩, ⟨q4, q5, q6⟩, ⟨q7, q8, q9⟩, ⟨q10, q11, q12⟩⟩ := Q
        obtain ⟨⟨n1, n2, n3⟩, ⟨n4, n5, n6⟩, ⟨n7, n8, n9⟩, ⟨n10, n11, n12⟩⟩ := N
        obtain ⟨a1, a2, a3⟩ := D
        obtain ⟨b1, b2, b3⟩ := E
        have T1 := Lib.hid (fun w => pose_Then u1 u2 u3 u4 u5 u6 u7 u8 u9 u10 u11 u12 q1 q2 q3 q4 q5 q6 q7 q8 q9 q10 q11 q12 w)
        have P1 := Lib.hid (fun w => pose_Put q1 q2 q3 q4 q5 q6 q7 q8 q9 q10 q11 q12 a1 a2 a3 w)
        rw [e1] at T1
        rw [e2] at P1
        unfold p12 at k_p T1 M1
        unfold v3 at k_u
        dsimp only at k_p k_u T1 P1 M1
        have HN := Lib.hid hN
        have HE := Lib.hid hE
        have HQ : Hid (qs (tn m mq) (2000 * ((k + 1 : Nat) : Int))) := Lib.hid (by rw [show 2000 * ((k + 1 : Nat) : Int) = C + 2000 by omega]; exact hn)
        have hz0 : ∀ p : BW wr, p.w.cell? ⟨b, off + k, none⟩ = some (.int .i64 zk) := bw_cell ((B20.cell (p := ⟨b, off + k, none⟩) hb).trans hz)
        clear e1 e2 hN hE hn hq hmq
        have c_v_0 : ∀ p : BW wr, p.w.cell? ⟨w.heap.size, 0, none⟩ = some (.int .i64 xx) := bw_cell (k_v.cell rfl)
        have c_v_1 : ∀ p : BW wr, p.w.cell? ⟨w.heap.size, 1, none⟩ = some (.int .i64 yy) := bw_cell (k_v.cell rfl)
        have c_v_2 : ∀ p : BW wr, p.w.cell? ⟨w.heap.size, 2, none⟩ = some (.int .i64 zz) := bw_cell (k_v.cell rfl)
        have c_p_0 : ∀ p : BW wr, p.w.cell? ⟨g_p, 0, none⟩ = some (.int .i64 u1) := bw_cell (k_p.cell rfl)
        have f_p_0 : ∀ p : BW wr, p.w.frozen? ⟨g_p, 0, none⟩ = false := fun p => (k_p.below p.h).frozen 0
        have c_p_1 : ∀ p : BW wr, p.w.cell? ⟨g_p, 1, none⟩ = some (.int .i64 u2) := bw_cell (k_p.cell rfl)
        have f_p_1 : ∀ p : BW wr, p.w.frozen? ⟨g_p, 1, none⟩ = false := fun p => (k_p.below p.h).frozen 1
        have c_p_2 : ∀ p : BW wr, p.w.cell? ⟨g_p, 2, none⟩ = some (.int .i64 u3) := bw_cell (k_p.cell rfl)
        have f_p_2 : ∀ p : BW wr, p.w.frozen? ⟨g_p, 2, none⟩ = false := fun p => (k_p.below p.h).frozen 2
        have c_p_3 : ∀ p : BW wr, p.w.cell? ⟨g_p, 3, none⟩ = some (.int .i64 u4) := bw_cell (k_p.cell rfl)
        have f_p_3 : ∀ p : BW wr, p.w.frozen? ⟨g_p, 3, none⟩ = false := fun p => (k_p.below p.h).frozen 3
        have c_p_4 : ∀ p : BW wr, p.w.cell? ⟨g_p, 4, none⟩ = some (.int .i64 u5) := bw_cell (k_p.cell rfl)
        have f_p_4 : ∀ p : BW wr, p.w.frozen? ⟨g_p, 4, none⟩ = false := fun p => (k_p.below p.h).frozen 4
        have c_p_5 : ∀ p : BW wr, p.w.cell? ⟨g_p, 5, none⟩ = some (.int .i64 u6) := bw_cell (k_p.cell rfl)
        have f_p_5 : ∀ p : BW wr, p.w.frozen? ⟨g_p, 5, none⟩ = false := fun p => (k_p.below p.h).frozen 5
        have c_p_6 : ∀ p : BW wr, p.w.cell? ⟨g_p, 6, none⟩ = some (.int .i64 u7) := bw_cell (k_p.cell rfl)
        have f_p_6 : ∀ p : BW wr, p.w.frozen? ⟨g_p, 6, none⟩ = false := fun p => (k_p.below p.h).frozen 6
        have c_p_7 : ∀ p : BW wr, p.w.cell? ⟨g_p, 7, none⟩ = some (.int .i64 u8) := bw_cell (k_p.cell rfl)
        have f_p_7 : ∀ p : BW wr, p.w.frozen? ⟨g_p, 7, none⟩ = false := fun p => (k_p.below p.h).frozen 7
        have c_p_8 : ∀ p : BW wr, p.w.cell? ⟨g_p, 8, none⟩ = some (.int .i64 u9) := bw_cell (k_p.cell rfl)
        have f_p_8 : ∀ p : BW wr, p.w.frozen? ⟨g_p, 8, none⟩ = false := fun p => (k_p.below p.h).frozen 8
        have c_p_9 : ∀ p : BW wr, p.w.cell? ⟨g_p, 9, none⟩ = some (.int .i64 u10) := bw_cell (k_p.cell rfl)
        have f_p_9 : ∀ p : BW wr, p.w.frozen? ⟨g_p, 9, none⟩ = false := fun p => (k_p.below p.h).frozen 9
        have c_p_10 : ∀ p : BW wr, p.w.cell? ⟨g_p, 10, none⟩ = some (.int .i64 u11) := bw_cell (k_p.cell rfl)
        have f_p_10 : ∀ p : BW wr, p.w.frozen? ⟨g_p, 10, none⟩ = false := fun p => (k_p.below p.h).frozen 10
        have c_p_11 : ∀ p : BW wr, p.w.cell? ⟨g_p, 11, none⟩ = some (.int .i64 u12) := bw_cell (k_p.cell rfl)
        have f_p_11 : ∀ p : BW wr, p.w.frozen? ⟨g_p, 11, none⟩ = false := fun p => (k_p.below p.h).frozen 11
        have c_u_0 : ∀ p : BW wr, p.w.cell? ⟨g_u, 0, none⟩ = some (.int .i64 a1) := bw_cell (k_u.cell rfl)
        have f_u_0 : ∀ p : BW wr, p.w.frozen? ⟨g_u, 0, none⟩ = false := fun p => (k_u.below p.h).frozen 0
        have c_u_1 : ∀ p : BW wr, p.w.cell? ⟨g_u, 1, none⟩ = some (.int .i64 a2) := bw_cell (k_u.cell rfl)
        have f_u_1 : ∀ p : BW wr, p.w.frozen? ⟨g_u, 1, none⟩ = false := fun p => (k_u.below p.h).frozen 1
        have c_u_2 : ∀ p : BW wr, p.w.cell? ⟨g_u, 2, none⟩ = some (.int .i64 a3) := bw_cell (k_u.cell rfl)
        have f_u_2 : ∀ p : BW wr, p.w.frozen? ⟨g_u, 2, none⟩ = false := fun p => (k_u.below p.h).frozen 2
        obtain ⟨p20, hp20⟩ : ∃ p : BW wr, p.w = wr := ⟨BW.start wr, rfl⟩
        rw [← hp20]
        clear hp20
        go_upto_region 10 with (first
          | (go_at_call 21; (first | (with_reducible refine (bw_call M1.out _).mono ?_)); rintro e w' ⟨rfl, q, rfl⟩))
        obtain ⟨W21, hW21⟩ : ∃ W, W = q.w.alloc (.cells #[.int .i64 q1, .int .i64 q2, .int .i64 q3, .int .i64 q4, .int .i64 q5, .int .i64 q6, .int .i64 q7, .int .i64 q8, .int .i64 q9, .int .i64 q10, .int .i64 q11, .int .i64 q12] 29) := ⟨_, rfl⟩
        have B21 : Below w.heap.size w W21 := by rw [hW21]; exact (bw_below B20 q).alloc (bw_below B20 q).size _
        have l_q : g_u < q.w.heap.size := (k_u.below q.h).lt
        have l_q_p : g_p < q.w.heap.size := (k_p.below q.h).lt
        have k_v := (k_v.below q.h).alloc (.cells #[.int .i64 q1, .int .i64 q2, .int .i64 q3, .int .i64 q4, .int .i64 q5, .int .i64 q6, .int .i64 q7, .int .i64 q8, .int .i64 q9, .int .i64 q10, .int .i64 q11, .int .i64 q12] 29)
        rw [← hW21] at k_v
        have k_p := (k_p.below q.h).alloc (.cells #[.int .i64 q1, .int .i64 q2, .int .i64 q3, .int .i64 q4, .int .i64 q5, .int .i64 q6, .int .i64 q7, .int .i64 q8, .int .i64 q9, .int .i64 q10, .int .i64 q11, .int .i64 q12] 29)
        rw [← hW21] at k_p
        have k_u := (k_u.below q.h).alloc (.cells #[.int .i64 q1, .int .i64 q2, .int .i64 q3, .int .i64 q4, .int .i64 q5, .int .i64 q6, .int .i64 q7, .int .i64 q8, .int .i64 q9, .int .i64 q10, .int .i64 q11, .int .i64 q12] 29)
        rw [← hW21] at k_u
        have k_q : Bk W21 q.w.heap.size 29 #[.int .i64 q1, .int .i64 q2, .int .i64 q3, .int .i64 q4, .int .i64 q5, .int .i64 q6, .int .i64 q7, .int .i64 q8, .int .i64 q9, .int .i64 q10, .int .i64 q11, .int .i64 q12] := by rw [hW21]; exact Bk.new _ _ _
        rw [← hW21]
        clear hW21
        clear B20
        clear c_v_0 c_v_1 c_v_2 c_p_0 f_p_0 c_p_1 f_p_1 c_p_2 f_p_2 c_p_3 f_p_3 c_p_4 f_p_4 c_p_5 f_p_5 c_p_6 f_p_6 c_p_7 f_p_7 c_p_8 f_p_8 c_p_9 f_p_9 c_p_10 f_p_10 c_p_11 f_p_11 c_u_0 f_u_0 c_u_1 f_u_1 c_u_2 f_u_2
        generalize q.w.heap.size = g_q at *
        have c_v_0 : ∀ p : BW W21, p.w.cell? ⟨w.heap.size, 0, none⟩ = some (.int .i64 xx) := bw_cell (k_v.cell rfl)
        have c_v_1 : ∀ p : BW W21, p.w.cell? ⟨w.heap.size, 1, none⟩ = some (.int .i64 yy) := bw_cell (k_v.cell rfl)
        have c_v_2 : ∀ p : BW W21, p.w.cell? ⟨w.heap.size, 2, none⟩ = some (.int .i64 zz) := bw_cell (k_v.cell rfl)
        have c_p_0 : ∀ p : BW W21, p.w.cell? ⟨g_p, 0, none⟩ = some (.int .i64 u1) := bw_cell (k_p.cell rfl)
        have f_p_0 : ∀ p : BW W21, p.w.frozen? ⟨g_p, 0, none⟩ = false := fun p => (k_p.below p.h).frozen 0
        have c_p_1 : ∀ p : BW W21, p.w.cell? ⟨g_p, 1, none⟩ = some (.int .i64 u2) := bw_cell (k_p.cell rfl)
        have f_p_1 : ∀ p : BW W21, p.w.frozen? ⟨g_p, 1, none⟩ = false := fun p => (k_p.below p.h).frozen 1
        have c_p_2 : ∀ p : BW W21, p.w.cell? ⟨g_p, 2, none⟩ = some (.int .i64 u3) := bw_cell (k_p.cell rfl)
        have f_p_2 : ∀ p : BW W21, p.w.frozen? ⟨g_p, 2, none⟩ = false := fun p => (k_p.below p.h).frozen 2
        have c_p_3 : ∀ p : BW W21, p.w.cell? ⟨g_p, 3, none⟩ = some (.int .i64 u4) := bw_cell (k_p.cell rfl)
        have f_p_3 : ∀ p : BW W21, p.w.frozen? ⟨g_p, 3, none⟩ = false := fun p => (k_p.below p.h).frozen 3
        have c_p_4 : ∀ p : BW W21, p.w.cell? ⟨g_p, 4, none⟩ = some (.int .i64 u5) := bw_cell (k_p.cell rfl)
        have f_p_4 : ∀ p : BW W21, p.w.frozen? ⟨g_p, 4, none⟩ = false := fun p => (k_p.below p.h).frozen 4
        have c_p_5 : ∀ p : BW W21, p.w.cell? ⟨g_p, 5, none⟩ = some (.int .i64 u6) := bw_cell (k_p.cell rfl)
        have f_p_5 : ∀ p : BW W21, p.w.frozen? ⟨g_p, 5, none⟩ = false := fun p => (k_p.below p.h).frozen 5
        have c_p_6 : ∀ p : BW W21, p.w.cell? ⟨g_p, 6, none⟩ = some (.int .i64 u7) := bw_cell (k_p.cell rfl)
        have f_p_6 : ∀ p : BW W21, p.w.frozen? ⟨g_p, 6, none⟩ = false := fun p => (k_p.below p.h).frozen 6
        have c_p_7 : ∀ p : BW W21, p.w.cell? ⟨g_p, 7, none⟩ = some (.int .i64 u8) := bw_cell (k_p.cell rfl)
        have f_p_7 : ∀ p : BW W21, p.w.frozen? ⟨g_p, 7, none⟩ = false := fun p => (k_p.below p.h).frozen 7
        have c_p_8 : ∀ p : BW W21, p.w.cell? ⟨g_p, 8, none⟩ = some (.int .i64 u9) := bw_cell (k_p.cell rfl)
        have f_p_8 : ∀ p : BW W21, p.w.frozen? ⟨g_p, 8, none⟩ = false := fun p => (k_p.below p.h).frozen 8
        have c_p_9 : ∀ p : BW W21, p.w.cell? ⟨g_p, 9, none⟩ = some (.int .i64 u10) := bw_cell (k_p.cell rfl)
        have f_p_9 : ∀ p : BW W21, p.w.frozen? ⟨g_p, 9, none⟩ = false := fun p => (k_p.below p.h).frozen 9
        have c_p_10 : ∀ p : BW W21, p.w.cell? ⟨g_p, 10, none⟩ = some (.int .i64 u11) := bw_cell (k_p.cell rfl)
        have f_p_10 : ∀ p : BW W21, p.w.frozen? ⟨g_p, 10, none⟩ = false := fun p => (k_p.below p.h).frozen 10
        have c_p_11 : ∀ p : BW W21, p.w.cell? ⟨g_p, 11, none⟩ = some (.int .i64 u12) := bw_cell (k_p.cell rfl)
        have f_p_11 : ∀ p : BW W21, p.w.frozen? ⟨g_p, 11, none⟩ = false := fun p => (k_p.below p.h).frozen 11
        have c_u_0 : ∀ p : BW W21, p.w.cell? ⟨g_u, 0, none⟩ = some (.int .i64 a1) := bw_cell (k_u.cell rfl)
        have c_u_1 : ∀ p : BW W21, p.w.cell? ⟨g_u, 1, none⟩ = some (.int .i64 a2) := bw_cell (k_u.cell rfl)
        have c_u_2 : ∀ p : BW W21, p.w.cell? ⟨g_u, 2, none⟩ = some (.int .i64 a3) := bw_cell (k_u.cell rfl)
        have c_q_0 : ∀ p : BW W21, p.w.cell? ⟨g_q, 0, none⟩ = some (.int .i64 q1) := bw_cell (k_q.cell rfl)
        have c_q_1 : ∀ p : BW W21, p.w.cell? ⟨g_q, 1, none⟩ = some (.int .i64 q2) := bw_cell (k_q.cell rfl)
        have c_q_2 : ∀ p : BW W21, p.w.cell? ⟨g_q, 2, none⟩ = some (.int .i64 q3) := bw_cell (k_q.cell rfl)
        have c_q_3 : ∀ p : BW W21, p.w.cell? ⟨g_q, 3, none⟩ = some (.int .i64 q4) := bw_cell (k_q.cell rfl)
        have c_q_4 : ∀ p : BW W21, p.w.cell? ⟨g_q, 4, none⟩ = some (.int .i64 q5) := bw_cell (k_q.cell rfl)
        have c_q_5 : ∀ p : BW W21, p.w.cell? ⟨g_q, 5, none⟩ = some (.int .i64 q6) := bw_cell (k_q.cell rfl)
        have c_q_6 : ∀ p : BW W21, p.w.cell? ⟨g_q, 6, none⟩ = some (.int .i64 q7) := bw_cell (k_q.cell rfl)
        have c_q_7 : ∀ p : BW W21, p.w.cell? ⟨g_q, 7, none⟩ = some (.int .i64 q8) := bw_cell (k_q.cell rfl)
        have c_q_8 : ∀ p : BW W21, p.w.cell? ⟨g_q, 8, none⟩ = some (.int .i64 q9) := bw_cell (k_q.cell rfl)
        have c_q_9 : ∀ p : BW W21, p.w.cell? ⟨g_q, 9, none⟩ = some (.int .i64 q10) := bw_cell (k_q.cell rfl)
        have c_q_10 : ∀ p : BW W21, p.w.cell? ⟨g_q, 10, none⟩ = some (.int .i64 q11) := bw_cell (k_q.cell rfl)
        have c_q_11 : ∀ p : BW W21, p.w.cell? ⟨g_q, 11, none⟩ = some (.int .i64 q12) := bw_cell (k_q.cell rfl)
        obtain ⟨p21, hp21⟩ : ∃ p : BW W21, p.w = W21 := ⟨BW.start W21, rfl⟩
        rw [← hp21]
        clear hp21
        go_upto_region 13 with (first
          | (go_at_call 16; (first | (with_reducible refine (bw_call T1.out _).mono ?_)); rintro e w' ⟨rfl, q, rfl⟩))
        obtain ⟨W22, hW22⟩ : ∃ W, W = (((((((((((q.w.setCell ⟨g_p, 0, none⟩ (.int .i64 n1)).setCell ⟨g_p, 1, none⟩ (.int .i64 n2)).setCell ⟨g_p, 2, none⟩ (.int .i64 n3)).setCell ⟨g_p, 3, none⟩ (.int .i64 n4)).setCell ⟨g_p, 4, none⟩ (.int .i64 n5)).setCell ⟨g_p, 5, none⟩ (.int .i64 n6)).setCell ⟨g_p, 6, none⟩ (.int .i64 n7)).setCell ⟨g_p, 7, none⟩ (.int .i64 n8)).setCell ⟨g_p, 8, none⟩ (.int .i64 n9)).setCell ⟨g_p, 9, none⟩ (.int .i64 n10)).setCell ⟨g_p, 10, none⟩ (.int .i64 n11)).setCell ⟨g_p, 11, none⟩ (.int .i64 n12) := ⟨_, rfl⟩
        have B22 : Below w.heap.size w W22 := by rw [hW22]; exact (((((((((((((bw_below B21 q).setCell (p := ⟨g_p, 0, none⟩) (by show w.heap.size ≤ g_p; omega) _).setCell (p := ⟨g_p, 1, none⟩) (by show w.heap.size ≤ g_p; omega) _).setCell (p := ⟨g_p, 2, none⟩) (by show w.heap.size ≤ g_p; omega) _).setCell (p := ⟨g_p, 3, none⟩) (by show w.heap.size ≤ g_p; omega) _).setCell (p := ⟨g_p, 4, none⟩) (by show w.heap.size ≤ g_p; omega) _).setCell (p := ⟨g_p, 5, none⟩) (by show w.heap.size ≤ g_p; omega) _).setCell (p := ⟨g_p, 6, none⟩) (by show w.heap.size ≤ g_p; omega) _).setCell (p := ⟨g_p, 7, none⟩) (by show w.heap.size ≤ g_p; omega) _).setCell (p := ⟨g_p, 8, none⟩) (by show w.heap.size ≤ g_p; omega) _).setCell (p := ⟨g_p, 9, none⟩) (by show w.heap.size ≤ g_p; omega) _).setCell (p := ⟨g_p, 10, none⟩) (by show w.heap.size ≤ g_p; omega) _).setCell (p := ⟨g_p, 11, none⟩) (by show w.heap.size ≤ g_p; omega) _)
        have k_v : Bk W22 (w.heap.size) 23 #[.int .i64 xx, .int .i64 yy, .int .i64 zz] := by rw [hW22]; exact (((((((((((((k_v.below q.h).other (a := ⟨g_p, 0, none⟩) (by show ¬ w.heap.size = g_p; omega) (.int .i64 n1)).other (a := ⟨g_p, 1, none⟩) (by show ¬ w.heap.size = g_p; omega) (.int .i64 n2)).other (a := ⟨g_p, 2, none⟩) (by show ¬ w.heap.size = g_p; omega) (.int .i64 n3)).other (a := ⟨g_p, 3, none⟩) (by show ¬ w.heap.size = g_p; omega) (.int .i64 n4)).other (a := ⟨g_p, 4, none⟩) (by show ¬ w.heap.size = g_p; omega) (.int .i64 n5)).other (a := ⟨g_p, 5, none⟩) (by show ¬ w.heap.size = g_p; omega) (.int .i64 n6)).other (a := ⟨g_p, 6, none⟩) (by show ¬ w.heap.size = g_p; omega) (.int .i64 n7)).other (a := ⟨g_p, 7, none⟩) (by show ¬ w.heap.size = g_p; omega) (.int .i64 n8)).other (a := ⟨g_p, 8, none⟩) (by show ¬ w.heap.size = g_p; omega) (.int .i64 n9)).other (a := ⟨g_p, 9, none⟩) (by show ¬ w.heap.size = g_p; omega) (.int .i64 n10)).other (a := ⟨g_p, 10, none⟩) (by show ¬ w.heap.size = g_p; omega) (.int .i64 n11)).other (a := ⟨g_p, 11, none⟩) (by show ¬ w.heap.size = g_p; omega) (.int .i64 n12))
        have k_p : Bk W22 (g_p) 29 #[.int .i64 n1, .int .i64 n2, .int .i64 n3, .int .i64 n4, .int .i64 n5, .int .i64 n6, .int .i64 n7, .int .i64 n8, .int .i64 n9, .int .i64 n10, .int .i64 n11, .int .i64 n12] := by rw [hW22]; exact (((((((((((((k_p.below q.h).set 0 (.int .i64 n1)).set 1 (.int .i64 n2)).set 2 (.int .i64 n3)).set 3 (.int .i64 n4)).set 4 (.int .i64 n5)).set 5 (.int .i64 n6)).set 6 (.int .i64 n7)).set 7 (.int .i64 n8)).set 8 (.int .i64 n9)).set 9 (.int .i64 n10)).set 10 (.int .i64 n11)).set 11 (.int .i64 n12)).cast (by simp)
        have k_u : Bk W22 (g_u) 23 #[.int .i64 a1, .int .i64 a2, .int .i64 a3] := by rw [hW22]; exact (((((((((((((k_u.below q.h).other (a := ⟨g_p, 0, none⟩) (by show ¬ g_u = g_p; omega) (.int .i64 n1)).other (a := ⟨g_p, 1, none⟩) (by show ¬ g_u = g_p; omega) (.int .i64 n2)).other (a := ⟨g_p, 2, none⟩) (by show ¬ g_u = g_p; omega) (.int .i64 n3)).other (a := ⟨g_p, 3, none⟩) (by show ¬ g_u = g_p; omega) (.int .i64 n4)).other (a := ⟨g_p, 4, none⟩) (by show ¬ g_u = g_p; omega) (.int .i64 n5)).other (a := ⟨g_p, 5, none⟩) (by show ¬ g_u = g_p; omega) (.int .i64 n6)).other (a := ⟨g_p, 6, none⟩) (by show ¬ g_u = g_p; omega) (.int .i64 n7)).other (a := ⟨g_p, 7, none⟩) (by show ¬ g_u = g_p; omega) (.int .i64 n8)).other (a := ⟨g_p, 8, none⟩) (by show ¬ g_u = g_p; omega) (.int .i64 n9)).other (a := ⟨g_p, 9, none⟩) (by show ¬ g_u = g_p; omega) (.int .i64 n10)).other (a := ⟨g_p, 10, none⟩) (by show ¬ g_u = g_p; omega) (.int .i64 n11)).other (a := ⟨g_p, 11, none⟩) (by show ¬ g_u = g_p; omega) (.int .i64 n12))
        have k_q : Bk W22 (g_q) 29 #[.int .i64 q1, .int .i64 q2, .int .i64 q3, .int .i64 q4, .int .i64 q5, .int .i64 q6, .int .i64 q7, .int .i64 q8, .int .i64 q9, .int .i64 q10, .int .i64 q11, .int .i64 q12] := by rw [hW22]; exact (((((((((((((k_q.below q.h).other (a := ⟨g_p, 0, none⟩) (by show ¬ g_q = g_p; omega) (.int .i64 n1)).other (a := ⟨g_p, 1, none⟩) (by show ¬ g_q = g_p; omega) (.int .i64 n2)).other (a := ⟨g_p, 2, none⟩) (by show ¬ g_q = g_p; omega) (.int .i64 n3)).other (a := ⟨g_p, 3, none⟩) (by show ¬ g_q = g_p; omega) (.int .i64 n4)).other (a := ⟨g_p, 4, none⟩) (by show ¬ g_q = g_p; omega) (.int .i64 n5)).other (a := ⟨g_p, 5, none⟩) (by show ¬ g_q = g_p; omega) (.int .i64 n6)).other (a := ⟨g_p, 6, none⟩) (by show ¬ g_q = g_p; omega) (.int .i64 n7)).other (a := ⟨g_p, 7, none⟩) (by show ¬ g_q = g_p; omega) (.int .i64 n8)).other (a := ⟨g_p, 8, none⟩) (by show ¬ g_q = g_p; omega) (.int .i64 n9)).other (a := ⟨g_p, 9, none⟩) (by show ¬ g_q = g_p; omega) (.int .i64 n10)).other (a := ⟨g_p, 10, none⟩) (by show ¬ g_q = g_p; omega) (.int .i64 n11)).other (a := ⟨g_p, 11, none⟩) (by show ¬ g_q = g_p; omega) (.int .i64 n12))
        rw [← hW22]
        clear hW22
        clear B21
        clear c_v_0 c_v_1 c_v_2 c_p_0 f_p_0 c_p_1 f_p_1 c_p_2 f_p_2 c_p_3 f_p_3 c_p_4 f_p_4 c_p_5 f_p_5 c_p_6 f_p_6 c_p_7 f_p_7 c_p_8 f_p_8 c_p_9 f_p_9 c_p_10 f_p_10 c_p_11 f_p_11 c_u_0 c_u_1 c_u_2 c_q_0 c_q_1 c_q_2 c_q_3 c_q_4 c_q_5 c_q_6 c_q_7 c_q_8 c_q_9 c_q_10 c_q_11
        have c_v_0 : ∀ p : BW W22, p.w.cell? ⟨w.heap.size, 0, none⟩ = some (.int .i64 xx) := bw_cell (k_v.cell rfl)
        have c_v_1 : ∀ p : BW W22, p.w.cell? ⟨w.heap.size, 1, none⟩ = some (.int .i64 yy) := bw_cell (k_v.cell rfl)
        have c_v_2 : ∀ p : BW W22, p.w.cell? ⟨w.heap.size, 2, none⟩ = some (.int .i64 zz) := bw_cell (k_v.cell rfl)
        have c_p_0 : ∀ p : BW W22, p.w.cell? ⟨g_p, 0, none⟩ = some (.int .i64 n1) := bw_cell (k_p.cell rfl)
        have c_p_1 : ∀ p : BW W22, p.w.cell? ⟨g_p, 1, none⟩ = some (.int .i64 n2) := bw_cell (k_p.cell rfl)
        have c_p_2 : ∀ p : BW W22, p.w.cell? ⟨g_p, 2, none⟩ = some (.int .i64 n3) := bw_cell (k_p.cell rfl)
        have c_p_3 : ∀ p : BW W22, p.w.cell? ⟨g_p, 3, none⟩ = some (.int .i64 n4) := bw_cell (k_p.cell rfl)
        have c_p_4 : ∀ p : BW W22, p.w.cell? ⟨g_p, 4, none⟩ = some (.int .i64 n5) := bw_cell (k_p.cell rfl)
        have c_p_5 : ∀ p : BW W22, p.w.cell? ⟨g_p, 5, none⟩ = some (.int .i64 n6) := bw_cell (k_p.cell rfl)
        have c_p_6 : ∀ p : BW W22, p.w.cell? ⟨g_p, 6, none⟩ = some (.int .i64 n7) := bw_cell (k_p.cell rfl)
        have c_p_7 : ∀ p : BW W22, p.w.cell? ⟨g_p, 7, none⟩ = some (.int .i64 n8) := bw_cell (k_p.cell rfl)
        have c_p_8 : ∀ p : BW W22, p.w.cell? ⟨g_p, 8, none⟩ = some (.int .i64 n9) := bw_cell (k_p.cell rfl)
        have c_p_9 : ∀ p : BW W22, p.w.cell? ⟨g_p, 9, none⟩ = some (.int .i64 n10) := bw_cell (k_p.cell rfl)
        have c_p_10 : ∀ p : BW W22, p.w.cell? ⟨g_p, 10, none⟩ = some (.int .i64 n11) := bw_cell (k_p.cell rfl)
        have c_p_11 : ∀ p : BW W22, p.w.cell? ⟨g_p, 11, none⟩ = some (.int .i64 n12) := bw_cell (k_p.cell rfl)
        have c_u_0 : ∀ p : BW W22, p.w.cell? ⟨g_u, 0, none⟩ = some (.int .i64 a1) := bw_cell (k_u.cell rfl)
        have f_u_0 : ∀ p : BW W22, p.w.frozen? ⟨g_u, 0, none⟩ = false := fun p => (k_u.below p.h).frozen 0
        have c_u_1 : ∀ p : BW W22, p.w.cell? ⟨g_u, 1, none⟩ = some (.int .i64 a2) := bw_cell (k_u.cell rfl)
        have f_u_1 : ∀ p : BW W22, p.w.frozen? ⟨g_u, 1, none⟩ = false := fun p => (k_u.below p.h).frozen 1
        have c_u_2 : ∀ p : BW W22, p.w.cell? ⟨g_u, 2, none⟩ = some (.int .i64 a3) := bw_cell (k_u.cell rfl)
        have f_u_2 : ∀ p : BW W22, p.w.frozen? ⟨g_u, 2, none⟩ = false := fun p => (k_u.below p.h).frozen 2
        have c_q_0 : ∀ p : BW W22, p.w.cell? ⟨g_q, 0, none⟩ = some (.int .i64 q1) := bw_cell (k_q.cell rfl)
        have c_q_1 : ∀ p : BW W22, p.w.cell? ⟨g_q, 1, none⟩ = some (.int .i64 q2) := bw_cell (k_q.cell rfl)
        have c_q_2 : ∀ p : BW W22, p.w.cell? ⟨g_q, 2, none⟩ = some (.int .i64 q3) := bw_cell (k_q.cell rfl)
        have c_q_3 : ∀ p : BW W22, p.w.cell? ⟨g_q, 3, none⟩ = some (.int .i64 q4) := bw_cell (k_q.cell rfl)
        have c_q_4 : ∀ p : BW W22, p.w.cell? ⟨g_q, 4, none⟩ = some (.int .i64 q5) := bw_cell (k_q.cell rfl)
        have c_q_5 : ∀ p : BW W22, p.w.cell? ⟨g_q, 5, none⟩ = some (.int .i64 q6) := bw_cell (k_q.cell rfl)
        have c_q_6 : ∀ p : BW W22, p.w.cell? ⟨g_q, 6, none⟩ = some (.int .i64 q7) := bw_cell (k_q.cell rfl)
        have c_q_7 : ∀ p : BW W22, p.w.cell? ⟨g_q, 7, none⟩ = some (.int .i64 q8) := bw_cell (k_q.cell rfl)
        have c_q_8 : ∀ p : BW W22, p.w.cell? ⟨g_q, 8, none⟩ = some (.int .i64 q9) := bw_cell (k_q.cell rfl)
        have c_q_9 : ∀ p : BW W22, p.w.cell? ⟨g_q, 9, none⟩ = some (.int .i64 q10) := bw_cell (k_q.cell rfl)
        have c_q_10 : ∀ p : BW W22, p.w.cell? ⟨g_q, 10, none⟩ = some (.int .i64 q11) := bw_cell (k_q.cell rfl)
        have c_q_11 : ∀ p : BW W22, p.w.cell? ⟨g_q, 11, none⟩ = some (.int .i64 q12) := bw_cell (k_q.cell rfl)
        obtain ⟨p22, hp22⟩ : ∃ p : BW W22, p.w = W22 := ⟨BW.start W22, rfl⟩
        rw [← hp22]
        clear hp22
        go_upto_region 7 with (first
          | (go_at_call 20; (first | (with_reducible refine (bw_call P1.out _).mono ?_)); rintro e w' ⟨rfl, q, rfl⟩))
        obtain ⟨W23, hW23⟩ : ∃ W, W = ((q.w.setCell ⟨g_u, 0, none⟩ (.int .i64 b1)).setCell ⟨g_u, 1, none⟩ (.int .i64 b2)).setCell ⟨g_u, 2, none⟩ (.int .i64 b3) := ⟨_, rfl⟩
        have B23 : Below w.heap.size w W23 := by rw [hW23]; exact ((((bw_below B22 q).setCell (p := ⟨g_u, 0, none⟩) (by show w.heap.size ≤ g_u; omega) _).setCell (p := ⟨g_u, 1, none⟩) (by show w.heap.size ≤ g_u; omega) _).setCell (p := ⟨g_u, 2, none⟩) (by show w.heap.size ≤ g_u; omega) _)
        have k_v : Bk W23 (w.heap.size) 23 #[.int .i64 xx, .int .i64 yy, .int .i64 zz] := by rw [hW23]; exact ((((k_v.below q.h).other (a := ⟨g_u, 0, none⟩) (by show ¬ w.heap.size = g_u; omega) (.int .i64 b1)).other (a := ⟨g_u, 1, none⟩) (by show ¬ w.heap.size = g_u; omega) (.int .i64 b2)).other (a := ⟨g_u, 2, none⟩) (by show ¬ w.heap.size = g_u; omega) (.int .i64 b3))
        have k_p : Bk W23 (g_p) 29 #[.int .i64 n1, .int .i64 n2, .int .i64 n3, .int .i64 n4, .int .i64 n5, .int .i64 n6, .int .i64 n7, .int .i64 n8, .int .i64 n9, .int .i64 n10, .int .i64 n11, .int .i64 n12] := by rw [hW23]; exact ((((k_p.below q.h).other (a := ⟨g_u, 0, none⟩) (by show ¬ g_p = g_u; omega) (.int .i64 b1)).other (a := ⟨g_u, 1, none⟩) (by show ¬ g_p = g_u; omega) (.int .i64 b2)).other (a := ⟨g_u, 2, none⟩) (by show ¬ g_p = g_u; omega) (.int .i64 b3))
        have k_u : Bk W23 (g_u) 23 #[.int .i64 b1, .int .i64 b2, .int .i64 b3] := by rw [hW23]; exact ((((k_u.below q.h).set 0 (.int .i64 b1)).set 1 (.int .i64 b2)).set 2 (.int .i64 b3))
        have k_q : Bk W23 (g_q) 29 #[.int .i64 q1, .int .i64 q2, .int .i64 q3, .int .i64 q4, .int .i64 q5, .int .i64 q6, .int .i64 q7, .int .i64 q8, .int .i64 q9, .int .i64 q10, .int .i64 q11, .int .i64 q12] := by rw [hW23]; exact ((((k_q.below q.h).other (a := ⟨g_u, 0, none⟩) (by show ¬ g_q = g_u; omega) (.int .i64 b1)).other (a := ⟨g_u, 1, none⟩) (by show ¬ g_q = g_u; omega) (.int .i64 b2)).other (a := ⟨g_u, 2, none⟩) (by show ¬ g_q = g_u; omega) (.int .i64 b3))
        rw [← hW23]
        clear hW23
        clear B22
        clear c_v_0 c_v_1 c_v_2 c_p_0 c_p_1 c_p_2 c_p_3 c_p_4 c_p_5 c_p_6 c_p_7 c_p_8 c_p_9 c_p_10 c_p_11 c_u_0 f_u_0 c_u_1 f_u_1 c_u_2 f_u_2 c_q_0 c_q_1 c_q_2 c_q_3 c_q_4 c_q_5 c_q_6 c_q_7 c_q_8 c_q_9 c_q_10 c_q_11
        go_wp2
        go_roundw
        case rel => exact ⟨k + 1, tn m mq, by omega, by go_num, HQ.out, by rw [← HN.out]; exact k_p, by rw [← HE.out]; exact k_u, k_v, B23⟩
        case measure => simp [intOf]; omega
    · obtain rfl : k = len := by omega
      have e2 : pPut U (xx, yy, zz) = D := by rw [hU, hD]; exact pPut_q hq (by omega) HV.out (by omega)
      clear hU hD dD hq
      obtain ⟨⟨u1, u2, u3⟩, ⟨u4, u5, u6⟩, ⟨u7, u8, u9⟩, ⟨u10, u11, u12⟩⟩ := U
      obtain ⟨a1, a2, a3⟩ := D
      have P1 := Lib.hid (fun w => pose_Put u1 u2 u3 u4 u5 u6 u7 u8 u9 u10 u11 u12 xx yy zz w)
      rw [e2] at P1
      unfold p12 at k_p
      unfold v3 at k_u
      dsimp only at k_p k_u P1
      clear e2
      have c_v_0 : ∀ p : BW wr, p.w.cell? ⟨w.heap.size, 0, none⟩ = some (.int .i64 xx) := bw_cell (k_v.cell rfl)
      have c_v_1 : ∀ p : BW wr, p.w.cell? ⟨w.heap.size, 1, none⟩ = some (.int .i64 yy) := bw_cell (k_v.cell rfl)
      have c_v_2 : ∀ p : BW wr, p.w.cell? ⟨w.heap.size, 2, none⟩ = some (.int .i64 zz) := bw_cell (k_v.cell rfl)
      have c_p_0 : ∀ p : BW wr, p.w.cell? ⟨g_p, 0, none⟩ = some (.int .i64 u1) := bw_cell (k_p.cell rfl)
      have c_p_1 : ∀ p : BW wr, p.w.cell? ⟨g_p, 1, none⟩ = some (.int .i64 u2) := bw_cell (k_p.cell rfl)
      have c_p_2 : ∀ p : BW wr, p.w.cell? ⟨g_p, 2, none⟩ = some (.int .i64 u3) := bw_cell (k_p.cell rfl)
      have c_p_3 : ∀ p : BW wr, p.w.cell? ⟨g_p, 3, none⟩ = some (.int .i64 u4) := bw_cell (k_p.cell rfl)
      have c_p_4 : ∀ p : BW wr, p.w.cell? ⟨g_p, 4, none⟩ = some (.int .i64 u5) := bw_cell (k_p.cell rfl)
      have c_p_5 : ∀ p : BW wr, p.w.cell? ⟨g_p, 5, none⟩ = some (.int .i64 u6) := bw_cell (k_p.cell rfl)
      have c_p_6 : ∀ p : BW wr, p.w.cell? ⟨g_p, 6, none⟩ = some (.int .i64 u7) := bw_cell (k_p.cell rfl)
      have c_p_7 : ∀ p : BW wr, p.w.cell? ⟨g_p, 7, none⟩ = some (.int .i64 u8) := bw_cell (k_p.cell rfl)
      have c_p_8 : ∀ p : BW wr, p.w.cell? ⟨g_p, 8, none⟩ = some (.int .i64 u9) := bw_cell (k_p.cell rfl)
      have c_p_9 : ∀ p : BW wr, p.w.cell? ⟨g_p, 9, none⟩ = some (.int .i64 u10) := bw_cell (k_p.cell rfl)
      have c_p_10 : ∀ p : BW wr, p.w.cell? ⟨g_p, 10, none⟩ = some (.int .i64 u11) := bw_cell (k_p.cell rfl)
      have c_p_11 : ∀ p : BW wr, p.w.cell? ⟨g_p, 11, none⟩ = some (.int .i64 u12) := bw_cell (k_p.cell rfl)
      have c_u_0 : ∀ p : BW wr, p.w.cell? ⟨g_u, 0, none⟩ = some (.int .i64 a1) := bw_cell (k_u.cell rfl)
      have c_u_1 : ∀ p : BW wr, p.w.cell? ⟨g_u, 1, none⟩ = some (.int .i64 a2) := bw_cell (k_u.cell rfl)
      have c_u_2 : ∀ p : BW wr, p.w.cell? ⟨g_u, 2, none⟩ = some (.int .i64 a3) := bw_cell (k_u.cell rfl)
      obtain ⟨p20, hp20⟩ : ∃ p : BW wr, p.w = wr := ⟨BW.start wr, rfl⟩
      rw [← hp20]
      clear hp20
      go_upto_region 14 with (fail)
      refine wp_region_bw (by kernel_rfl) (by kernel_rfl) ?_
      repeat (go_big_quiet_step (first
        | (go_at_call 20; (first | (with_reducible exact bw_call P1.out _)))
        | (go_at_call 6; (first | (with_reducible exact bw_call HA.out _)))))
      refine wpQuiet_nil ?_
      intro _ hw'
      obtain ⟨q, rfl⟩ := hw'
      go_wp2
      go_ret
      exact ⟨rfl, bw_below B20 _⟩

theorem law_PoseQuarters (a : Option Addr) (len cap : Nat) (Z : Nat → Int) (x y z : Int) (w : World) (hm : len ≤ maxLen) (hZ : IntSlice w a len Z) :
    Calls Try.prog 4 #[.slice a len cap, .agg #[.int .i64 x, .int .i64 y, .int .i64 z]] w fun r w' => r = .returned (.bool true) ∧ Below w.heap.size w w' := by
  by_cases hl : 12 < len
  · exact law_PoseQuarters_no a len cap x y z w hl hm
  · exact law_PoseQuarters_yes a len cap Z x y z w (by omega) hm hZ

end Go.Proofs.Ytnoaljfdbfbhmaa
