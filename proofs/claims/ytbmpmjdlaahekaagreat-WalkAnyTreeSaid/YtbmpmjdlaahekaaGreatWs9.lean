/- Contracts of the document's own answers of layer 2 (skylightref02), ov -/
import Derived.Deep.RegionHeld3
import Derived.Deep.QuietTactic
import Derived.Deep.DrawnRows
import Derived.Deep.DeepCutAuto
import Derived.Test.YtbmpmjdlaahekaaGreatWs6
set_option maxRecDepth 100000
set_option maxHeartbeats 8000000
set_option linter.unusedVariables false
set_option linter.unusedSimpArgs false
open Go.Proofs.Tryz
namespace Go.Proofs.YtbmpmjdlaahekaaGreat
section
section
open Go.RowKit Go.Proofs.Sky
attribute [local go_sem ↓] Go.wp_at_zero Go.wp_at_succ
theorem ref2_Of (n : Int) (w : World) (hn : I64 n) :
  Rt prog 137 #[n] w (.agg #[.int .i64 (hii n), .int .u64 (lon n : Int)]) := by
 have hl : IntKind.u64.wrap n = (lon n : Int) := by rw [u64w]; unfold lon; omega
 obtain ⟨n0, n1⟩ := hn
 by_cases h : n < 0
 · have hh : hii n = -1 := by unfold hii; omega
   rw [hh]
   generalize lon n = l at *
   clear hh
   go_enter func137, ntmps137
   go_wp2
   go_returns
   exact ⟨rfl, by go_grown⟩
 · have hh : hii n = 0 := by unfold hii; omega
   have hl' : n = (lon n : Int) := by unfold lon; omega
   rw [hh]
   generalize lon n = l at *
   obtain rfl := hl'
   clear hh hl
   go_enter func137, ntmps137
   go_wp2
   go_returns
   exact ⟨rfl, by go_grown⟩
theorem ref2_digits (x : Int) (w : World) :
  Calls prog 134 #[.agg #[.int .i64 (hii x), .int .u64 (lon x : Int)]] w fun e w' =>
   e = .returned (.agg #[.int .i64 (dg x 0), .int .i64 (dg x 1), .int .i64 (dg x 2), .int .i64 (dg x 3), .int .i64 (dg x 4), .int .i64 (dg x 5), .int .i64 (dg x 6), .int .i64 (dg x 7)]) ∧ Below w.heap.size w w' := by
 have e := (hin_hii x).symm
 have l1 := lon_lt x
 have l2 := hin_lt x
 have E := zh (show (lon x : Int) = x % 18446744073709551616 ∧ (hin x : Int) = x / 18446744073709551616 % 18446744073709551616 by unfold lon hin; omega)
 generalize hii x = h at *
 generalize lon x = l at *
 generalize hin x = g at *
 have l1' : (l : Int) ≤ 18446744073709551615 := by omega
 have l2' : (g : Int) ≤ 18446744073709551615 := by omega
 clear l1 l2
 go_enter func134, ntmps134
 go_wp2
 go_quiet (fail)
 go_wp2
 go_rounds 5
 go_returns
 obtain ⟨E1, E2⟩ := E.out
 refine ⟨?_, by go_grown; exact z13 (by go_grown) _⟩
 rw [dg0, dg1, dg2, dg3, dg4, dg5, dg6, dg7,
  show (l : Int) % 65536 = x % 65536 by omega, show (l : Int) / 65536 % 65536 = x / 65536 % 65536 by omega,
  show (l : Int) / 65536 / 65536 % 65536 = x / 4294967296 % 65536 by omega, show (l : Int) / 65536 / 65536 / 65536 % 65536 = x / 281474976710656 % 65536 by omega,
  show (g : Int) % 65536 = x / 18446744073709551616 % 65536 by omega, show (g : Int) / 65536 % 65536 = x / 1208925819614629174706176 % 65536 by omega,
  show (g : Int) / 65536 / 65536 % 65536 = x / 79228162514264337593543950336 % 65536 by omega, show (g : Int) / 65536 / 65536 / 65536 % 65536 = x / 5192296858534827628530496329220096 % 65536 by omega]
theorem ref2_number (d0 d1 d2 d3 d4 d5 d6 d7 : Int) (w : World) (h0 : 0 ≤ d0 ∧ d0 ≤ 4611615649683210240) (h1 : 0 ≤ d1 ∧ d1 ≤ 4611615649683210240) (h2 : 0 ≤ d2 ∧ d2 ≤ 4611615649683210240) (h3 : 0 ≤ d3 ∧ d3 ≤ 4611615649683210240) (h4 : 0 ≤ d4 ∧ d4 ≤ 4611615649683210240) (h5 : 0 ≤ d5 ∧ d5 ≤ 4611615649683210240) (h6 : 0 ≤ d6 ∧ d6 ≤ 4611615649683210240) (h7 : 0 ≤ d7 ∧ d7 ≤ 4611615649683210240) :
  Calls prog 135 #[.agg #[d0, d1, d2, d3, d4, d5, d6, d7]] w fun e w' =>
   e = .returned (.agg #[.int .i64 (hii (num8 d0 d1 d2 d3 d4 d5 d6 d7)), .int .u64 (lon (num8 d0 d1 d2 d3 d4 d5 d6 d7) : Int)]) ∧ Below w.heap.size w w' := by
 obtain ⟨n1, n2, n3, n4, n5, n6, n7, m0, m1, m2, m3, m4, m5, m6, m7, c0, c1, c2, c3, c4, c5, c6, c7, L, H, N⟩ := Num8.make d0 d1 d2 d3 d4 d5 d6 d7 h0 h1 h2 h3 h4 h5 h6 h7
 obtain ⟨t0, q0, u0, z0, b0, y0, x0, w0, v0, s1, t1, q1, u1, z1, b1, y1, x1, w1, v1, s2, t2, q2, u2, z2, b2, y2, x2, w2, v2, s3, t3, q3, u3, z3, b3, y3, x3, w3, v3, s4, t4, q4, u4, z4, b4, y4, x4, w4, v4, s5, t5, q5, u5, z5, b5, y5, x5, w5, v5, s6, t6, q6, u6, z6, b6, y6, x6, w6, v6, s7, t7, q7, u7, z7, b7, y7, x7, w7, v7, eL, eH, lL, lH⟩ := N
 rw [lL, lH]
 have k0 : IntKind.i64.wrap 0 = 0 := by decide
 have k4 : IntKind.i64.wrap 1 = 1 := by decide
 have k1 : IntKind.i64.wrap 16 = 16 := by decide
 have k2 : IntKind.i64.wrap 32 = 32 := by decide
 have k3 : IntKind.i64.wrap 48 = 48 := by decide
 have EL := zh eL
 have EH := zh eH
 clear lL lH eL eH
 go_enter func135, ntmps135
 go_wp2
 refine wp_loop_rounds 9 ?_
 rw [rounds_succ]; go_wp2
 go_region_with (fail)
 go_wp2
 rw [rounds_succ]; go_wp2
 go_region_with (fail)
 go_wp2
 rw [rounds_succ]; go_wp2
 go_region_with (fail)
 go_wp2
 rw [rounds_succ]; go_wp2
 go_region_with (fail)
 go_wp2
 rw [rounds_succ]; go_wp2
 go_region_with (fail)
 go_wp2
 rw [rounds_succ]; go_wp2
 go_region_with (fail)
 go_wp2
 rw [rounds_succ]; go_wp2
 go_region_with (fail)
 go_wp2
 rw [rounds_succ]; go_wp2
 go_region_with (fail)
 go_wp2
 rw [rounds_succ]; go_wp2
 go_returns
 refine ⟨?_, by go_grown⟩
 rw [EL.out, EH.out, i64w, wrap64]
end
end
section
section
open Go.RowKit Go.Proofs.Sky
attribute [local go_sem ↓] Go.wp_at_zero Go.wp_at_succ
theorem ref2_Add (x y : Int) (w : World) :
  Calls prog 148 #[.agg #[.int .i64 (hii x), .int .u64 (lon x : Int)], .agg #[.int .i64 (hii y), .int .u64 (lon y : Int)]] w fun e w' =>
   e = .returned (.agg #[.int .i64 (hii (x + y)), .int .u64 (lon (x + y) : Int)]) ∧ Below w.heap.size w w' := by
 have z0 : w.heap.size < w.heap.size + 1 + 1 := by omega
 have z1 : w.heap.size < w.heap.size + 1 + 1 + 1 := by omega
 have z2 : w.heap.size < w.heap.size + 1 + 1 + 1 + 1 := by omega
 have z3 : w.heap.size < w.heap.size + 1 + 1 + 1 + 1 + 1 := by omega
 have D := zh (fun (x : Int) w => ref2_digits x w)
 go_enter func148, ntmps148
 go_upto_region 1 with fail
 go_cut [5, 6] (fun s5 s6 wx => ∃ p q : Nat, s5 = .pointer (some ⟨p, 0, none⟩) ∧ s6 = .pointer (some ⟨q, 0, none⟩) ∧ p ≠ q ∧ w.heap.size + 2 < p ∧ w.heap.size + 2 < q ∧ Bk wx (w.heap.size + 2) 163 #[.int .i64 0, .int .u64 0] ∧ Bk wx p 183 (arr8 (dg x)) ∧ Bk wx q 183 (arr8 (dg y)) ∧ Below w.heap.size w wx)
 case first =>
  go_region_held3 (fun w' => w'.cell? ⟨w.heap.size, 0, none⟩ = some (.int .i64 (hii x)) ∧ w'.cell? ⟨w.heap.size, 1, none⟩ = some (.int .u64 (lon x)) ∧
    w'.cell? ⟨w.heap.size + 1, 0, none⟩ = some (.int .i64 (hii y)) ∧ w'.cell? ⟨w.heap.size + 1, 1, none⟩ = some (.int .u64 (lon y)))
   (first | (simp (disch := first | omega | (simp only [World.size_alloc, World.size_setCell, World.size_drew]; omega)) [hca, hcb, ca, csf, List.getElem?_cons_zero, List.getElem?_cons_succ]; done) | (simp (disch := first | omega | (simp only [World.size_alloc, World.size_setCell, World.size_drew]; omega)) [hca, ca, csf, List.getElem?_cons_zero, List.getElem?_cons_succ]; done) | (simp (disch := first | omega | (simp only [World.size_alloc, World.size_setCell, World.size_drew]; omega)) [ca, csf, List.getElem?_cons_zero, List.getElem?_cons_succ]; done))
   (first
    | (go_at_call 134; ((with_reducible refine (D.out x _).mono ?_)); rintro e wa ⟨rfl, hba⟩; have hzwa := hba.size; (try simp at hzwa); (first | (refine below5e (w := w) w.heap.size ?_ hba ?_ ?_; (focus go_grown); (focus (first | omega | (simp; done) | (simp; omega))); intro hca hfa y0a x1a y1a y2a y3a y4a y5a y6a) | (refine below4e (w := w) w.heap.size ?_ hba ?_ ?_; (focus go_grown); (focus (first | omega | (simp; done) | (simp; omega))); intro hca hfa y0a x1a y1a y2a y3a y4a y5a) | (refine below3e (w := w) w.heap.size ?_ hba ?_ ?_; (focus go_grown); (focus (first | omega | (simp; done) | (simp; omega))); intro hca hfa y0a x1a y1a y2a y3a y4a) | (refine below2e (w := w) w.heap.size ?_ hba ?_ ?_; (focus go_grown); (focus (first | omega | (simp; done) | (simp; omega))); intro hca hfa y0a x1a y1a y2a y3a)))
    | (go_at_call 134; ((with_reducible refine (D.out y _).mono ?_)); rintro e wb ⟨rfl, hbb⟩; have hzwb := hbb.size; (try simp at hzwb); (first | (refine below5e (w := w) w.heap.size ?_ hbb ?_ ?_; (focus go_grown); (focus (first | omega | (simp; done) | (simp; omega))); intro hcb hfb y0b x1b y1b y2b y3b y4b y5b y6b) | (refine below4e (w := w) w.heap.size ?_ hbb ?_ ?_; (focus go_grown); (focus (first | omega | (simp; done) | (simp; omega))); intro hcb hfb y0b x1b y1b y2b y3b y4b y5b) | (refine below3e (w := w) w.heap.size ?_ hbb ?_ ?_; (focus go_grown); (focus (first | omega | (simp; done) | (simp; omega))); intro hcb hfb y0b x1b y1b y2b y3b y4b) | (refine below2e (w := w) w.heap.size ?_ hbb ?_ ?_; (focus go_grown); (focus (first | omega | (simp; done) | (simp; omega))); intro hcb hfb y0b x1b y1b y2b y3b)); (first | (refine ltk2 (n := wa.heap.size) (N := wb.heap.size) ?_ ?_; (focus omega); intro v1 v2) | (refine ltk1 (n := wa.heap.size) (N := wb.heap.size) ?_ ?_; (focus omega); intro v1) | skip)))
  all_goals (go_wp2_with fail; go_meet)
  all_goals
   refine ⟨_, _, rfl, rfl, ?_, ?_, ?_, ?_, ?_, ?_, ?_⟩
   all_goals first
    | ((try unfold arr8); (repeat (first | ((with_reducible refine Bk.new_at _ _ _ _ ?_); (focus (first | (simp; done) | (simp; omega)))) | (with_reducible refine Bk.drew ?_) | (with_reducible refine Bk.store8 ?_) | ((with_reducible refine Bk.other8 ?_ ?_); rotate_left; (focus omega)) | (with_reducible refine Bk.alloc ?_ _) | (with_reducible refine Bk.below ?_ hbb) | (with_reducible refine Bk.below ?_ hba))); done)
    | (focus omega)
    | (go_grown; done)
 case rest =>
  obtain ⟨p, q, rfl, rfl, hpq, hp, hq, T, P, Q, hB⟩ := hcut
  go_wp2
  go_loopw [7] (fun v wr => ∃ k : Nat, k ≤ 8 ∧ v = .int .i64 k ∧ Bk wr p 183 (arr8 (fun j => if j < k then dg x j + dg y j else dg x j)) ∧ Bk wr q 183 (arr8 (dg y)) ∧
    Bk wr (w.heap.size + 2) 163 #[.int .i64 0, .int .u64 0] ∧ Below w.heap.size w wr) (fun v _ => 8 - (intOf v).toNat)
  case atStart => exact ⟨0, by omega, rfl, P, Q, T, hB⟩
  case round =>
   clear P Q T hB
   obtain ⟨k, hk8, rfl, P, Q, T, hB⟩ := hrel
   by_cases hk : k < 8
   · have c1 : wr.cell? ⟨p, k, none⟩ = some (.int .i64 (dg x k)) := by
      have := P.cell (arr8_get _ hk); simpa using this
     have c2 : wr.cell? ⟨q, k, none⟩ = some (.int .i64 (dg y k)) := Q.cell (arr8_get _ hk)
     have f1 := P.frozen k
     obtain ⟨r1, r2⟩ := z09 x k
     obtain ⟨r3, r4⟩ := z09 y k
     have P' := zh P
     have Q' := zh Q
     have T' := zh T
     have k0 : (0 : Int) ≤ (k : Int) := by omega
     have k8 : (k : Int) < 8 := by omega
     generalize hX : dg x k = X at *
     generalize hY : dg y k = Y at *
     have HX := zh hX
     have HY := zh hY
     clear hX hY P Q T
     have wr1 : IntKind.i64.wrap (X + Y) = X + Y := by rw [i64w]; omega
     go_wp2
     go_region_with (fail)
     all_goals
      go_wp2
      go_roundw
      case rel =>
       refine ⟨k + 1, by omega, by go_num, ?_, Q'.out.other (fun e => hpq e.symm) _, T'.out.other (by simp; omega) _, by go_grown⟩
       refine P'.out.set8 hk ?_ fun j hj hjk => ?_
       · rw [if_pos (by omega), HX.out, HY.out]
       · by_cases h : j < k
         · rw [if_pos h, if_pos (by omega)]
         · rw [if_neg h, if_neg (by omega)]
      case measure => simp [intOf]; omega
   · obtain rfl : k = 8 := by omega
     have P8 : Bk wr p 183 (arr8 (fun j => dg x j + dg y j)) := P.cast (arr8_congr fun j hj => by rw [if_pos hj])
     clear P Q
     have NB : ∀ w, Rt prog 135 #[.agg #[.int .i64 (dg x 0 + dg y 0), .int .i64 (dg x 1 + dg y 1), .int .i64 (dg x 2 + dg y 2), .int .i64 (dg x 3 + dg y 3), .int .i64 (dg x 4 + dg y 4), .int .i64 (dg x 5 + dg y 5), .int .i64 (dg x 6 + dg y 6), .int .i64 (dg x 7 + dg y 7)]] w (.agg #[.int .i64 (hii (x + y)), .int .u64 (lon (x + y) : Int)]) := fun w => by
      have rx0 := z09 x 0
      have ry0 := z09 y 0
      have rx1 := z09 x 1
      have ry1 := z09 y 1
      have rx2 := z09 x 2
      have ry2 := z09 y 2
      have rx3 := z09 x 3
      have ry3 := z09 y 3
      have rx4 := z09 x 4
      have ry4 := z09 y 4
      have rx5 := z09 x 5
      have ry5 := z09 y 5
      have rx6 := z09 x 6
      have ry6 := z09 y 6
      have rx7 := z09 x 7
      have ry7 := z09 y 7
      have h := ref2_number (dg x 0 + dg y 0) (dg x 1 + dg y 1) (dg x 2 + dg y 2) (dg x 3 + dg y 3) (dg x 4 + dg y 4) (dg x 5 + dg y 5) (dg x 6 + dg y 6) (dg x 7 + dg y 7) w (by omega) (by omega) (by omega) (by omega) (by omega) (by omega) (by omega) (by omega)
      rw [(num8_add x y).1, (num8_add x y).2] at h
      exact h
     have NBH := zh NB
     clear NB
     have c0 : wr.cell? ⟨p, 0, none⟩ = some (.int .i64 (dg x 0 + dg y 0)) := P8.cell rfl
     have c1 : wr.cell? ⟨p, 1, none⟩ = some (.int .i64 (dg x 1 + dg y 1)) := P8.cell rfl
     have c2 : wr.cell? ⟨p, 2, none⟩ = some (.int .i64 (dg x 2 + dg y 2)) := P8.cell rfl
     have c3 : wr.cell? ⟨p, 3, none⟩ = some (.int .i64 (dg x 3 + dg y 3)) := P8.cell rfl
     have c4 : wr.cell? ⟨p, 4, none⟩ = some (.int .i64 (dg x 4 + dg y 4)) := P8.cell rfl
     have c5 : wr.cell? ⟨p, 5, none⟩ = some (.int .i64 (dg x 5 + dg y 5)) := P8.cell rfl
     have c6 : wr.cell? ⟨p, 6, none⟩ = some (.int .i64 (dg x 6 + dg y 6)) := P8.cell rfl
     have c7 : wr.cell? ⟨p, 7, none⟩ = some (.int .i64 (dg x 7 + dg y 7)) := P8.cell rfl
     have T' := zh T
     skip
     generalize dg x 0 + dg y 0 = F0 at *
     generalize dg x 1 + dg y 1 = F1 at *
     generalize dg x 2 + dg y 2 = F2 at *
     generalize dg x 3 + dg y 3 = F3 at *
     generalize dg x 4 + dg y 4 = F4 at *
     generalize dg x 5 + dg y 5 = F5 at *
     generalize dg x 6 + dg y 6 = F6 at *
     generalize dg x 7 + dg y 7 = F7 at *
     clear P8 T
     go_wp2_with (go_at_call 135; refine (NBH.out _).mono ?_; rintro e wn ⟨rfl, hbn⟩; have T1 := T'.out.below hbn; have k0 := T1.cell (i := 0) rfl; have k1 := T1.cell (i := 1) rfl; have f0 := T1.frozen 0; have f1 := T1.frozen 1; have y0 : Below w.heap.size w wn := Below.trans (by go_grown) (hbn.mono (by first | exact hB.size | (simp; exact hB.size))); clear T1 hbn)
     exact bodyPost_ret (v := .agg #[.int .i64 (hii (x + y)), .int .u64 (lon (x + y) : Int)]) (by simp [results, results148, go_sem, k0, k1]) rfl ⟨rfl, by go_grown⟩
end
end
section
section
open Go.RowKit Go.Proofs.Sky
attribute [local go_sem ↓] Go.wp_at_zero Go.wp_at_succ
theorem ref2_Sub (x y : Int) (w : World) :
  Calls prog 119 #[.agg #[.int .i64 (hii x), .int .u64 (lon x : Int)], .agg #[.int .i64 (hii y), .int .u64 (lon y : Int)]] w fun e w' =>
   e = .returned (.agg #[.int .i64 (hii (x - y)), .int .u64 (lon (x - y) : Int)]) ∧ Below w.heap.size w w' := by
 have z0 : w.heap.size < w.heap.size + 1 + 1 := by omega
 have z1 : w.heap.size < w.heap.size + 1 + 1 + 1 := by omega
 have z2 : w.heap.size < w.heap.size + 1 + 1 + 1 + 1 := by omega
 have z3 : w.heap.size < w.heap.size + 1 + 1 + 1 + 1 + 1 := by omega
 have D := zh (fun (x : Int) w => ref2_digits x w)
 go_enter func119, ntmps119
 go_upto_region 1 with fail
 go_cut [5, 6] (fun s5 s6 wx => ∃ p q : Nat, s5 = .pointer (some ⟨p, 0, none⟩) ∧ s6 = .pointer (some ⟨q, 0, none⟩) ∧ p ≠ q ∧ w.heap.size + 2 < p ∧ w.heap.size + 2 < q ∧ Bk wx (w.heap.size + 2) 163 #[.int .i64 0, .int .u64 0] ∧ Bk wx p 183 (arr8 (dg x)) ∧ Bk wx q 183 (arr8 (dg y)) ∧ Below w.heap.size w wx)
 case first =>
  go_region_held3 (fun w' => w'.cell? ⟨w.heap.size, 0, none⟩ = some (.int .i64 (hii x)) ∧ w'.cell? ⟨w.heap.size, 1, none⟩ = some (.int .u64 (lon x)) ∧
    w'.cell? ⟨w.heap.size + 1, 0, none⟩ = some (.int .i64 (hii y)) ∧ w'.cell? ⟨w.heap.size + 1, 1, none⟩ = some (.int .u64 (lon y)))
   (first | (simp (disch := first | omega | (simp only [World.size_alloc, World.size_setCell, World.size_drew]; omega)) [hca, hcb, ca, csf, List.getElem?_cons_zero, List.getElem?_cons_succ]; done) | (simp (disch := first | omega | (simp only [World.size_alloc, World.size_setCell, World.size_drew]; omega)) [hca, ca, csf, List.getElem?_cons_zero, List.getElem?_cons_succ]; done) | (simp (disch := first | omega | (simp only [World.size_alloc, World.size_setCell, World.size_drew]; omega)) [ca, csf, List.getElem?_cons_zero, List.getElem?_cons_succ]; done))
   (first
    | (go_at_call 134; ((with_reducible refine (D.out x _).mono ?_)); rintro e wa ⟨rfl, hba⟩; have hzwa := hba.size; (try simp at hzwa); (first | (refine below5e (w := w) w.heap.size ?_ hba ?_ ?_; (focus go_grown); (focus (first | omega | (simp; done) | (simp; omega))); intro hca hfa y0a x1a y1a y2a y3a y4a y5a y6a) | (refine below4e (w := w) w.heap.size ?_ hba ?_ ?_; (focus go_grown); (focus (first | omega | (simp; done) | (simp; omega))); intro hca hfa y0a x1a y1a y2a y3a y4a y5a) | (refine below3e (w := w) w.heap.size ?_ hba ?_ ?_; (focus go_grown); (focus (first | omega | (simp; done) | (simp; omega))); intro hca hfa y0a x1a y1a y2a y3a y4a) | (refine below2e (w := w) w.heap.size ?_ hba ?_ ?_; (focus go_grown); (focus (first | omega | (simp; done) | (simp; omega))); intro hca hfa y0a x1a y1a y2a y3a)))
    | (go_at_call 134; ((with_reducible refine (D.out y _).mono ?_)); rintro e wb ⟨rfl, hbb⟩; have hzwb := hbb.size; (try simp at hzwb); (first | (refine below5e (w := w) w.heap.size ?_ hbb ?_ ?_; (focus go_grown); (focus (first | omega | (simp; done) | (simp; omega))); intro hcb hfb y0b x1b y1b y2b y3b y4b y5b y6b) | (refine below4e (w := w) w.heap.size ?_ hbb ?_ ?_; (focus go_grown); (focus (first | omega | (simp; done) | (simp; omega))); intro hcb hfb y0b x1b y1b y2b y3b y4b y5b) | (refine below3e (w := w) w.heap.size ?_ hbb ?_ ?_; (focus go_grown); (focus (first | omega | (simp; done) | (simp; omega))); intro hcb hfb y0b x1b y1b y2b y3b y4b) | (refine below2e (w := w) w.heap.size ?_ hbb ?_ ?_; (focus go_grown); (focus (first | omega | (simp; done) | (simp; omega))); intro hcb hfb y0b x1b y1b y2b y3b)); (first | (refine ltk2 (n := wa.heap.size) (N := wb.heap.size) ?_ ?_; (focus omega); intro v1 v2) | (refine ltk1 (n := wa.heap.size) (N := wb.heap.size) ?_ ?_; (focus omega); intro v1) | skip)))
  all_goals (go_wp2_with fail; go_meet)
  all_goals
   refine ⟨_, _, rfl, rfl, ?_, ?_, ?_, ?_, ?_, ?_, ?_⟩
   all_goals first
    | ((try unfold arr8); (repeat (first | ((with_reducible refine Bk.new_at _ _ _ _ ?_); (focus (first | (simp; done) | (simp; omega)))) | (with_reducible refine Bk.drew ?_) | (with_reducible refine Bk.store8 ?_) | ((with_reducible refine Bk.other8 ?_ ?_); rotate_left; (focus omega)) | (with_reducible refine Bk.alloc ?_ _) | (with_reducible refine Bk.below ?_ hbb) | (with_reducible refine Bk.below ?_ hba))); done)
    | (focus omega)
    | (go_grown; done)
 case rest =>
  obtain ⟨p, q, rfl, rfl, hpq, hp, hq, T, P, Q, hB⟩ := hcut
  go_wp2
  go_loopw [7] (fun v wr => ∃ k : Nat, k ≤ 8 ∧ v = .int .i64 k ∧ Bk wr p 183 (arr8 (fun j => if j < k then dg x j + 65535 - dg y j else dg x j)) ∧ Bk wr q 183 (arr8 (dg y)) ∧
    Bk wr (w.heap.size + 2) 163 #[.int .i64 0, .int .u64 0] ∧ Below w.heap.size w wr) (fun v _ => 8 - (intOf v).toNat)
  case atStart => exact ⟨0, by omega, rfl, P, Q, T, hB⟩
  case round =>
   clear P Q T hB
   obtain ⟨k, hk8, rfl, P, Q, T, hB⟩ := hrel
   by_cases hk : k < 8
   · have c1 : wr.cell? ⟨p, k, none⟩ = some (.int .i64 (dg x k)) := by
      have := P.cell (arr8_get _ hk); simpa using this
     have c2 : wr.cell? ⟨q, k, none⟩ = some (.int .i64 (dg y k)) := Q.cell (arr8_get _ hk)
     have f1 := P.frozen k
     obtain ⟨r1, r2⟩ := z09 x k
     obtain ⟨r3, r4⟩ := z09 y k
     have P' := zh P
     have Q' := zh Q
     have T' := zh T
     have k0 : (0 : Int) ≤ (k : Int) := by omega
     have k8 : (k : Int) < 8 := by omega
     generalize hX : dg x k = X at *
     generalize hY : dg y k = Y at *
     have HX := zh hX
     have HY := zh hY
     clear hX hY P Q T
     have wr1 : IntKind.i64.wrap (X + 65535) = X + 65535 := by rw [i64w]; omega
     have wr2 : IntKind.i64.wrap (X + 65535 - Y) = X + 65535 - Y := by rw [i64w]; omega
     go_wp2
     go_region_with (fail)
     all_goals
      go_wp2
      go_roundw
      case rel =>
       refine ⟨k + 1, by omega, by go_num, ?_, Q'.out.other (fun e => hpq e.symm) _, T'.out.other (by simp; omega) _, by go_grown⟩
       refine P'.out.set8 hk ?_ fun j hj hjk => ?_
       · rw [if_pos (by omega), HX.out, HY.out]
       · by_cases h : j < k
         · rw [if_pos h, if_pos (by omega)]
         · rw [if_neg h, if_neg (by omega)]
      case measure => simp [intOf]; omega
   · obtain rfl : k = 8 := by omega
     have P8 : Bk wr p 183 (arr8 (fun j => dg x j + 65535 - dg y j)) := P.cast (arr8_congr fun j hj => by rw [if_pos hj])
     clear P Q
     have NB : ∀ w, Rt prog 135 #[.agg #[.int .i64 (dg x 0 + 65535 - dg y 0 + 1), .int .i64 (dg x 1 + 65535 - dg y 1), .int .i64 (dg x 2 + 65535 - dg y 2), .int .i64 (dg x 3 + 65535 - dg y 3), .int .i64 (dg x 4 + 65535 - dg y 4), .int .i64 (dg x 5 + 65535 - dg y 5), .int .i64 (dg x 6 + 65535 - dg y 6), .int .i64 (dg x 7 + 65535 - dg y 7)]] w (.agg #[.int .i64 (hii (x - y)), .int .u64 (lon (x - y) : Int)]) := fun w => by
      have rx0 := z09 x 0
      have ry0 := z09 y 0
      have rx1 := z09 x 1
      have ry1 := z09 y 1
      have rx2 := z09 x 2
      have ry2 := z09 y 2
      have rx3 := z09 x 3
      have ry3 := z09 y 3
      have rx4 := z09 x 4
      have ry4 := z09 y 4
      have rx5 := z09 x 5
      have ry5 := z09 y 5
      have rx6 := z09 x 6
      have ry6 := z09 y 6
      have rx7 := z09 x 7
      have ry7 := z09 y 7
      have h := ref2_number (dg x 0 + 65535 - dg y 0 + 1) (dg x 1 + 65535 - dg y 1) (dg x 2 + 65535 - dg y 2) (dg x 3 + 65535 - dg y 3) (dg x 4 + 65535 - dg y 4) (dg x 5 + 65535 - dg y 5) (dg x 6 + 65535 - dg y 6) (dg x 7 + 65535 - dg y 7) w (by omega) (by omega) (by omega) (by omega) (by omega) (by omega) (by omega) (by omega)
      rw [(num8_sub x y).1, (num8_sub x y).2] at h
      exact h
     have NBH := zh NB
     clear NB
     have c0 : wr.cell? ⟨p, 0, none⟩ = some (.int .i64 (dg x 0 + 65535 - dg y 0)) := P8.cell rfl
     have c1 : wr.cell? ⟨p, 1, none⟩ = some (.int .i64 (dg x 1 + 65535 - dg y 1)) := P8.cell rfl
     have c2 : wr.cell? ⟨p, 2, none⟩ = some (.int .i64 (dg x 2 + 65535 - dg y 2)) := P8.cell rfl
     have c3 : wr.cell? ⟨p, 3, none⟩ = some (.int .i64 (dg x 3 + 65535 - dg y 3)) := P8.cell rfl
     have c4 : wr.cell? ⟨p, 4, none⟩ = some (.int .i64 (dg x 4 + 65535 - dg y 4)) := P8.cell rfl
     have c5 : wr.cell? ⟨p, 5, none⟩ = some (.int .i64 (dg x 5 + 65535 - dg y 5)) := P8.cell rfl
     have c6 : wr.cell? ⟨p, 6, none⟩ = some (.int .i64 (dg x 6 + 65535 - dg y 6)) := P8.cell rfl
     have c7 : wr.cell? ⟨p, 7, none⟩ = some (.int .i64 (dg x 7 + 65535 - dg y 7)) := P8.cell rfl
     have f0 := P8.frozen 0
     have hp0 : w.heap.size + 2 ≠ p := by omega
     have T' := zh T
     obtain ⟨rx0, rx0'⟩ := z09 x 0
     obtain ⟨ry0, ry0'⟩ := z09 y 0
     have wr0 : IntKind.i64.wrap (dg x 0 + 65535 - dg y 0 + 1) = dg x 0 + 65535 - dg y 0 + 1 := by rw [i64w]; omega
     have b0 : 0 ≤ dg x 0 + 65535 - dg y 0 := by omega
     have b0' : dg x 0 + 65535 - dg y 0 ≤ 131070 := by omega
     clear rx0 rx0' ry0 ry0'
     generalize dg x 0 + 65535 - dg y 0 = F0 at *
     generalize dg x 1 + 65535 - dg y 1 = F1 at *
     generalize dg x 2 + 65535 - dg y 2 = F2 at *
     generalize dg x 3 + 65535 - dg y 3 = F3 at *
     generalize dg x 4 + 65535 - dg y 4 = F4 at *
     generalize dg x 5 + 65535 - dg y 5 = F5 at *
     generalize dg x 6 + 65535 - dg y 6 = F6 at *
     generalize dg x 7 + 65535 - dg y 7 = F7 at *
     clear P8 T
     go_wp2_with (go_at_call 135; refine (NBH.out _).mono ?_; rintro e wn ⟨rfl, hbn⟩; have T1 := ((T'.out.other (a := ⟨p, 0, none⟩) (by simp; omega) _)).below hbn; have k0 := T1.cell (i := 0) rfl; have k1 := T1.cell (i := 1) rfl; have f0 := T1.frozen 0; have f1 := T1.frozen 1; have y0 : Below w.heap.size w wn := Below.trans (by go_grown) (hbn.mono (by first | exact hB.size | (simp; exact hB.size))); clear T1 hbn)
     exact bodyPost_ret (v := .agg #[.int .i64 (hii (x - y)), .int .u64 (lon (x - y) : Int)]) (by simp [results, results119, go_sem, k0, k1]) rfl ⟨rfl, by go_grown⟩
end
end
section
section
open Go.RowKit Go.Proofs.Sky
attribute [local go_sem ↓] Go.wp_at_zero Go.wp_at_succ
theorem dg_up (x : Int) : ∀ j, j < 8 → (j ≠ 7 → dg x j = dg (x + 170141183460469231731687303715884105728) j) ∧ (j = 7 → (dg x 7 + 32768) % 65536 = dg (x + 170141183460469231731687303715884105728) 7) := by
 intro j hj
 refine cases8 (P := fun j => (j ≠ 7 → dg x j = dg (x + 170141183460469231731687303715884105728) j) ∧ (j = 7 → (dg x 7 + 32768) % 65536 = dg (x + 170141183460469231731687303715884105728) 7)) hj ?_ ?_ ?_ ?_ ?_ ?_ ?_ ?_
 · exact ⟨fun _ => by rw [dg0, dg0]; omega, fun h => by omega⟩
 · exact ⟨fun _ => by rw [dg1, dg1]; omega, fun h => by omega⟩
 · exact ⟨fun _ => by rw [dg2, dg2]; omega, fun h => by omega⟩
 · exact ⟨fun _ => by rw [dg3, dg3]; omega, fun h => by omega⟩
 · exact ⟨fun _ => by rw [dg4, dg4]; omega, fun h => by omega⟩
 · exact ⟨fun _ => by rw [dg5, dg5]; omega, fun h => by omega⟩
 · exact ⟨fun _ => by rw [dg6, dg6]; omega, fun h => by omega⟩
 · exact ⟨fun h => by omega, fun _ => by rw [dg7, dg7]; omega⟩
theorem dg_split (u : Int) (j : Nat) : u / 65536 ^ j = u / 65536 ^ (j + 1) * 65536 + dg u j := by
 have h : u / 65536 ^ (j + 1) = u / 65536 ^ j / 65536 := by
  rw [Int.pow_succ, Int.ediv_ediv_of_nonneg (Int.pow_nonneg (by omega))]
 rw [h]; unfold dg; omega
theorem dg_less {u v : Int} {j : Nat} (h : u / 65536 ^ (j + 1) = v / 65536 ^ (j + 1)) (hd : dg u j < dg v j) : u < v := by
 have h1 := dg_split u j
 have h2 := dg_split v j
 have h3 : u / 65536 ^ j < v / 65536 ^ j := by omega
 rcases Int.lt_or_le u v with h4 | h4
 · exact h4
 · have := Int.ediv_le_ediv (show (0 : Int) < 65536 ^ j from Int.pow_pos (by omega)) h4
   omega
theorem ref2_Cmp (x y : Int) (w : World) (hx : W128 x) (hy : W128 y) :
  Calls prog 133 #[.agg #[.int .i64 (hii x), .int .u64 (lon x : Int)], .agg #[.int .i64 (hii y), .int .u64 (lon y : Int)]] w fun e w' =>
   e = .returned (.int .i64 (cmpI x y)) ∧ Below w.heap.size w w' := by
 have z0 : w.heap.size < w.heap.size + 1 + 1 := by omega
 have z1 : w.heap.size < w.heap.size + 1 + 1 + 1 := by omega
 have z2 : w.heap.size < w.heap.size + 1 + 1 + 1 + 1 := by omega
 have z3 : w.heap.size < w.heap.size + 1 + 1 + 1 + 1 + 1 := by omega
 have D := zh (fun (x : Int) w => ref2_digits x w)
 go_enter func133, ntmps133
 go_upto_region 1 with fail
 go_cut [5, 6] (fun s5 s6 wx => ∃ p q : Nat, s5 = .pointer (some ⟨p, 0, none⟩) ∧ s6 = .pointer (some ⟨q, 0, none⟩) ∧ p ≠ q ∧ w.heap.size + 1 < p ∧ w.heap.size + 1 < q ∧ Bk wx p 183 (arr8 (dg x)) ∧ Bk wx q 183 (arr8 (dg y)) ∧ Below w.heap.size w wx)
 case first =>
  go_region_held3 (fun w' => w'.cell? ⟨w.heap.size, 0, none⟩ = some (.int .i64 (hii x)) ∧ w'.cell? ⟨w.heap.size, 1, none⟩ = some (.int .u64 (lon x)) ∧
    w'.cell? ⟨w.heap.size + 1, 0, none⟩ = some (.int .i64 (hii y)) ∧ w'.cell? ⟨w.heap.size + 1, 1, none⟩ = some (.int .u64 (lon y)))
   (first | (simp (disch := first | omega | (simp only [World.size_alloc, World.size_setCell, World.size_drew]; omega)) [hca, hcb, ca, csf, List.getElem?_cons_zero, List.getElem?_cons_succ]; done) | (simp (disch := first | omega | (simp only [World.size_alloc, World.size_setCell, World.size_drew]; omega)) [hca, ca, csf, List.getElem?_cons_zero, List.getElem?_cons_succ]; done) | (simp (disch := first | omega | (simp only [World.size_alloc, World.size_setCell, World.size_drew]; omega)) [ca, csf, List.getElem?_cons_zero, List.getElem?_cons_succ]; done))
   (first
    | (go_at_call 134; ((with_reducible refine (D.out x _).mono ?_)); rintro e wa ⟨rfl, hba⟩; have hzwa := hba.size; (try simp at hzwa); (first | (refine below5e (w := w) w.heap.size ?_ hba ?_ ?_; (focus go_grown); (focus (first | omega | (simp; done) | (simp; omega))); intro hca hfa y0a x1a y1a y2a y3a y4a y5a y6a) | (refine below4e (w := w) w.heap.size ?_ hba ?_ ?_; (focus go_grown); (focus (first | omega | (simp; done) | (simp; omega))); intro hca hfa y0a x1a y1a y2a y3a y4a y5a) | (refine below3e (w := w) w.heap.size ?_ hba ?_ ?_; (focus go_grown); (focus (first | omega | (simp; done) | (simp; omega))); intro hca hfa y0a x1a y1a y2a y3a y4a) | (refine below2e (w := w) w.heap.size ?_ hba ?_ ?_; (focus go_grown); (focus (first | omega | (simp; done) | (simp; omega))); intro hca hfa y0a x1a y1a y2a y3a)))
    | (go_at_call 134; ((with_reducible refine (D.out y _).mono ?_)); rintro e wb ⟨rfl, hbb⟩; have hzwb := hbb.size; (try simp at hzwb); (first | (refine below5e (w := w) w.heap.size ?_ hbb ?_ ?_; (focus go_grown); (focus (first | omega | (simp; done) | (simp; omega))); intro hcb hfb y0b x1b y1b y2b y3b y4b y5b y6b) | (refine below4e (w := w) w.heap.size ?_ hbb ?_ ?_; (focus go_grown); (focus (first | omega | (simp; done) | (simp; omega))); intro hcb hfb y0b x1b y1b y2b y3b y4b y5b) | (refine below3e (w := w) w.heap.size ?_ hbb ?_ ?_; (focus go_grown); (focus (first | omega | (simp; done) | (simp; omega))); intro hcb hfb y0b x1b y1b y2b y3b y4b) | (refine below2e (w := w) w.heap.size ?_ hbb ?_ ?_; (focus go_grown); (focus (first | omega | (simp; done) | (simp; omega))); intro hcb hfb y0b x1b y1b y2b y3b)); (first | (refine ltk2 (n := wa.heap.size) (N := wb.heap.size) ?_ ?_; (focus omega); intro v1 v2) | (refine ltk1 (n := wa.heap.size) (N := wb.heap.size) ?_ ?_; (focus omega); intro v1) | skip)))
  all_goals (go_wp2_with fail; go_meet)
  all_goals
   refine ⟨_, _, rfl, rfl, ?_, ?_, ?_, ?_, ?_, ?_⟩
   all_goals first
    | ((try unfold arr8); (repeat (first | ((with_reducible refine Bk.new_at _ _ _ _ ?_); (focus (first | (simp; done) | (simp; omega)))) | (with_reducible refine Bk.drew ?_) | (with_reducible refine Bk.store8 ?_) | ((with_reducible refine Bk.other8 ?_ ?_); rotate_left; (focus omega)) | (with_reducible refine Bk.alloc ?_ _) | (with_reducible refine Bk.below ?_ hbb) | (with_reducible refine Bk.below ?_ hba))); done)
    | (focus omega)
    | (go_grown; done)
 case rest =>
  obtain ⟨p, q, rfl, rfl, hpq, hp, hq, P, Q, hB⟩ := hcut
  have c7 : wc.cell? ⟨p, 7, none⟩ = some (.int .i64 (dg x 7)) := P.cell rfl
  have d7 : wc.cell? ⟨q, 7, none⟩ = some (.int .i64 (dg y 7)) := Q.cell rfl
  have f7 := P.frozen 7
  have g7 := Q.frozen 7
  have hqp : ¬ q = p := fun e => hpq e.symm
  obtain ⟨u, hu⟩ := nmd (x + 170141183460469231731687303715884105728)
  obtain ⟨v, hv⟩ := nmd (y + 170141183460469231731687303715884105728)
  have E1 : ∀ j, j < 8 → (j ≠ 7 → dg x j = dg u j) ∧ (j = 7 → (dg x 7 + 32768) % 65536 = dg u 7) := by rw [hu]; exact dg_up x
  have E2 : ∀ j, j < 8 → (j ≠ 7 → dg y j = dg v j) ∧ (j = 7 → (dg y 7 + 32768) % 65536 = dg v 7) := by rw [hv]; exact dg_up y
  have P' : Bk (wc.setCell ⟨p, 7, none⟩ (.int .i64 ((dg x 7 + 32768) % 65536))) p 183 (arr8 (dg u)) := P.set8 (by omega) ((E1 7 (by omega)).2 rfl) fun j hj h => (E1 j hj).1 h
  have Q' : Bk ((wc.setCell ⟨p, 7, none⟩ (.int .i64 ((dg x 7 + 32768) % 65536))).setCell ⟨q, 7, none⟩ (.int .i64 ((dg y 7 + 32768) % 65536))) q 183 (arr8 (dg v)) :=
   (Q.other hqp _).set8 (by omega) ((E2 7 (by omega)).2 rfl) fun j hj h => (E2 j hj).1 h
  have HP := zh (P'.other (a := ⟨q, 7, none⟩) hpq (.int .i64 ((dg y 7 + 32768) % 65536)))
  have HQ := zh Q'
  have RX := z09 x 7
  have RY := z09 y 7
  unfold W128 at hx hy
  have HU := zh (show 0 ≤ u ∧ u < 340282366920938463463374607431768211456 ∧ 0 ≤ v ∧ v < 340282366920938463463374607431768211456 ∧ (u < v → cmpI x y = -1) ∧ (v < u → cmpI x y = 1) ∧ (u = v → cmpI x y = 0) by
   refine ⟨by omega, by omega, by omega, by omega, fun h => ?_, fun h => ?_, fun h => ?_⟩ <;> unfold cmpI <;> (repeat' split) <;> omega)
  have hsz : w.heap.size ≤ wc.heap.size := hB.size
  clear E1 E2 P Q P' Q' hu hv hx hy D
  generalize dg x 7 = X7 at *
  generalize dg y 7 = Y7 at *
  obtain ⟨RX1, RX2⟩ := RX
  obtain ⟨RY1, RY2⟩ := RY
  go_wp2
  go_loopw [7] (fun s wr => ∃ k : Nat, k ≤ 8 ∧ s = .int .i64 ((k : Int) - 1) ∧ u / 65536 ^ k = v / 65536 ^ k ∧ Bk wr p 183 (arr8 (dg u)) ∧ Bk wr q 183 (arr8 (dg v)) ∧ Below w.heap.size w wr) (fun s _ => (intOf s + 1).toNat)
  case atStart =>
   refine ⟨8, by omega, rfl, ?_, HP.out, HQ.out, by go_grown⟩
   obtain ⟨h1, h2, h3, h4, _⟩ := HU.out
   rw [Int.ediv_eq_zero_of_lt h1 (by simpa using h2), Int.ediv_eq_zero_of_lt h3 (by simpa using h4)]
  case round =>
   clear c7 d7 f7 g7
   obtain ⟨k, hk8, rfl, hE, P, Q, hB⟩ := hrel
   match k, hk8, hE with
   | 0, _, hE =>
    have hR : cmpI x y = 0 := by
     obtain ⟨_, _, _, _, _, _, h⟩ := HU.out
     exact h (by simpa using hE)
    have HR := zh hR
    clear hR hE P Q
    go_wp2
    go_ret
    exact ⟨z0m HR.out.symm, by go_grown⟩
   | j + 1, hk8, hE =>
    have e0 : (((j + 1 : Nat) : Int)) - 1 = (j : Int) := by omega
    rw [e0]
    have hj : j < 8 := by omega
    have c1 : wr.cell? ⟨p, j, none⟩ = some (.int .i64 (dg u j)) := P.cell (arr8_get _ hj)
    have c2 : wr.cell? ⟨q, j, none⟩ = some (.int .i64 (dg v j)) := Q.cell (arr8_get _ hj)
    have j0 : (0 : Int) ≤ (j : Int) := by omega
    have j8 : (j : Int) < 8 := by omega
    have P' := zh P
    have Q' := zh Q
    have HE := zh hE
    have L1 := zh (fun h => dg_less (u := u) (v := v) (j := j) hE h)
    have L2 := zh (fun h => dg_less (u := v) (v := u) (j := j) hE.symm h)
    have S1 := zh (dg_split u j)
    have S2 := zh (dg_split v j)
    clear e0 P Q hE
    generalize dg u j = X at *
    generalize dg v j = Y at *
    rcases Int.lt_trichotomy X Y with h | h | h
    · have hR : cmpI x y = -1 := HU.out.2.2.2.2.1 (L1.out h)
      have HR := zh hR
      clear hR
      go_wp2
      go_quiet (fail)
      go_wp2
      go_ret
      exact ⟨z0m HR.out.symm, by first | (refine z13 ?_ _; go_grown; done) | (refine z13 (z13 ?_ _) _; go_grown; done)⟩
    · subst h
      go_wp2
      go_quiet (fail)
      go_wp2
      go_quiet (fail)
      go_wp2
      go_roundw
      case rel => exact ⟨j, by omega, by go_num, by rw [S1.out, S2.out, HE.out], by first | exact P'.out.drewN _ | exact (P'.out.drewN _).drewN _, by first | exact Q'.out.drewN _ | exact (Q'.out.drewN _).drewN _, by first | (refine z13 ?_ _; go_grown; done) | (refine z13 (z13 ?_ _) _; go_grown; done)⟩
      case measure => simp [intOf]; try omega
    · have hR : cmpI x y = 1 := HU.out.2.2.2.2.2.1 (L2.out h)
      have HR := zh hR
      have hn : ¬ X < Y := by omega
      clear hR
      go_wp2
      go_quiet (fail)
      go_wp2
      go_quiet (fail)
      go_wp2
      go_ret
      exact ⟨z0m HR.out.symm, by first | (refine z13 ?_ _; go_grown; done) | (refine z13 (z13 ?_ _) _; go_grown; done)⟩
end
end
section
section
open Go.RowKit Go.Proofs.Sky
attribute [local go_sem ↓] Go.wp_at_zero Go.wp_at_succ
def sumP (u v : Int) : Nat → Int
 | 0 => 0
 | k + 1 => sumP u v k + dg u k * 65536 ^ k * v
def rowP (u v : Int) (i n : Nat) : Nat → Int := fun j => if i ≤ j ∧ j < i + n then dg u i * dg v (j - i) else 0
theorem row_mod0 (u v : Int) : num8 (dg u 0 * dg v 0) (dg u 0 * dg v 1) (dg u 0 * dg v 2) (dg u 0 * dg v 3) (dg u 0 * dg v 4) (dg u 0 * dg v 5) (dg u 0 * dg v 6) (dg u 0 * dg v 7) % 340282366920938463463374607431768211456 = dg u 0 * 65536 ^ 0 * v % 340282366920938463463374607431768211456 := by
 have hv : v = dg v 0 + 65536 * dg v 1 + 4294967296 * dg v 2 + 281474976710656 * dg v 3 + 18446744073709551616 * dg v 4 + 1208925819614629174706176 * dg v 5 + 79228162514264337593543950336 * dg v 6 + 5192296858534827628530496329220096 * dg v 7 + 340282366920938463463374607431768211456 * (v / 340282366920938463463374607431768211456) := by rw [dg0, dg1, dg2, dg3, dg4, dg5, dg6, dg7]; omega
 have he : dg u 0 * v = dg u 0 * dg v 0 + 65536 * (dg u 0 * dg v 1) + 4294967296 * (dg u 0 * dg v 2) + 281474976710656 * (dg u 0 * dg v 3) + 18446744073709551616 * (dg u 0 * dg v 4) + 1208925819614629174706176 * (dg u 0 * dg v 5) + 79228162514264337593543950336 * (dg u 0 * dg v 6) + 5192296858534827628530496329220096 * (dg u 0 * dg v 7) + 340282366920938463463374607431768211456 * (dg u 0 * (v / 340282366920938463463374607431768211456)) := by
  generalize v / 340282366920938463463374607431768211456 = t at *
  generalize dg v 0 = y0 at *
  generalize dg v 1 = y1 at *
  generalize dg v 2 = y2 at *
  generalize dg v 3 = y3 at *
  generalize dg v 4 = y4 at *
  generalize dg v 5 = y5 at *
  generalize dg v 6 = y6 at *
  generalize dg v 7 = y7 at *
  subst hv
  simp only [Int.mul_add, Int.mul_left_comm (dg u 0)]
 rw [show dg u 0 * 65536 ^ 0 * v = 1 * (dg u 0 * v) by rw [Int.mul_assoc, Int.mul_left_comm]; rfl, he]
 generalize dg u 0 * dg v 0 = z0 at *
 generalize dg u 0 * dg v 1 = z1 at *
 generalize dg u 0 * dg v 2 = z2 at *
 generalize dg u 0 * dg v 3 = z3 at *
 generalize dg u 0 * dg v 4 = z4 at *
 generalize dg u 0 * dg v 5 = z5 at *
 generalize dg u 0 * dg v 6 = z6 at *
 generalize dg u 0 * dg v 7 = z7 at *
 generalize dg u 0 * (v / 340282366920938463463374607431768211456) = t at *
 clear hv he
 unfold num8; omega
theorem row_mod1 (u v : Int) : num8 0 (dg u 1 * dg v 0) (dg u 1 * dg v 1) (dg u 1 * dg v 2) (dg u 1 * dg v 3) (dg u 1 * dg v 4) (dg u 1 * dg v 5) (dg u 1 * dg v 6) % 340282366920938463463374607431768211456 = dg u 1 * 65536 ^ 1 * v % 340282366920938463463374607431768211456 := by
 have hv : v = dg v 0 + 65536 * dg v 1 + 4294967296 * dg v 2 + 281474976710656 * dg v 3 + 18446744073709551616 * dg v 4 + 1208925819614629174706176 * dg v 5 + 79228162514264337593543950336 * dg v 6 + 5192296858534827628530496329220096 * (v / 5192296858534827628530496329220096) := by rw [dg0, dg1, dg2, dg3, dg4, dg5, dg6]; omega
 have he : dg u 1 * v = dg u 1 * dg v 0 + 65536 * (dg u 1 * dg v 1) + 4294967296 * (dg u 1 * dg v 2) + 281474976710656 * (dg u 1 * dg v 3) + 18446744073709551616 * (dg u 1 * dg v 4) + 1208925819614629174706176 * (dg u 1 * dg v 5) + 79228162514264337593543950336 * (dg u 1 * dg v 6) + 5192296858534827628530496329220096 * (dg u 1 * (v / 5192296858534827628530496329220096)) := by
  generalize v / 5192296858534827628530496329220096 = t at *
  generalize dg v 0 = y0 at *
  generalize dg v 1 = y1 at *
  generalize dg v 2 = y2 at *
  generalize dg v 3 = y3 at *
  generalize dg v 4 = y4 at *
  generalize dg v 5 = y5 at *
  generalize dg v 6 = y6 at *
  subst hv
  simp only [Int.mul_add, Int.mul_left_comm (dg u 1)]
 rw [show dg u 1 * 65536 ^ 1 * v = 65536 * (dg u 1 * v) by rw [Int.mul_assoc, Int.mul_left_comm]; rfl, he]
 generalize dg u 1 * dg v 0 = z0 at *
 generalize dg u 1 * dg v 1 = z1 at *
 generalize dg u 1 * dg v 2 = z2 at *
 generalize dg u 1 * dg v 3 = z3 at *
 generalize dg u 1 * dg v 4 = z4 at *
 generalize dg u 1 * dg v 5 = z5 at *
 generalize dg u 1 * dg v 6 = z6 at *
 generalize dg u 1 * (v / 5192296858534827628530496329220096) = t at *
 clear hv he
 unfold num8; omega
theorem row_mod2 (u v : Int) : num8 0 0 (dg u 2 * dg v 0) (dg u 2 * dg v 1) (dg u 2 * dg v 2) (dg u 2 * dg v 3) (dg u 2 * dg v 4) (dg u 2 * dg v 5) % 340282366920938463463374607431768211456 = dg u 2 * 65536 ^ 2 * v % 340282366920938463463374607431768211456 := by
 have hv : v = dg v 0 + 65536 * dg v 1 + 4294967296 * dg v 2 + 281474976710656 * dg v 3 + 18446744073709551616 * dg v 4 + 1208925819614629174706176 * dg v 5 + 79228162514264337593543950336 * (v / 79228162514264337593543950336) := by rw [dg0, dg1, dg2, dg3, dg4, dg5]; omega
 have he : dg u 2 * v = dg u 2 * dg v 0 + 65536 * (dg u 2 * dg v 1) + 4294967296 * (dg u 2 * dg v 2) + 281474976710656 * (dg u 2 * dg v 3) + 18446744073709551616 * (dg u 2 * dg v 4) + 1208925819614629174706176 * (dg u 2 * dg v 5) + 79228162514264337593543950336 * (dg u 2 * (v / 79228162514264337593543950336)) := by
  generalize v / 79228162514264337593543950336 = t at *
  generalize dg v 0 = y0 at *
  generalize dg v 1 = y1 at *
  generalize dg v 2 = y2 at *
  generalize dg v 3 = y3 at *
  generalize dg v 4 = y4 at *
  generalize dg v 5 = y5 at *
  subst hv
  simp only [Int.mul_add, Int.mul_left_comm (dg u 2)]
 rw [show dg u 2 * 65536 ^ 2 * v = 4294967296 * (dg u 2 * v) by rw [Int.mul_assoc, Int.mul_left_comm]; rfl, he]
 generalize dg u 2 * dg v 0 = z0 at *
 generalize dg u 2 * dg v 1 = z1 at *
 generalize dg u 2 * dg v 2 = z2 at *
 generalize dg u 2 * dg v 3 = z3 at *
 generalize dg u 2 * dg v 4 = z4 at *
 generalize dg u 2 * dg v 5 = z5 at *
 generalize dg u 2 * (v / 79228162514264337593543950336) = t at *
 clear hv he
 unfold num8; omega
theorem row_mod3 (u v : Int) : num8 0 0 0 (dg u 3 * dg v 0) (dg u 3 * dg v 1) (dg u 3 * dg v 2) (dg u 3 * dg v 3) (dg u 3 * dg v 4) % 340282366920938463463374607431768211456 = dg u 3 * 65536 ^ 3 * v % 340282366920938463463374607431768211456 := by
 have hv : v = dg v 0 + 65536 * dg v 1 + 4294967296 * dg v 2 + 281474976710656 * dg v 3 + 18446744073709551616 * dg v 4 + 1208925819614629174706176 * (v / 1208925819614629174706176) := by rw [dg0, dg1, dg2, dg3, dg4]; omega
 have he : dg u 3 * v = dg u 3 * dg v 0 + 65536 * (dg u 3 * dg v 1) + 4294967296 * (dg u 3 * dg v 2) + 281474976710656 * (dg u 3 * dg v 3) + 18446744073709551616 * (dg u 3 * dg v 4) + 1208925819614629174706176 * (dg u 3 * (v / 1208925819614629174706176)) := by
  generalize v / 1208925819614629174706176 = t at *
  generalize dg v 0 = y0 at *
  generalize dg v 1 = y1 at *
  generalize dg v 2 = y2 at *
  generalize dg v 3 = y3 at *
  generalize dg v 4 = y4 at *
  subst hv
  simp only [Int.mul_add, Int.mul_left_comm (dg u 3)]
 rw [show dg u 3 * 65536 ^ 3 * v = 281474976710656 * (dg u 3 * v) by rw [Int.mul_assoc, Int.mul_left_comm]; rfl, he]
 generalize dg u 3 * dg v 0 = z0 at *
 generalize dg u 3 * dg v 1 = z1 at *
 generalize dg u 3 * dg v 2 = z2 at *
 generalize dg u 3 * dg v 3 = z3 at *
 generalize dg u 3 * dg v 4 = z4 at *
 generalize dg u 3 * (v / 1208925819614629174706176) = t at *
 clear hv he
 unfold num8; omega
theorem row_mod4 (u v : Int) : num8 0 0 0 0 (dg u 4 * dg v 0) (dg u 4 * dg v 1) (dg u 4 * dg v 2) (dg u 4 * dg v 3) % 340282366920938463463374607431768211456 = dg u 4 * 65536 ^ 4 * v % 340282366920938463463374607431768211456 := by
 have hv : v = dg v 0 + 65536 * dg v 1 + 4294967296 * dg v 2 + 281474976710656 * dg v 3 + 18446744073709551616 * (v / 18446744073709551616) := by rw [dg0, dg1, dg2, dg3]; omega
 have he : dg u 4 * v = dg u 4 * dg v 0 + 65536 * (dg u 4 * dg v 1) + 4294967296 * (dg u 4 * dg v 2) + 281474976710656 * (dg u 4 * dg v 3) + 18446744073709551616 * (dg u 4 * (v / 18446744073709551616)) := by
  generalize v / 18446744073709551616 = t at *
  generalize dg v 0 = y0 at *
  generalize dg v 1 = y1 at *
  generalize dg v 2 = y2 at *
  generalize dg v 3 = y3 at *
  subst hv
  simp only [Int.mul_add, Int.mul_left_comm (dg u 4)]
 rw [show dg u 4 * 65536 ^ 4 * v = 18446744073709551616 * (dg u 4 * v) by rw [Int.mul_assoc, Int.mul_left_comm]; rfl, he]
 generalize dg u 4 * dg v 0 = z0 at *
 generalize dg u 4 * dg v 1 = z1 at *
 generalize dg u 4 * dg v 2 = z2 at *
 generalize dg u 4 * dg v 3 = z3 at *
 generalize dg u 4 * (v / 18446744073709551616) = t at *
 clear hv he
 unfold num8; omega
theorem row_mod5 (u v : Int) : num8 0 0 0 0 0 (dg u 5 * dg v 0) (dg u 5 * dg v 1) (dg u 5 * dg v 2) % 340282366920938463463374607431768211456 = dg u 5 * 65536 ^ 5 * v % 340282366920938463463374607431768211456 := by
 have hv : v = dg v 0 + 65536 * dg v 1 + 4294967296 * dg v 2 + 281474976710656 * (v / 281474976710656) := by rw [dg0, dg1, dg2]; omega
 have he : dg u 5 * v = dg u 5 * dg v 0 + 65536 * (dg u 5 * dg v 1) + 4294967296 * (dg u 5 * dg v 2) + 281474976710656 * (dg u 5 * (v / 281474976710656)) := by
  generalize v / 281474976710656 = t at *
  generalize dg v 0 = y0 at *
  generalize dg v 1 = y1 at *
  generalize dg v 2 = y2 at *
  subst hv
  simp only [Int.mul_add, Int.mul_left_comm (dg u 5)]
 rw [show dg u 5 * 65536 ^ 5 * v = 1208925819614629174706176 * (dg u 5 * v) by rw [Int.mul_assoc, Int.mul_left_comm]; rfl, he]
 generalize dg u 5 * dg v 0 = z0 at *
 generalize dg u 5 * dg v 1 = z1 at *
 generalize dg u 5 * dg v 2 = z2 at *
 generalize dg u 5 * (v / 281474976710656) = t at *
 clear hv he
 unfold num8; omega
theorem row_mod6 (u v : Int) : num8 0 0 0 0 0 0 (dg u 6 * dg v 0) (dg u 6 * dg v 1) % 340282366920938463463374607431768211456 = dg u 6 * 65536 ^ 6 * v % 340282366920938463463374607431768211456 := by
 have hv : v = dg v 0 + 65536 * dg v 1 + 4294967296 * (v / 4294967296) := by rw [dg0, dg1]; omega
 have he : dg u 6 * v = dg u 6 * dg v 0 + 65536 * (dg u 6 * dg v 1) + 4294967296 * (dg u 6 * (v / 4294967296)) := by
  generalize v / 4294967296 = t at *
  generalize dg v 0 = y0 at *
  generalize dg v 1 = y1 at *
  subst hv
  simp only [Int.mul_add, Int.mul_left_comm (dg u 6)]
 rw [show dg u 6 * 65536 ^ 6 * v = 79228162514264337593543950336 * (dg u 6 * v) by rw [Int.mul_assoc, Int.mul_left_comm]; rfl, he]
 generalize dg u 6 * dg v 0 = z0 at *
 generalize dg u 6 * dg v 1 = z1 at *
 generalize dg u 6 * (v / 4294967296) = t at *
 clear hv he
 unfold num8; omega
theorem row_mod7 (u v : Int) : num8 0 0 0 0 0 0 0 (dg u 7 * dg v 0) % 340282366920938463463374607431768211456 = dg u 7 * 65536 ^ 7 * v % 340282366920938463463374607431768211456 := by
 have hv : v = dg v 0 + 65536 * (v / 65536) := by rw [dg0]; omega
 have he : dg u 7 * v = dg u 7 * dg v 0 + 65536 * (dg u 7 * (v / 65536)) := by
  generalize v / 65536 = t at *
  generalize dg v 0 = y0 at *
  subst hv
  simp only [Int.mul_add, Int.mul_left_comm (dg u 7)]
 rw [show dg u 7 * 65536 ^ 7 * v = 5192296858534827628530496329220096 * (dg u 7 * v) by rw [Int.mul_assoc, Int.mul_left_comm]; rfl, he]
 generalize dg u 7 * dg v 0 = z0 at *
 generalize dg u 7 * (v / 65536) = t at *
 clear hv he
 unfold num8; omega
theorem row_mod (u v : Int) {i : Nat} (hi : i < 8) : num8 (rowP u v i (8 - i) 0) (rowP u v i (8 - i) 1) (rowP u v i (8 - i) 2) (rowP u v i (8 - i) 3) (rowP u v i (8 - i) 4) (rowP u v i (8 - i) 5) (rowP u v i (8 - i) 6) (rowP u v i (8 - i) 7) % 340282366920938463463374607431768211456 = dg u i * 65536 ^ i * v % 340282366920938463463374607431768211456 :=
 cases8 (P := fun i => num8 (rowP u v i (8 - i) 0) (rowP u v i (8 - i) 1) (rowP u v i (8 - i) 2) (rowP u v i (8 - i) 3) (rowP u v i (8 - i) 4) (rowP u v i (8 - i) 5) (rowP u v i (8 - i) 6) (rowP u v i (8 - i) 7) % 340282366920938463463374607431768211456 = dg u i * 65536 ^ i * v % 340282366920938463463374607431768211456) hi
  (row_mod0 u v) (row_mod1 u v) (row_mod2 u v) (row_mod3 u v) (row_mod4 u v) (row_mod5 u v) (row_mod6 u v) (row_mod7 u v)
theorem sumP_8 (u v : Int) : sumP u v 8 = u % 340282366920938463463374607431768211456 * v := by
 have e := num8_dg u
 unfold num8 at e
 rw [← e]
 show 0 + dg u 0 * 65536 ^ 0 * v + dg u 1 * 65536 ^ 1 * v + dg u 2 * 65536 ^ 2 * v + dg u 3 * 65536 ^ 3 * v + dg u 4 * 65536 ^ 4 * v + dg u 5 * 65536 ^ 5 * v + dg u 6 * 65536 ^ 6 * v + dg u 7 * 65536 ^ 7 * v = _
 simp only [Int.add_mul, Int.mul_assoc]
 rw [show dg u 0 * (65536 ^ 0 * v) = 1 * (dg u 0 * v) by rw [Int.mul_left_comm]; rfl]
 rw [show dg u 1 * (65536 ^ 1 * v) = 65536 * (dg u 1 * v) by rw [Int.mul_left_comm]; rfl]
 rw [show dg u 2 * (65536 ^ 2 * v) = 4294967296 * (dg u 2 * v) by rw [Int.mul_left_comm]; rfl]
 rw [show dg u 3 * (65536 ^ 3 * v) = 281474976710656 * (dg u 3 * v) by rw [Int.mul_left_comm]; rfl]
 rw [show dg u 4 * (65536 ^ 4 * v) = 18446744073709551616 * (dg u 4 * v) by rw [Int.mul_left_comm]; rfl]
 rw [show dg u 5 * (65536 ^ 5 * v) = 1208925819614629174706176 * (dg u 5 * v) by rw [Int.mul_left_comm]; rfl]
 rw [show dg u 6 * (65536 ^ 6 * v) = 79228162514264337593543950336 * (dg u 6 * v) by rw [Int.mul_left_comm]; rfl]
 rw [show dg u 7 * (65536 ^ 7 * v) = 5192296858534827628530496329220096 * (dg u 7 * v) by rw [Int.mul_left_comm]; rfl]
 generalize dg u 0 * v = z0
 generalize dg u 1 * v = z1
 generalize dg u 2 * v = z2
 generalize dg u 3 * v = z3
 generalize dg u 4 * v = z4
 generalize dg u 5 * v = z5
 generalize dg u 6 * v = z6
 generalize dg u 7 * v = z7
 omega
end
end
section
section
open Go.RowKit Go.Proofs.Sky
attribute [local go_sem ↓] Go.wp_at_zero Go.wp_at_succ
theorem Bk_store2 {w : World} {b : Nat} {t : TypeId} {u0 u1 v0 v1 : Value} (h : Bk w b t #[u0, u1]) : Bk ((w.setCell ⟨b, 0, none⟩ v0).setCell ⟨b, 1, none⟩ v1) b t #[v0, v1] :=
 ((h.set 0 v0).set 1 v1).cast (by simp)
theorem Bk_other2 {w : World} {b p : Nat} {t : TypeId} {cs : Array Value} {v0 v1 : Value} (h : Bk w b t cs) (hp : b ≠ p) : Bk ((w.setCell ⟨p, 0, none⟩ v0).setCell ⟨p, 1, none⟩ v1) b t cs :=
 (h.other (a := ⟨p, 0, none⟩) hp v0).other (a := ⟨p, 1, none⟩) hp v1
theorem keep2fe {w W w1 : World} {g : Nat} {u v : Value} {C : Prop} (hb : Below W.heap.size W w1) (h0 : Below w.heap.size w W) (hg : g < W.heap.size) (k0 : W.cell? ⟨g, 0, none⟩ = some u) (k1 : W.cell? ⟨g, 1, none⟩ = some v)
  (f0 : W.frozen? ⟨g, 0, none⟩ = false) (f1 : W.frozen? ⟨g, 1, none⟩ = false)
  (K : w1.cell? ⟨g, 0, none⟩ = some u → w1.cell? ⟨g, 1, none⟩ = some v → g < w1.heap.size → Below w.heap.size w w1 → w1.frozen? ⟨g, 0, none⟩ = false → w1.frozen? ⟨g, 1, none⟩ = false → C) : C := by
 obtain ⟨a, b, c, d⟩ := keep2 h0 hb hg k0 k1
 exact K a b c d ((hb.frozen (p := ⟨g, 0, none⟩) hg).trans f0) ((hb.frozen (p := ⟨g, 1, none⟩) hg).trans f1)
theorem add_congr {a b c : Int} (h : b % 340282366920938463463374607431768211456 = c % 340282366920938463463374607431768211456) : hii (a + b) = hii (a + c) ∧ lon (a + b) = lon (a + c) := by
 have := hii_congr (x := a + b) (y := a + c) (by omega)
 exact ⟨this.1, this.2.1⟩
theorem prod_range (u v : Int) (i j : Nat) : 0 ≤ dg u i * dg v j ∧ dg u i * dg v j ≤ 4294836225 := by
 obtain ⟨a, b⟩ := z09 u i
 obtain ⟨c, d⟩ := z09 v j
 exact ⟨Int.mul_nonneg a c, Int.mul_le_mul b d c (by omega)⟩
theorem rowP_range (u v : Int) (i n j : Nat) : 0 ≤ rowP u v i n j ∧ rowP u v i n j ≤ 4294836225 := by
 unfold rowP; split
 · exact prod_range _ _ _ _
 · omega
theorem rowP_zero (u v : Int) (i : Nat) : arr8 (rowP u v i 0) = #[.int .i64 0, .int .i64 0, .int .i64 0, .int .i64 0, .int .i64 0, .int .i64 0, .int .i64 0, .int .i64 0] := by
 have h : ∀ j, rowP u v i 0 j = 0 := fun j => by unfold rowP; rw [if_neg (by omega)]
 unfold arr8
 rw [h, h, h, h, h, h, h, h]
theorem times_end (u v : Int) : hii (sumP u v 8) = hii (u * v) ∧ lon (sumP u v 8) = lon (u * v) := by
 have h : sumP u v 8 % 340282366920938463463374607431768211456 = u * v % 340282366920938463463374607431768211456 := by rw [sumP_8, Int.mul_emod, Int.emod_emod, ← Int.mul_emod]
 have := hii_congr h
 exact ⟨this.1, this.2.1⟩
theorem ref2_times (u v : Int) (w : World) :
  Rt prog 136 #[.agg #[.int .i64 (dg u 0), .int .i64 (dg u 1), .int .i64 (dg u 2), .int .i64 (dg u 3), .int .i64 (dg u 4), .int .i64 (dg u 5), .int .i64 (dg u 6), .int .i64 (dg u 7)], .agg #[.int .i64 (dg v 0), .int .i64 (dg v 1), .int .i64 (dg v 2), .int .i64 (dg v 3), .int .i64 (dg v 4), .int .i64 (dg v 5), .int .i64 (dg v 6), .int .i64 (dg v 7)]] w (.agg #[.int .i64 (hii (u * v)), .int .u64 (lon (u * v) : Int)]) := by
 have E8 := zh (times_end u v)
 go_enter func136, ntmps136
 go_wp2
 go_loopw [6] (fun s wr => ∃ k : Nat, k ≤ 8 ∧ s = .int .i64 k ∧ Bk wr w.heap.size 183 (arr8 (dg u)) ∧ Bk wr (w.heap.size + 1) 183 (arr8 (dg v)) ∧ Bk wr (w.heap.size + 2) 163 #[.int .i64 0, .int .u64 0] ∧
   Bk wr (w.heap.size + 3) 163 #[.int .i64 (hii (sumP u v k)), .int .u64 (lon (sumP u v k) : Int)] ∧ Below w.heap.size w wr) (fun s _ => 8 - (intOf s).toNat)
 case atStart =>
  have h0 : hii (sumP u v 0) = 0 := by show hii 0 = 0; decide
  have h1 : ((lon (sumP u v 0) : Nat) : Int) = 0 := by show ((lon 0 : Nat) : Int) = 0; decide
  refine ⟨0, by omega, rfl, ?_, ?_, ?_, ?_, by go_grown⟩
  all_goals
   try unfold arr8
   try simp only [h0, h1]
   repeat (first | ((with_reducible refine Bk.new_at _ _ _ _ ?_); (focus (first | (simp; done) | (simp; omega)))) | (with_reducible refine Bk.alloc ?_ _))
 case round =>
  obtain ⟨i, hi8, rfl, BG, BH, BT, BS, hB⟩ := hrel
  obtain ⟨wo, rfl⟩ : ∃ wo : World, wo = wr := ⟨_, rfl⟩
  have HG := zh BG
  have HH := zh BH
  have HT := zh BT
  have HS := zh BS
  have hsz : w.heap.size ≤ wo.heap.size := hB.size
  by_cases hi : i < 8
  · have i8 : (i : Int) < 8 := by omega
    have i0 : (0 : Int) ≤ (i : Int) := by omega
    clear BG BH BT BS
    go_wp2
    go_loopw [8] (fun s wr => ∃ m : Nat, m + i ≤ 8 ∧ s = .int .i64 m ∧ Bk wr w.heap.size 183 (arr8 (dg u)) ∧ Bk wr (w.heap.size + 1) 183 (arr8 (dg v)) ∧ Bk wr (w.heap.size + 2) 163 #[.int .i64 0, .int .u64 0] ∧
      Bk wr (w.heap.size + 3) 163 #[.int .i64 (hii (sumP u v i)), .int .u64 (lon (sumP u v i) : Int)] ∧ Bk wr wo.heap.size 183 (arr8 (rowP u v i m)) ∧ Below w.heap.size w wr ∧ w.heap.size + 3 < wo.heap.size) (fun s _ => 8 - (intOf s).toNat)
    case atStart =>
     have l3 := HS.out.lt
     exact ⟨0, by omega, rfl, HG.out.alloc _, HH.out.alloc _, HT.out.alloc _, HS.out.alloc _, (Bk.new _ _ _).cast (rowP_zero u v i).symm, by go_grown, l3⟩
    case round =>
     clear HG HH HT HS
     obtain ⟨m, hm8, rfl, BG, BH, BT, BS, BD, hB2, hlt⟩ := hrel
     have HG := zh BG
     have HH := zh BH
     have HT := zh BT
     have HS := zh BS
     by_cases hm : m + i < 8
     · have c1 : wr.cell? ⟨w.heap.size, i, none⟩ = some (.int .i64 (dg u i)) := BG.cell (arr8_get _ hi)
       have c2 : wr.cell? ⟨w.heap.size + 1, m, none⟩ = some (.int .i64 (dg v m)) := BH.cell (arr8_get _ (by omega))
       have c3 : wr.cell? ⟨wo.heap.size, m + i, none⟩ = some (.int .i64 (rowP u v i m (m + i))) := BD.cell (arr8_get _ hm)
       have f3 := BD.frozen (m + i)
       obtain ⟨s, hs⟩ := nmd (m + i)
       have e1 : (m : Int) + (i : Int) = (s : Int) := by omega
       have e2 : IntKind.i64.wrap (s : Int) = (s : Int) := by rw [i64w]; omega
       obtain ⟨x1, x2⟩ := prod_range u v i m
       obtain ⟨Z, hZ⟩ := nmd (dg u i * dg v m)
       have e3 : IntKind.i64.wrap (dg u i * dg v m) = Z := by rw [i64w, hZ]; omega
       have HD := zh BD
       have HSs := zh hs
       have HZ := zh hZ
       have HM := zh hm
       rw [← hs] at c3 f3 hm
       have s8 : (s : Int) < 8 := by omega
       have s0 : (0 : Int) ≤ (s : Int) := by omega
       have m0 : (0 : Int) ≤ (m : Int) := by omega
       have m8 : (m : Int) < 8 := by omega
       generalize rowP u v i m s = R0 at *
       generalize hX : dg u i = X at *
       generalize hY : dg v m = Y at *
       have HX := zh hX
       have HY := zh hY
       clear BG BH BT BS BD hs hZ x1 x2 hX hY
       go_wp2
       go_region_with (fail)
       all_goals
        go_wp2
        go_roundw
        case rel =>
         refine ⟨m + 1, by have := HM.out; omega, by go_num, HG.out.other (by simp; omega) _, HH.out.other (by simp; omega) _, HT.out.other (by simp; omega) _, HS.out.other (by simp; omega) _, ?_, by go_grown, hlt⟩
         refine HD.out.set8 hm ?_ fun j hj hjs => ?_
         · rw [HZ.out]; unfold rowP; rw [if_pos (by have := HSs.out; omega), show s - i = m by have := HSs.out; omega, HX.out, HY.out]
         · have := HSs.out
           unfold rowP
           by_cases h : i ≤ j ∧ j < i + m
           · rw [if_pos h, if_pos (by omega)]
           · rw [if_neg h, if_neg (by omega)]
        case measure => simp [intOf]; omega
     · obtain rfl : m = 8 - i := by omega
       have rm := row_mod u v hi
       have NB : ∀ w, Rt prog 135 #[.agg #[.int .i64 (rowP u v i (8 - i) 0), .int .i64 (rowP u v i (8 - i) 1), .int .i64 (rowP u v i (8 - i) 2), .int .i64 (rowP u v i (8 - i) 3), .int .i64 (rowP u v i (8 - i) 4), .int .i64 (rowP u v i (8 - i) 5), .int .i64 (rowP u v i (8 - i) 6), .int .i64 (rowP u v i (8 - i) 7)]] w (.agg #[.int .i64 (hii (num8 (rowP u v i (8 - i) 0) (rowP u v i (8 - i) 1) (rowP u v i (8 - i) 2) (rowP u v i (8 - i) 3) (rowP u v i (8 - i) 4) (rowP u v i (8 - i) 5) (rowP u v i (8 - i) 6) (rowP u v i (8 - i) 7))), .int .u64 (lon (num8 (rowP u v i (8 - i) 0) (rowP u v i (8 - i) 1) (rowP u v i (8 - i) 2) (rowP u v i (8 - i) 3) (rowP u v i (8 - i) 4) (rowP u v i (8 - i) 5) (rowP u v i (8 - i) 6) (rowP u v i (8 - i) 7)) : Int)]) := fun w => by
        have h := rowP_range u v i (8 - i)
        exact ref2_number (rowP u v i (8 - i) 0) (rowP u v i (8 - i) 1) (rowP u v i (8 - i) 2) (rowP u v i (8 - i) 3) (rowP u v i (8 - i) 4) (rowP u v i (8 - i) 5) (rowP u v i (8 - i) 6) (rowP u v i (8 - i) 7) w (by have := h 0; omega) (by have := h 1; omega) (by have := h 2; omega) (by have := h 3; omega) (by have := h 4; omega) (by have := h 5; omega) (by have := h 6; omega) (by have := h 7; omega)
       have AB : ∀ w, Rt prog 148 #[.agg #[.int .i64 (hii (sumP u v i)), .int .u64 (lon (sumP u v i) : Int)], .agg #[.int .i64 (hii (num8 (rowP u v i (8 - i) 0) (rowP u v i (8 - i) 1) (rowP u v i (8 - i) 2) (rowP u v i (8 - i) 3) (rowP u v i (8 - i) 4) (rowP u v i (8 - i) 5) (rowP u v i (8 - i) 6) (rowP u v i (8 - i) 7))), .int .u64 (lon (num8 (rowP u v i (8 - i) 0) (rowP u v i (8 - i) 1) (rowP u v i (8 - i) 2) (rowP u v i (8 - i) 3) (rowP u v i (8 - i) 4) (rowP u v i (8 - i) 5) (rowP u v i (8 - i) 6) (rowP u v i (8 - i) 7)) : Int)]] w (.agg #[.int .i64 (hii (sumP u v (i + 1))), .int .u64 (lon (sumP u v (i + 1)) : Int)]) := fun w => by
        have h := ref2_Add (sumP u v i) (num8 (rowP u v i (8 - i) 0) (rowP u v i (8 - i) 1) (rowP u v i (8 - i) 2) (rowP u v i (8 - i) 3) (rowP u v i (8 - i) 4) (rowP u v i (8 - i) 5) (rowP u v i (8 - i) 6) (rowP u v i (8 - i) 7)) w
        rw [(add_congr rm).1, (add_congr rm).2] at h
        exact h
       have HNB := zh NB
       have HAB := zh AB
       clear NB AB rm
       have c0 : wr.cell? ⟨wo.heap.size, 0, none⟩ = some (.int .i64 (rowP u v i (8 - i) 0)) := BD.cell rfl
       have c1 : wr.cell? ⟨wo.heap.size, 1, none⟩ = some (.int .i64 (rowP u v i (8 - i) 1)) := BD.cell rfl
       have c2 : wr.cell? ⟨wo.heap.size, 2, none⟩ = some (.int .i64 (rowP u v i (8 - i) 2)) := BD.cell rfl
       have c3 : wr.cell? ⟨wo.heap.size, 3, none⟩ = some (.int .i64 (rowP u v i (8 - i) 3)) := BD.cell rfl
       have c4 : wr.cell? ⟨wo.heap.size, 4, none⟩ = some (.int .i64 (rowP u v i (8 - i) 4)) := BD.cell rfl
       have c5 : wr.cell? ⟨wo.heap.size, 5, none⟩ = some (.int .i64 (rowP u v i (8 - i) 5)) := BD.cell rfl
       have c6 : wr.cell? ⟨wo.heap.size, 6, none⟩ = some (.int .i64 (rowP u v i (8 - i) 6)) := BD.cell rfl
       have c7 : wr.cell? ⟨wo.heap.size, 7, none⟩ = some (.int .i64 (rowP u v i (8 - i) 7)) := BD.cell rfl
       have s0 : wr.cell? ⟨w.heap.size + 3, 0, none⟩ = some (.int .i64 (hii (sumP u v i))) := BS.cell rfl
       have s1 : wr.cell? ⟨w.heap.size + 3, 1, none⟩ = some (.int .u64 (lon (sumP u v i) : Int)) := BS.cell rfl
       have hw3 : w.heap.size + 3 < wr.heap.size := BS.lt
       have fs0 := BS.frozen 0
       have fs1 := BS.frozen 1
       have y2 : w.heap.size ≤ wr.heap.size := hB2.size
       clear BG BH BT BS BD
       go_wp2
       go_region_with (first
        | (go_at_call 135; refine (HNB.out _).mono ?_; rintro e wn ⟨rfl, hbn⟩; have HSn := zh (Bk.below (Bk.drew HS.out) hbn); have nn0 := HSn.out.cell (i := 0) rfl; have nn1 := HSn.out.cell (i := 1) rfl; have yn : Below w.heap.size w wn := Below.trans (by go_grown) (hbn.mono (by first | exact y2 | (simp; exact y2))))
        | (go_at_call 148; refine (HAB.out _).mono ?_; rintro e wk ⟨rfl, hbk⟩; have HSk := zh (Bk.below HSn.out hbk); have kk0 := HSk.out.cell (i := 0) rfl; have kk1 := HSk.out.cell (i := 1) rfl; have kf0 := HSk.out.frozen 0; have kf1 := HSk.out.frozen 1; have yk : Below w.heap.size w wk := Below.trans yn (hbk.mono yn.size)))
       all_goals
        go_wp2
        go_roundw
        case rel =>
         refine ⟨i + 1, by omega, by go_num, ?_, ?_, ?_, ?_, by go_grown⟩
         · exact Bk_other2 (Bk.below (Bk.below (Bk.drew HG.out) hbn) hbk) (by omega)
         · exact Bk_other2 (Bk.below (Bk.below (Bk.drew HH.out) hbn) hbk) (by omega)
         · exact Bk_other2 (Bk.below (Bk.below (Bk.drew HT.out) hbn) hbk) (by omega)
         · exact Bk_store2 HSk.out
        case measure => simp [intOf]; omega
  · obtain rfl : i = 8 := by omega
    obtain ⟨e1, e2⟩ := E8.out
    have s0 : wo.cell? ⟨w.heap.size + 3, 0, none⟩ = some (.int .i64 (hii (u * v))) := by rw [← e1]; exact BS.cell rfl
    have s1 : wo.cell? ⟨w.heap.size + 3, 1, none⟩ = some (.int .u64 (lon (u * v) : Int)) := by rw [← e2]; exact BS.cell rfl
    have kt0 : wo.cell? ⟨w.heap.size + 2, 0, none⟩ = some (.int .i64 0) := BT.cell rfl
    have kt1 : wo.cell? ⟨w.heap.size + 2, 1, none⟩ = some (.int .u64 0) := BT.cell rfl
    have ft0 := BT.frozen 0
    have ft1 := BT.frozen 1
    clear BG BH BT BS HG HH HT HS e1 e2
    go_wp2
    exact bodyPost_ret (v := .agg #[.int .i64 (hii (u * v)), .int .u64 (lon (u * v) : Int)]) (by simp [results, results136, go_sem, kt0, kt1]) rfl ⟨rfl, by go_grown⟩
theorem ref2_Mul (a b : Int) (w : World) (ha : I64 a) (hb : I64 b) :
  Rt prog 120 #[a, b] w (.agg #[.int .i64 (hii (a * b)), .int .u64 (lon (a * b) : Int)]) := by
 have O1 := zh (fun w => ref2_Of a w ha)
 have O2 := zh (fun w => ref2_Of b w hb)
 have D1 := zh (fun w => ref2_digits a w)
 have D2 := zh (fun w => ref2_digits b w)
 have TT := zh (fun w => ref2_times a b w)
 clear ha hb
 go_enter func120, ntmps120
 go_wp2_with (first
  | (go_at_call 137; ((with_reducible refine (O1.out _).mono ?_)); rintro e wa ⟨rfl, hba⟩; refine keep2fe (w := w) (g := w.heap.size) (u := .int .i64 0) (v := .int .u64 0) hba ?_ ?_ ?_ ?_ ?_ ?_ ?_; (focus go_grown); (focus (first | (with_reducible assumption) | (simp; done) | (simp; omega) | omega)); (focus (first | (with_reducible assumption) | (simp; done) | (simp [*, go_sem]; done))); (focus (first | (with_reducible assumption) | (simp; done) | (simp [*, go_sem]; done))); (focus (first | (with_reducible assumption) | (simp; done) | (simp [*, go_sem]; done))); (focus (first | (with_reducible assumption) | (simp; done) | (simp [*, go_sem]; done))); intro k0a k1a k2a y0a f0a f1a; clear hba)
  | (go_at_call 134; ((with_reducible refine (D1.out _).mono ?_)); rintro e wb ⟨rfl, hba⟩; refine keep2fe (w := w) (g := w.heap.size) (u := .int .i64 0) (v := .int .u64 0) hba ?_ ?_ ?_ ?_ ?_ ?_ ?_; (focus go_grown); (focus (first | (with_reducible assumption) | (simp; done) | (simp; omega) | omega)); (focus (first | (with_reducible assumption) | (simp; done) | (simp [*, go_sem]; done))); (focus (first | (with_reducible assumption) | (simp; done) | (simp [*, go_sem]; done))); (focus (first | (with_reducible assumption) | (simp; done) | (simp [*, go_sem]; done))); (focus (first | (with_reducible assumption) | (simp; done) | (simp [*, go_sem]; done))); intro k0b k1b k2b y0b f0b f1b; clear hba)
  | (go_at_call 137; ((with_reducible refine (O2.out _).mono ?_)); rintro e wc ⟨rfl, hba⟩; refine keep2fe (w := w) (g := w.heap.size) (u := .int .i64 0) (v := .int .u64 0) hba ?_ ?_ ?_ ?_ ?_ ?_ ?_; (focus go_grown); (focus (first | (with_reducible assumption) | (simp; done) | (simp; omega) | omega)); (focus (first | (with_reducible assumption) | (simp; done) | (simp [*, go_sem]; done))); (focus (first | (with_reducible assumption) | (simp; done) | (simp [*, go_sem]; done))); (focus (first | (with_reducible assumption) | (simp; done) | (simp [*, go_sem]; done))); (focus (first | (with_reducible assumption) | (simp; done) | (simp [*, go_sem]; done))); intro k0c k1c k2c y0c f0c f1c; clear hba)
  | (go_at_call 134; ((with_reducible refine (D2.out _).mono ?_)); rintro e wd ⟨rfl, hba⟩; refine keep2fe (w := w) (g := w.heap.size) (u := .int .i64 0) (v := .int .u64 0) hba ?_ ?_ ?_ ?_ ?_ ?_ ?_; (focus go_grown); (focus (first | (with_reducible assumption) | (simp; done) | (simp; omega) | omega)); (focus (first | (with_reducible assumption) | (simp; done) | (simp [*, go_sem]; done))); (focus (first | (with_reducible assumption) | (simp; done) | (simp [*, go_sem]; done))); (focus (first | (with_reducible assumption) | (simp; done) | (simp [*, go_sem]; done))); (focus (first | (with_reducible assumption) | (simp; done) | (simp [*, go_sem]; done))); intro k0d k1d k2d y0d f0d f1d; clear hba)
  | (go_at_call 136; refine (TT.out _).mono ?_; rintro e we ⟨rfl, hba⟩; refine keep2fe (w := w) (g := w.heap.size) (u := .int .i64 0) (v := .int .u64 0) hba ?_ ?_ ?_ ?_ ?_ ?_ ?_; (focus go_grown); (focus (first | (with_reducible assumption) | (simp; done) | (simp; omega) | omega)); (focus (first | (with_reducible assumption) | (simp; done) | (simp [*, go_sem]; done))); (focus (first | (with_reducible assumption) | (simp; done) | (simp [*, go_sem]; done))); (focus (first | (with_reducible assumption) | (simp; done) | (simp [*, go_sem]; done))); (focus (first | (with_reducible assumption) | (simp; done) | (simp [*, go_sem]; done))); intro k0e k1e k2e y0e f0e f1e; clear hba))
 exact bodyPost_ret (v := .agg #[.int .i64 (hii (a * b)), .int .u64 (lon (a * b) : Int)]) (by simp [results, results120, go_sem, k0e, k1e]) rfl ⟨rfl, by go_grown⟩
theorem ref2_square (n : Nat) (w : World) (hn : n < 18446744073709551616) :
  Rt prog 132 #[.int .u64 n] w (.agg #[.int .i64 (hii ((n : Int) * n)), .int .u64 (lon ((n : Int) * n) : Int)]) := by
 have DD := fun w => ref2_digits (n : Int) w
 rw [show hii (n : Int) = 0 by unfold hii; omega, show lon (n : Int) = n by unfold lon; omega] at DD
 have D1 := zh DD
 have TT := zh (fun w => ref2_times (n : Int) (n : Int) w)
 have R0 := z09 (n : Int) 0
 clear DD hn R0
 go_enter func132, ntmps132
 go_wp2_with (first
  | (go_at_call 134; ((with_reducible refine (D1.out _).mono ?_)); rintro e wb ⟨rfl, hba⟩; refine keep2fe (w := w) (g := w.heap.size) (u := .int .i64 0) (v := .int .u64 0) hba ?_ ?_ ?_ ?_ ?_ ?_ ?_; (focus go_grown); (focus (first | (with_reducible assumption) | (simp; done) | (simp; omega) | omega)); (focus (first | (with_reducible assumption) | (simp; done) | (simp [*, go_sem]; done))); (focus (first | (with_reducible assumption) | (simp; done) | (simp [*, go_sem]; done))); (focus (first | (with_reducible assumption) | (simp; done) | (simp [*, go_sem]; done))); (focus (first | (with_reducible assumption) | (simp; done) | (simp [*, go_sem]; done))); intro k0b k1b k2b y0b f0b f1b; clear hba)
  | (go_at_call 136; refine (TT.out _).mono ?_; rintro e we ⟨rfl, hba⟩; refine keep2fe (w := w) (g := w.heap.size) (u := .int .i64 0) (v := .int .u64 0) hba ?_ ?_ ?_ ?_ ?_ ?_ ?_; (focus go_grown); (focus (first | (with_reducible assumption) | (simp; done) | (simp; omega) | omega)); (focus (first | (with_reducible assumption) | (simp; done) | (simp [*, go_sem]; done))); (focus (first | (with_reducible assumption) | (simp; done) | (simp [*, go_sem]; done))); (focus (first | (with_reducible assumption) | (simp; done) | (simp [*, go_sem]; done))); (focus (first | (with_reducible assumption) | (simp; done) | (simp [*, go_sem]; done))); intro k0e k1e k2e y0e f0e f1e; clear hba))
 exact bodyPost_ret (v := .agg #[.int .i64 (hii ((n : Int) * n)), .int .u64 (lon ((n : Int) * n) : Int)]) (by simp [results, results132, go_sem, k0e, k1e]) rfl ⟨rfl, by go_grown⟩
end
end
section
section
open Go.RowKit Go.Proofs.Sky
attribute [local go_sem ↓] Go.wp_at_zero Go.wp_at_succ
theorem cmp_le_yes {x y : Int} (h : x ≤ y) : decide (cmpI x y ≤ 0) = true := zt (by unfold cmpI; (repeat' split) <;> omega)
theorem cmp_le_no {x y : Int} (h : y < x) : decide (cmpI x y ≤ 0) = false := zf (by unfold cmpI; rw [if_neg (by omega), if_pos h]; omega)
theorem hii_big {S : Nat} (h : 170141183460469231731687303715884105728 ≤ S) (h2 : S ≤ 340282366920938463426481119284349108225) : hii (S : Int) < 0 := by unfold hii; omega
theorem sq_le {c : Nat} (h : c < 18446744073709551616) : c * c ≤ 340282366920938463426481119284349108225 := by
 have := Nat.mul_le_mul (show c ≤ 18446744073709551615 by omega) (show c ≤ 18446744073709551615 by omega)
 exact this
theorem ref2_Root_neg (x : Int) (w : World) (hx : W128 x) (h0 : x < 0) :
  Rt prog 118 #[.agg #[.int .i64 (hii x), .int .u64 (lon x : Int)]] w (.tuple #[.int .u64 0, .bool false]) := by
 have n0 : hii x < 0 := by unfold W128 at hx; unfold hii; omega
 generalize hii x = x1 at *
 generalize lon x = x2 at *
 go_enter func118, ntmps118
 go_wp2
 go_ret2
 exact ⟨rfl, by go_grown⟩
theorem ref2_Root_pos (x : Int) (w : World) (hx : W128 x) (h0 : 0 ≤ x) :
  Rt prog 118 #[.agg #[.int .i64 (hii x), .int .u64 (lon x : Int)]] w (.tuple #[.int .u64 (isq x.toNat : Int), .bool true]) := by
 have n0 : ¬ hii x < 0 := by unfold W128 at hx; unfold hii; omega
 obtain ⟨n, rfl⟩ := Int.eq_ofNat_of_zero_le h0
 rw [Int.toNat_natCast]
 have hn : n < 170141183460469231731687303715884105728 := by unfold W128 at hx; omega
 have ST := zh (show RootW n 64 0 (2 ^ 64 / 2) from ⟨rfl, Nat.dvd_zero _, Nat.zero_le _, by rw [Nat.zero_add]; omega, by omega⟩)
 have SQ := zh (fun (c : Nat) w (h : c < 18446744073709551616) => ref2_square c w h)
 have CM := zh (fun (c : Int) w (h : W128 c) => ref2_Cmp c (n : Int) w h hx)
 have HN := zh hn
 clear hx h0 hn
 generalize hii (n : Int) = x1 at *
 generalize lon (n : Int) = x2 at *
 go_enter func118, ntmps118
 go_wp2
 go_loopw [4, 5] (fun u v wr => ∃ m r : Nat, m ≤ 64 ∧ RootW n m r (2 ^ m / 2) ∧ u = .int .u64 r ∧ v = .int .i64 ((m : Int) - 1) ∧ wr.cell? ⟨w.heap.size, 0, none⟩ = some (.int .i64 x1) ∧ wr.cell? ⟨w.heap.size, 1, none⟩ = some (.int .u64 (x2 : Int)) ∧
   w.heap.size < wr.heap.size ∧ Below w.heap.size w wr) (fun _ v _ => (intOf v + 1).toNat)
 case atStart => exact ⟨64, 0, by omega, ST.out, rfl, rfl, by simp, by simp, by simp, by go_grown⟩
 case round =>
  obtain ⟨m, r, hm, hi, rfl, rfl, k0, k1, k2, hB⟩ := hrel
  match m, hm, hi with
  | 0, _, hi =>
   have E := zh hi.done
   clear hi
   go_wp2
   go_ret2
   exact ⟨by rw [E.out]; rfl, by go_grown⟩
  | k + 1, hm, hi =>
   have e0 : (2 : Nat) ^ (k + 1) / 2 = 2 ^ k := by rw [Nat.pow_succ]; omega
   rw [e0] at hi
   obtain ⟨k', hk', _, ho, hlt⟩ := hi.split (Nat.two_pow_pos k)
   have eb : ((((k + 1 : Nat) : Int)) - 1) = (k : Int) := by omega
   rw [eb]
   obtain ⟨b, hb⟩ := nmd (2 ^ k)
   rw [← hb] at hi hlt
   have p1 : IntKind.u64.wrap ((2 : Int) ^ k) = (b : Int) := by
    have : ((2 : Int) ^ k) = ((2 ^ k : Nat) : Int) := by rw [Int.natCast_pow]; rfl
    rw [this, ← hb, u64w]; omega
   obtain ⟨c, hc⟩ := nmd (r + b)
   rw [← hc] at hlt
   have p2 : (r : Int) + (b : Int) = (c : Int) := by omega
   have p3 : IntKind.u64.wrap (c : Int) = (c : Int) := by rw [u64w]; omega
   have S1 := zh (fun w => SQ.out c w hlt)
   have HB := zh hb
   have HC := zh hc
   have HI := zh hi
   have hcc : (c : Int) * (c : Int) = ((c * c : Nat) : Int) := by rw [Int.natCast_mul]
   have hsq := sq_le hlt
   have NO := zh (fun (h : n < c * c) => show RootW n k r (2 ^ k / 2) by have := HI.out.no HB.out (by rw [← HC.out]; exact h); rwa [HB.out] at this)
   have YES := zh (fun (h : c * c ≤ n) => show RootW n k c (2 ^ k / 2) by have := HI.out.yes HB.out (by rw [← HC.out]; exact h); rw [← HC.out] at this; rwa [HB.out] at this)
   by_cases hA : c * c < 170141183460469231731687303715884105728
   · have hh : 0 ≤ hii ((c : Int) * (c : Int)) := by rw [hcc]; unfold hii; omega
     have C1 := zh (fun w => CM.out ((c : Int) * (c : Int)) w (by rw [hcc]; unfold W128; omega))
     by_cases hY : c * c ≤ n
     · have hcm := cmp_le_yes (x := (c : Int) * (c : Int)) (y := (n : Int)) (by rw [hcc]; omega)
       have HY := zh hY
       generalize cmpI ((c : Int) * (c : Int)) (n : Int) = cc at *
       generalize hii ((c : Int) * (c : Int)) = s1 at *
       generalize lon ((c : Int) * (c : Int)) = s2 at *
       clear e0 eb hk' ho hlt hb hc hi hcc hsq hA hY
       go_wp2_with (first
        | (go_at_call 132; ((with_reducible refine (S1.out _).mono ?_)); rintro e wb ⟨rfl, hbb⟩; refine keep2e (w := w) (g := w.heap.size) (u := .int .i64 x1) (v := .int .u64 (x2 : Int)) hbb ?_ ?_ ?_ ?_ ?_; (focus go_grown); (focus (first | (with_reducible assumption) | (simp; done) | (simp; omega) | omega)); (focus (first | (with_reducible assumption) | (simp; done) | (simp [*, go_sem]; done))); (focus (first | (with_reducible assumption) | (simp; done) | (simp [*, go_sem]; done))); intro k0b k1b k2b y0b; clear hbb)
        | (go_at_call 133; ((with_reducible refine (C1.out _).mono ?_)); rintro e wc ⟨rfl, hbc⟩; refine keep2e (w := w) (g := w.heap.size) (u := .int .i64 x1) (v := .int .u64 (x2 : Int)) hbc ?_ ?_ ?_ ?_ ?_; (focus go_grown); (focus (first | (with_reducible assumption) | (simp; done) | (simp; omega) | omega)); (focus (first | (with_reducible assumption) | (simp; done) | (simp [*, go_sem]; done))); (focus (first | (with_reducible assumption) | (simp; done) | (simp [*, go_sem]; done))); intro k0c k1c k2c y0c; clear hbc))
       go_roundw
       case rel => exact ⟨k, c, by omega, YES.out HY.out, by go_num, by go_num, by simp [*, go_sem], by simp [*, go_sem], by first | assumption | (simp; omega) | omega, by go_grown⟩
       case measure => simp [intOf]
     · have hcm := cmp_le_no (x := (c : Int) * (c : Int)) (y := (n : Int)) (by rw [hcc]; omega)
       have HY := zh (show n < c * c by omega)
       generalize cmpI ((c : Int) * (c : Int)) (n : Int) = cc at *
       generalize hii ((c : Int) * (c : Int)) = s1 at *
       generalize lon ((c : Int) * (c : Int)) = s2 at *
       clear e0 eb hk' ho hlt hb hc hi hcc hsq hA hY
       go_wp2_with (first
        | (go_at_call 132; ((with_reducible refine (S1.out _).mono ?_)); rintro e wb ⟨rfl, hbb⟩; refine keep2e (w := w) (g := w.heap.size) (u := .int .i64 x1) (v := .int .u64 (x2 : Int)) hbb ?_ ?_ ?_ ?_ ?_; (focus go_grown); (focus (first | (with_reducible assumption) | (simp; done) | (simp; omega) | omega)); (focus (first | (with_reducible assumption) | (simp; done) | (simp [*, go_sem]; done))); (focus (first | (with_reducible assumption) | (simp; done) | (simp [*, go_sem]; done))); intro k0b k1b k2b y0b; clear hbb)
        | (go_at_call 133; ((with_reducible refine (C1.out _).mono ?_)); rintro e wc ⟨rfl, hbc⟩; refine keep2e (w := w) (g := w.heap.size) (u := .int .i64 x1) (v := .int .u64 (x2 : Int)) hbc ?_ ?_ ?_ ?_ ?_; (focus go_grown); (focus (first | (with_reducible assumption) | (simp; done) | (simp; omega) | omega)); (focus (first | (with_reducible assumption) | (simp; done) | (simp [*, go_sem]; done))); (focus (first | (with_reducible assumption) | (simp; done) | (simp [*, go_sem]; done))); intro k0c k1c k2c y0c; clear hbc))
       go_roundw
       case rel => exact ⟨k, r, by omega, NO.out HY.out, rfl, by go_num, by simp [*, go_sem], by simp [*, go_sem], by first | assumption | (simp; omega) | omega, by go_grown⟩
       case measure => simp [intOf]
   · have hh : hii ((c : Int) * (c : Int)) < 0 := by rw [hcc]; exact hii_big (Nat.not_lt.1 hA) hsq
     have HY := zh (show n < c * c from zl HN.out (Nat.not_lt.1 hA))
     generalize hii ((c : Int) * (c : Int)) = s1 at *
     generalize lon ((c : Int) * (c : Int)) = s2 at *
     have hhb : decide (0 ≤ s1) = false := zf (by omega)
     clear e0 eb hk' ho hlt hb hc hi hcc hsq hA hh
     go_wp2_with ((go_at_call 132; ((with_reducible refine (S1.out _).mono ?_)); rintro e wb ⟨rfl, hbb⟩; refine keep2e (w := w) (g := w.heap.size) (u := .int .i64 x1) (v := .int .u64 (x2 : Int)) hbb ?_ ?_ ?_ ?_ ?_; (focus go_grown); (focus (first | (with_reducible assumption) | (simp; done) | (simp; omega) | omega)); (focus (first | (with_reducible assumption) | (simp; done) | (simp [*, go_sem]; done))); (focus (first | (with_reducible assumption) | (simp; done) | (simp [*, go_sem]; done))); intro k0b k1b k2b y0b; clear hbb))
     go_roundw
     case rel => exact ⟨k, r, by omega, NO.out HY.out, rfl, by go_num, by simp [*, go_sem], by simp [*, go_sem], by first | assumption | (simp; omega) | omega, by go_grown⟩
     case measure => simp [intOf]
theorem ref2_Root (x : Int) (w : World) (hx : W128 x) :
  Rt prog 118 #[.agg #[.int .i64 (hii x), .int .u64 (lon x : Int)]] w (.tuple #[.int .u64 (if x < 0 then 0 else isq x.toNat : Nat), .bool (decide (0 ≤ x))]) := by
 by_cases h0 : x < 0
 · rw [if_pos h0, zf (by omega)]; exact ref2_Root_neg x w hx h0
 · rw [if_neg h0, zt (by omega)]; exact ref2_Root_pos x w hx (by omega)
end
end
end Go.Proofs.YtbmpmjdlaahekaaGreat
