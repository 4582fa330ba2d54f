/- Contracts of the document's own answers of layer 2 (skylightref02), over the same plain mathematics. -/
import Derived.Test.YtppejnfiphkmnaaRoot01
import Derived.Test.YtppejnfiphkmnaaMem02
import Derived.Handy
import Derived.Deep.RegionHeld3
import Derived.Deep.QuietTactic
import Derived.BigQuiet
import Derived.Deep.Draws
import Derived.Deep.DrawnRows
import Derived.Deep.DeepCutAuto
namespace Go.Proofs.Ytppejnfiphkmnaa
open Go.RowKit Go.Proofs.Sky
set_option linter.unusedVariables false
attribute [local go_sem ↓] Go.wp_at_zero Go.wp_at_succ

theorem ref2_Of (n : Int) (w : World) (hn : I64 n) :
    Calls Try.prog 48 #[.int .i64 n] w fun e w' => e = .returned (.agg #[.int .i64 (hii n), .int .u64 (lon n : Int)]) ∧ Below w.heap.size w w' := by
  have hl : IntKind.u64.wrap n = (lon n : Int) := by rw [u64w]; unfold lon; omega
  obtain ⟨n0, n1⟩ := hn
  by_cases h : n < 0
  · have hh : hii n = -1 := by unfold hii; omega
    rw [hh]
    generalize lon n = l at *
    clear hh
    go_enter Try.func48, Try.ntmps48
    go_wp2
    go_returns
    exact ⟨rfl, by go_grown⟩
  · have hh : hii n = 0 := by unfold hii; omega
    have hl' : n = (lon n : Int) := by unfold lon; omega
    rw [hh]
    generalize lon n = l at *
    obtain rfl := hl'
    clear hh hl
    go_enter Try.func48, Try.ntmps48
    go_wp2
    go_returns
    exact ⟨rfl, by go_grown⟩

theorem ref2_digits (x : Int) (w : World) :
    Calls Try.prog 35 #[.agg #[.int .i64 (hii x), .int .u64 (lon x : Int)]] w fun e w' =>
      e = .returned (.agg #[.int .i64 (dg x 0), .int .i64 (dg x 1), .int .i64 (dg x 2), .int .i64 (dg x 3), .int .i64 (dg x 4), .int .i64 (dg x 5), .int .i64 (dg x 6), .int .i64 (dg x 7)]) ∧ Below w.heap.size w w' := by
  have e := (hin_hii x).symm
  have l1 := lon_lt x
  have l2 := hin_lt x
  have E := Lib.hid (show (lon x : Int) = x % 18446744073709551616 ∧ (hin x : Int) = x / 18446744073709551616 % 18446744073709551616 by unfold lon hin; omega)
  generalize hii x = h at *
  generalize lon x = l at *
  generalize hin x = g at *
  have l1' : (l : Int) ≤ 18446744073709551615 := by omega
  have l2' : (g : Int) ≤ 18446744073709551615 := by omega
  clear l1 l2
  go_enter Try.func35, Try.ntmps35
  go_wp2
  go_quiet (fail)
  go_wp2
  go_rounds 5
  go_returns
  obtain ⟨E1, E2⟩ := E.out
  refine ⟨?_, by go_grown; exact below_drewN (by go_grown) _⟩
  rw [dg0, dg1, dg2, dg3, dg4, dg5, dg6, dg7,
    show (l : Int) % 65536 = x % 65536 by omega, show (l : Int) / 65536 % 65536 = x / 65536 % 65536 by omega,
    show (l : Int) / 65536 / 65536 % 65536 = x / 4294967296 % 65536 by omega, show (l : Int) / 65536 / 65536 / 65536 % 65536 = x / 281474976710656 % 65536 by omega,
    show (g : Int) % 65536 = x / 18446744073709551616 % 65536 by omega, show (g : Int) / 65536 % 65536 = x / 1208925819614629174706176 % 65536 by omega,
    show (g : Int) / 65536 / 65536 % 65536 = x / 79228162514264337593543950336 % 65536 by omega, show (g : Int) / 65536 / 65536 / 65536 % 65536 = x / 5192296858534827628530496329220096 % 65536 by omega]

set_option maxHeartbeats 4000000 in
theorem ref2_number (d0 d1 d2 d3 d4 d5 d6 d7 : Int) (w : World) (h0 : 0 ≤ d0 ∧ d0 ≤ 4611615649683210240) (h1 : 0 ≤ d1 ∧ d1 ≤ 4611615649683210240) (h2 : 0 ≤ d2 ∧ d2 ≤ 4611615649683210240) (h3 : 0 ≤ d3 ∧ d3 ≤ 4611615649683210240) (h4 : 0 ≤ d4 ∧ d4 ≤ 4611615649683210240) (h5 : 0 ≤ d5 ∧ d5 ≤ 4611615649683210240) (h6 : 0 ≤ d6 ∧ d6 ≤ 4611615649683210240) (h7 : 0 ≤ d7 ∧ d7 ≤ 4611615649683210240) :
    Calls Try.prog 46 #[.agg #[.int .i64 d0, .int .i64 d1, .int .i64 d2, .int .i64 d3, .int .i64 d4, .int .i64 d5, .int .i64 d6, .int .i64 d7]] w fun e w' =>
      e = .returned (.agg #[.int .i64 (hii (num8 d0 d1 d2 d3 d4 d5 d6 d7)), .int .u64 (lon (num8 d0 d1 d2 d3 d4 d5 d6 d7) : Int)]) ∧ Below w.heap.size w w' := by
  obtain ⟨n1, n2, n3, n4, n5, n6, n7, m0, m1, m2, m3, m4, m5, m6, m7, c0, c1, c2, c3, c4, c5, c6, c7, L, H, N⟩ := Num8.make d0 d1 d2 d3 d4 d5 d6 d7 h0 h1 h2 h3 h4 h5 h6 h7
  obtain ⟨t0, q0, u0, z0, b0, y0, x0, w0, v0, s1, t1, q1, u1, z1, b1, y1, x1, w1, v1, s2, t2, q2, u2, z2, b2, y2, x2, w2, v2, s3, t3, q3, u3, z3, b3, y3, x3, w3, v3, s4, t4, q4, u4, z4, b4, y4, x4, w4, v4, s5, t5, q5, u5, z5, b5, y5, x5, w5, v5, s6, t6, q6, u6, z6, b6, y6, x6, w6, v6, s7, t7, q7, u7, z7, b7, y7, x7, w7, v7, eL, eH, lL, lH⟩ := N
  rw [lL, lH]
  have k0 : IntKind.i64.wrap 0 = 0 := by decide
  have k4 : IntKind.i64.wrap 1 = 1 := by decide
  have k1 : IntKind.i64.wrap 16 = 16 := by decide
  have k2 : IntKind.i64.wrap 32 = 32 := by decide
  have k3 : IntKind.i64.wrap 48 = 48 := by decide
  have EL := Lib.hid eL
  have EH := Lib.hid eH
  clear lL lH eL eH
  go_enter Try.func46, Try.ntmps46
  go_wp2
  refine wp_loop_rounds 9 ?_
  rw [rounds_succ]; go_wp2
  go_region_with (fail)
  go_wp2
  rw [rounds_succ]; go_wp2
  go_region_with (fail)
  go_wp2
  rw [rounds_succ]; go_wp2
  go_region_with (fail)
  go_wp2
  rw [rounds_succ]; go_wp2
  go_region_with (fail)
  go_wp2
  rw [rounds_succ]; go_wp2
  go_region_with (fail)
  go_wp2
  rw [rounds_succ]; go_wp2
  go_region_with (fail)
  go_wp2
  rw [rounds_succ]; go_wp2
  go_region_with (fail)
  go_wp2
  rw [rounds_succ]; go_wp2
  go_region_with (fail)
  go_wp2
  rw [rounds_succ]; go_wp2
  go_returns
  refine ⟨?_, by go_grown⟩
  rw [EL.out, EH.out, i64w, wrap64]

end Go.Proofs.Ytppejnfiphkmnaa
