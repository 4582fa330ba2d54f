/- Contracts of package vec: the closures, product, Near, normalize. -/
import Derived.Test.YtnidgokmndnenaaVecl06
import Derived.Test.YtnidgokmndnenaaRefb06
namespace Go.Proofs.Ytnidgokmndnenaa
open Go.RowKit Go.Shelf Go.Shelf Go.Proofs.Sky
set_option linter.unusedVariables false

theorem vec_double (n : Int) (w : World) (hn : -4611686018427387904 ≤ n ∧ n ≤ 4611686018427387903) :
    Calls Try.prog 83 #[.int .i64 n] w fun e w' => e = .returned (.int .i64 (2 * n)) ∧ Below w.heap.size w w' := by
  have e1 : wrap64 (n * 2) = 2 * n := by unfold wrap64; omega
  clear hn
  go_enter Try.func83, Try.ntmps83
  go_wp2
  go_ret
  exact ⟨ret_int (by simp only [e1]), Below.refl _ _⟩

theorem vec_halve (n : Int) (w : World) (hn : I64 n) :
    Calls Try.prog 84 #[.int .i64 n] w fun e w' => e = .returned (.int .i64 (n.tdiv 2)) ∧ Below w.heap.size w w' := by
  have e1 : wrap64 (n.tdiv 2) = n.tdiv 2 := IntWalk.wrap64_in _ (by unfold I64 at hn; have t : (n.tdiv 2).natAbs = n.natAbs / 2 := Int.natAbs_tdiv n 2; omega)
  clear hn
  go_enter Try.func84, Try.ntmps84
  go_wp2
  go_ret
  exact ⟨ret_int (by first | rfl | simp only [e1]), Below.refl _ _⟩

theorem vec_turned (n : Int) (w : World) (hn : I64 n) :
    Calls Try.prog 58 #[.int .i64 n] w fun e w' => e = .returned (.int .i64 (sat (n * -1))) ∧ Below w.heap.size w w' := by
  have K := Lib.hid (fun w => num_Times n (-1) w hn (by unfold I64; omega))
  generalize sat (n * -1) = r at *
  clear hn
  go_enter Try.func58, Try.ntmps58
  go_wp2_with (go_at_call 59; (with_reducible refine (K.out _).mono ?_); rintro e w' ⟨rfl, rfl⟩)
  go_ret
  exact ⟨rfl, Below.refl _ _⟩

theorem vec_times (m n p : Int) (w : World) (h : wrap64 (m * n) = p) :
    Calls Try.prog 90 #[.int .i64 m, .int .i64 n] w fun e w' => e = .returned (.int .i64 p) ∧ Below w.heap.size w w' := by
  go_enter Try.func90, Try.ntmps90
  go_wp2
  go_ret
  exact ⟨ret_int (by first | rfl | simp only [h]), Below.refl _ _⟩

theorem vec_parted (n L r : Int) (g0 : Nat) (w : World) (hc : w.cell? ⟨g0, 0, none⟩ = some (.int .i64 L)) (hn : -1048576 ≤ n ∧ n ≤ 1048576) (hL : 1 ≤ L ∧ L ≤ 9223372036854775807) (hr : (n * 16384).tdiv L = r) :
    Calls Try.prog 52 #[.int .i64 n, .pointer (some ⟨g0, 0, none⟩)] w fun e w' => e = .returned (.int .i64 r) ∧ Below w.heap.size w w' := by
  have e1 : wrap64 (n * 16384) = n * 16384 := by unfold wrap64; omega
  have e2 : wrap64 r = r := IntWalk.wrap64_in _ (by have t : ((n * 16384).tdiv L).natAbs = (n * 16384).natAbs / L.natAbs := Int.natAbs_tdiv _ _; rw [hr] at t; have u := Nat.div_le_self (n * 16384).natAbs L.natAbs; rw [← t] at u; omega)
  obtain ⟨k, hk⟩ : ∃ k, k = n * 16384 := ⟨_, rfl⟩
  rw [← hk] at e1 hr
  have e3 : n * 16384 = k := hk.symm
  have l0 : ¬ L = 0 := by omega
  have l1 : ¬ L = -1 := by omega
  clear hk hn hL
  go_enter Try.func52, Try.ntmps52
  go_wp2
  go_ret
  exact ⟨ret_int (by first | rfl | simp only [e2]), Below.refl _ _⟩

theorem vec_taken (v n d : Int) (g0 : Nat) (w : World) (hc : w.cell? ⟨g0, 0, none⟩ = some (.int .i64 n)) (hd : w.cell? ⟨g0, 1, none⟩ = some (.int .i64 d)) (h1 : I64 v) (h2 : I64 n) (h3 : I64 d) :
    Calls Try.prog 78 #[.int .i64 v, .pointer (some ⟨g0, 0, none⟩)] w fun e w' => e = .returned (.int .i64 (fat v n d)) ∧ Below w.heap.size w w' := by
  have K := Lib.hid (fun w => frac_At v n d w h1 h2 h3)
  generalize fat v n d = r at *
  clear h1 h2 h3
  go_enter Try.func78, Try.ntmps78
  go_wp2_with (go_at_call 79; (with_reducible refine (K.out _).mono ?_); rintro e w' ⟨rfl, hb⟩)
  go_ret
  exact ⟨rfl, hb⟩

/-- A sum of three products that do not go round. -/
theorem vec_product (x y z a b c d1 d2 d3 : Int) (w : World) (h1 : d1 = x * a) (h2 : d2 = y * b) (h3 : d3 = z * c)
    (b1 : -2305843009213693952 ≤ d1 ∧ d1 ≤ 2305843009213693952) (b2 : -2305843009213693952 ≤ d2 ∧ d2 ≤ 2305843009213693952) (b3 : -2305843009213693952 ≤ d3 ∧ d3 ≤ 2305843009213693952) :
    Calls Try.prog 61 #[.agg #[.int .i64 x, .int .i64 y, .int .i64 z], .agg #[.int .i64 a, .int .i64 b, .int .i64 c]] w fun e w' => e = .returned (.int .i64 (d1 + d2 + d3)) ∧ Below w.heap.size w w' := by
  have K := Lib.hid (fun w => vec_pair 90 #[] x y z a b c d1 d2 d3 w (enters_of Try.func90 (by kernel_rfl) rfl)
    (fun w' _ => by simpa using vec_times x a d1 w' (by rw [← h1]; exact IntWalk.wrap64_in _ (by omega)))
    (fun w' _ => by simpa using vec_times y b d2 w' (by rw [← h2]; exact IntWalk.wrap64_in _ (by omega)))
    (fun w' _ => by simpa using vec_times z c d3 w' (by rw [← h3]; exact IntWalk.wrap64_in _ (by omega))))
  obtain ⟨s, hs⟩ : ∃ s, s = d1 + d2 := ⟨_, rfl⟩
  obtain ⟨t, ht⟩ : ∃ t, t = s + d3 := ⟨_, rfl⟩
  have w4 : wrap64 s = s := IntWalk.wrap64_in _ (by omega)
  have w5 : wrap64 t = t := IntWalk.wrap64_in _ (by omega)
  have e4 : d1 + d2 = s := hs.symm
  have e5 : s + d3 = t := ht.symm
  rw [e4, e5]
  clear hs ht h1 h2 h3 b1 b2 b3
  go_enter Try.func61, Try.ntmps61
  go_upto_region 1 with (fail)
  obtain ⟨W1, hW1⟩ : ∃ W, W = (w.alloc (.cells #[.int .i64 x, .int .i64 y, .int .i64 z] 23)).alloc (.cells #[.int .i64 a, .int .i64 b, .int .i64 c] 23) := ⟨_, rfl⟩
  obtain ⟨k_v, k_u, B1⟩ := st2 hW1
  rw [← hW1]
  clear hW1
  have l_u : w.heap.size < w.heap.size + 1 := by omega
  generalize w.heap.size + 1 = g_u at *
  obtain ⟨c_v_0, c_v_1, c_v_2⟩ := bwc3 (k_v)
  obtain ⟨c_u_0, c_u_1, c_u_2⟩ := bwc3 (k_u)
  obtain ⟨p1, hp1⟩ : ∃ p : BW W1, p.w = W1 := ⟨BW.start W1, rfl⟩
  rw [← hp1]
  clear hp1
  go_upto_region 2 with (first
    | (go_at_call 76; (first | (with_reducible refine (bw_call K.out _).mono ?_)); rintro e w' ⟨rfl, q, rfl⟩))
  obtain ⟨W2, hW2⟩ : ∃ W, W = q.w.alloc (.cells #[.int .i64 d1, .int .i64 d2, .int .i64 d3] 23) := ⟨_, rfl⟩
  have B2 : Below w.heap.size w W2 := by rw [hW2]; exact (bw_below B1 q).alloc (bw_below B1 q).size _
  have l_l : g_u < q.w.heap.size := (k_u.below q.h).lt
  have o_l : w.heap.size ≤ q.w.heap.size := (bw_below B1 q).size
  have k_v := bka hW2 (k_v.below q.h)
  have k_u := bka hW2 (k_u.below q.h)
  have k_l := bkn hW2
  rw [← hW2]
  clear hW2
  clear B1
  clear c_v_0 c_v_1 c_v_2 c_u_0 c_u_1 c_u_2
  generalize q.w.heap.size = g_l at *
  obtain ⟨c_v_0, c_v_1, c_v_2⟩ := bwc3 (k_v)
  obtain ⟨c_u_0, c_u_1, c_u_2⟩ := bwc3 (k_u)
  obtain ⟨c_l_0, c_l_1, c_l_2⟩ := bwc3 (k_l)
  obtain ⟨p2, hp2⟩ : ∃ p : BW W2, p.w = W2 := ⟨BW.start W2, rfl⟩
  rw [← hp2]
  clear hp2
  go_wp2
  go_ret
  exact ⟨ret_int (by first | rfl | simp only [w5]), bw_below B2 p2⟩

theorem vec_Near (x y z : Int) (w : World) :
    Calls Try.prog 60 #[.agg #[.int .i64 x, .int .i64 y, .int .i64 z]] w fun r w' => r = .returned (.bool (vnear x y z)) ∧ Below w.heap.size w w' := by
  have K := Lib.hid (fun w => vec_within 1048576 x y z w (by omega))
  unfold vnear
  generalize wi 1048576 x y z = r at *
  have hb0 : Below w.heap.size w (w.alloc (.cells #[.int .i64 x, .int .i64 y, .int .i64 z] 23)) := by go_grown
  go_enter Try.func60, Try.ntmps60
  go_wp2_with (go_at_call 48; (with_reducible refine (K.out _).mono ?_); rintro e w1 ⟨rfl, hb⟩)
  go_ret
  exact ⟨rfl, hb0.trans (hb.mono hb0.size)⟩

set_option maxRecDepth 100000 in
theorem vec_normalize (x y z : Int) (w : World) (h : Evb x y z) :
    Calls Try.prog 49 #[.agg #[.int .i64 x, .int .i64 y, .int .i64 z]] w fun e w' => e = .returned (.agg #[.int .i64 (evn x y z).1, .int .i64 (evn x y z).2.1, .int .i64 (evn x y z).2.2]) ∧ Below w.heap.size w w' := by
  obtain ⟨E, hE⟩ : ∃ E, E = evn x y z := ⟨_, rfl⟩
  rw [← hE]
  obtain ⟨D, hD⟩ : ∃ D, D = dbl x y z := ⟨_, rfl⟩
  have hED : E = halN 44 D.1 D.2.1 D.2.2 := by rw [hE, hD]; rfl
  go_enter Try.func49, Try.ntmps49
  go_wp2
  have hs : Box3 w ((w.alloc (.cells #[.int .i64 x, .int .i64 y, .int .i64 z] 23)).alloc (.cells #[.int .i64 0, .int .i64 0, .int .i64 0] 23)) w.heap.size (w.heap.size + 1) 23 x y z :=
    ⟨((Below.refl _ _).alloc (Nat.le_refl _) _).alloc (by simp) _, (Bk.new w _ _).alloc _, Bk.new_at _ _ _ _ (by simp)⟩
  go_loopw [] (fun wr => ∃ k : Nat, ∃ x y z : Int, k ≤ 19 ∧ DblK (19 - k) x y z ∧ wi 4611686018427387904 x y z = true ∧ D = dblN (k + 1) x y z ∧ Box3 w wr w.heap.size (w.heap.size + 1) 23 x y z) (fun wr => 4194304 - sum3 wr w.heap.size)
  case atStart =>
    refine ⟨19, x, y, z, by omega, ?_, h.1, hD, hs⟩
    have := h.2
    rw [wi_no] at this
    unfold DblK
    simp
    omega
  case round =>
    clear hs h hE hD
    obtain ⟨k, x, y, z, hk, hd, hI, hD, hs⟩ := hrel
    have z1 : w.heap.size < w.heap.size + 1 := by omega
    have K1 := Lib.hid (fun w => vec_within 524287 x y z w (by omega))
    obtain ⟨c0, c1, c2⟩ := bw_bk3 hs.b0
    obtain ⟨p0, hp0⟩ : ∃ p0 : BW wr, p0.w = wr := ⟨BW.start wr, rfl⟩
    rw [← hp0]
    clear hp0
    have f0 : ∀ p : BW wr, p.w.frozen? ⟨w.heap.size, 0, none⟩ = false := fun p => (hs.b0.below p.h).frozen 0
    have f1 : ∀ p : BW wr, p.w.frozen? ⟨w.heap.size, 1, none⟩ = false := fun p => (hs.b0.below p.h).frozen 1
    have f2 : ∀ p : BW wr, p.w.frozen? ⟨w.heap.size, 2, none⟩ = false := fun p => (hs.b0.below p.h).frozen 2
    by_cases hw : wi 524287 x y z = true
    · rw [hw] at K1
      have HS := Lib.hid hs
      have HW := Lib.hid hw
      have HD := Lib.hid hD
      have HK := Lib.hid hd
      rw [wi_iff] at hw
      have K2 := Lib.hid (fun w => vec_each 83 #[] x y z (2 * x) (2 * y) (2 * z) w (enters_of Try.func83 (by kernel_rfl) rfl)
        (fun w' _ => by simpa using vec_double x w' (by omega)) (fun w' _ => by simpa using vec_double y w' (by omega)) (fun w' _ => by simpa using vec_double z w' (by omega)))
      obtain ⟨x', hx'⟩ : ∃ x', x' = 2 * x := ⟨_, rfl⟩
      obtain ⟨y', hy'⟩ : ∃ y', y' = 2 * y := ⟨_, rfl⟩
      obtain ⟨z', hz'⟩ : ∃ z', z' = 2 * z := ⟨_, rfl⟩
      rw [← hx', ← hy', ← hz'] at K2
      have HX : Hid (x' = 2 * x ∧ y' = 2 * y ∧ z' = 2 * z) := Lib.hid ⟨hx', hy', hz'⟩
      clear hx' hy' hz' hw hs hD hd hI
      go_wp2_with (first
        | (go_at_call 48; (with_reducible refine (bw_call K1.out _).mono ?_); rintro e w' ⟨rfl, q, rfl⟩)
        | (go_at_call 51; (with_reducible refine (bw_call K2.out _).mono ?_); rintro e w' ⟨rfl, q, rfl⟩))
      go_roundw
      case rel =>
        obtain ⟨rfl, rfl, rfl⟩ := HX.out
        have hw := wi_iff.1 HW.out
        have hd := HK.out
        have hk1 : 1 ≤ k := by
          rcases Nat.eq_zero_or_pos k with rfl | hk
          · unfold DblK at hd; have : (2 : Nat) ^ (19 - 0) = 524288 := rfl; omega
          · exact hk
        obtain ⟨j, rfl⟩ : ∃ j, k = j + 1 := ⟨k - 1, by omega⟩
        refine ⟨j, 2 * x, 2 * y, 2 * z, by omega, ?_, ?_, ?_, box3_next q HS.out (Nat.le_refl _) z1⟩
        · unfold DblK at hd ⊢
          rw [show 19 - j = (19 - (j + 1)) + 1 by omega, Nat.pow_succ]
          omega
        · rw [wi_iff]; omega
        · rw [HD.out, dblN, if_pos HW.out]
      case measure =>
        obtain ⟨rfl, rfl, rfl⟩ := HX.out
        have hw := wi_iff.1 HW.out
        have hd := HK.out
        rw [sum3_of (HS.out.b0.below p0.h), sum3_of (box3_next q HS.out (Nat.le_refl _) z1).b0]
        have : 1 ≤ 2 ^ (19 - k) := Nat.two_pow_pos _
        unfold DblK at hd
        omega
    · rw [Bool.not_eq_true] at hw
      rw [hw] at K1
      rw [dblN_same _ _ _ _ hw] at hD
      subst hD
      have HS := Lib.hid hs
      have HE : Hid (∃ k, k ≤ 44 ∧ E = halN k x y z ∧ x.natAbs < 2 ^ (k + 20) ∧ y.natAbs < 2 ^ (k + 20) ∧ z.natAbs < 2 ^ (k + 20)) := Lib.hid ⟨44, by omega, hED, by
        rw [wi_iff] at hI
        have : (2 : Nat) ^ (44 + 20) = 18446744073709551616 := rfl
        omega⟩
      have HW := Lib.hid hw
      have HI := Lib.hid hI
      clear hw hs hd hI hED
      go_wp2_with (go_at_call 48; (with_reducible refine (bw_call K1.out _).mono ?_); rintro e w' ⟨rfl, q, rfl⟩)
      have hs : Box3 w q.w w.heap.size (w.heap.size + 1) 23 x y z := ⟨bw_below HS.out.h q, HS.out.b0.below q.h, HS.out.b1.below q.h⟩
      go_loopw [] (fun wr => ∃ k : Nat, ∃ x y z : Int, k ≤ 44 ∧ E = halN k x y z ∧ x.natAbs < 2 ^ (k + 20) ∧ y.natAbs < 2 ^ (k + 20) ∧ z.natAbs < 2 ^ (k + 20) ∧ wi 4611686018427387904 x y z = true ∧ Box3 w wr w.heap.size (w.heap.size + 1) 23 x y z) (fun wr => sum3 wr w.heap.size)
      case atStart =>
        obtain ⟨k, h1, h2, h3, h4, h5⟩ := HE.out
        exact ⟨k, x, y, z, h1, h2, h3, h4, h5, HI.out, hs⟩
      case round =>
        clear hs HS HE HW HI c0 c1 c2 f0 f1 f2 K1
        obtain ⟨k, x, y, z, hk, hE, n1, n2, n3, hI, hs⟩ := hrel
        have K1 := Lib.hid (fun w => vec_within 1048575 x y z w (by omega))
        obtain ⟨c0, c1, c2⟩ := bw_bk3 hs.b0
        have f0 : ∀ p : BW wr, p.w.frozen? ⟨w.heap.size, 0, none⟩ = false := fun p => (hs.b0.below p.h).frozen 0
        have f1 : ∀ p : BW wr, p.w.frozen? ⟨w.heap.size, 1, none⟩ = false := fun p => (hs.b0.below p.h).frozen 1
        have f2 : ∀ p : BW wr, p.w.frozen? ⟨w.heap.size, 2, none⟩ = false := fun p => (hs.b0.below p.h).frozen 2
        obtain ⟨c3, c4, c5⟩ := bw_bk3 hs.b1
        have f3 : ∀ p : BW wr, p.w.frozen? ⟨w.heap.size + 1, 0, none⟩ = false := fun p => (hs.b1.below p.h).frozen 0
        have f4 : ∀ p : BW wr, p.w.frozen? ⟨w.heap.size + 1, 1, none⟩ = false := fun p => (hs.b1.below p.h).frozen 1
        have f5 : ∀ p : BW wr, p.w.frozen? ⟨w.heap.size + 1, 2, none⟩ = false := fun p => (hs.b1.below p.h).frozen 2
        obtain ⟨p1, hp1⟩ : ∃ p1 : BW wr, p1.w = wr := ⟨BW.start wr, rfl⟩
        rw [← hp1]
        clear hp1
        have HS := Lib.hid hs
        by_cases hw : wi 1048575 x y z = true
        · rw [hw] at K1
          rw [halN_same _ _ _ _ hw] at hE
          subst hE
          clear hw hs hI n1 n2 n3
          go_wp2_with (go_at_call 48; (with_reducible refine (bw_call K1.out _).mono ?_); rintro e w' ⟨rfl, q, rfl⟩)
          obtain ⟨k0, k1, k2, k3⟩ := (HS.out.b1.below q.h).put3 (.int .i64 x) (.int .i64 y) (.int .i64 z)
          exact bodyPost_ret (v := .agg #[.int .i64 x, .int .i64 y, .int .i64 z]) (by simp [results, Try.results49, go_sem, k0, k1, k2]) rfl
            ⟨rfl, (((bw_below HS.out.h q).setCell (p := ⟨w.heap.size + 1, 0, none⟩) (by show _ ≤ w.heap.size + 1; omega) _).setCell (p := ⟨w.heap.size + 1, 1, none⟩) (by show _ ≤ w.heap.size + 1; omega) _).setCell (p := ⟨w.heap.size + 1, 2, none⟩) (by show _ ≤ w.heap.size + 1; omega) _⟩
        · have HW := Lib.hid hw
          rw [Bool.not_eq_true] at hw
          rw [hw] at K1
          have hI' := wi_iff.1 hI
          have K2 := Lib.hid (fun w => vec_each 84 #[] x y z (x.tdiv 2) (y.tdiv 2) (z.tdiv 2) w (enters_of Try.func84 (by kernel_rfl) rfl)
            (fun w' _ => by simpa using vec_halve x w' (by unfold I64; omega)) (fun w' _ => by simpa using vec_halve y w' (by unfold I64; omega)) (fun w' _ => by simpa using vec_halve z w' (by unfold I64; omega)))
          have HE := Lib.hid hE
          have HN := Lib.hid (show x.natAbs < 2 ^ (k + 20) ∧ y.natAbs < 2 ^ (k + 20) ∧ z.natAbs < 2 ^ (k + 20) from ⟨n1, n2, n3⟩)
          have HI := Lib.hid hI
          obtain ⟨x', hx'⟩ : ∃ x', x' = x.tdiv 2 := ⟨_, rfl⟩
          obtain ⟨y', hy'⟩ : ∃ y', y' = y.tdiv 2 := ⟨_, rfl⟩
          obtain ⟨z', hz'⟩ : ∃ z', z' = z.tdiv 2 := ⟨_, rfl⟩
          rw [← hx', ← hy', ← hz'] at K2
          have HX : Hid (x' = x.tdiv 2 ∧ y' = y.tdiv 2 ∧ z' = z.tdiv 2) := Lib.hid ⟨hx', hy', hz'⟩
          clear hx' hy' hz' hw hs hE hI hI' n1 n2 n3
          go_wp2_with (first
            | (go_at_call 48; (with_reducible refine (bw_call K1.out _).mono ?_); rintro e w' ⟨rfl, q, rfl⟩)
            | (go_at_call 51; (with_reducible refine (bw_call K2.out _).mono ?_); rintro e w' ⟨rfl, q, rfl⟩))
          go_roundw
          case rel =>
            obtain ⟨rfl, rfl, rfl⟩ := HX.out
            have hw := HW.out
            rw [wi_iff] at hw
            obtain ⟨n1, n2, n3⟩ := HN.out
            have t : ∀ v : Int, (v.tdiv 2).natAbs = v.natAbs / 2 := fun v => by rw [Int.natAbs_tdiv]; rfl
            have tx := t x; have ty := t y; have tz := t z
            have hk1 : 1 ≤ k := by
              rcases Nat.eq_zero_or_pos k with rfl | hk
              · rw [Nat.zero_add] at n1 n2 n3
                have : (2 : Nat) ^ 20 = 1048576 := rfl
                omega
              · exact hk
            obtain ⟨j, rfl⟩ : ∃ j, k = j + 1 := ⟨k - 1, by omega⟩
            rw [show j + 1 + 20 = (j + 20) + 1 by omega, Nat.pow_succ] at n1 n2 n3
            have hI := HI.out
            rw [wi_iff] at hI
            refine ⟨j, x.tdiv 2, y.tdiv 2, z.tdiv 2, by omega, ?_, by omega, by omega, by omega, ?_, box3_next q HS.out (Nat.le_refl _) z1⟩
            · rw [HE.out, halN, if_neg HW.out]
            · rw [wi_iff]; omega
          case measure =>
            obtain ⟨rfl, rfl, rfl⟩ := HX.out
            have hw := HW.out
            rw [wi_iff] at hw
            have t : ∀ v : Int, (v.tdiv 2).natAbs = v.natAbs / 2 := fun v => by rw [Int.natAbs_tdiv]; rfl
            have tx := t x; have ty := t y; have tz := t z
            rw [sum3_of (HS.out.b0.below p1.h), sum3_of (box3_next q HS.out (Nat.le_refl _) z1).b0]
            omega

end Go.Proofs.Ytnidgokmndnenaa
