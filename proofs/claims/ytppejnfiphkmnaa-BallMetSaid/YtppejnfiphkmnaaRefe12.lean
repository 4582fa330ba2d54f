/- Contracts of the document's own answers, layer 12: times. -/
import Derived.Test.YtppejnfiphkmnaaRef12
import Derived.Test.YtppejnfiphkmnaaRefb02
import Derived.Deep.DeepCutAuto
namespace Go.Proofs.Ytppejnfiphkmnaa
open Go.RowKit Go.Proofs.Sky
set_option linter.unusedVariables false

theorem half_bit (n k : Nat) : n / 2 ^ k = 2 * (n / 2 ^ (k + 1)) + n / 2 ^ k % 2 := by
  rw [Nat.pow_succ, ← Nat.div_div_eq_div_mul]
  omega
theorem and_one (n : Int) : bits .and .i64 n 1 = n % 2 := by
  have h1 : (BitVec.ofInt 64 1).toNat = 2 ^ 1 - 1 := by decide
  show IntKind.i64.wrap ((BitVec.ofInt 64 n &&& BitVec.ofInt 64 1).toNat : Nat) = n % 2
  rw [BitVec.toNat_and, BitVec.toNat_ofInt, h1, Nat.and_two_pow_sub_one_eq_mod, IntKind.wrap_i64]
  omega

set_option maxRecDepth 100000 in
set_option maxHeartbeats 8000000 in
theorem ref12_times (x : Int) (n : Nat) (w : World) (hn : n < 9223372036854775808) :
    Calls Try.prog 34 #[.agg #[.int .i64 (hii (x)), .int .u64 (lon (x) : Int)], .int .i64 (n : Int)] w fun en w' => en = .returned (.agg #[.int .i64 (hii (x * (n : Int))), .int .u64 (lon (x * (n : Int)) : Int)]) ∧ Below w.heap.size w w' := by
  go_enter Try.func34, Try.ntmps34
  go_upto_region 1 with (fail)
  obtain ⟨W1, hW1⟩ : ∃ W, W = (w.alloc (.cells #[.int .i64 (hii (x)), .int .u64 (lon (x) : Int)] 39)).alloc (.cells #[.int .i64 0, .int .u64 0] 39) := ⟨_, rfl⟩
  obtain ⟨k_x, k_r, B1⟩ := st2 hW1
  rw [← hW1]
  clear hW1
  have l_r : w.heap.size < w.heap.size + 1 := by omega
  generalize w.heap.size + 1 = g_r at *
  obtain ⟨c_x_0, c_x_1⟩ := bwc2 (k_x)
  obtain ⟨c_r_0, c_r_1⟩ := bwc2 (k_r)
  obtain ⟨p1, hp1⟩ : ∃ p : BW W1, p.w = W1 := ⟨BW.start W1, rfl⟩
  rw [← hp1]
  clear hp1
  go_upto_region 2 with (fail)
  obtain ⟨W2, hW2⟩ : ∃ W, W = p1.w.alloc (.cells #[.int .i64 0, .int .u64 0] 39) := ⟨_, rfl⟩
  have B2 : Below w.heap.size w W2 := by rw [hW2]; exact (bw_below B1 p1).alloc (bw_below B1 p1).size _
  have l_s : g_r < p1.w.heap.size := (k_r.below p1.h).lt
  have o_s : w.heap.size ≤ p1.w.heap.size := (bw_below B1 p1).size
  have k_x := bka hW2 (k_x.below p1.h)
  have k_r := bka hW2 (k_r.below p1.h)
  have k_s := bkn hW2
  rw [← hW2]
  clear hW2
  clear B1
  clear c_x_0 c_x_1 c_r_0 c_r_1
  generalize p1.w.heap.size = g_s at *
  obtain ⟨c_x_0, c_x_1⟩ := bwc2 (k_x)
  obtain ⟨c_r_0, c_r_1⟩ := bwc2 (k_r)
  obtain ⟨c_s_0, c_s_1⟩ := bwc2 (k_s)
  obtain ⟨p2, hp2⟩ : ∃ p : BW W2, p.w = W2 := ⟨BW.start W2, rfl⟩
  rw [← hp2]
  clear hp2
  go_wp2
  go_loopw [6] (fun i wr => ∃ k : Nat, k ≤ 63 ∧ i = .int .i64 ((k : Int) - 1) ∧ Bk wr w.heap.size 39 #[.int .i64 (hii (x)), .int .u64 (lon (x) : Int)] ∧ Bk wr g_r 39 #[.int .i64 0, .int .u64 0] ∧ Bk wr g_s 39 #[.int .i64 (hii (x * ((n / 2 ^ k : Nat) : Int))), .int .u64 (lon (x * ((n / 2 ^ k : Nat) : Int)) : Int)] ∧ Below w.heap.size w wr) (fun i _ => (intOf i + 1).toNat)
  case atStart =>
    refine ⟨63, by omega, rfl, k_x.below p2.h, k_r.below p2.h, ?_, bw_below B2 p2⟩
    have e : n / 2 ^ 63 = 0 := Nat.div_eq_of_lt hn
    rw [e, show x * ((0 : Nat) : Int) = 0 by simp, show hii 0 = 0 by decide, show lon 0 = 0 by decide]
    exact k_s.below p2.h
  case round =>
    clear k_x k_r k_s B2 c_x_0 c_x_1 c_r_0 c_r_1 c_s_0 c_s_1 p2 p1
    obtain ⟨k, hk, rfl, k_x, k_r, k_s, B20⟩ := hrel
    by_cases hk0 : k = 0
    · subst hk0
      rw [show n / 2 ^ 0 = n by simp] at k_s
      have e0 : ((0 : Nat) : Int) - 1 = -1 := rfl
      rw [e0]
      clear e0
      obtain ⟨c_x_0, c_x_1⟩ := bwc2 (k_x)
      obtain ⟨c_r_0, c_r_1⟩ := bwc2 (k_r)
      obtain ⟨f_r_0, f_r_1⟩ := bwf2 (k_r)
      obtain ⟨c_s_0, c_s_1⟩ := bwc2 (k_s)
      obtain ⟨p20, hp20⟩ : ∃ p : BW wr, p.w = wr := ⟨BW.start wr, rfl⟩
      rw [← hp20]
      clear hp20
      go_wp2
      have kr := bkp2 (k_r.below p20.h) (.int .i64 (hii (x * (n : Int)))) (.int .u64 (lon (x * (n : Int)) : Int))
      obtain ⟨rc0, rc1⟩ := rwc2 kr
      exact bodyPost_ret (v := .agg #[.int .i64 (hii (x * (n : Int))), .int .u64 (lon (x * (n : Int)) : Int)]) (by simp [results, Try.results34, go_sem, rc0, rc1]) rfl ⟨rfl, blp2 (bw_below B20 p20) (by omega)⟩
    · obtain ⟨j, rfl⟩ : ∃ j, k = j + 1 := ⟨k - 1, by omega⟩
      have ei : ((j + 1 : Nat) : Int) - 1 = (j : Int) := by omega
      rw [ei]
      have hb := half_bit n j
      obtain ⟨m, hm⟩ : ∃ m, m = n / 2 ^ (j + 1) := ⟨_, rfl⟩
      obtain ⟨m', hm'⟩ : ∃ m', m' = n / 2 ^ j := ⟨_, rfl⟩
      rw [← hm] at hb k_s
      rw [← hm'] at hb
      have tj : decide (0 ≤ (j : Int)) = true := decide_eq_true (by omega)
      obtain ⟨y, hy⟩ : ∃ t, x * (m : Int) = t := ⟨_, rfl⟩
      rw [hy] at k_s
      obtain ⟨y2, hy2⟩ : ∃ t, y + y = t := ⟨_, rfl⟩
      obtain ⟨y3, hy3⟩ : ∃ t, y2 + x = t := ⟨_, rfl⟩
      have D1 := Lib.hid (fun w => ref2_Add y y w)
      have D2 := Lib.hid (fun w => ref2_Add y2 x w)
      rw [hy2] at D1
      rw [hy3] at D2
      have r0 : m' % 2 = 0 → y2 = x * (m' : Int) := fun h => by
        have : (m' : Int) = 2 * (m : Int) := by omega
        rw [← hy2, ← hy, this]; grind
      have r1 : ¬ m' % 2 = 0 → y3 = x * (m' : Int) := fun h => by
        have : (m' : Int) = 2 * (m : Int) + 1 := by omega
        rw [← hy3, ← hy2, ← hy, this]; grind
      have eb : bits .and .i64 ((n : Int) / 2 ^ j) 1 = ((m' % 2 : Nat) : Int) := by
        rw [and_one, show (n : Int) / 2 ^ j = (m' : Int) by rw [hm']; push_cast; rfl]
        omega
      have HK := Lib.hid (And.intro hm' (And.intro r0 r1))
      clear hm hy hy2 hy3 hb r0 r1 hm'
      obtain ⟨c_x_0, c_x_1⟩ := bwc2 (k_x)
      obtain ⟨c_r_0, c_r_1⟩ := bwc2 (k_r)
      obtain ⟨c_s_0, c_s_1⟩ := bwc2 (k_s)
      obtain ⟨f_s_0, f_s_1⟩ := bwf2 (k_s)
      obtain ⟨p20, hp20⟩ : ∃ p : BW wr, p.w = wr := ⟨BW.start wr, rfl⟩
      rw [← hp20]
      clear hp20
      go_upto_region 6 with (first
        | (go_at_call 33; (first | (with_reducible refine (bw_call D1.out _).mono ?_)); rintro e w' ⟨rfl, q, rfl⟩))
      obtain ⟨W21, hW21⟩ : ∃ W, W = (q.w.setCell ⟨g_s, 0, none⟩ (.int .i64 (hii (y2)))).setCell ⟨g_s, 1, none⟩ (.int .u64 (lon (y2) : Int)) := ⟨_, rfl⟩
      have B21 : Below w.heap.size w W21 := by rw [hW21]; exact blp2 (bw_below B20 q) (by omega)
      have k_x := bkoe2 hW21 (k_x.below q.h) (by omega)
      have k_r := bkoe2 hW21 (k_r.below q.h) (by omega)
      have k_s := bkpe2 hW21 (k_s.below q.h)
      rw [← hW21]
      clear hW21
      clear B20
      clear c_x_0 c_x_1 c_r_0 c_r_1 c_s_0 c_s_1 f_s_0 f_s_1
      obtain ⟨c_x_0, c_x_1⟩ := bwc2 (k_x)
      obtain ⟨c_r_0, c_r_1⟩ := bwc2 (k_r)
      obtain ⟨c_s_0, c_s_1⟩ := bwc2 (k_s)
      obtain ⟨f_s_0, f_s_1⟩ := bwf2 (k_s)
      obtain ⟨p21, hp21⟩ : ∃ p : BW W21, p.w = W21 := ⟨BW.start W21, rfl⟩
      rw [← hp21]
      clear hp21
      by_cases hbit : m' % 2 = 0
      · rw [hbit] at eb
        have eb' : bits .and .i64 ((n : Int) / 2 ^ j) 1 = 0 := eb
        clear eb
        go_wp2
        go_roundw
        case rel => exact ⟨j, by omega, rfl, k_x.below p21.h, k_r.below p21.h, (by rw [← HK.out.1, ← HK.out.2.1 hbit]; exact k_s.below p21.h), bw_below B21 p21⟩
        case measure => first | (simp [intOf]; done) | (simp [intOf]; omega)
      · have eb' : bits .and .i64 ((n : Int) / 2 ^ j) 1 = 1 := by rw [eb]; omega
        clear eb
        go_upto_region 4 with (first
          | (go_at_call 33; (first | (with_reducible refine (bw_call D2.out _).mono ?_)); rintro e w' ⟨rfl, q, rfl⟩))
        obtain ⟨W22, hW22⟩ : ∃ W, W = (q.w.setCell ⟨g_s, 0, none⟩ (.int .i64 (hii (y3)))).setCell ⟨g_s, 1, none⟩ (.int .u64 (lon (y3) : Int)) := ⟨_, rfl⟩
        have B22 : Below w.heap.size w W22 := by rw [hW22]; exact blp2 (bw_below B21 q) (by omega)
        have k_x := bkoe2 hW22 (k_x.below q.h) (by omega)
        have k_r := bkoe2 hW22 (k_r.below q.h) (by omega)
        have k_s := bkpe2 hW22 (k_s.below q.h)
        rw [← hW22]
        clear hW22
        clear B21
        clear c_x_0 c_x_1 c_r_0 c_r_1 c_s_0 c_s_1 f_s_0 f_s_1
        obtain ⟨c_x_0, c_x_1⟩ := bwc2 (k_x)
        obtain ⟨c_r_0, c_r_1⟩ := bwc2 (k_r)
        obtain ⟨c_s_0, c_s_1⟩ := bwc2 (k_s)
        obtain ⟨f_s_0, f_s_1⟩ := bwf2 (k_s)
        obtain ⟨p22, hp22⟩ : ∃ p : BW W22, p.w = W22 := ⟨BW.start W22, rfl⟩
        rw [← hp22]
        clear hp22
        go_wp2
        go_roundw
        case rel => exact ⟨j, by omega, rfl, k_x.below p22.h, k_r.below p22.h, (by rw [← HK.out.1, ← HK.out.2.2 hbit]; exact k_s.below p22.h), bw_below B22 p22⟩
        case measure => first | (simp [intOf]; done) | (simp [intOf]; omega)

end Go.Proofs.Ytppejnfiphkmnaa
