/- Contract of the document's quotient (skylightref02). -/
import Derived.Test.YtdkahkobdoolkaaRefg02
namespace Go.Proofs.Ytdkahkobdoolkaa
open Go.RowKit Go.Proofs.Sky
set_option linter.unusedVariables false
set_option linter.unusedSimpArgs false
attribute [local go_sem ↓] Go.wp_at_zero Go.wp_at_succ

theorem le_div {a c d : Int} (hd : 1 ≤ d) : c ≤ a / d ↔ c * d ≤ a := Int.le_ediv_iff_mul_le (by omega)

theorem div_lt {a c d : Int} (hd : 1 ≤ d) : a / d < c ↔ a < c * d := Int.ediv_lt_iff_lt_mul (by omega)

/-- The bits of a quotient from m on are right: q is below it, and q + 2^m is above. -/
def QBits (T q : Int) (m : Nat) (top : Int) : Prop := m ≤ 63 ∧ q ≤ T ∧ T < q + 2 ^ m ∧ q + 2 ^ m ≤ top ∧ -9223372036854775808 ≤ q

theorem QBits.step {T q top : Int} {k : Nat} (h : QBits T q (k + 1) top) (ht : top ≤ 9223372036854775808) : ∃ b : Nat, ((2 : Int) ^ k) = (b : Int) ∧ b ≤ 4611686018427387904 ∧ q + b ≤ 9223372036854775807 ∧ -9223372036854775808 ≤ q + b ∧ q + b < top ∧
    (q + b ≤ T → QBits T (q + b) k top) ∧ (T < q + b → QBits T q k top) := by
  obtain ⟨h1, h2, h3, h4, h5⟩ := h
  have e : (2 : Int) ^ (k + 1) = 2 * 2 ^ k := by rw [Int.pow_succ, Int.mul_comm]
  have p : ((2 : Int) ^ k) = ((2 ^ k : Nat) : Int) := by rw [Int.natCast_pow]; rfl
  have hk : (2 : Nat) ^ k ≤ 4611686018427387904 := Nat.le_trans (Nat.pow_le_pow_right (by omega) (show k ≤ 62 by omega)) (by decide)
  have hp : 0 < (2 : Nat) ^ k := Nat.two_pow_pos k
  rw [e, p] at h3 h4
  refine ⟨2 ^ k, p, hk, ?_⟩
  generalize (2 : Nat) ^ k = b at *
  refine ⟨by omega, by omega, by omega, fun h => ?_, fun h => ?_⟩
  · refine ⟨by omega, h, ?_, ?_, by omega⟩ <;> rw [p] <;> omega
  · refine ⟨by omega, h2, ?_, ?_, h5⟩ <;> rw [p] <;> omega

theorem QBits.done {T q top : Int} (h : QBits T q 0 top) : q = T := by
  obtain ⟨_, h2, h3, _, _⟩ := h
  simp at h3; omega

theorem mul_W128 {c d : Int} (h1 : -9223372036854775808 ≤ c) (h2 : c ≤ 9223372036854775807) (d1 : 1 ≤ d) (d2 : d ≤ 9223372036854775807) :
    -85070591730234615856620279821087277056 ≤ c * d ∧ c * d ≤ 85070591730234615847396907784232501249 := by
  have a := Int.mul_le_mul_of_nonneg_right h1 (show 0 ≤ d by omega)
  have b := Int.mul_le_mul_of_nonneg_right h2 (show 0 ≤ d by omega)
  omega

theorem ref2_Over_small (x d : Int) (w : World) (h : d < 1) :
    Calls Try.prog 10 #[.agg #[.int .i64 (hii x), .int .u64 (lon x : Int)], .int .i64 d] w fun e w' => e = .returned (.tuple #[.int .i64 0, .bool false]) ∧ Below w.heap.size w w' := by
  generalize hii x = x1 at *
  generalize lon x = x2 at *
  have hb : decide (d < 1) = true := decide_eq_true h
  clear h
  go_enter Try.func10, Try.ntmps10
  go_wp2
  go_quiet (fail)
  go_wp2
  go_ret2
  exact ⟨rfl, below_drewN (by go_grown) _⟩

set_option maxHeartbeats 4000000 in
theorem ref2_Over_low (x d : Int) (w : World) (hx : W128 x) (hd : I64 d) (h1 : 1 ≤ d) (h2 : x < -9223372036854775808 * d) :
    Calls Try.prog 10 #[.agg #[.int .i64 (hii x), .int .u64 (lon x : Int)], .int .i64 d] w fun e w' => e = .returned (.tuple #[.int .i64 0, .bool false]) ∧ Below w.heap.size w w' := by
  have hd' := hd
  unfold I64 at hd'
  obtain ⟨m1, m2⟩ := mul_W128 (c := -9223372036854775808) (d := d) (by omega) (by omega) h1 hd'.2
  have M1 := Lib.hid (fun w => ref2_Mul (-9223372036854775808) d w (by unfold I64; omega) hd)
  have C1 := Lib.hid (fun w => ref2_Cmp x (-9223372036854775808 * d) w hx (by unfold W128; omega))
  rw [show cmpI x (-9223372036854775808 * d) = -1 by unfold cmpI; rw [if_pos h2]] at C1
  have hb : decide (d < 1) = false := decide_eq_false (by omega)
  generalize hii (-9223372036854775808 * d) = s1 at *
  generalize lon (-9223372036854775808 * d) = s2 at *
  generalize hii x = x1 at *
  generalize lon x = x2 at *
  clear h1 h2 m1 m2 hd hd' hx
  go_enter Try.func10, Try.ntmps10
  go_wp2
  first
    | go_region_with (first
          | (go_at_call 15; ((with_reducible refine (M1.out _).mono ?_)); rintro e wa ⟨rfl, hba⟩; refine keep2e (w := w) (g := w.heap.size) (u := .int .i64 x1) (v := .int .u64 (x2 : Int)) hba ?_ ?_ ?_ ?_ ?_; (focus go_grown); (focus (first | (with_reducible assumption) | (simp; done) | (simp; omega) | omega)); (focus (first | (with_reducible assumption) | (simp; done) | (simp [*, go_sem]; done))); (focus (first | (with_reducible assumption) | (simp; done) | (simp [*, go_sem]; done))); intro k0a k1a k2a y0a; clear hba)
          | (go_at_call 21; ((with_reducible refine (C1.out _).mono ?_)); rintro e wb ⟨rfl, hbb⟩; refine keep2e (w := w) (g := w.heap.size) (u := .int .i64 x1) (v := .int .u64 (x2 : Int)) hbb ?_ ?_ ?_ ?_ ?_; (focus go_grown); (focus (first | (with_reducible assumption) | (simp; done) | (simp; omega) | omega)); (focus (first | (with_reducible assumption) | (simp; done) | (simp [*, go_sem]; done))); (focus (first | (with_reducible assumption) | (simp; done) | (simp [*, go_sem]; done))); intro k0b k1b k2b y0b; clear hbb))
    | fail
  all_goals go_wp2
  all_goals go_ret2
  all_goals exact ⟨rfl, by go_grown⟩

set_option maxHeartbeats 8000000 in
theorem ref2_Over_high (x d : Int) (w : World) (hx : W128 x) (hd : I64 d) (h1 : 1 ≤ d) (h2 : -9223372036854775808 * d ≤ x) (h3 : d ≤ x - 9223372036854775807 * d) :
    Calls Try.prog 10 #[.agg #[.int .i64 (hii x), .int .u64 (lon x : Int)], .int .i64 d] w fun e w' => e = .returned (.tuple #[.int .i64 0, .bool false]) ∧ Below w.heap.size w w' := by
  have hd' := hd
  unfold I64 at hd'
  have hx' := hx
  unfold W128 at hx'
  obtain ⟨m1, m2⟩ := mul_W128 (c := -9223372036854775808) (d := d) (by omega) (by omega) h1 hd'.2
  obtain ⟨m3, m4⟩ := mul_W128 (c := 9223372036854775807) (d := d) (by omega) (by omega) h1 hd'.2
  have M1 := Lib.hid (fun w => ref2_Mul (-9223372036854775808) d w (by unfold I64; omega) hd)
  have C1 := Lib.hid (fun w => ref2_Cmp x (-9223372036854775808 * d) w hx (by unfold W128; omega))
  have M2 := Lib.hid (fun w => ref2_Mul 9223372036854775807 d w (by unfold I64; omega) hd)
  have S1 := Lib.hid (fun w => ref2_Sub x (9223372036854775807 * d) w)
  have O1 := Lib.hid (fun w => ref2_Of d w hd)
  have C2 := Lib.hid (fun w => ref2_Cmp (x - 9223372036854775807 * d) d w (by unfold W128; omega) (by unfold W128; omega))
  have hc1 : decide (cmpI x (-9223372036854775808 * d) < 0) = false := decide_eq_false (by unfold cmpI; (repeat' split) <;> omega)
  have hb : decide (d < 1) = false := decide_eq_false (by omega)
  have hc2 : decide (0 ≤ cmpI (x - 9223372036854775807 * d) d) = true := decide_eq_true (by unfold cmpI; (repeat' split) <;> omega)
  generalize cmpI x (-9223372036854775808 * d) = c1 at *
  generalize cmpI (x - 9223372036854775807 * d) d = c2 at *
  generalize hii (-9223372036854775808 * d) = s1 at *
  generalize lon (-9223372036854775808 * d) = s2 at *
  generalize hii (x - 9223372036854775807 * d) = u1 at *
  generalize lon (x - 9223372036854775807 * d) = u2 at *
  generalize hii (9223372036854775807 * d) = t1 at *
  generalize lon (9223372036854775807 * d) = t2 at *
  generalize hii d = v1 at *
  generalize lon d = v2 at *
  generalize hii x = x1 at *
  generalize lon x = x2 at *
  clear h1 h2 h3 m1 m2 m3 m4 hd hd' hx hx'
  go_enter Try.func10, Try.ntmps10
  go_wp2
  go_region_held3 (fun w' => w'.cell? ⟨w.heap.size, 0, none⟩ = some (.int .i64 x1) ∧ w'.cell? ⟨w.heap.size, 1, none⟩ = some (.int .u64 (x2 : Int))) (first | (refine ⟨?_, ?_⟩ <;> (first | assumption | (simp; assumption))) | go_keep)
    (first
      | (go_at_call 15; ((with_reducible refine (M1.out _).mono ?_)); rintro e wa ⟨rfl, hba⟩; refine keep2e (w := w) (g := w.heap.size) (u := .int .i64 x1) (v := .int .u64 (x2 : Int)) hba ?_ ?_ ?_ ?_ ?_; (focus go_grown); (focus (first | (with_reducible assumption) | (simp; done) | (simp; omega) | omega)); (focus (first | (with_reducible assumption) | (simp; done) | (simp [*, go_sem]; done))); (focus (first | (with_reducible assumption) | (simp; done) | (simp [*, go_sem]; done))); intro k0a k1a k2a y0a; clear hba)
      | (go_at_call 21; ((with_reducible refine (C1.out _).mono ?_)); rintro e wb ⟨rfl, hbb⟩; refine keep2e (w := w) (g := w.heap.size) (u := .int .i64 x1) (v := .int .u64 (x2 : Int)) hbb ?_ ?_ ?_ ?_ ?_; (focus go_grown); (focus (first | (with_reducible assumption) | (simp; done) | (simp; omega) | omega)); (focus (first | (with_reducible assumption) | (simp; done) | (simp [*, go_sem]; done))); (focus (first | (with_reducible assumption) | (simp; done) | (simp [*, go_sem]; done))); intro k0b k1b k2b y0b; clear hbb)
      | (go_at_call 15; ((with_reducible refine (M2.out _).mono ?_)); rintro e wc ⟨rfl, hbc⟩; refine keep2e (w := w) (g := w.heap.size) (u := .int .i64 x1) (v := .int .u64 (x2 : Int)) hbc ?_ ?_ ?_ ?_ ?_; (focus go_grown); (focus (first | (with_reducible assumption) | (simp; done) | (simp; omega) | omega)); (focus (first | (with_reducible assumption) | (simp; done) | (simp [*, go_sem]; done))); (focus (first | (with_reducible assumption) | (simp; done) | (simp [*, go_sem]; done))); intro k0c k1c k2c y0c; clear hbc)
      | (go_at_call 19; ((with_reducible refine (S1.out _).mono ?_)); rintro e wd ⟨rfl, hbd⟩; refine keep2e (w := w) (g := w.heap.size) (u := .int .i64 x1) (v := .int .u64 (x2 : Int)) hbd ?_ ?_ ?_ ?_ ?_; (focus go_grown); (focus (first | (with_reducible assumption) | (simp; done) | (simp; omega) | omega)); (focus (first | (with_reducible assumption) | (simp; done) | (simp [*, go_sem]; done))); (focus (first | (with_reducible assumption) | (simp; done) | (simp [*, go_sem]; done))); intro k0d k1d k2d y0d; clear hbd)
      | (go_at_call 13; ((with_reducible refine (O1.out _).mono ?_)); rintro e we ⟨rfl, hbe⟩; refine keep2e (w := w) (g := w.heap.size) (u := .int .i64 x1) (v := .int .u64 (x2 : Int)) hbe ?_ ?_ ?_ ?_ ?_; (focus go_grown); (focus (first | (with_reducible assumption) | (simp; done) | (simp; omega) | omega)); (focus (first | (with_reducible assumption) | (simp; done) | (simp [*, go_sem]; done))); (focus (first | (with_reducible assumption) | (simp; done) | (simp [*, go_sem]; done))); intro k0e k1e k2e y0e; clear hbe)
      | (go_at_call 21; ((with_reducible refine (C2.out _).mono ?_)); rintro e wf ⟨rfl, hbf⟩; refine keep2e (w := w) (g := w.heap.size) (u := .int .i64 x1) (v := .int .u64 (x2 : Int)) hbf ?_ ?_ ?_ ?_ ?_; (focus go_grown); (focus (first | (with_reducible assumption) | (simp; done) | (simp; omega) | omega)); (focus (first | (with_reducible assumption) | (simp; done) | (simp [*, go_sem]; done))); (focus (first | (with_reducible assumption) | (simp; done) | (simp [*, go_sem]; done))); intro k0f k1f k2f y0f; clear hbf))
  all_goals go_wp2
  all_goals go_ret2
  all_goals exact ⟨rfl, by go_grown⟩

end Go.Proofs.Ytdkahkobdoolkaa
