/- Contracts of the document's roots and quotients (skylightref02). -/
import Derived.Test.YtppejnfiphkmnaaReff02
import Derived.Test.YtppejnfiphkmnaaRefc02
import Derived.Test.YtppejnfiphkmnaaRefd02
namespace Go.Proofs.Ytppejnfiphkmnaa
open Go.RowKit Go.Proofs.Sky
set_option linter.unusedVariables false
set_option linter.unusedSimpArgs false
attribute [local go_sem ↓] Go.wp_at_zero Go.wp_at_succ

theorem cmp_le_yes {x y : Int} (h : x ≤ y) : decide (cmpI x y ≤ 0) = true := decide_eq_true (by unfold cmpI; (repeat' split) <;> omega)

theorem cmp_le_no {x y : Int} (h : y < x) : decide (cmpI x y ≤ 0) = false := decide_eq_false (by unfold cmpI; rw [if_neg (by omega), if_pos h]; omega)

theorem hii_big {S : Nat} (h : 170141183460469231731687303715884105728 ≤ S) (h2 : S ≤ 340282366920938463426481119284349108225) : hii (S : Int) < 0 := by unfold hii; omega

theorem sq_le {c : Nat} (h : c < 18446744073709551616) : c * c ≤ 340282366920938463426481119284349108225 := by
  have := Nat.mul_le_mul (show c ≤ 18446744073709551615 by omega) (show c ≤ 18446744073709551615 by omega)
  exact this

theorem ref2_Root_neg (x : Int) (w : World) (hx : W128 x) (h0 : x < 0) :
    Calls Try.prog 27 #[.agg #[.int .i64 (hii x), .int .u64 (lon x : Int)]] w fun e w' => e = .returned (.tuple #[.int .u64 0, .bool false]) ∧ Below w.heap.size w w' := by
  have n0 : hii x < 0 := by unfold W128 at hx; unfold hii; omega
  generalize hii x = x1 at *
  generalize lon x = x2 at *
  go_enter Try.func27, Try.ntmps27
  go_wp2
  go_ret2
  exact ⟨rfl, by go_grown⟩

set_option maxHeartbeats 8000000 in
theorem ref2_Root_pos (x : Int) (w : World) (hx : W128 x) (h0 : 0 ≤ x) :
    Calls Try.prog 27 #[.agg #[.int .i64 (hii x), .int .u64 (lon x : Int)]] w fun e w' => e = .returned (.tuple #[.int .u64 (isq x.toNat : Int), .bool true]) ∧ Below w.heap.size w w' := by
  have n0 : ¬ hii x < 0 := by unfold W128 at hx; unfold hii; omega
  obtain ⟨n, rfl⟩ := Int.eq_ofNat_of_zero_le h0
  rw [Int.toNat_natCast]
  have hn : n < 170141183460469231731687303715884105728 := by unfold W128 at hx; omega
  have ST := Lib.hid (show RootW n 64 0 (2 ^ 64 / 2) from ⟨rfl, Nat.dvd_zero _, Nat.zero_le _, by rw [Nat.zero_add]; omega, by omega⟩)
  have SQ := Lib.hid (fun (c : Nat) w (h : c < 18446744073709551616) => ref2_square c w h)
  have CM := Lib.hid (fun (c : Int) w (h : W128 c) => ref2_Cmp c (n : Int) w h hx)
  have HN := Lib.hid hn
  clear hx h0 hn
  generalize hii (n : Int) = x1 at *
  generalize lon (n : Int) = x2 at *
  go_enter Try.func27, Try.ntmps27
  go_wp2
  go_loopw [4, 5] (fun u v wr => ∃ m r : Nat, m ≤ 64 ∧ RootW n m r (2 ^ m / 2) ∧ u = .int .u64 r ∧ v = .int .i64 ((m : Int) - 1) ∧ wr.cell? ⟨w.heap.size, 0, none⟩ = some (.int .i64 x1) ∧ wr.cell? ⟨w.heap.size, 1, none⟩ = some (.int .u64 (x2 : Int)) ∧
      w.heap.size < wr.heap.size ∧ Below w.heap.size w wr) (fun _ v _ => (intOf v + 1).toNat)
  case atStart => exact ⟨64, 0, by omega, ST.out, rfl, rfl, by simp, by simp, by simp, by go_grown⟩
  case round =>
    obtain ⟨m, r, hm, hi, rfl, rfl, k0, k1, k2, hB⟩ := hrel
    match m, hm, hi with
    | 0, _, hi =>
      have E := Lib.hid hi.done
      clear hi
      go_wp2
      go_ret2
      exact ⟨by rw [E.out]; rfl, by go_grown⟩
    | k + 1, hm, hi =>
      have e0 : (2 : Nat) ^ (k + 1) / 2 = 2 ^ k := by rw [Nat.pow_succ]; omega
      rw [e0] at hi
      obtain ⟨k', hk', _, ho, hlt⟩ := hi.split (Nat.two_pow_pos k)
      have eb : ((((k + 1 : Nat) : Int)) - 1) = (k : Int) := by omega
      rw [eb]
      obtain ⟨b, hb⟩ : ∃ b, b = 2 ^ k := ⟨_, rfl⟩
      rw [← hb] at hi hlt
      have p1 : IntKind.u64.wrap ((2 : Int) ^ k) = (b : Int) := by
        have : ((2 : Int) ^ k) = ((2 ^ k : Nat) : Int) := by rw [Int.natCast_pow]; rfl
        rw [this, ← hb, u64w]; omega
      obtain ⟨c, hc⟩ : ∃ c, c = r + b := ⟨_, rfl⟩
      rw [← hc] at hlt
      have p2 : (r : Int) + (b : Int) = (c : Int) := by omega
      have p3 : IntKind.u64.wrap (c : Int) = (c : Int) := by rw [u64w]; omega
      have S1 := Lib.hid (fun w => SQ.out c w hlt)
      have HB := Lib.hid hb
      have HC := Lib.hid hc
      have HI := Lib.hid hi
      have hcc : (c : Int) * (c : Int) = ((c * c : Nat) : Int) := by rw [Int.natCast_mul]
      have hsq := sq_le hlt
      have NO := Lib.hid (fun (h : n < c * c) => show RootW n k r (2 ^ k / 2) by have := HI.out.no HB.out (by rw [← HC.out]; exact h); rwa [HB.out] at this)
      have YES := Lib.hid (fun (h : c * c ≤ n) => show RootW n k c (2 ^ k / 2) by have := HI.out.yes HB.out (by rw [← HC.out]; exact h); rw [← HC.out] at this; rwa [HB.out] at this)
      by_cases hA : c * c < 170141183460469231731687303715884105728
      · have hh : 0 ≤ hii ((c : Int) * (c : Int)) := by rw [hcc]; unfold hii; omega
        have C1 := Lib.hid (fun w => CM.out ((c : Int) * (c : Int)) w (by rw [hcc]; unfold W128; omega))
        by_cases hY : c * c ≤ n
        · have hcm := cmp_le_yes (x := (c : Int) * (c : Int)) (y := (n : Int)) (by rw [hcc]; omega)
          have HY := Lib.hid hY
          generalize cmpI ((c : Int) * (c : Int)) (n : Int) = cc at *
          generalize hii ((c : Int) * (c : Int)) = s1 at *
          generalize lon ((c : Int) * (c : Int)) = s2 at *
          clear e0 eb hk' ho hlt hb hc hi hcc hsq hA hY
          go_wp2_with (first
            | (go_at_call 45; ((with_reducible refine (S1.out _).mono ?_)); rintro e wb ⟨rfl, hbb⟩; refine keep2e (w := w) (g := w.heap.size) (u := .int .i64 x1) (v := .int .u64 (x2 : Int)) hbb ?_ ?_ ?_ ?_ ?_; (focus go_grown); (focus (first | (with_reducible assumption) | (simp; done) | (simp; omega) | omega)); (focus (first | (with_reducible assumption) | (simp; done) | (simp [*, go_sem]; done))); (focus (first | (with_reducible assumption) | (simp; done) | (simp [*, go_sem]; done))); intro k0b k1b k2b y0b; clear hbb)
            | (go_at_call 19; ((with_reducible refine (C1.out _).mono ?_)); rintro e wc ⟨rfl, hbc⟩; refine keep2e (w := w) (g := w.heap.size) (u := .int .i64 x1) (v := .int .u64 (x2 : Int)) hbc ?_ ?_ ?_ ?_ ?_; (focus go_grown); (focus (first | (with_reducible assumption) | (simp; done) | (simp; omega) | omega)); (focus (first | (with_reducible assumption) | (simp; done) | (simp [*, go_sem]; done))); (focus (first | (with_reducible assumption) | (simp; done) | (simp [*, go_sem]; done))); intro k0c k1c k2c y0c; clear hbc))
          go_roundw
          case rel => exact ⟨k, c, by omega, YES.out HY.out, by go_num, by go_num, by simp [*, go_sem], by simp [*, go_sem], by first | assumption | (simp; omega) | omega, by go_grown⟩
          case measure => simp [intOf]
        · have hcm := cmp_le_no (x := (c : Int) * (c : Int)) (y := (n : Int)) (by rw [hcc]; omega)
          have HY := Lib.hid (show n < c * c by omega)
          generalize cmpI ((c : Int) * (c : Int)) (n : Int) = cc at *
          generalize hii ((c : Int) * (c : Int)) = s1 at *
          generalize lon ((c : Int) * (c : Int)) = s2 at *
          clear e0 eb hk' ho hlt hb hc hi hcc hsq hA hY
          go_wp2_with (first
            | (go_at_call 45; ((with_reducible refine (S1.out _).mono ?_)); rintro e wb ⟨rfl, hbb⟩; refine keep2e (w := w) (g := w.heap.size) (u := .int .i64 x1) (v := .int .u64 (x2 : Int)) hbb ?_ ?_ ?_ ?_ ?_; (focus go_grown); (focus (first | (with_reducible assumption) | (simp; done) | (simp; omega) | omega)); (focus (first | (with_reducible assumption) | (simp; done) | (simp [*, go_sem]; done))); (focus (first | (with_reducible assumption) | (simp; done) | (simp [*, go_sem]; done))); intro k0b k1b k2b y0b; clear hbb)
            | (go_at_call 19; ((with_reducible refine (C1.out _).mono ?_)); rintro e wc ⟨rfl, hbc⟩; refine keep2e (w := w) (g := w.heap.size) (u := .int .i64 x1) (v := .int .u64 (x2 : Int)) hbc ?_ ?_ ?_ ?_ ?_; (focus go_grown); (focus (first | (with_reducible assumption) | (simp; done) | (simp; omega) | omega)); (focus (first | (with_reducible assumption) | (simp; done) | (simp [*, go_sem]; done))); (focus (first | (with_reducible assumption) | (simp; done) | (simp [*, go_sem]; done))); intro k0c k1c k2c y0c; clear hbc))
          go_roundw
          case rel => exact ⟨k, r, by omega, NO.out HY.out, rfl, by go_num, by simp [*, go_sem], by simp [*, go_sem], by first | assumption | (simp; omega) | omega, by go_grown⟩
          case measure => simp [intOf]
      · have hh : hii ((c : Int) * (c : Int)) < 0 := by rw [hcc]; exact hii_big (Nat.not_lt.1 hA) hsq
        have HY := Lib.hid (show n < c * c from Nat.lt_of_lt_of_le HN.out (Nat.not_lt.1 hA))
        generalize hii ((c : Int) * (c : Int)) = s1 at *
        generalize lon ((c : Int) * (c : Int)) = s2 at *
        have hhb : decide (0 ≤ s1) = false := decide_eq_false (by omega)
        clear e0 eb hk' ho hlt hb hc hi hcc hsq hA hh
        go_wp2_with (first
          | (go_at_call 45; ((with_reducible refine (S1.out _).mono ?_)); rintro e wb ⟨rfl, hbb⟩; refine keep2e (w := w) (g := w.heap.size) (u := .int .i64 x1) (v := .int .u64 (x2 : Int)) hbb ?_ ?_ ?_ ?_ ?_; (focus go_grown); (focus (first | (with_reducible assumption) | (simp; done) | (simp; omega) | omega)); (focus (first | (with_reducible assumption) | (simp; done) | (simp [*, go_sem]; done))); (focus (first | (with_reducible assumption) | (simp; done) | (simp [*, go_sem]; done))); intro k0b k1b k2b y0b; clear hbb))
        go_roundw
        case rel => exact ⟨k, r, by omega, NO.out HY.out, rfl, by go_num, by simp [*, go_sem], by simp [*, go_sem], by first | assumption | (simp; omega) | omega, by go_grown⟩
        case measure => simp [intOf]

theorem ref2_Root (x : Int) (w : World) (hx : W128 x) :
    Calls Try.prog 27 #[.agg #[.int .i64 (hii x), .int .u64 (lon x : Int)]] w fun e w' => e = .returned (.tuple #[.int .u64 (if x < 0 then 0 else isq x.toNat : Nat), .bool (decide (0 ≤ x))]) ∧ Below w.heap.size w w' := by
  by_cases h0 : x < 0
  · rw [if_pos h0, decide_eq_false (by omega)]; exact ref2_Root_neg x w hx h0
  · rw [if_neg h0, decide_eq_true (by omega)]; exact ref2_Root_pos x w hx (by omega)

end Go.Proofs.Ytppejnfiphkmnaa
