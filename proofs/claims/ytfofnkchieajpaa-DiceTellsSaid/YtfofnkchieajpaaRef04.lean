/- Contracts of the document's own answers of layer 4 (skylightref04). -/
import Derived.Test.YtfofnkchieajpaaRef01
import Derived.Test.YtfofnkchieajpaaMath04
import Derived.Handy
import Derived.Deep.DrawnRows
import Derived.Laws.Externs
namespace Go.Proofs.Ytfofnkchieajpaa
open Go.RowKit Go.Proofs.Sky
set_option linter.unusedVariables false

set_option maxHeartbeats 1000000 in
theorem ref4_shifted (x k : Nat) (w : World) (hx : x < 18446744073709551616) (hk : k ≤ 63) :
    Calls Try.prog 20 #[.int .u64 x, .int .i64 k] w fun e w' => e = .returned (.int .u64 (shx k x : Nat)) ∧ w = w' := by
  have hz := shx_lt (k := k) hx
  have HX := Lib.hid hx
  have HZ := Lib.hid hz
  have hk' : (k : Int) ≤ 63 := by omega
  clear hx hz
  go_enter Try.func20, Try.ntmps20
  go_wp2
  go_loop [5, 6] (fun u v => ∃ i : Nat, i ≤ 64 ∧ u = .int .u64 (shx k x % 2 ^ i : Nat) ∧ v = .int .i64 i) (fun _ v => 64 - (intOf v).toNat)
  case atStart => exact ⟨0, by omega, by rw [Nat.pow_zero, Nat.mod_one]; rfl, rfl⟩
  case round =>
    obtain ⟨i, hi, rfl, rfl⟩ := hrel
    by_cases hlt : i < 64
    · have e1 := bits_shr1 i HX.out
      have e4 := shl_bit (bt (shx k x) i) i (bt_lt _ _) hlt
      have e5 : IntKind.u64.wrap (((shx k x % 2 ^ i : Nat) : Int) + ((bt (shx k x) i * 2 ^ i : Nat) : Int)) = ((shx k x % 2 ^ (i + 1) : Nat) : Int) := by
        rw [low_next, u64w]
        have := low_lt _ (i + 1) HZ.out
        rw [low_next] at this
        omega
      obtain ⟨o', ho'⟩ : ∃ o', o' = shx k x % 2 ^ (i + 1) := ⟨_, rfl⟩
      rw [← ho'] at e5
      have HO := Lib.hid ho'
      clear ho'
      by_cases hik : i + k < 64
      · have e2 := bits_shr1 (i + k) HX.out
        have e3 := bits_xor1 (bt x i) (bt x (i + k)) (bt_lt _ _) (bt_lt _ _)
        have e6 : ((i : Int) + (k : Int)).toNat = i + k := by omega
        rw [← bt_shx] at e3
        generalize shx k x % 2 ^ i = o at *
        generalize bt (shx k x) i = z at *
        generalize z * 2 ^ i = t at *
        generalize bt x i = a at *
        generalize bt x (i + k) = b at *
        go_wp2
        go_round
        case rel => exact ⟨i + 1, by omega, by rw [HO.out], by go_num⟩
        case measure => simp [intOf]; omega
      · rw [bt_shx_far HX.out (by omega)] at e4 e5
        generalize shx k x % 2 ^ i = o at *
        generalize bt x i = z at *
        generalize z * 2 ^ i = t at *
        go_wp2
        go_round
        case rel => exact ⟨i + 1, by omega, by rw [HO.out], by go_num⟩
        case measure => simp [intOf]; omega
    · obtain rfl : i = 64 := by omega
      go_wp2
      go_ret
      exact ⟨ret_int (by have := HZ.out; omega), rfl⟩

set_option maxHeartbeats 1000000 in
theorem ref4_back (y k : Nat) (w : World) (hy : y < 18446744073709551616) (hk : k ≤ 63) (h3 : 64 ≤ 3 * k) :
    Calls Try.prog 22 #[.int .u64 y, .int .i64 k] w fun e w' => e = .returned (.int .u64 (bkx k y : Nat)) ∧ w = w' := by
  have HY := Lib.hid hy
  have HZ := Lib.hid (bkx_lt (k := k) hy)
  have H3 := Lib.hid h3
  have hk' : (k : Int) ≤ 63 := by omega
  have HB := Lib.hid (fun i => bt_bkx (i := i) hy h3)
  have HF := Lib.hid (fun i => bt_bkx_far (i := i) hy h3)
  obtain ⟨X, hX⟩ : ∃ X, X = bkx k y := ⟨_, rfl⟩
  rw [← hX] at HZ HB HF ⊢
  clear hy h3 hX
  go_enter Try.func22, Try.ntmps22
  go_wp2
  go_loop [5, 6] (fun u v => ∃ i : Nat, i ≤ 64 ∧ u = .int .u64 (top X i : Nat) ∧ v = .int .i64 ((i : Int) - 1)) (fun _ v => (intOf v + 1).toNat)
  case atStart => exact ⟨64, by omega, by rw [top_all HZ.out]; rfl, rfl⟩
  case round =>
    obtain ⟨i, hi, rfl, rfl⟩ := hrel
    match i, hi with
    | 0, _ =>
      go_wp2
      go_ret
      exact ⟨ret_int (by rw [top_zero]), rfl⟩
    | i + 1, hi =>
      have ei : (((i + 1 : Nat) : Int)) - 1 = (i : Int) := by omega
      rw [ei]
      have hlt : i < 64 := by omega
      have hi' : (i : Int) ≤ 63 := by omega
      have e1 := bits_shr1 i HY.out
      have e4 := shl_bit (bt X i) i (bt_lt _ _) hlt
      have e5 : IntKind.u64.wrap (((top X (i + 1) : Nat) : Int) + ((bt X i * 2 ^ i : Nat) : Int)) = ((top X i : Nat) : Int) := by
        rw [top_next X i, u64w]
        have := Nat.lt_of_le_of_lt (top_le X i) HZ.out
        rw [top_next X i] at this
        omega
      obtain ⟨o', ho'⟩ : ∃ o', o' = top X i := ⟨_, rfl⟩
      rw [← ho'] at e5
      have HO := Lib.hid ho'
      clear ho' ei
      by_cases hik : i + k < 64
      · have e2 := bits_shr1 (i + k) (Nat.lt_of_le_of_lt (top_le X (i + 1)) HZ.out)
        rw [bt_top X (i + 1) (i + k) (by have := H3.out; omega)] at e2
        have e3 := bits_xor1 (bt y i) (bt X (i + k)) (bt_lt _ _) (bt_lt _ _)
        rw [← HB.out i] at e3
        have e6 : ((i : Int) + (k : Int)).toNat = i + k := by omega
        generalize top X (i + 1) = o at *
        generalize bt X i = z at *
        generalize z * 2 ^ i = t at *
        generalize bt y i = a at *
        generalize bt X (i + k) = b at *
        go_wp2
        go_round
        case rel => exact ⟨i, by omega, by rw [HO.out], by go_num⟩
        case measure => simp [intOf]
      · rw [HF.out i (by omega)] at e4 e5
        generalize top X (i + 1) = o at *
        generalize bt y i = z at *
        generalize z * 2 ^ i = t at *
        go_wp2
        go_round
        case rel => exact ⟨i, by omega, by rw [HO.out], by go_num⟩
        case measure => simp [intOf]

theorem ref4_turned1 (w : World) :
    Calls Try.prog 23 #[.int .u64 13787848793156543929] w fun e w' => e = .returned (.int .u64 10871156337175269513) ∧ w = w' := by
  go_enter Try.func23, Try.ntmps23
  go_wp2
  go_rounds 7
  go_ret
  exact ⟨rfl, rfl⟩

theorem ref4_turned2 (w : World) :
    Calls Try.prog 23 #[.int .u64 10723151780598845931] w fun e w' => e = .returned (.int .u64 3573116690164977347) ∧ w = w' := by
  go_enter Try.func23, Try.ntmps23
  go_wp2
  go_rounds 7
  go_ret
  exact ⟨rfl, rfl⟩

theorem ref4_Mix (x : Nat) (w : World) (hx : x < 18446744073709551616) :
    Calls Try.prog 7 #[.int .u64 x] w fun e w' => e = .returned (.int .u64 (mixN x : Nat)) ∧ w = w' := by
  unfold mixN
  have S1 : Hid (∀ w, Calls Try.prog 20 #[.int .u64 (x : Nat), .int .i64 30] w fun e w' => e = .returned (.int .u64 (shx 30 x : Nat)) ∧ w = w') := Lib.hid (fun w => ref4_shifted x 30 w hx (by omega))
  have M1 : Hid (∀ w, Calls Try.prog 19 #[.int .u64 (shx 30 x : Nat), .int .u64 13787848793156543929] w fun e w' => e = .returned (.tuple #[.int .u64 ((shx 30 x * 13787848793156543929 / 18446744073709551616 : Nat) : Int), .int .u64 ((shx 30 x * 13787848793156543929 % 18446744073709551616 : Nat) : Int)]) ∧ w = w') := Lib.hid (fun w => ref_Mul (shx 30 x) 13787848793156543929 w (shx_lt hx) (by omega))
  obtain ⟨q1, hq1⟩ : ∃ q1, q1 = shx 30 x * 13787848793156543929 / 18446744073709551616 := ⟨_, rfl⟩
  rw [← hq1] at M1
  obtain ⟨a, ha⟩ : ∃ a, a = shx 30 x * 13787848793156543929 % 18446744073709551616 := ⟨_, rfl⟩
  rw [← ha] at M1 ⊢
  have al : a < 18446744073709551616 := by omega
  have S2 : Hid (∀ w, Calls Try.prog 20 #[.int .u64 (a : Nat), .int .i64 27] w fun e w' => e = .returned (.int .u64 (shx 27 a : Nat)) ∧ w = w') := Lib.hid (fun w => ref4_shifted a 27 w al (by omega))
  have M2 : Hid (∀ w, Calls Try.prog 19 #[.int .u64 (shx 27 a : Nat), .int .u64 10723151780598845931] w fun e w' => e = .returned (.tuple #[.int .u64 ((shx 27 a * 10723151780598845931 / 18446744073709551616 : Nat) : Int), .int .u64 ((shx 27 a * 10723151780598845931 % 18446744073709551616 : Nat) : Int)]) ∧ w = w') := Lib.hid (fun w => ref_Mul (shx 27 a) 10723151780598845931 w (shx_lt al) (by omega))
  obtain ⟨q2, hq2⟩ : ∃ q2, q2 = shx 27 a * 10723151780598845931 / 18446744073709551616 := ⟨_, rfl⟩
  rw [← hq2] at M2
  obtain ⟨b, hb⟩ : ∃ b, b = shx 27 a * 10723151780598845931 % 18446744073709551616 := ⟨_, rfl⟩
  rw [← hb] at M2 ⊢
  have bl : b < 18446744073709551616 := by omega
  have S3 : Hid (∀ w, Calls Try.prog 20 #[.int .u64 (b : Nat), .int .i64 31] w fun e w' => e = .returned (.int .u64 (shx 31 b : Nat)) ∧ w = w') := Lib.hid (fun w => ref4_shifted b 31 w bl (by omega))
  clear ha hb al bl hx hq1 hq2
  generalize shx 30 x = c1 at *
  generalize shx 27 a = c2 at *
  generalize shx 31 b = c3 at *
  go_enter Try.func7, Try.ntmps7
  go_wp2_with (first
    | (go_at_call 20; (with_reducible refine (S1.out _).mono ?_); rintro e w' ⟨rfl, rfl⟩)
    | (go_at_call 20; (with_reducible refine (S2.out _).mono ?_); rintro e w' ⟨rfl, rfl⟩)
    | (go_at_call 20; (with_reducible refine (S3.out _).mono ?_); rintro e w' ⟨rfl, rfl⟩)
    | (go_at_call 19; (with_reducible refine (M1.out _).mono ?_); rintro e w' ⟨rfl, rfl⟩)
    | (go_at_call 19; (with_reducible refine (M2.out _).mono ?_); rintro e w' ⟨rfl, rfl⟩))
  go_ret
  exact ⟨rfl, rfl⟩

theorem ref4_Unmix (y : Nat) (w : World) (hy : y < 18446744073709551616) :
    Calls Try.prog 13 #[.int .u64 y] w fun e w' => e = .returned (.int .u64 (unmixN y : Nat)) ∧ w = w' := by
  unfold unmixN
  have S1 : Hid (∀ w, Calls Try.prog 22 #[.int .u64 (y : Nat), .int .i64 31] w fun e w' => e = .returned (.int .u64 (bkx 31 y : Nat)) ∧ w = w') := Lib.hid (fun w => ref4_back y 31 w hy (by omega) (by omega))
  have T1 := Lib.hid (fun w => ref4_turned1 w)
  have T2 := Lib.hid (fun w => ref4_turned2 w)
  have e1 : IntKind.u64.wrap ((bkx 31 y : Int) * 3573116690164977347) = ((bkx 31 y * 3573116690164977347 % 18446744073709551616 : Nat) : Int) := by rw [u64w]; omega
  obtain ⟨a, ha⟩ : ∃ a, a = bkx 31 y * 3573116690164977347 % 18446744073709551616 := ⟨_, rfl⟩
  rw [← ha] at e1 ⊢
  have al : a < 18446744073709551616 := by omega
  have S2 : Hid (∀ w, Calls Try.prog 22 #[.int .u64 (a : Nat), .int .i64 27] w fun e w' => e = .returned (.int .u64 (bkx 27 a : Nat)) ∧ w = w') := Lib.hid (fun w => ref4_back a 27 w al (by omega) (by omega))
  have e2 : IntKind.u64.wrap ((bkx 27 a : Int) * 10871156337175269513) = ((bkx 27 a * 10871156337175269513 % 18446744073709551616 : Nat) : Int) := by rw [u64w]; omega
  obtain ⟨b, hb⟩ : ∃ b, b = bkx 27 a * 10871156337175269513 % 18446744073709551616 := ⟨_, rfl⟩
  rw [← hb] at e2 ⊢
  have bl : b < 18446744073709551616 := by omega
  have S3 : Hid (∀ w, Calls Try.prog 22 #[.int .u64 (b : Nat), .int .i64 30] w fun e w' => e = .returned (.int .u64 (bkx 30 b : Nat)) ∧ w = w') := Lib.hid (fun w => ref4_back b 30 w bl (by omega) (by omega))
  clear ha hb al bl hy
  generalize bkx 31 y = c1 at *
  generalize bkx 27 a = c2 at *
  generalize bkx 30 b = c3 at *
  go_enter Try.func13, Try.ntmps13
  go_wp2_with (first
    | (go_at_call 22; (with_reducible refine (S1.out _).mono ?_); rintro e w' ⟨rfl, rfl⟩)
    | (go_at_call 22; (with_reducible refine (S2.out _).mono ?_); rintro e w' ⟨rfl, rfl⟩)
    | (go_at_call 22; (with_reducible refine (S3.out _).mono ?_); rintro e w' ⟨rfl, rfl⟩)
    | (go_at_call 23; (with_reducible refine (T1.out _).mono ?_); rintro e w' ⟨rfl, rfl⟩)
    | (go_at_call 23; (with_reducible refine (T2.out _).mono ?_); rintro e w' ⟨rfl, rfl⟩))
  go_ret
  exact ⟨rfl, rfl⟩

theorem ref4_Draw (s : Nat) (p q : Int) (w : World) (hs : s < 18446744073709551616) :
    Calls Try.prog 9 #[.int .u64 s, .int .i64 p, .int .i64 q] w fun e w' => e = .returned (.int .u64 (drawN s p q : Nat)) ∧ w = w' := by
  unfold drawN
  have M1 := Lib.hid (fun w => ref4_Mix s w hs)
  have m1 := mixN_lt s
  have e1 := u64of_wrap p
  have e2 := u64of_wrap q
  have l1 := u64of_lt p
  have l2 := u64of_lt q
  have s1 : IntKind.u64.wrap ((mixN s : Int) + (u64of p : Int)) = (((mixN s + u64of p) % 18446744073709551616 : Nat) : Int) := by rw [u64w]; omega
  obtain ⟨a, ha⟩ : ∃ a, a = (mixN s + u64of p) % 18446744073709551616 := ⟨_, rfl⟩
  rw [← ha] at s1 ⊢
  have M2 := Lib.hid (fun w => ref4_Mix a w (by omega))
  have s2 : IntKind.u64.wrap ((mixN a : Int) + (u64of q : Int)) = (((mixN a + u64of q) % 18446744073709551616 : Nat) : Int) := by rw [u64w]; omega
  obtain ⟨b, hb⟩ : ∃ b, b = (mixN a + u64of q) % 18446744073709551616 := ⟨_, rfl⟩
  rw [← hb] at s2 ⊢
  have M3 := Lib.hid (fun w => ref4_Mix b w (by omega))
  clear ha hb m1 l1 l2 hs
  generalize mixN s = c1 at *
  generalize mixN a = c2 at *
  generalize mixN b = c3 at *
  generalize u64of p = p' at *
  generalize u64of q = q' at *
  go_enter Try.func9, Try.ntmps9
  go_wp2_with (first
    | (go_at_call 7; (with_reducible refine (M1.out _).mono ?_); rintro e w' ⟨rfl, rfl⟩)
    | (go_at_call 7; (with_reducible refine (M2.out _).mono ?_); rintro e w' ⟨rfl, rfl⟩)
    | (go_at_call 7; (with_reducible refine (M3.out _).mono ?_); rintro e w' ⟨rfl, rfl⟩))
  go_ret
  exact ⟨rfl, rfl⟩

theorem ref4_Below (x : Nat) (n : Int) (w : World) (hx : x < 18446744073709551616) :
    Calls Try.prog 11 #[.int .u64 x, .int .i64 n] w fun e w' => e = .returned (.int .i64 (belowN x n)) ∧ w = w' := by
  by_cases h1 : n < 1
  · have e : belowN x n = 0 := by unfold belowN; rw [if_pos (.inl h1)]
    rw [e]
    clear e
    go_enter Try.func11, Try.ntmps11
    go_wp2
    go_ret
    exact ⟨rfl, rfl⟩
  · by_cases h2 : 2147483648 < n
    · have e : belowN x n = 0 := by unfold belowN; rw [if_pos (.inr h2)]
      rw [e]
      have h1' : 1 ≤ n := by omega
      clear e h1
      go_enter Try.func11, Try.ntmps11
      go_wp2
      go_ret
      exact ⟨rfl, rfl⟩
    · obtain ⟨m, rfl⟩ := Int.eq_ofNat_of_zero_le (show 0 ≤ n by omega)
      have r := belowN_range (n := (m : Int)) hx
      have e : belowN x m = ((x * m / 18446744073709551616 : Nat) : Int) := by unfold belowN; rw [if_neg (by omega), Int.toNat_natCast]
      have M := Lib.hid (fun w => ref_Mul x m w hx (by omega))
      rw [e] at r ⊢
      generalize x * m / 18446744073709551616 = h at *
      generalize x * m % 18446744073709551616 = l at *
      have e1 : IntKind.u64.wrap (m : Int) = (m : Int) := by rw [u64w]; omega
      have e2 : IntKind.i64.wrap (h : Int) = (h : Int) := by rw [i64w]; omega
      have t1 : decide ((m : Int) < 1) = false := decide_eq_false (by omega)
      have t2 : decide ((2147483648 : Int) < (m : Int)) = false := decide_eq_false (by omega)
      clear e r h1 h2 hx
      go_enter Try.func11, Try.ntmps11
      go_wp2_with (go_at_call 19; (with_reducible refine (M.out _).mono ?_); rintro e w' ⟨rfl, rfl⟩)
      go_ret
      exact ⟨rfl, rfl⟩

end Go.Proofs.Ytfofnkchieajpaa
