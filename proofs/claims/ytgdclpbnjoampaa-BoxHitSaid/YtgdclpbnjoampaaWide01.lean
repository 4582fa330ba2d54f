/- Contracts of package wide's small functions: halves, and their sums. -/
import Derived.Test.YtgdclpbnjoampaaDiv64
import Derived.Test.YtgdclpbnjoampaaMath02
import Derived.Handy
import Derived.Deep.RegionHeld3
import Derived.Deep.QuietTactic
import Derived.BigQuiet
import Derived.Deep.Draws
import Derived.Deep.DrawnRows
import Derived.Laws.Externs
import Derived.Deep.DeepCutAuto
import Derived.StillTailTactics
namespace Go.Proofs.Ytgdclpbnjoampaa
open Go.RowKit Go.Proofs.Sky
set_option linter.unusedVariables false
attribute [local go_sem ↓] Go.wp_at_zero Go.wp_at_succ

theorem wide_join (x : Int) (w : World) :
    Calls Try.prog 56 #[.agg #[.int .u64 (lon x : Int), .int .u64 (hin x : Int)]] w fun e w' => e = .returned (.agg #[.int .i64 (hii x), .int .u64 (lon x : Int)]) ∧ Below w.heap.size w w' := by
  have e := (hii_hin x).symm
  generalize hii x = h at *
  generalize lon x = l at *
  generalize hin x = g at *
  go_enter Try.func56, Try.ntmps56
  go_wp2
  go_returns
  exact ⟨rfl, by go_grown⟩

theorem wide_Mul (a b : Int) (w : World) (ha : I64 a) (hb : I64 b) :
    Calls Try.prog 52 #[.int .i64 a, .int .i64 b] w fun e w' => e = .returned (.agg #[.int .i64 (hii (a * b)), .int .u64 (lon (a * b) : Int)]) ∧ Below w.heap.size w w' := by
  obtain ⟨A, B, p, q, r1, H, eA, eB, hA, hB, hp, hq, el, eh, c1, c2, c3, c4, c5⟩ := MulWide.make a b ha hb
  have M : ∀ w, Calls Try.prog 47 #[.int .u64 A, .int .u64 B] w fun e w' => e = .returned (.tuple #[.int .u64 p, .int .u64 q]) ∧ w = w' := by intro w; rw [hp, hq]; exact Mul64 A B w hA hB
  have J : ∀ w, Calls Try.prog 56 #[.agg #[.int .u64 q, .int .u64 H]] w fun e w' => e = .returned (.agg #[.int .i64 (hii (a * b)), .int .u64 (lon (a * b) : Int)]) ∧ Below w.heap.size w w' := by
    intro w; rw [← el, ← eh]; exact wide_join _ w
  have HM := Lib.hid M
  have HJ := Lib.hid J
  clear M J hp hq hA hB ha hb el eh
  generalize hii (a * b) = R1 at *
  generalize lon (a * b) = R2 at *
  by_cases h1 : a < 0 <;> by_cases h2 : b < 0
  · have d2 := c2 h1
    have d5 := c5 h1 h2
    clear c1 c2 c3 c4 c5
    go_enter Try.func52, Try.ntmps52
    go_wp2_with (first
      | (go_at_call 47; refine (HM.out _).mono ?_; rintro e w' ⟨rfl, rfl⟩)
      | (go_at_call 56; refine (HJ.out _).mono ?_; rintro e w1 ⟨rfl, hb⟩; obtain ⟨hc, hf, y0, y1, y2⟩ := below1 (w := w) w.heap.size (by go_grown) hb (by first | (simp; done) | (simp; omega) | omega)))
    have k1 : w1.cell? ⟨w.heap.size, 0, none⟩ = some (.int .i64 0) := by simp [*, go_sem]
    have k2 : w1.cell? ⟨w.heap.size, 1, none⟩ = some (.int .u64 0) := by simp [*, go_sem]
    exact bodyPost_ret (v := .agg #[.int .i64 R1, .int .u64 R2]) (by simp [results, Try.results52, go_sem, k1, k2]) rfl ⟨rfl, by go_grown⟩
  · have d2 := c2 h1
    obtain rfl := c3 h1 (by omega)
    clear c1 c2 c3 c4 c5
    go_enter Try.func52, Try.ntmps52
    go_wp2_with (first
      | (go_at_call 47; refine (HM.out _).mono ?_; rintro e w' ⟨rfl, rfl⟩)
      | (go_at_call 56; refine (HJ.out _).mono ?_; rintro e w1 ⟨rfl, hb⟩; obtain ⟨hc, hf, y0, y1, y2⟩ := below1 (w := w) w.heap.size (by go_grown) hb (by first | (simp; done) | (simp; omega) | omega)))
    have k1 : w1.cell? ⟨w.heap.size, 0, none⟩ = some (.int .i64 0) := by simp [*, go_sem]
    have k2 : w1.cell? ⟨w.heap.size, 1, none⟩ = some (.int .u64 0) := by simp [*, go_sem]
    exact bodyPost_ret (v := .agg #[.int .i64 R1, .int .u64 R2]) (by simp [results, Try.results52, go_sem, k1, k2]) rfl ⟨rfl, by go_grown⟩
  · have d4 := c4 (by omega) h2
    clear c1 c2 c3 c4 c5
    go_enter Try.func52, Try.ntmps52
    go_wp2_with (first
      | (go_at_call 47; refine (HM.out _).mono ?_; rintro e w' ⟨rfl, rfl⟩)
      | (go_at_call 56; refine (HJ.out _).mono ?_; rintro e w1 ⟨rfl, hb⟩; obtain ⟨hc, hf, y0, y1, y2⟩ := below1 (w := w) w.heap.size (by go_grown) hb (by first | (simp; done) | (simp; omega) | omega)))
    have k1 : w1.cell? ⟨w.heap.size, 0, none⟩ = some (.int .i64 0) := by simp [*, go_sem]
    have k2 : w1.cell? ⟨w.heap.size, 1, none⟩ = some (.int .u64 0) := by simp [*, go_sem]
    exact bodyPost_ret (v := .agg #[.int .i64 R1, .int .u64 R2]) (by simp [results, Try.results52, go_sem, k1, k2]) rfl ⟨rfl, by go_grown⟩
  · obtain rfl := c1 (by omega) (by omega)
    clear c2 c3 c4 c5
    go_enter Try.func52, Try.ntmps52
    go_wp2_with (first
      | (go_at_call 47; refine (HM.out _).mono ?_; rintro e w' ⟨rfl, rfl⟩)
      | (go_at_call 56; refine (HJ.out _).mono ?_; rintro e w1 ⟨rfl, hb⟩; obtain ⟨hc, hf, y0, y1, y2⟩ := below1 (w := w) w.heap.size (by go_grown) hb (by first | (simp; done) | (simp; omega) | omega)))
    have k1 : w1.cell? ⟨w.heap.size, 0, none⟩ = some (.int .i64 0) := by simp [*, go_sem]
    have k2 : w1.cell? ⟨w.heap.size, 1, none⟩ = some (.int .u64 0) := by simp [*, go_sem]
    exact bodyPost_ret (v := .agg #[.int .i64 R1, .int .u64 R2]) (by simp [results, Try.results52, go_sem, k1, k2]) rfl ⟨rfl, by go_grown⟩

theorem plus_add (x y : Int) : ∃ c0 c1 : Nat, c0 ≤ 1 ∧ lon (x + y) = (lon x + lon y + 0) % 18446744073709551616 ∧ c0 = (lon x + lon y + 0) / 18446744073709551616 ∧
    hin (x + y) = (hin x + hin y + c0) % 18446744073709551616 ∧ c1 = (hin x + hin y + c0) / 18446744073709551616 := by
  unfold lon hin; refine ⟨_, _, ?_, ?_, rfl, ?_, rfl⟩ <;> omega

theorem plus_sub (x y : Int) : ∃ c0 c1 : Nat, c0 ≤ 1 ∧ lon (x - y) = (lon x + lon (-1 - y) + 1) % 18446744073709551616 ∧ c0 = (lon x + lon (-1 - y) + 1) / 18446744073709551616 ∧
    hin (x - y) = (hin x + hin (-1 - y) + c0) % 18446744073709551616 ∧ c1 = (hin x + hin (-1 - y) + c0) / 18446744073709551616 := by
  unfold lon hin; refine ⟨_, _, ?_, ?_, rfl, ?_, rfl⟩ <;> omega

theorem cmp_int (x y : Int) (w : World) :
    Calls Try.prog 54 #[.int .i64 x, .int .i64 y] w fun e w' => e = .returned (.int .i64 (cmpI x y)) ∧ w = w' := by
  refine (Try.cmp_Compare_int x y w).mono fun e w' ⟨h1, h2⟩ => ⟨?_, h2.symm⟩
  rw [h1]; congr 2

theorem cmp_isNaN_u (x : Int) (w : World) :
    Calls Try.prog 58 #[.int .u64 x] w fun e w' => e = .returned (.bool false) ∧ w = w' := by
  go_enter Try.func58, Try.ntmps58
  go_wp2
  go_ret
  exact ⟨by simp, rfl⟩

theorem cmp_uint (x y : Nat) (w : World) :
    Calls Try.prog 55 #[.int .u64 x, .int .u64 y] w fun e w' => e = .returned (.int .i64 (cmpI x y)) ∧ w = w' := by
  go_enter Try.func55, Try.ntmps55
  go_wp2_with (go_at_call 58; refine (cmp_isNaN_u _ _).mono ?_; rintro e w' ⟨rfl, rfl⟩)
  all_goals (go_ret; exact ⟨ret_int (by unfold cmpI; (repeat' split) <;> omega), rfl⟩)

theorem cmp_or2 (b : Nat) (x y : Int) (w : World) (c0 : w.cell? ⟨b, 0, none⟩ = some (.int .i64 x)) (c1 : w.cell? ⟨b, 1, none⟩ = some (.int .i64 y)) :
    Calls Try.prog 53 #[.slice (some ⟨b, 0, none⟩) 2 2] w fun e w' => e = .returned (.int .i64 (orI x y)) ∧ w = w' := by
  go_enter Try.func53, Try.ntmps53
  go_wp2
  go_rounds 3
  all_goals go_ret
  · have h : (x != 0) = true := by assumption
    have h' : ¬ x = 0 := by simpa using h
    exact ⟨ret_int (by unfold orI; rw [if_neg h']), rfl⟩
  · have h : (x != 0) = false := by assumption
    have h' : x = 0 := by simpa using h
    exact ⟨ret_int (by unfold orI; rw [if_pos h']), rfl⟩
  · have h : (x != 0) = false := by assumption
    have h' : x = 0 := by simpa using h
    have k : (y != 0) = false := by assumption
    have k' : y = 0 := by simpa using k
    exact ⟨ret_int (by unfold orI; rw [if_pos h', k']), rfl⟩

theorem wide_Cmp (x y : Int) (w : World) (hx : W128 x) (hy : W128 y) :
    Calls Try.prog 51 #[.agg #[.int .i64 (hii x), .int .u64 (lon x : Int)], .agg #[.int .i64 (hii y), .int .u64 (lon y : Int)]] w fun e w' => e = .returned (.int .i64 (cmpI x y)) ∧ Below w.heap.size w w' := by
  have E := Lib.hid (cmp_wide x y hx hy)
  clear hx hy
  generalize cmpI x y = R at *
  have C1 := Lib.hid (fun w => cmp_int (hii x) (hii y) w)
  have C2 := Lib.hid (fun w => cmp_uint (lon x) (lon y) w)
  generalize cmpI (hii x) (hii y) = R1 at *
  generalize cmpI (lon x : Int) (lon y : Int) = R2 at *
  generalize hii x = x1 at *
  generalize lon x = x2 at *
  generalize hii y = y1 at *
  generalize lon y = y2 at *
  have z1 : w.heap.size < w.heap.size + 1 := by omega
  go_enter Try.func51, Try.ntmps51
  go_wp2
  go_region_held3 (fun w' => w'.cell? ⟨w.heap.size, 0, none⟩ = some (.int .i64 x1) ∧ w'.cell? ⟨w.heap.size, 1, none⟩ = some (.int .u64 x2) ∧
      w'.cell? ⟨w.heap.size + 1, 0, none⟩ = some (.int .i64 y1) ∧ w'.cell? ⟨w.heap.size + 1, 1, none⟩ = some (.int .u64 y2)) (go_keep)
    (first
      | (go_at_call 54; refine (C1.out _).mono ?_; rintro e w1 ⟨rfl, rfl⟩)
      | (go_at_call 55; refine (C2.out _).mono ?_; rintro e w1 ⟨rfl, rfl⟩)
      | (go_at_call 53; refine (cmp_or2 _ R1 R2 _ (by simp [*, go_sem]) (by simp [*, go_sem])).mono ?_; rintro e w1 ⟨rfl, rfl⟩))
  all_goals go_wp2
  all_goals go_ret
  all_goals exact ⟨ret_int E.out, by go_grown⟩

theorem sizeW_spec (l h : Nat) (hl : l < 18446744073709551616) (hh : h < 9223372036854775808) : h * 18446744073709551616 + l < 2 ^ sizeW l h ∧ sizeW l h ≤ 127 := by
  unfold sizeW
  by_cases h0 : 0 < h
  · rw [if_pos h0]
    have b := Lib.bitLenAux_bounds 64 h (by omega) (by omega)
    have e : Lib.bitLen h = Lib.bitLenAux 64 h := rfl
    rw [← e] at b
    obtain ⟨b1, b2, b3⟩ := b
    constructor
    · rw [Nat.pow_add]; have : h + 1 ≤ 2 ^ Lib.bitLen h := b3
      have := Nat.mul_le_mul_right 18446744073709551616 this
      have e64 : (2 : Nat) ^ 64 = 18446744073709551616 := by decide
      rw [e64, Nat.mul_comm 18446744073709551616]; omega
    · have : Lib.bitLen h ≤ 63 := Lib.bitLen_le h 63 (by omega) hh
      omega
  · rw [if_neg h0]
    obtain ⟨b1, b2⟩ := bitLen_lt l hl
    obtain rfl : h = 0 := by omega
    exact ⟨by omega, by omega⟩

end Go.Proofs.Ytgdclpbnjoampaa
