/- Contracts of package wide's small functions: halves, and their sums. -/
import Derived.Deep.RegionHeld3
import Derived.Deep.DrawnRows
import Derived.Laws.Externs
import Derived.StillTailTactics
import Derived.Test.YtbmpmjdlaahekaaGreatWs14
set_option maxRecDepth 100000
set_option maxHeartbeats 8000000
set_option linter.unusedVariables false
set_option linter.unusedSimpArgs false
open Go.Proofs.Tryz
namespace Go.Proofs.YtbmpmjdlaahekaaGreat
section
open Go.RowKit Go.Proofs.Sky
attribute [local go_sem ↓] Go.wp_at_zero Go.wp_at_succ
theorem wide_split (x : Int) (w : World) :
  Rt prog 155 #[.agg #[.int .i64 (hii x), .int .u64 (lon x : Int)]] w (.agg #[.int .u64 (lon x : Int), .int .u64 (hin x : Int)]) := by
 have e := (hin_hii x).symm
 generalize hii x = h at *
 generalize lon x = l at *
 generalize hin x = g at *
 go_enter func155, ntmps155
 go_wp2
 go_returns
 exact ⟨rfl, by go_grown⟩
theorem wide_join (x : Int) (w : World) :
  Rt prog 124 #[.agg #[.int .u64 (lon x : Int), .int .u64 (hin x : Int)]] w (.agg #[.int .i64 (hii x), .int .u64 (lon x : Int)]) := by
 have e := (hii_hin x).symm
 generalize hii x = h at *
 generalize lon x = l at *
 generalize hin x = g at *
 go_enter func124, ntmps124
 go_wp2
 go_returns
 exact ⟨rfl, by go_grown⟩
theorem add64_run (x y c : Nat) (hc : c ≤ 1) (w : World) :
  (callFunc 163 #[.int .u64 x, .int .u64 y, .int .u64 c]).run prog w =
   .ok (.value (.tuple #[.int .u64 (((x + y + c) % 18446744073709551616 : Nat) : Int), .int .u64 (((x + y + c) / 18446744073709551616 : Nat) : Int)])) w := by
 rw [run_callFunc_extern func163 (by kernel_rfl) (by kernel_rfl) (by kernel_rfl) (e := add64Entry) (by kernel_rfl), run_add64 x y c (by omega) (by omega) (by omega) (by omega)]
 simp only [Result.andThen]
 congr 5 <;> omega
theorem wide_plus (a0 a1 b0 b1 c s0 c0 s1 c1 : Nat) (hc : c ≤ 1) (e0 : s0 = (a0 + b0 + c) % 18446744073709551616) (e1 : c0 = (a0 + b0 + c) / 18446744073709551616) (h0 : c0 ≤ 1)
  (e2 : s1 = (a1 + b1 + c0) % 18446744073709551616) (e3 : c1 = (a1 + b1 + c0) / 18446744073709551616) (w : World) :
  Rt prog 160 #[.agg #[.int .u64 a0, .int .u64 a1], .agg #[.int .u64 b0, .int .u64 b1], .int .u64 c] w (.agg #[.int .u64 s0, .int .u64 s1]) := by
 have r1 := fun w => add64_run a0 b0 c hc w
 have r2 := fun w => add64_run a1 b1 c0 h0 w
 rw [← e0, ← e1] at r1
 rw [← e2, ← e3] at r2
 clear e0 e1 e2 e3 hc h0
 go_enter func160, ntmps160
 go_wp2
 refine wp_loop_rounds 3 ?_
 rw [rounds_succ]
 go_wp2
 go_region_with (fail)
 all_goals
  go_wp2
  rw [rounds_succ]
  go_wp2
  go_region_with (fail)
  all_goals
   go_wp2
   rw [rounds_succ]
   go_wp2
   go_returns
   exact ⟨rfl, by go_grown⟩
theorem wide_not (x : Int) (w : World) :
  Rt prog 161 #[.agg #[.int .u64 (lon x), .int .u64 (hin x)]] w (.agg #[.int .u64 (lon (-1 - x)), .int .u64 (hin (-1 - x))]) := by
 have e1 := not_nat (lon x) (lon_lt x)
 have e2 := not_nat (hin x) (hin_lt x)
 rw [← (lon_not x).1] at e1
 rw [← (lon_not x).2] at e2
 generalize lon (-1 - x) = u1 at *
 generalize hin (-1 - x) = u2 at *
 generalize lon x = v1 at *
 generalize hin x = v2 at *
 go_enter func161, ntmps161
 go_wp2
 go_rounds 3
 go_returns
 exact ⟨rfl, by go_grown⟩
theorem wide_size (l h : Nat) (hl : l < 18446744073709551616) (hh : h < 18446744073709551616) (w : World) :
  Rt prog 156 #[.agg #[.int .u64 l, .int .u64 h]] w (.int .i64 (if 0 < h then 64 + (Lib.bitLen h : Int) else (Lib.bitLen l : Int))) := by
 have b1 := (bitLen_lt h hh).1
 have b2 := (bitLen_lt l hl).1
 go_enter func156, ntmps156
 go_wp2_with (go_at_call 162; refine (Len64 _ _ (by unfold U64; omega)).mono ?_; rintro e w' ⟨rfl, rfl⟩)
 all_goals go_ret
 all_goals exact ⟨rfl, by go_grown⟩
theorem wide_shifted (l h c : Nat) (w : World) (hl : l < 18446744073709551616) (hc : c ≤ 64) (hh : h < 2 ^ c) :
  Rt prog 158 #[.agg #[.int .u64 l, .int .u64 h], c] w (.int .u64 (((h * 18446744073709551616 + l) / 2 ^ c : Nat) : Int)) := by
 have e := shift_join l h c hl hc hh
 have e2 : ((64 : Int) - (c : Int)).toNat = 64 - c := by omega
 have E := zh e
 have E2 := zh e2
 clear e e2 hh
 go_enter func158, ntmps158
 go_wp2
 go_quiet (fail)
 go_wp2
 go_ret
 exact ⟨z0m (by show bits _ _ _ _ = _; rw [E.out]), by exact z13 (by go_grown) _⟩
theorem wide_holds (l h r : Nat) (w : World) (hl : l < 18446744073709551616) (hr : r < 18446744073709551616) :
  Rt prog 159 #[.agg #[.int .u64 l, .int .u64 h], .int .u64 r] w (.bool (decide (r * r ≤ h * 18446744073709551616 + l))) := by
 obtain ⟨p, hp⟩ := nmd (r * r / 18446744073709551616)
 obtain ⟨q, hq⟩ := nmd (r * r % 18446744073709551616)
 have M : ∀ w, Calls prog 106 #[.int .u64 r, .int .u64 r] w fun e w' => e = .returned (.tuple #[.int .u64 p, .int .u64 q]) ∧ w = w' := by intro w; rw [hp, hq]; exact Mul64 r r w hr hr
 have HB := zh (holds_bool l h p q r (by omega) hl (by omega))
 have HM := zh M
 clear M hp hq hl hr
 generalize decide (r * r ≤ h * 18446744073709551616 + l) = B at *
 go_enter func159, ntmps159
 go_wp2_with (go_at_call 106; refine (HM.out _).mono ?_; rintro e w' ⟨rfl, rfl⟩)
 all_goals go_ret
 all_goals (refine ⟨?_, by go_grown⟩; rw [← HB.out]; show Ending.returned (.bool _) = _; congr 2)
 · have h1 : (p : Int) = h := by assumption
   obtain rfl : p = h := by omega
   simp
 · have h1 : ¬ (p : Int) = h := by assumption
   have h2 : ¬ p = h := by omega
   simp [h2]
 · have h1 : ¬ h ≤ p := by assumption
   simp; left; omega
theorem wide_Mul (a b : Int) (w : World) (ha : I64 a) (hb : I64 b) :
  Rt prog 93 #[a, b] w (.agg #[.int .i64 (hii (a * b)), .int .u64 (lon (a * b) : Int)]) := by
 obtain ⟨A, B, p, q, r1, H, eA, eB, hA, hB, hp, hq, el, eh, c1, c2, c3, c4, c5⟩ := MulWide.make a b ha hb
 have M : ∀ w, Calls prog 106 #[.int .u64 A, .int .u64 B] w fun e w' => e = .returned (.tuple #[.int .u64 p, .int .u64 q]) ∧ w = w' := by intro w; rw [hp, hq]; exact Mul64 A B w hA hB
 have J : ∀ w, Rt prog 124 #[.agg #[.int .u64 q, .int .u64 H]] w (.agg #[.int .i64 (hii (a * b)), .int .u64 (lon (a * b) : Int)]) := by
  intro w; rw [← el, ← eh]; exact wide_join _ w
 have HM := zh M
 have HJ := zh J
 clear M J hp hq hA hB ha hb el eh
 generalize hii (a * b) = R1 at *
 generalize lon (a * b) = R2 at *
 by_cases h1 : a < 0 <;> by_cases h2 : b < 0
 · have d2 := c2 h1
   have d5 := c5 h1 h2
   clear c1 c2 c3 c4 c5
   go_enter func93, ntmps93
   go_wp2_with (first
    | (go_at_call 106; refine (HM.out _).mono ?_; rintro e w' ⟨rfl, rfl⟩)
    | (go_at_call 124; refine (HJ.out _).mono ?_; rintro e w1 ⟨rfl, hb⟩; obtain ⟨hc, hf, y0, y1, y2⟩ := below1 (w := w) w.heap.size (by go_grown) hb (by first | (simp; done) | (simp; omega) | omega)))
   have k1 : w1.cell? ⟨w.heap.size, 0, none⟩ = some (.int .i64 0) := by simp [*, go_sem]
   have k2 : w1.cell? ⟨w.heap.size, 1, none⟩ = some (.int .u64 0) := by simp [*, go_sem]
   exact bodyPost_ret (v := .agg #[R1, .int .u64 R2]) (by simp [results, results93, go_sem, k1, k2]) rfl ⟨rfl, by go_grown⟩
 · have d2 := c2 h1
   obtain rfl := c3 h1 (by omega)
   clear c1 c2 c3 c4 c5
   go_enter func93, ntmps93
   go_wp2_with (first
    | (go_at_call 106; refine (HM.out _).mono ?_; rintro e w' ⟨rfl, rfl⟩)
    | (go_at_call 124; refine (HJ.out _).mono ?_; rintro e w1 ⟨rfl, hb⟩; obtain ⟨hc, hf, y0, y1, y2⟩ := below1 (w := w) w.heap.size (by go_grown) hb (by first | (simp; done) | (simp; omega) | omega)))
   have k1 : w1.cell? ⟨w.heap.size, 0, none⟩ = some (.int .i64 0) := by simp [*, go_sem]
   have k2 : w1.cell? ⟨w.heap.size, 1, none⟩ = some (.int .u64 0) := by simp [*, go_sem]
   exact bodyPost_ret (v := .agg #[R1, .int .u64 R2]) (by simp [results, results93, go_sem, k1, k2]) rfl ⟨rfl, by go_grown⟩
 · have d4 := c4 (by omega) h2
   clear c1 c2 c3 c4 c5
   go_enter func93, ntmps93
   go_wp2_with (first
    | (go_at_call 106; refine (HM.out _).mono ?_; rintro e w' ⟨rfl, rfl⟩)
    | (go_at_call 124; refine (HJ.out _).mono ?_; rintro e w1 ⟨rfl, hb⟩; obtain ⟨hc, hf, y0, y1, y2⟩ := below1 (w := w) w.heap.size (by go_grown) hb (by first | (simp; done) | (simp; omega) | omega)))
   have k1 : w1.cell? ⟨w.heap.size, 0, none⟩ = some (.int .i64 0) := by simp [*, go_sem]
   have k2 : w1.cell? ⟨w.heap.size, 1, none⟩ = some (.int .u64 0) := by simp [*, go_sem]
   exact bodyPost_ret (v := .agg #[R1, .int .u64 R2]) (by simp [results, results93, go_sem, k1, k2]) rfl ⟨rfl, by go_grown⟩
 · obtain rfl := c1 (by omega) (by omega)
   clear c2 c3 c4 c5
   go_enter func93, ntmps93
   go_wp2_with (first
    | (go_at_call 106; refine (HM.out _).mono ?_; rintro e w' ⟨rfl, rfl⟩)
    | (go_at_call 124; refine (HJ.out _).mono ?_; rintro e w1 ⟨rfl, hb⟩; obtain ⟨hc, hf, y0, y1, y2⟩ := below1 (w := w) w.heap.size (by go_grown) hb (by first | (simp; done) | (simp; omega) | omega)))
   have k1 : w1.cell? ⟨w.heap.size, 0, none⟩ = some (.int .i64 0) := by simp [*, go_sem]
   have k2 : w1.cell? ⟨w.heap.size, 1, none⟩ = some (.int .u64 0) := by simp [*, go_sem]
   exact bodyPost_ret (v := .agg #[R1, .int .u64 R2]) (by simp [results, results93, go_sem, k1, k2]) rfl ⟨rfl, by go_grown⟩
theorem plus_sub (x y : Int) : ∃ c0 c1 : Nat, c0 ≤ 1 ∧ lon (x - y) = (lon x + lon (-1 - y) + 1) % 18446744073709551616 ∧ c0 = (lon x + lon (-1 - y) + 1) / 18446744073709551616 ∧
  hin (x - y) = (hin x + hin (-1 - y) + c0) % 18446744073709551616 ∧ c1 = (hin x + hin (-1 - y) + c0) / 18446744073709551616 := by
 unfold lon hin; refine ⟨_, _, ?_, ?_, rfl, ?_, rfl⟩ <;> omega
theorem wide_plus_sub (x y : Int) (w : World) :
  Rt prog 160 #[.agg #[.int .u64 (lon x), .int .u64 (hin x)], .agg #[.int .u64 (lon (-1 - y)), .int .u64 (hin (-1 - y))], .int .u64 1] w (.agg #[.int .u64 (lon (x - y)), .int .u64 (hin (x - y))]) := by
 obtain ⟨c0, c1, h0, h1, h2, h3, h4⟩ := plus_sub x y
 exact wide_plus _ _ _ _ 1 _ c0 _ c1 (by omega) h1 h2 h0 h3 h4 w
theorem wide_Sub (x y : Int) (w : World) :
  Rt prog 153 #[.agg #[.int .i64 (hii x), .int .u64 (lon x : Int)], .agg #[.int .i64 (hii y), .int .u64 (lon y : Int)]] w (.agg #[.int .i64 (hii (x - y)), .int .u64 (lon (x - y) : Int)]) := by
 obtain ⟨z1, z2, z3, z4, z5, z6⟩ := lt3 w.heap.size
 go_enter func153, ntmps153
 go_wp2
 go_region_held3 (fun w' => w'.cell? ⟨w.heap.size, 0, none⟩ = some (.int .i64 (hii x)) ∧ w'.cell? ⟨w.heap.size, 1, none⟩ = some (.int .u64 (lon x)) ∧
   w'.cell? ⟨w.heap.size + 1, 0, none⟩ = some (.int .i64 (hii y)) ∧ w'.cell? ⟨w.heap.size + 1, 1, none⟩ = some (.int .u64 (lon y))) (go_keep)
  (first
   | (go_at_call 155; refine (wide_split _ _).mono ?_; rintro e w1 ⟨rfl, hb⟩; obtain ⟨hc, hf, y0, y1, y2, y3, y4⟩ := below3 (w := w) w.heap.size (by go_grown) hb (by first | (simp; done) | (simp; omega) | omega))
   | (go_at_call 161; refine (wide_not _ _).mono ?_; rintro e w1 ⟨rfl, hb⟩; obtain ⟨hc, hf, y0, y1, y2, y3, y4⟩ := below3 (w := w) w.heap.size (by go_grown) hb (by first | (simp; done) | (simp; omega) | omega))
   | (go_at_call 160; refine (wide_plus_sub _ _ _).mono ?_; rintro e w1 ⟨rfl, hb⟩; obtain ⟨hc, hf, y0, y1, y2, y3, y4⟩ := below3 (w := w) w.heap.size (by go_grown) hb (by first | (simp; done) | (simp; omega) | omega))
   | (go_at_call 124; refine (wide_join _ _).mono ?_; rintro e w1 ⟨rfl, hb⟩; obtain ⟨hc, hf, y0, y1, y2, y3, y4⟩ := below3 (w := w) w.heap.size (by go_grown) hb (by first | (simp; done) | (simp; omega) | omega)))
 all_goals go_wp2
 all_goals
  have k1 : w1.cell? ⟨w.heap.size + 1 + 1, 0, none⟩ = some (.int .i64 0) := by simp [*, go_sem]
  have k2 : w1.cell? ⟨w.heap.size + 1 + 1, 1, none⟩ = some (.int .u64 0) := by simp [*, go_sem]
  exact bodyPost_ret (v := .agg #[.int .i64 (hii (x - y)), .int .u64 (lon (x - y) : Int)]) (by simp [results, results153, go_sem, k1, k2]) rfl ⟨rfl, by go_grown⟩
theorem cmp_int (x y : Int) (w : World) :
  Calls prog 122 #[x, y] w fun e w' => e = .returned (.int .i64 (cmpI x y)) ∧ w = w' := by
 refine (Tryz.cmp_Compare_int x y w).mono fun e w' ⟨h1, h2⟩ => ⟨?_, h2.symm⟩
 rw [h1]; congr 2
theorem cmp_isNaN_u (x : Int) (w : World) :
  Calls prog 139 #[.int .u64 x] w fun e w' => e = .returned (.bool false) ∧ w = w' := by
 go_enter func139, ntmps139
 go_wp2
 go_ret
 exact ⟨by simp, rfl⟩
theorem cmp_uint (x y : Nat) (w : World) :
  Calls prog 123 #[.int .u64 x, .int .u64 y] w fun e w' => e = .returned (.int .i64 (cmpI x y)) ∧ w = w' := by
 go_enter func123, ntmps123
 go_wp2_with (go_at_call 139; refine (cmp_isNaN_u _ _).mono ?_; rintro e w' ⟨rfl, rfl⟩)
 all_goals (go_ret; exact ⟨z0m (by unfold cmpI; (repeat' split) <;> omega), rfl⟩)
theorem cmp_or2 (b : Nat) (x y : Int) (w : World) (c0 : w.cell? ⟨b, 0, none⟩ = some (.int .i64 x)) (c1 : w.cell? ⟨b, 1, none⟩ = some (.int .i64 y)) :
  Calls prog 121 #[.slice (some ⟨b, 0, none⟩) 2 2] w fun e w' => e = .returned (.int .i64 (orI x y)) ∧ w = w' := by
 go_enter func121, ntmps121
 go_wp2
 go_rounds 3
 all_goals go_ret
 · have h : (x != 0) = true := by assumption
   have h' : ¬ x = 0 := by simpa using h
   exact ⟨z0m (by unfold orI; rw [if_neg h']), rfl⟩
 · have h : (x != 0) = false := by assumption
   have h' : x = 0 := by simpa using h
   exact ⟨z0m (by unfold orI; rw [if_pos h']), rfl⟩
 · have h : (x != 0) = false := by assumption
   have h' : x = 0 := by simpa using h
   have k : (y != 0) = false := by assumption
   have k' : y = 0 := by simpa using k
   exact ⟨z0m (by unfold orI; rw [if_pos h', k']), rfl⟩
theorem wide_Cmp (x y : Int) (w : World) (hx : W128 x) (hy : W128 y) :
  Rt prog 92 #[.agg #[.int .i64 (hii x), .int .u64 (lon x : Int)], .agg #[.int .i64 (hii y), .int .u64 (lon y : Int)]] w (.int .i64 (cmpI x y)) := by
 have E := zh (cmp_wide x y hx hy)
 clear hx hy
 generalize cmpI x y = R at *
 have C1 := zh (fun w => cmp_int (hii x) (hii y) w)
 have C2 := zh (fun w => cmp_uint (lon x) (lon y) w)
 generalize cmpI (hii x) (hii y) = R1 at *
 generalize cmpI (lon x : Int) (lon y : Int) = R2 at *
 generalize hii x = x1 at *
 generalize lon x = x2 at *
 generalize hii y = y1 at *
 generalize lon y = y2 at *
 have z1 : w.heap.size < w.heap.size + 1 := by omega
 go_enter func92, ntmps92
 go_wp2
 go_region_held3 (fun w' => w'.cell? ⟨w.heap.size, 0, none⟩ = some (.int .i64 x1) ∧ w'.cell? ⟨w.heap.size, 1, none⟩ = some (.int .u64 x2) ∧
   w'.cell? ⟨w.heap.size + 1, 0, none⟩ = some (.int .i64 y1) ∧ w'.cell? ⟨w.heap.size + 1, 1, none⟩ = some (.int .u64 y2)) (go_keep)
  (first
   | (go_at_call 122; refine (C1.out _).mono ?_; rintro e w1 ⟨rfl, rfl⟩)
   | (go_at_call 123; refine (C2.out _).mono ?_; rintro e w1 ⟨rfl, rfl⟩)
   | (go_at_call 121; refine (cmp_or2 _ R1 R2 _ (by simp [*, go_sem]) (by simp [*, go_sem])).mono ?_; rintro e w1 ⟨rfl, rfl⟩))
 all_goals go_wp2
 all_goals go_ret
 all_goals exact ⟨z0m E.out, by go_grown⟩
theorem sizeW_spec (l h : Nat) (hl : l < 18446744073709551616) (hh : h < 9223372036854775808) : h * 18446744073709551616 + l < 2 ^ sizeW l h ∧ sizeW l h ≤ 127 := by
 unfold sizeW
 by_cases h0 : 0 < h
 · rw [if_pos h0]
   have b := Lib.bitLenAux_bounds 64 h (by omega) (by omega)
   have e : Lib.bitLen h = Lib.bitLenAux 64 h := rfl
   rw [← e] at b
   obtain ⟨b1, b2, b3⟩ := b
   constructor
   · rw [Nat.pow_add]; have : h + 1 ≤ 2 ^ Lib.bitLen h := b3
     have := Nat.mul_le_mul_right 18446744073709551616 this
     have e64 : (2 : Nat) ^ 64 = 18446744073709551616 := by decide
     rw [e64, Nat.mul_comm 18446744073709551616]; omega
   · have : Lib.bitLen h ≤ 63 := Lib.bitLen_le h 63 (by omega) hh
     omega
 · rw [if_neg h0]
   obtain ⟨b1, b2⟩ := bitLen_lt l hl
   obtain rfl : h = 0 := by omega
   exact ⟨by omega, by omega⟩
theorem wide_Root_neg (x : Int) (w : World) (hx : W128 x) (h0 : x < 0) :
  Rt prog 152 #[.agg #[.int .i64 (hii x), .int .u64 (lon x : Int)]] w (.tuple #[.int .u64 0, .bool false]) := by
 have n0 : hii x < 0 := by unfold W128 at hx; unfold hii; omega
 generalize hii x = x1 at *
 generalize lon x = x2 at *
 go_enter func152, ntmps152
 go_wp2
 go_ret2
 exact ⟨rfl, by go_grown⟩
theorem wide_Root_pos (x : Int) (w : World) (hx : W128 x) (h0 : 0 ≤ x) :
  Rt prog 152 #[.agg #[.int .i64 (hii x), .int .u64 (lon x : Int)]] w (.tuple #[.int .u64 (isq x.toNat : Int), .bool true]) := by
 have n0 : ¬ hii x < 0 := by unfold W128 at hx; unfold hii; omega
 have en : x.toNat = hin x * 18446744073709551616 + lon x := by unfold W128 at hx; unfold hin lon; omega
 have hh : hin x < 9223372036854775808 := by unfold W128 at hx; unfold hin; omega
 have l1 := lon_lt x
 have S := zh (fun w => wide_split x w)
 have Z : ∀ w, Rt prog 156 #[.agg #[.int .u64 (lon x), .int .u64 (hin x)]] w (.int .i64 (sizeW (lon x) (hin x) : Int)) := fun w => by
  have := wide_size (lon x) (hin x) l1 (by omega) w
  rw [show (if 0 < hin x then 64 + (Lib.bitLen (hin x) : Int) else (Lib.bitLen (lon x) : Int)) = (sizeW (lon x) (hin x) : Int) by unfold sizeW; split <;> simp] at this
  exact this
 have HZ := zh Z
 clear Z
 obtain ⟨s1, s2⟩ := sizeW_spec (lon x) (hin x) l1 hh
 rw [en]
 have hn : hin x * 18446744073709551616 + lon x < 170141183460469231731687303715884105728 := by omega
 clear en hx h0
 generalize hii x = x1 at *
 generalize lon x = l at *
 generalize hin x = h at *
 generalize sizeW l h = s at *
 obtain ⟨n, en⟩ := nmd (h * 18446744073709551616 + l)
 rw [← en] at s1 hn ⊢
 obtain ⟨mx, emx⟩ : ∃ mx : Nat, mx = (max 0 ((s : Int) - 63)).toNat := ⟨_, rfl⟩
 obtain ⟨low, elow⟩ := nmd (mx / 2)
 obtain ⟨t1, t2, t3, t4, t5⟩ := RootW.start hn s1 s2 (low := low) (by rw [elow, emx])
 rw [show n / 18446744073709551616 = h by omega] at t3
 obtain ⟨c, ec⟩ := nmd (2 * low)
 rw [← ec] at t1 t2 t3 t4 t5
 have SH : ∀ w, Rt prog 158 #[.agg #[.int .u64 l, .int .u64 h], c] w (.int .u64 ((n / 2 ^ c : Nat) : Int)) := fun w => by rw [en]; exact wide_shifted l h c w l1 t1 t3
 have HSH := zh SH
 have NR := zh (fun w => num_Root (n / 2 ^ c) w t2)
 have HO : ∀ (q : Nat) (w : World), q < 18446744073709551616 → Rt prog 159 #[.agg #[.int .u64 l, .int .u64 h], .int .u64 q] w (.bool (decide (q * q ≤ n))) := fun q w hq => by rw [en]; exact wide_holds l h q w l1 hq
 have HHO := zh HO
 clear SH HO
 have e1 : max 0 ((s : Int) - 63) = (mx : Int) := by omega
 have e2 : (mx : Int) / 2 = (low : Int) := by omega
 have e3 : (2 : Int) * (low : Int) = (c : Int) := by omega
 have i1 : isq (n / 2 ^ c) < 4294967296 := isq_lt (by omega)
 obtain ⟨r0, er0⟩ := nmd (isq (n / 2 ^ c) * 2 ^ low)
 have q1 : ((2 : Int) ^ low) = ((2 ^ low : Nat) : Int) := by rw [Int.natCast_pow]; rfl
 have e4 : IntKind.u64.wrap ((isq (n / 2 ^ c) : Int) * 2 ^ low) = (r0 : Int) := by rw [q1, ← Int.natCast_mul, ← er0, u64w]; omega
 have l32 : low ≤ 32 := by omega
 have hl32 : (2 : Nat) ^ low ≤ 4294967296 := Nat.le_trans (Nat.pow_le_pow_right (by omega) l32) (by decide)
 rw [← er0] at t5
 obtain ⟨P, eP⟩ := nmd (2 ^ low)
 have e5 : IntKind.u64.wrap ((2 : Int) ^ low) = (P : Int) := by rw [q1, ← eP, u64w]; omega
 rw [← eP] at t5 hl32
 have T5 := zh t5
 have hs0 : (s : Int) ≤ 127 := by omega
 have hl0 : (low : Int) ≤ 32 := by omega
 have i1' : (isq (n / 2 ^ c) : Int) ≤ 4294967295 := by omega
 generalize isq (n / 2 ^ c) = i0 at *
 generalize n / 2 ^ c = n' at *
 clear elow emx ec er0 eP q1 t1 t2 t3 t4 t5 s1 s2 hn en l1 hh i1
 go_enter func152, ntmps152
 go_wp2_with (first
  | (go_at_call 155; refine (S.out _).mono ?_; rintro e w1 ⟨rfl, hb⟩; obtain ⟨hc, hf, y0, y1, y2⟩ := below1 (w := w) w.heap.size (by go_grown) hb (by first | (simp; done) | (simp; omega) | omega))
  | (go_at_call 156; refine (HZ.out _).mono ?_; rintro e w2 ⟨rfl, hb2⟩; obtain ⟨hc2, hf2, y02, y12, y22⟩ := below1 (w := w) w1.heap.size (by go_grown) hb2 (by first | (simp; done) | (simp; omega) | omega))
  | (go_at_call 158; refine (HSH.out _).mono ?_; rintro e w3 ⟨rfl, hb3⟩; obtain ⟨hc3, hf3, y03, y13, y23⟩ := below1 (w := w) w1.heap.size (by go_grown) hb3 (by first | (simp; done) | (simp; omega) | omega))
  | (go_at_call 157; refine (NR.out _).mono ?_; rintro e w' ⟨rfl, rfl⟩))
 have k0 : w3.cell? ⟨w1.heap.size, 0, none⟩ = some (.int .u64 (l : Int)) := by simp [*, go_sem]
 have k1 : w3.cell? ⟨w1.heap.size, 1, none⟩ = some (.int .u64 (h : Int)) := by simp [*, go_sem]
 clear hc hf hc2 hf2 hc3 hf3 hb hb2 hb3 e1 e2 e3 e4 e5
 obtain ⟨g, hg⟩ := nmd (w1.heap.size)
 rw [← hg] at k0 k1 y13 y23
 rw [← hg]
 clear y0 y1 y2 y02 y12 y22 hg
 go_loopw [6, 7] (fun u v wr => ∃ m r b : Nat, RootW n m r b ∧ u = .int .u64 r ∧ v = .int .u64 b ∧ g < wr.heap.size ∧ Below w.heap.size w wr ∧ wr.cell? ⟨g, 0, none⟩ = some (.int .u64 (l : Int)) ∧ wr.cell? ⟨g, 1, none⟩ = some (.int .u64 (h : Int))) (fun _ v _ => (intOf v).toNat)
 case atStart => exact ⟨low, r0, P / 2, T5.out, rfl, rfl, y13, y03, k0, k1⟩
 case round =>
  clear k0 k1 y03 y13 y23
  obtain ⟨m, r, b, hi, rfl, rfl, hg, hB, k0, k1⟩ := hrel
  by_cases hb : 0 < b
  · obtain ⟨k, rfl, eb, ho, hlt⟩ := hi.split hb
    have HB := zh eb
    have hw : bits .or .u64 (r : Int) (b : Int) = ((r + b : Nat) : Int) := by rw [u64_or_nat r b (by omega) (by omega), ho]
    have HH := zh (fun w => HHO.out (r + b) w hlt)
    have HI := zh hi
    by_cases hsq : (r + b) * (r + b) ≤ n
    · have HS := zh hsq
      rw [zt hsq] at HH
      clear ho hlt eb hi hsq
      go_wp2_with (go_at_call 159; refine (HH.out _).mono ?_; rintro e w2 ⟨rfl, hb2⟩; obtain ⟨hc2, hf2, y02, y12, y22⟩ := below1 (w := w) g (by go_grown) hb2 (by first | (simp; done) | (simp; omega) | omega))
      go_roundw
      case rel => exact ⟨k, r + b, b / 2, HI.out.yes HB.out HS.out, by go_num, by go_num, by first | assumption | omega, by go_grown, by simp [*, go_sem], by simp [*, go_sem]⟩
      case measure => simp [intOf]; omega
    · have HS := zh hsq
      rw [zf hsq] at HH
      clear ho hlt eb hi hsq
      go_wp2_with (go_at_call 159; refine (HH.out _).mono ?_; rintro e w2 ⟨rfl, hb2⟩; obtain ⟨hc2, hf2, y02, y12, y22⟩ := below1 (w := w) g (by go_grown) hb2 (by first | (simp; done) | (simp; omega) | omega))
      go_roundw
      case rel => exact ⟨k, r, b / 2, HI.out.no HB.out (by have := HS.out; omega), by go_num, by go_num, by first | assumption | omega, by go_grown, by simp [*, go_sem], by simp [*, go_sem]⟩
      case measure => simp [intOf]; omega
  · obtain rfl : b = 0 := by omega
    have E := zh hi.done
    clear hi
    go_wp2
    go_ret2
    exact ⟨by rw [E.out]; rfl, by go_grown⟩
theorem wide_Root (x : Int) (w : World) (hx : W128 x) :
  Rt prog 152 #[.agg #[.int .i64 (hii x), .int .u64 (lon x : Int)]] w (.tuple #[.int .u64 (if x < 0 then 0 else isq x.toNat : Nat), .bool (decide (0 ≤ x))]) := by
 by_cases h0 : x < 0
 · rw [if_pos h0, zf (by omega)]; exact wide_Root_neg x w hx h0
 · rw [if_neg h0, zt (by omega)]; exact wide_Root_pos x w hx (by omega)
end
end Go.Proofs.YtbmpmjdlaahekaaGreat
