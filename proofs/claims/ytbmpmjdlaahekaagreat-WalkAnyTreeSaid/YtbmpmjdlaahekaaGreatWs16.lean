/- Contracts of the document's own answers of layer 1 (skylightref01), ov -/
import Derived.Test.YtbmpmjdlaahekaaGreatWs15
set_option maxRecDepth 100000
set_option maxHeartbeats 8000000
set_option linter.unusedVariables false
set_option linter.unusedSimpArgs false
open Go.Proofs.Tryz
namespace Go.Proofs.YtbmpmjdlaahekaaGreat
section
open Go.RowKit Go.Proofs.Sky
theorem ref_Div (a b : Int) (w : World) (ha : I64 a) (hb : I64 b) :
  Calls prog 94 #[a, b] w fun e w' => e = .returned (.int .i64 (dv a b)) ∧ w = w' := by
 obtain ⟨a1, a2⟩ := ha; obtain ⟨b1, b2⟩ := hb
 by_cases h : b < 1
 · go_enter func94, ntmps94
   go_wp2
   go_ret; exact ⟨z0m (by unfold dv; rw [if_pos h]), rfl⟩
 · have hb1 : 1 ≤ b := by omega
   have t := tdm (a := a) hb1
   have l := (ediv_le_pos (a := a) hb1)
   have s1 : 0 ≤ a → 0 ≤ a.tmod b := fun h => Int.tmod_nonneg b h
   have s2 : a < 0 → a.tmod b ≤ 0 := fun h => by
    have := Int.tmod_nonneg b (show 0 ≤ -a by omega); rw [Int.neg_tmod] at this; omega
   have HH := zh (And.intro t (And.intro l (And.intro s1 s2)))
   clear t l s1 s2
   go_enter func94, ntmps94
   go_wp2
   · have g : a.tmod b ≠ 0 := by have : (a.tmod b != 0) = true := by assumption
                                 simpa using this
     have g0 : a < 0 := by assumption
     obtain ⟨t, l, s1, s2⟩ := HH.out
     have t1 := t.1 (by have := s2 g0; omega)
     have := l.2 g0
     go_ret; exact ⟨z0m (by unfold dv; rw [if_neg (by omega), t1.1]; exact IntWalk.wrap64_in _ (by omega)), rfl⟩
   · have g : a.tmod b = 0 := by have : (a.tmod b != 0) = false := by assumption
                                 simpa using this
     obtain ⟨t, l, s1, s2⟩ := HH.out
     have t1 := t.2 (by omega)
     go_ret; exact ⟨z0m (by unfold dv; rw [if_neg (by omega), t1.1]), rfl⟩
   · obtain ⟨t, l, s1, s2⟩ := HH.out
     have t1 := t.2 (s1 (by assumption))
     go_ret; exact ⟨z0m (by unfold dv; rw [if_neg (by omega), t1.1]), rfl⟩
theorem ref_Mod (a b : Int) (w : World) (ha : I64 a) (hb : I64 b) :
  Calls prog 95 #[a, b] w fun e w' => e = .returned (.int .i64 (md a b)) ∧ w = w' := by
 obtain ⟨a1, a2⟩ := ha; obtain ⟨b1, b2⟩ := hb
 go_enter func95, ntmps95
 go_wp2
 · go_ret; exact ⟨z0m (by unfold md; rw [if_pos (by assumption)]), rfl⟩
 · have hb1 : 1 ≤ b := by assumption
   have t := (tdm (a := a) hb1).1 (by assumption)
   have l := Int.emod_lt_of_pos a (show 0 < b by omega)
   have l' := Int.emod_nonneg a (show b ≠ 0 by omega)
   go_ret
   exact ⟨z0m (by
    unfold md; rw [if_neg (by omega), t.2]; exact IntWalk.wrap64_in _ (by omega)), rfl⟩
 · have hb1 : 1 ≤ b := by assumption
   have t := (tdm (a := a) hb1).2 (by assumption)
   go_ret
   exact ⟨z0m (by unfold md; rw [if_neg (by omega), t.2]), rfl⟩
theorem ref_Plus (a b : Int) (w : World) (ha : I64 a) (hb : I64 b) :
  Calls prog 71 #[a, b] w fun e w' => e = .returned (.int .i64 (sat (a + b))) ∧ w = w' := by
 obtain ⟨a1, a2⟩ := ha; obtain ⟨b1, b2⟩ := hb
 by_cases h : 0 ≤ a
 · by_cases g : 9223372036854775807 - a < b
   all_goals
    go_enter func71, ntmps71
    go_wp2
    go_ret; exact ⟨z0m (by unfold sat; (repeat' split) <;> omega), rfl⟩
 · by_cases g : b < -9223372036854775808 - a
   all_goals
    go_enter func71, ntmps71
    go_wp2
    go_ret; exact ⟨z0m (by unfold sat; (repeat' split) <;> omega), rfl⟩
theorem ref_Size (a : Int) (w : World) (ha : I64 a) :
  Calls prog 73 #[a] w fun e w' => e = .returned (.int .u64 (a.natAbs : Int)) ∧ w = w' := by
 obtain ⟨a1, a2⟩ := ha
 go_enter func73, ntmps73
 go_wp2
 all_goals (go_ret; exact ⟨z0m (by omega), rfl⟩)
structure MulParts (x y a b c d p q r s p1 p0 q1 q0 r1 r0 m H L : Nat) : Prop where
 e1 : bits .and .u64 (x : Int) 4294967295 = (a : Int)
 e2 : (x : Int) / 4294967296 = (b : Int)
 e3 : bits .and .u64 (y : Int) 4294967295 = (c : Int)
 e4 : (y : Int) / 4294967296 = (d : Int)
 e5 : IntKind.u64.wrap ((a : Int) * (c : Int)) = (p : Int)
 e6 : IntKind.u64.wrap ((b : Int) * (c : Int)) = (q : Int)
 e7 : IntKind.u64.wrap ((a : Int) * (d : Int)) = (r : Int)
 e8 : IntKind.u64.wrap ((b : Int) * (d : Int)) = (s : Int)
 f1 : (p : Int) / 4294967296 = (p1 : Int)
 f2 : bits .and .u64 (p : Int) 4294967295 = (p0 : Int)
 f3 : (q : Int) / 4294967296 = (q1 : Int)
 f4 : bits .and .u64 (q : Int) 4294967295 = (q0 : Int)
 f5 : (r : Int) / 4294967296 = (r1 : Int)
 f6 : bits .and .u64 (r : Int) 4294967295 = (r0 : Int)
 g1 : (p1 : Int) ≤ 4294967295
 g2 : (q0 : Int) ≤ 4294967295
 g3 : (r0 : Int) ≤ 4294967295
 g4 : (p1 : Int) + (q0 : Int) + (r0 : Int) = (m : Int)
 g5 : (s : Int) + (q1 : Int) + (r1 : Int) + (m : Int) / 4294967296 = (H : Int)
 g6 : (H : Int) ≤ 18446744073709551615
 g7 : bits .or .u64 (IntKind.u64.wrap ((m : Int) * 4294967296)) (p0 : Int) = (L : Int)
 hH : H = x * y / 18446744073709551616
 hL : L = x * y % 18446744073709551616
theorem MulParts.make (x y : Nat) (hx : x < 18446744073709551616) (hy : y < 18446744073709551616) :
  ∃ a b c d p q r s p1 p0 q1 q0 r1 r0 m H L, MulParts x y a b c d p q r s p1 p0 q1 q0 r1 r0 m H L := by
 have nm : ∀ u v : Nat, u < 4294967296 → v < 4294967296 → u * v ≤ 18446744065119617025 := fun u v hu hv => by
  have := Nat.mul_le_mul (show u ≤ 4294967295 by omega) (show v ≤ 4294967295 by omega); omega
 have n1 := nm (x % 4294967296) (y % 4294967296) (by omega) (by omega)
 have n2 := nm (x / 4294967296) (y % 4294967296) (by omega) (by omega)
 have n3 := nm (x % 4294967296) (y / 4294967296) (by omega) (by omega)
 have n4 := nm (x / 4294967296) (y / 4294967296) (by omega) (by omega)
 have wn : ∀ u v : Nat, u * v ≤ 18446744065119617025 → IntKind.u64.wrap ((u : Int) * (v : Int)) = ((u * v : Nat) : Int) := fun u v h => by
  rw [u64w, ← Int.natCast_mul]; omega
 obtain ⟨a, ha⟩ := nmd (x % 4294967296)
 obtain ⟨b, hb⟩ := nmd (x / 4294967296)
 obtain ⟨c, hc⟩ := nmd (y % 4294967296)
 obtain ⟨d, hd⟩ := nmd (y / 4294967296)
 rw [← ha, ← hc] at n1; rw [← hb, ← hc] at n2; rw [← ha, ← hd] at n3; rw [← hb, ← hd] at n4
 have ex : x = b * 4294967296 + a := by omega
 have ey : y = d * 4294967296 + c := by omega
 have exy : x * y = b * d * 18446744073709551616 + (b * c + a * d) * 4294967296 + a * c := by
  rw [ex, ey, Nat.add_mul, Nat.mul_add, Nat.mul_add,
   show b * 4294967296 * (d * 4294967296) = b * d * 18446744073709551616 by rw [Nat.mul_mul_mul_comm],
   show b * 4294967296 * c = b * c * 4294967296 by rw [Nat.mul_right_comm],
   show a * (d * 4294967296) = a * d * 4294967296 by rw [Nat.mul_assoc]]
  omega
 refine ⟨a, b, c, d, a * c, b * c, a * d, b * d, a * c / 4294967296, a * c % 4294967296, b * c / 4294967296, b * c % 4294967296, a * d / 4294967296, a * d % 4294967296,
  a * c / 4294967296 + b * c % 4294967296 + a * d % 4294967296, x * y / 18446744073709551616, x * y % 18446744073709551616, ?_⟩
 refine ⟨by rw [ha]; exact and32 x hx, by omega, by rw [hc]; exact and32 y hy, by omega, wn _ _ n1, wn _ _ n2, wn _ _ n3, wn _ _ n4,
  by omega, and32 _ (by omega), by omega, and32 _ (by omega), by omega, and32 _ (by omega), by omega, by omega, by omega, by omega, ?_, ?_, ?_, rfl, rfl⟩
 · rw [exy]; generalize a * c = p at *; generalize b * c = q at *; generalize a * d = r at *; generalize b * d = s at *; omega
 · rw [exy]; generalize a * c = p at *; generalize b * c = q at *; generalize a * d = r at *; generalize b * d = s at *; omega
 · have := shl64 (a * c / 4294967296 + b * c % 4294967296 + a * d % 4294967296) 32
   rw [show ((2 : Int) ^ 32) = 4294967296 by rfl, show ((2 : Nat) ^ 32) = 4294967296 by rfl] at this
   rw [this, u64_or_nat _ _ (by omega) (by omega), nat_join 32 _ _ (by omega) (by omega), exy]
   generalize a * c = p at *; generalize b * c = q at *; generalize a * d = r at *; generalize b * d = s at *; omega
theorem ref_Mul (x y : Nat) (w : World) (hx : x < 18446744073709551616) (hy : y < 18446744073709551616) :
  Calls prog 72 #[.int .u64 x, .int .u64 y] w fun e w' => e = .returned (.tuple #[.int .u64 ((x * y / 18446744073709551616 : Nat) : Int), .int .u64 ((x * y % 18446744073709551616 : Nat) : Int)]) ∧ w = w' := by
 obtain ⟨a, b, c, d, p, q, r, s, p1, p0, q1, q0, r1, r0, m, H, L, e1, e2, e3, e4, e5, e6, e7, e8, f1, f2, f3, f4, f5, f6, g1, g2, g3, g4, g5, g6, g7, hH, hL⟩ := MulParts.make x y hx hy
 rw [← hH, ← hL]
 have i1 : (s : Int) + (q1 : Int) ≤ 18446744073709551615 := by omega
 have i2 : (s : Int) + (q1 : Int) + (r1 : Int) ≤ 18446744073709551615 := by omega
 clear hH hL hx hy
 go_enter func72, ntmps72
 go_wp2
 go_ret2
 exact ⟨rfl, rfl⟩
theorem ref_Times (a b : Int) (w : World) (ha : I64 a) (hb : I64 b) :
  Calls prog 45 #[a, b] w fun e w' => e = .returned (.int .i64 (sat (a * b))) ∧ w = w' := by
 have hS1 := zh (fun w => ref_Size a w ha)
 have hS2 := zh (fun w => ref_Size b w hb)
 have hM := zh (fun w => ref_Mul a.natAbs b.natAbs w (by unfold I64 at ha; omega) (by unfold I64 at hb; omega))
 have hm : (a * b = -((a.natAbs * b.natAbs : Nat) : Int) ∧ (decide (a < 0) == decide (b < 0)) = false) ∨ (a * b = ((a.natAbs * b.natAbs : Nat) : Int) ∧ (decide (a < 0) == decide (b < 0)) = true) := by
  rw [Int.natCast_mul]
  by_cases h : a < 0 ↔ b < 0
  · exact .inr ⟨mul_same h, by simp [h]⟩
  · refine .inl ⟨mul_opp h, ?_⟩
    by_cases x : a < 0 <;> by_cases y : b < 0 <;> simp [x, y] at h ⊢
 generalize a.natAbs * b.natAbs = M at *
 generalize a.natAbs = A at *
 generalize b.natAbs = B at *
 obtain ⟨H, hH⟩ := nmd (M / 18446744073709551616)
 obtain ⟨L, hL⟩ := nmd (M % 18446744073709551616)
 rw [← hH, ← hL] at hM
 have hd : M = H * 18446744073709551616 + L := by omega
 have hl : (L : Int) ≤ 18446744073709551615 := by omega
 clear hH hL
 have hL0 : (0 : Int) ≤ (L : Int) := by omega
 have hc : ∃ c1 c2 : Bool, decide (0 < H) = c1 ∧ decide ((9223372036854775807 : Int) < (L : Int)) = c2 ∧
   ((c1 = true ∧ c2 = true ∧ 9223372036854775807 < (M : Int)) ∨ (c1 = true ∧ c2 = false ∧ 9223372036854775807 < (M : Int)) ∨ (c1 = false ∧ c2 = true ∧ 9223372036854775807 < (M : Int)) ∨ (c1 = false ∧ c2 = false ∧ (M : Int) = L ∧ (L : Int) ≤ 9223372036854775807)) := by
  refine ⟨_, _, rfl, rfl, ?_⟩
  by_cases x : 0 < H <;> by_cases y : (9223372036854775807 : Int) < (L : Int) <;> simp [x, y] <;> omega
 obtain ⟨c1, c2, k1, k2, hc⟩ := hc
 clear hd
 rcases hm with ⟨e, k3⟩ | ⟨e, k3⟩
 all_goals
  have HE := zh e
  clear e
  rcases hc with ⟨rfl, rfl, hx⟩ | ⟨rfl, rfl, hx⟩ | ⟨rfl, rfl, hx⟩ | ⟨rfl, rfl, hx, hy⟩
  all_goals
   have HX := zh hx
   clear hx
   go_enter func45, ntmps45
   go_wp2_with (first
    | (go_at_call 73; (first | (with_reducible refine (hS1.out _).mono ?_) | (with_reducible refine (hS2.out _).mono ?_)); rintro e w' ⟨rfl, rfl⟩)
    | (go_at_call 72; refine (hM.out _).mono ?_; rintro e w' ⟨rfl, rfl⟩))
   go_ret
   exact ⟨z0m (by rw [HE.out]; have := HX.out; unfold sat; (repeat' split) <;> omega), rfl⟩
end
section
open Go.RowKit Go.Proofs.Sky
attribute [local go_sem ↓] Go.wp_at_zero Go.wp_at_succ
theorem frac_Right (n d : Int) (w : World) :
  Rt prog 31 #[.agg #[n, d]] w (.bool (decide (1 ≤ d))) := by
 go_enter func31, ntmps31
 go_wp2
 go_ret
 exact ⟨rfl, by go_grown⟩
theorem frac_compare (n d m e : Int) (w : World) (hn : I64 n) (hd : I64 d) (hm : I64 m) (he : I64 e) :
  Rt prog 58 #[.agg #[n, d], .agg #[m, e]] w (.int .i64 (cmpI (n * e) (m * d))) := by
 have M1 := zh (fun w => wide_Mul n e w hn he)
 have M2 := zh (fun w => wide_Mul m d w hm hd)
 have C := zh (fun w => wide_Cmp (n * e) (m * d) w (mul_W128 hn he) (mul_W128 hm hd))
 clear hn hd hm he
 generalize cmpI (n * e) (m * d) = R at *
 generalize hii (n * e) = x1 at *
 generalize lon (n * e) = x2 at *
 generalize hii (m * d) = y1 at *
 generalize lon (m * d) = y2 at *
 obtain ⟨z1, z2, z3, z4, z5, z6⟩ := lt3 w.heap.size
 go_enter func58, ntmps58
 go_wp2
 go_region_held3 (fun w' => w'.cell? ⟨w.heap.size, 0, none⟩ = some (.int .i64 n) ∧ w'.cell? ⟨w.heap.size, 1, none⟩ = some (.int .i64 d) ∧
   w'.cell? ⟨w.heap.size + 1, 0, none⟩ = some (.int .i64 m) ∧ w'.cell? ⟨w.heap.size + 1, 1, none⟩ = some (.int .i64 e)) (go_keep)
  (first
   | (go_at_call 93; (first | (with_reducible refine (M1.out _).mono ?_) | (with_reducible refine (M2.out _).mono ?_)); rintro e w1 ⟨rfl, hb⟩; obtain ⟨hc, hf, y0, y1, y2, y3⟩ := below2 (w := w) w.heap.size (by go_grown) hb (by first | (simp; done) | (simp; omega) | omega))
   | (go_at_call 92; refine (C.out _).mono ?_; rintro e w1 ⟨rfl, hb⟩; obtain ⟨hc, hf, y0, y1, y2, y3⟩ := below2 (w := w) w.heap.size (by go_grown) hb (by first | (simp; done) | (simp; omega) | omega)))
 all_goals go_wp2
 all_goals go_ret
 all_goals exact ⟨rfl, by go_grown⟩
theorem frac_Less (n d m e : Int) (w : World) (hn : I64 n) (hd : I64 d) (hm : I64 m) (he : I64 e) :
  Rt prog 33 #[.agg #[n, d], .agg #[m, e]] w (.bool (fless n d m e)) := by
 have C := zh (fun w => frac_compare n d m e w hn hd hm he)
 have E := zh (cmpI_lt (n * e) (m * d))
 clear hn hd hm he
 unfold fless
 rw [← E.out]
 clear E
 generalize cmpI (n * e) (m * d) = R at *
 have R1 := zh (fun w => frac_Right n d w)
 have R2 := zh (fun w => frac_Right m e w)
 generalize decide (1 ≤ d) = p at *
 generalize decide (1 ≤ e) = q at *
 cases p <;> cases q
 all_goals
  go_enter func33, ntmps33
  go_wp2_with (first
   | (go_at_call 31; (first | (with_reducible refine (R1.out _).mono ?_) | (with_reducible refine (R2.out _).mono ?_)); rintro e w1 ⟨rfl, hb⟩; obtain ⟨hc, hf, y0, y1, y2, y3⟩ := below2 (w := w) w.heap.size (by go_grown) hb (by first | (simp; done) | (simp; omega) | omega))
   | (go_at_call 58; refine (C.out _).mono ?_; rintro e w1 ⟨rfl, hb⟩; obtain ⟨hc, hf, y0, y1, y2, y3⟩ := below2 (w := w) w.heap.size (by go_grown) hb (by first | (simp; done) | (simp; omega) | omega)))
  go_ret
  exact ⟨rfl, by go_grown⟩
theorem frac_Same (n d m e : Int) (w : World) (hn : I64 n) (hd : I64 d) (hm : I64 m) (he : I64 e) :
  Rt prog 55 #[.agg #[n, d], .agg #[m, e]] w (.bool (fsame n d m e)) := by
 have C := zh (fun w => frac_compare n d m e w hn hd hm he)
 have E := zh (cmpI_beq (n * e) (m * d))
 clear hn hd hm he
 unfold fsame
 rw [← E.out]
 clear E
 generalize cmpI (n * e) (m * d) = R at *
 have R1 := zh (fun w => frac_Right n d w)
 have R2 := zh (fun w => frac_Right m e w)
 generalize decide (1 ≤ d) = p at *
 generalize decide (1 ≤ e) = q at *
 cases p <;> cases q
 all_goals
  go_enter func55, ntmps55
  go_wp2_with (first
   | (go_at_call 31; (first | (with_reducible refine (R1.out _).mono ?_) | (with_reducible refine (R2.out _).mono ?_)); rintro e w1 ⟨rfl, hb⟩; obtain ⟨hc, hf, y0, y1, y2, y3⟩ := below2 (w := w) w.heap.size (by go_grown) hb (by first | (simp; done) | (simp; omega) | omega))
   | (go_at_call 58; refine (C.out _).mono ?_; rintro e w1 ⟨rfl, hb⟩; obtain ⟨hc, hf, y0, y1, y2, y3⟩ := below2 (w := w) w.heap.size (by go_grown) hb (by first | (simp; done) | (simp; omega) | omega)))
  go_ret
  exact ⟨rfl, by go_grown⟩
theorem frac_Make (n d : Int) (w : World) (hn : I64 n) (hd : I64 d) :
  Rt prog 125 #[n, d] w (.tuple #[.agg #[(fmake n d).1, (fmake n d).2], .bool (fmakeOk n d)]) := by
 obtain ⟨n0, n1⟩ := hn
 obtain ⟨d0, d1⟩ := hd
 by_cases h : fmakeOk n d = true
 · obtain ⟨a1, a2, a3⟩ := of_decide_eq_true h
   by_cases hd : d < 0
   · have e1 : fmake n d = (-n, -d) := by unfold fmake; rw [if_pos h, if_pos hd]
     rw [e1, h]
     have t1 : (d == 0) = false := by simpa using a1
     have t2 : (n == -9223372036854775808) = false := by simpa using a2
     have t3 : (d == -9223372036854775808) = false := by simpa using a3
     have n2 : -9223372036854775807 ≤ n := by omega
     have d2 : -9223372036854775807 ≤ d := by omega
     have w1 : wrap64 (-n) = -n := IntWalk.wrap64_in _ (by omega)
     have w2 : wrap64 (-d) = -d := IntWalk.wrap64_in _ (by omega)
     clear a1 a2 a3 e1 h n0 d0
     go_enter func125, ntmps125
     go_wp2
     go_returns
     exact ⟨rfl, by go_grown⟩
   · have e1 : fmake n d = (n, d) := by unfold fmake; rw [if_pos h, if_neg hd]
     rw [e1, h]
     have t1 : (d == 0) = false := by simpa using a1
     have t2 : (n == -9223372036854775808) = false := by simpa using a2
     have t3 : (d == -9223372036854775808) = false := by simpa using a3
     clear a1 a2 a3 e1 h n0 d0
     go_enter func125, ntmps125
     go_wp2
     go_returns
     exact ⟨rfl, by go_grown⟩
 · rw [Bool.not_eq_true] at h
   have e1 : fmake n d = (0, 0) := by unfold fmake; rw [h]; rfl
   have h' : d = 0 ∨ n = -9223372036854775808 ∨ d = -9223372036854775808 := by
    have := of_decide_eq_false h
    omega
   rw [e1, h]
   clear e1 h
   by_cases hd : d = 0
   · have t1 : (d == 0) = true := by simpa using hd
     clear h' hd
     go_enter func125, ntmps125
     go_wp2
     go_returns
     exact ⟨rfl, by go_grown⟩
   · have t1 : (d == 0) = false := by simpa using hd
     by_cases hn : n = -9223372036854775808
     · have t2 : (n == -9223372036854775808) = true := by simpa using hn
       clear h' hd hn
       go_enter func125, ntmps125
       go_wp2
       go_returns
       exact ⟨rfl, by go_grown⟩
     · have t2 : (n == -9223372036854775808) = false := by simpa using hn
       have t3 : (d == -9223372036854775808) = true := by simp; omega
       clear h' hd hn
       go_enter func125, ntmps125
       go_wp2
       go_returns
       exact ⟨rfl, by go_grown⟩
end
end Go.Proofs.YtbmpmjdlaahekaaGreat
namespace Go.Proofs.Sky
section
open Go.RowKit
def GivesStop {α : Type} (P : Program) (gf : Nat) (bd lb : Array Value) (encs : α → Array Value) (xs : List α) (C : World → Prop) (w : World) : Prop :=
 ∀ (l : Nat) (J Jx : List α → World → Prop) (W : World), Below w.heap.size w W → Stays J → Stays Jx → (∀ s W, J s W → C W) →
  (∀ pre x rest W1, xs = pre ++ x :: rest → J pre W1 → YieldAt Fence.wide 0 P l (encs x) W1 fun e W' => (e = .returned (.bool true) ∧ J (pre ++ [x]) W') ∨ (e = .returned (.bool false) ∧ Jx (pre ++ [x]) W')) →
  J [] W → CallsIn Fence.wide 0 P gf ((bd ++ #[.func (.yield l) #[] #[]]) ++ lb) W fun e W' => (∃ v, e = .returned v) ∧ (J xs W' ∨ ∃ pre, Jx pre W')
def stopsOn {α : Type} (B0 : Nat) (I : List α → World → Prop) (Ix : Code → List α → World → Prop) (xs : List α) (W : World) : Exit → Act → World → Prop
 | .normal, _, W' => KeepsFrom B0 W W' ∧ I xs W'
 | .ret, _, W' => KeepsFrom B0 W W' ∧ Ix .ret xs W'
 | .exit id, _, W' => KeepsFrom B0 W W' ∧ Ix (.exit id) xs W'
 | .goto t, _, W' => KeepsFrom B0 W W' ∧ Ix (.goto t) xs W'
 | _, _, _ => False
theorem range_stop {α : Type} {P : Program} {g : Operand} {ps : Array Tmp} {assign body : Code} {Q : Exit → Act → World → Prop} {a : Act} {w : World} {gf : Nat} {bd lb : Array Value} {encs : α → Array Value} {xs : List α} {C : World → Prop}
  (hg : a.eval g = .func (.func gf) bd lb) (eg : ∀ args w, (callFunc gf args).run P w = .ok (.enter gf args) w) (hc : GivesStop P gf bd lb encs xs C w) (hps : ∀ x, (encs x).size = ps.size)
  (I : List α → World → Prop) (Ix : Code → List α → World → Prop) (hI : OwnFrom w.heap.size I) (hIx : ∀ c, OwnFrom w.heap.size (Ix c)) (hIC : ∀ s W, I s W → C W) (h0 : I [] w)
  (hround : ∀ (l : Nat) (pre : List α) (x : α) (rest : List α) (W : World), w.heap.size < l → xs = pre ++ x :: rest → I pre W →
   assign.wpIn (Fence.wide.inRound l) 0 P (Exit.then (fun a' V => KeepsFrom w.heap.size W V ∧ ∀ r r', V.heap[l]? = some (.loop r) →
    body.wpIn (Fence.wide.inRound l) 0 P (stopsOn w.heap.size I Ix (pre ++ [x]) (V.putObj l (.loop r'))) a' (V.putObj l (.loop r'))) (fun _ _ _ => False))
    { tmps := (ps.zip (encs x)).foldl (fun t (p, v) => t.setIfInBounds p v) a.tmps, defers := [] } W)
  (hdone : ∀ (D : Nat) (W : World), w.heap.size ≤ D → I xs W → W.heap[D]? = some (.deferred (some [])) → Q .normal { a with defers := { target := .collected D, args := #[] } :: a.defers } W)
  (hstop : ∀ (D : Nat) (c : Code) (pre : List α) (W : World), w.heap.size ≤ D → Ix c pre W → W.heap[D]? = some (.deferred (some [])) → c.wpIn Fence.wide 0 P Q { a with defers := { target := .collected D, args := #[] } :: a.defers } W) :
  (Code.rangeFunc g ps assign body).wpIn Fence.wide 0 P Q a w := by
 refine wpIn_rangeFunc fun fn hfn => ?_
 -- the loop's record
 let R : LoopState → Option Code → Loop := fun st pe => { state := st, pending := pe, fn, tmps := a.tmps, params := ps, assign, body, defers := w.heap.size }
 let W0 := (w.alloc (.deferred (some []))).alloc (.loop (R .ready none))
 have s0 : W0.heap.size = w.heap.size + 2 := by simp [W0]
 have b0 : Below w.heap.size w W0 := ((Below.refl _ w).alloc (Nat.le_refl _) _).alloc (by simp) _
 have l0 : W0.heap[w.heap.size + 1]? = some (.loop (R .ready none)) := by
  have := World.alloc_heap_new (w.alloc (.deferred (some []))) (.loop (R .ready none))
  rwa [World.size_alloc] at this
 have d0 : W0.heap[w.heap.size]? = some (.deferred (some [])) := (Below.heap_alloc _ _ _ (by simp)).trans (World.alloc_heap_new w _)
 refine ⟨w.heap.size + 1, [{ target := .collected w.heap.size, args := #[] }], W0, { target := .fn (.func gf) lb, args := bd ++ #[.func (.yield (w.heap.size + 1)) #[] #[]] }, W0, gf,
  (bd ++ #[.func (.yield (w.heap.size + 1)) #[] #[]]) ++ lb, W0, run_enterLoop_outer _ _ _ _ _, ?_, fun _ _ => trivial, ?_, (fun h => by cases h), ?_⟩
 · simp only [resolve, hg]
   simp [go_sem]
 · simp [invoke, go_sem, eg]
 -- what holds between two rounds, and behind the last one that was left early
 let J : List α → World → Prop := fun pre W => I pre W ∧ W.heap[w.heap.size + 1]? = some (.loop (R .ready none)) ∧ W.heap[w.heap.size]? = some (.deferred (some []))
 let Jx : List α → World → Prop := fun pre W => ∃ c, Ix c pre W ∧ W.heap[w.heap.size + 1]? = some (.loop (R .done (some c))) ∧ W.heap[w.heap.size]? = some (.deferred (some []))
 have hJ : Stays J := fun s X Y ⟨i, hl, hd⟩ hb =>
  ⟨hI s X Y none i (grown_of_below hb) (fun _ e => by cases e), (hb.block _ (Array.getElem?_eq_some_iff.1 hl).1).trans hl, (hb.block _ (Array.getElem?_eq_some_iff.1 hd).1).trans hd⟩
 have hJx : Stays Jx := fun s X Y ⟨c, i, hl, hd⟩ hb =>
  ⟨c, hIx c s X Y none i (grown_of_below hb) (fun _ e => by cases e), (hb.block _ (Array.getElem?_eq_some_iff.1 hl).1).trans hl, (hb.block _ (Array.getElem?_eq_some_iff.1 hd).1).trans hd⟩
 refine (hc (w.heap.size + 1) J Jx W0 b0 hJ hJx (fun s W h => hIC s W h.1) ?_ ⟨hI.alloc _ (hI.alloc _ h0), l0, d0⟩).mono ?_
 · rintro pre x rest W hx ⟨hi, hl, hd⟩
   have hlt := (Array.getElem?_eq_some_iff.1 hl).1
   refine ⟨fn, _, assign, body, run_yield (P := P) (args := encs x) hl (hps x), roundIn_of_wpIn hfn (wpIn_mono (hround _ pre x rest W (Nat.lt_succ_self _) hx hi) ?_)⟩
   intro e1 a' V hV
   cases e1 with
   | exit id => exact hV.elim
   | goto t => exact hV.elim
   | ret => exact hV.elim
   | panic ch => exact hV.elim
   | outgrown => exact hV.elim
   | normal =>
   obtain ⟨hkV, hbody⟩ := hV
   have hlV := hkV.same _ _ (by omega) hl rfl
   have hdV := hkV.same _ _ (Nat.le_refl _) hd rfl
   refine ⟨_, run_beginRound hlV rfl, ?_⟩
   have hl1 : (V.putObj (w.heap.size + 1) (.loop (R .busy none))).heap[w.heap.size + 1]? = some (.loop (R .busy none)) := World.putObj_heap_same (Array.getElem?_eq_some_iff.1 hlV).1
   have hd1 : (V.putObj (w.heap.size + 1) (.loop (R .busy none))).heap[w.heap.size]? = some (.deferred (some [])) := (World.putObj_heap_other (by omega)).trans hdV
   refine wpIn_mono (hbody _ (R .busy none) hlV) ?_
   have fin : ∀ (jump : Code) (W3 : World), KeepsFrom w.heap.size (V.putObj (w.heap.size + 1) (.loop (R .busy none))) W3 → Ix jump (pre ++ [x]) W3 →
     ∃ v W4, (Instr.endRound (w.heap.size + 1) (some jump)).run P W3 = .ok v W4 ∧ ((Ending.returned v = .returned (.bool true) ∧ J (pre ++ [x]) W4) ∨ (Ending.returned v = .returned (.bool false) ∧ Jx (pre ++ [x]) W4)) := fun jump W3 hk hi3 => by
    have hl3 := hk.same _ _ (by omega) hl1 rfl
    have hd3 := hk.same _ _ (Nat.le_refl _) hd1 rfl
    exact ⟨_, _, run_endRound (P := P) (some jump) hl3, .inr ⟨rfl, jump, (hIx jump).putObj _ hi3 (by omega) hl3 rfl, World.putObj_heap_same (Array.getElem?_eq_some_iff.1 hl3).1, (World.putObj_heap_other (by omega)).trans hd3⟩⟩
   rintro e a3 W3 hp
   cases e with
   | normal =>
    obtain ⟨hk, hi3⟩ := hp
    have hl3 := hk.same _ _ (by omega) hl1 rfl
    have hd3 := hk.same _ _ (Nat.le_refl _) hd1 rfl
    exact ⟨_, _, run_endRound (P := P) none hl3, .inl ⟨rfl, hI.putObj _ hi3 (by omega) hl3 rfl, World.putObj_heap_same (Array.getElem?_eq_some_iff.1 hl3).1, (World.putObj_heap_other (by omega)).trans hd3⟩⟩
   | ret => exact fin .ret W3 hp.1 hp.2
   | exit id => exact fin (.exit id) W3 hp.1 hp.2
   | goto t => exact fin (.goto t) W3 hp.1 hp.2
   | panic ch => exact hp.elim
   | outgrown => exact hp.elim
 · rintro e W2 ⟨⟨v, rfl⟩, (⟨hi, hl, hd⟩ | ⟨pre, c, hi, hl, hd⟩)⟩
   · exact ⟨none, _, run_endLoop (P := P) hl (by simp [R]), hdone _ _ (Nat.le_refl _) (hI.putObj _ hi (by omega) hl rfl) ((World.putObj_heap_other (by omega)).trans hd)⟩
   · exact ⟨some c, _, run_endLoop (P := P) hl (by simp [R]), hstop _ c pre _ (Nat.le_refl _) ((hIx c).putObj _ hi (by omega) hl rfl) ((World.putObj_heap_other (by omega)).trans hd)⟩
theorem bk_put {V : World} {l b : Nat} {r : Loop} {t : TypeId} {cs : Array Value} (h : Bk V b t cs) (hl : V.heap[l]? = some (.loop r)) (o : Obj) : Bk (V.putObj l o) b t cs :=
 h.grown (grownBy_putObj' V l o) (fun e => by cases e; unfold Bk at h; rw [h] at hl; cases hl)
theorem keeps_of_below {B : Nat} {X Y : World} (h : Below X.heap.size X Y) : KeepsFrom B X Y := ⟨h.size, fun k o _ hk _ => (h.block k (Array.getElem?_eq_some_iff.1 hk).1).trans hk⟩
theorem bk_own {β : Type} {B b : Nat} {t : TypeId} (f : β → Array Value) : OwnFrom B (fun s W => Bk W b t (f s)) := fun s W W' row hs hg hr =>
 hs.grown hg (fun e => by obtain ⟨_, o, ho, hc⟩ := hr b e.symm; unfold Bk at hs; rw [hs] at ho; cases ho; cases hc)
theorem pure_own {β : Type} {B : Nat} (p : β → Prop) : OwnFrom B (fun s (_ : World) => p s) := fun _ _ _ _ hs _ _ => hs
end
end Go.Proofs.Sky
