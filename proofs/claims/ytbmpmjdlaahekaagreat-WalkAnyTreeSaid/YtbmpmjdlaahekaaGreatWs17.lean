/- Contracts of the document's own answers of layer 3 (skylightref03), ov -/
import Derived.Test.YtbmpmjdlaahekaaGreatWs16
set_option maxRecDepth 100000
set_option maxHeartbeats 8000000
set_option linter.unusedVariables false
set_option linter.unusedSimpArgs false
open Go.Proofs.Tryz
namespace Go.Proofs.YtbmpmjdlaahekaaGreat
section
section
open Go.RowKit Go.Proofs.Sky
theorem ref3_Right (n d : Int) (w : World) :
  Rt prog 34 #[.agg #[n, d]] w (.bool (decide (1 ≤ d))) := by
 go_enter func34, ntmps34
 go_wp2
 go_ret
 exact ⟨rfl, by go_grown⟩
end
end
section
section
open Go.RowKit Go.Proofs.Sky
structure CmpStep (n d m e p q x y : Int) : Prop where
 p_ : dv n d = p
 q_ : dv m e = q
 x_ : md n d = x
 y_ : md m e = y
 x0 : 0 ≤ x
 xd : x < d
 y0 : 0 ≤ y
 ye : y < e
 lt : p < q → cmpI (n * e) (m * d) = -1
 gt : q < p → cmpI (n * e) (m * d) = 1
 zz : p = q → x = 0 → y = 0 → cmpI (n * e) (m * d) = 0
 zx : p = q → x = 0 → 1 ≤ y → cmpI (n * e) (m * d) = -1
 zy : p = q → 1 ≤ x → y = 0 → cmpI (n * e) (m * d) = 1
 on : p = q → cmpI (e * x) (d * y) = cmpI (n * e) (m * d)
theorem cmp_core {n d m e p q x y : Int} (hd : 1 ≤ d) (he : 1 ≤ e) (e1 : d * p + x = n) (e2 : e * q + y = m) (a1 : 0 ≤ x) (a2 : x < d) (a3 : 0 ≤ y) (a4 : y < e) :
  (p < q → cmpI (n * e) (m * d) = -1) ∧ (q < p → cmpI (n * e) (m * d) = 1) ∧ (p = q → x = 0 → y = 0 → cmpI (n * e) (m * d) = 0) ∧ (p = q → x = 0 → 1 ≤ y → cmpI (n * e) (m * d) = -1) ∧
  (p = q → 1 ≤ x → y = 0 → cmpI (n * e) (m * d) = 1) ∧ (p = q → cmpI (e * x) (d * y) = cmpI (n * e) (m * d)) := by
 have k1 : n * e = d * e * p + x * e := by
  rw [← e1, Int.add_mul, Int.mul_assoc, Int.mul_comm p e, ← Int.mul_assoc]
 have k2 : m * d = d * e * q + y * d := by
  rw [← e2, Int.add_mul, Int.mul_comm (e * q) d, ← Int.mul_assoc]
 have b1 : 0 ≤ x * e := Int.mul_nonneg a1 (by omega)
 have b2 : x * e < d * e := Int.mul_lt_mul_of_pos_right a2 (by omega)
 have b3 : 0 ≤ y * d := Int.mul_nonneg a3 (by omega)
 have b4 : y * d < d * e := by rw [Int.mul_comm d e]; exact Int.mul_lt_mul_of_pos_right a4 (by omega)
 have c1 : p < q → d * e * p + d * e ≤ d * e * q := fun h => by
  have := Int.mul_le_mul_of_nonneg_left (show p + 1 ≤ q by omega) (show 0 ≤ d * e by omega)
  rwa [Int.mul_add, Int.mul_one] at this
 have c2 : q < p → d * e * q + d * e ≤ d * e * p := fun h => by
  have := Int.mul_le_mul_of_nonneg_left (show q + 1 ≤ p by omega) (show 0 ≤ d * e by omega)
  rwa [Int.mul_add, Int.mul_one] at this
 have z1 : x = 0 → x * e = 0 := fun h => by rw [h, Int.zero_mul]
 have z2 : y = 0 → y * d = 0 := fun h => by rw [h, Int.zero_mul]
 have z3 : 1 ≤ x → 0 < x * e := fun h => Int.mul_pos (by omega) (by omega)
 have z4 : 1 ≤ y → 0 < y * d := fun h => Int.mul_pos (by omega) (by omega)
 have z5 : p = q → d * e * p = d * e * q := fun h => by rw [h]
 rw [k1, k2, Int.mul_comm e x, Int.mul_comm d y]
 clear k1 k2 e1 e2
 generalize d * e * p = A at *
 generalize d * e * q = B at *
 generalize d * e = C at *
 generalize x * e = X at *
 generalize y * d = Y at *
 unfold cmpI
 refine ⟨fun h => ?_, fun h => ?_, fun h h1 h2 => ?_, fun h h1 h2 => ?_, fun h h1 h2 => ?_, fun h => ?_⟩
 · have := c1 h; rw [if_pos (by omega)]
 · have := c2 h; rw [if_neg (by omega), if_pos (by omega)]
 · have := z1 h1; have := z2 h2; have := z5 h; rw [if_neg (by omega), if_neg (by omega)]
 · have := z1 h1; have := z4 h2; have := z5 h; rw [if_pos (by omega)]
 · have := z3 h1; have := z2 h2; have := z5 h; rw [if_neg (by omega), if_pos (by omega)]
 · have := z5 h; (repeat' split) <;> omega
theorem CmpStep.make (n d m e : Int) (hd : 1 ≤ d) (he : 1 ≤ e) : CmpStep n d m e (n / d) (m / e) (n % d) (m % e) := by
 have a1 := Int.emod_nonneg n (show d ≠ 0 by omega)
 have a2 := Int.emod_lt_of_pos n (show 0 < d by omega)
 have a3 := Int.emod_nonneg m (show e ≠ 0 by omega)
 have a4 := Int.emod_lt_of_pos m (show 0 < e by omega)
 obtain ⟨h1, h2, h3, h4, h5, h6⟩ := cmp_core hd he (Int.mul_ediv_add_emod n d) (Int.mul_ediv_add_emod m e) a1 a2 a3 a4
 exact ⟨by unfold dv; rw [if_neg (by omega)], by unfold dv; rw [if_neg (by omega)], by unfold md; rw [if_neg (by omega)], by unfold md; rw [if_neg (by omega)], a1, a2, a3, a4, h1, h2, h3, h4, h5, h6⟩
structure Two (w W : World) (g0 g1 : Nat) (t : TypeId) (n d m e : Int) : Prop where
 h : Below w.heap.size w W
 b0 : Bk W g0 t #[n, d]
 b1 : Bk W g1 t #[m, e]
def cellN (W : World) (b i : Nat) : Nat := ((W.cell? ⟨b, i, none⟩).map (fun v => (intOf v).toNat)).getD 0
theorem cellN_of {W : World} {g : Nat} {t : TypeId} {a b : Int} (h : Bk W g t #[a, b]) : cellN W g 1 = b.toNat := by
 unfold cellN
 rw [h.cell (i := 1) rfl]
 rfl
theorem two_next {w W : World} {g0 g1 : Nat} {t : TypeId} {n d m e n' d' m' e' : Int} (q : BW W) (s : Two w W g0 g1 t n d m e) (h0 : w.heap.size ≤ g0 := by omega) (h1 : g0 < g1 := by omega) :
  Two w ((((q.w.setCell ⟨g0, 0, none⟩ (.int .i64 n')).setCell ⟨g0, 1, none⟩ (.int .i64 d')).setCell ⟨g1, 0, none⟩ (.int .i64 m')).setCell ⟨g1, 1, none⟩ (.int .i64 e')) g0 g1 t n' d' m' e' :=
 ⟨((((z00 s.h q).setCell (p := ⟨g0, 0, none⟩) h0 _).setCell (p := ⟨g0, 1, none⟩) h0 _).setCell (p := ⟨g1, 0, none⟩) (by show _ ≤ g1; omega) _).setCell (p := ⟨g1, 1, none⟩) (by show _ ≤ g1; omega) _,
  (((((s.b0.below q.h).set 0 (.int .i64 n')).set 1 (.int .i64 d')).other (a := ⟨g1, 0, none⟩) (by show g0 ≠ g1; omega) _).other (a := ⟨g1, 1, none⟩) (by show g0 ≠ g1; omega) _).cast (by simp),
  (((((s.b1.below q.h).other (a := ⟨g0, 0, none⟩) (by show g1 ≠ g0; omega) (.int .i64 n')).other (a := ⟨g0, 1, none⟩) (by show g1 ≠ g0; omega) (.int .i64 d')).set 0 (.int .i64 m')).set 1 (.int .i64 e')).cast (by simp)⟩
theorem ref3_Cmp (n d m e : Int) (w : World) (hn : I64 n) (hd : I64 d) (hm : I64 m) (he : I64 e) (d1 : 1 ≤ d) (e1 : 1 ≤ e) :
  Rt prog 59 #[.agg #[n, d], .agg #[m, e]] w (.int .i64 (cmpI (n * e) (m * d))) := by
 obtain ⟨R, hR⟩ := nmd (cmpI (n * e) (m * d))
 rw [← hR]
 go_enter func59, ntmps59
 go_wp2
 have hs : Two w ((w.alloc (.cells #[n, d] 28)).alloc (.cells #[m, e] 28)) w.heap.size (w.heap.size + 1) 28 n d m e :=
  ⟨((Below.refl _ _).alloc (Nat.le_refl _) _).alloc (by simp) _, (Bk.new w _ _).alloc _, Bk.new_at _ _ _ _ (by simp)⟩
 go_loopw [5] (fun _ wr => ∃ n d m e : Int, I64 n ∧ I64 d ∧ I64 m ∧ I64 e ∧ 1 ≤ d ∧ 1 ≤ e ∧ R = cmpI (n * e) (m * d) ∧ Two w wr w.heap.size (w.heap.size + 1) 28 n d m e) (fun _ wr => cellN wr w.heap.size 1 + cellN wr (w.heap.size + 1) 1)
 case atStart => exact ⟨n, d, m, e, hn, hd, hm, he, d1, e1, hR, hs⟩
 case round =>
  clear hs hn hd hm he d1 e1 hR
  obtain ⟨n, d, m, e, hn, hd, hm, he, d1, e1, hR, hs⟩ := hrel
  have S := CmpStep.make n d m e d1 e1
  obtain ⟨p, hp⟩ := nmd (n / d)
  obtain ⟨q, hq⟩ := nmd (m / e)
  obtain ⟨x, hx⟩ := nmd (n % d)
  obtain ⟨y, hy⟩ := nmd (m % e)
  rw [← hp, ← hq, ← hx, ← hy] at S
  clear hp hq hx hy
  have D1 := zh (fun w => z19 (fun w => ref_Div n d w hn hd) w)
  rw [S.p_] at D1
  have D2 := zh (fun w => z19 (fun w => ref_Div m e w hm he) w)
  rw [S.q_] at D2
  have M1 := zh (fun w => z19 (fun w => ref_Mod n d w hn hd) w)
  rw [S.x_] at M1
  have M2 := zh (fun w => z19 (fun w => ref_Mod m e w hm he) w)
  rw [S.y_] at M2
  have HS := zh S
  have HT := zh hs
  have HR := zh hR
  have HI := zh (show I64 d ∧ I64 e ∧ 1 ≤ d ∧ 1 ≤ e from ⟨hd, he, d1, e1⟩)
  have c0 : ∀ p : BW wr, p.w.cell? ⟨w.heap.size, 0, none⟩ = some (.int .i64 n) := z01 (hs.b0.cell (i := 0) rfl)
  have c1 : ∀ p : BW wr, p.w.cell? ⟨w.heap.size, 1, none⟩ = some (.int .i64 d) := z01 (hs.b0.cell (i := 1) rfl)
  have c2 : ∀ p : BW wr, p.w.cell? ⟨w.heap.size + 1, 0, none⟩ = some (.int .i64 m) := z01 (hs.b1.cell (i := 0) rfl)
  have c3 : ∀ p : BW wr, p.w.cell? ⟨w.heap.size + 1, 1, none⟩ = some (.int .i64 e) := z01 (hs.b1.cell (i := 1) rfl)
  have f0 : ∀ p : BW wr, p.w.frozen? ⟨w.heap.size, 0, none⟩ = false := fun p => (hs.b0.below p.h).frozen 0
  have f1 : ∀ p : BW wr, p.w.frozen? ⟨w.heap.size, 1, none⟩ = false := fun p => (hs.b0.below p.h).frozen 1
  have f2 : ∀ p : BW wr, p.w.frozen? ⟨w.heap.size + 1, 0, none⟩ = false := fun p => (hs.b1.below p.h).frozen 0
  have f3 : ∀ p : BW wr, p.w.frozen? ⟨w.heap.size + 1, 1, none⟩ = false := fun p => (hs.b1.below p.h).frozen 1
  have z1 : w.heap.size < w.heap.size + 1 := by omega
  have hcase : p < q ∨ q < p ∨ (p = q ∧ x = 0 ∧ y = 0) ∨ (p = q ∧ x = 0 ∧ 1 ≤ y) ∨ (p = q ∧ 1 ≤ x ∧ y = 0) ∨ (p = q ∧ 1 ≤ x ∧ 1 ≤ y) := by
   have := S.x0
   have := S.y0
   omega
  obtain ⟨p0, hp0⟩ : ∃ p0 : BW wr, p0.w = wr := ⟨BW.start wr, rfl⟩
  rw [← hp0]
  clear hR hs S hn hd hm he d1 e1 hp0
  rcases hcase with h | h | ⟨h, h1, h2⟩ | ⟨h, h1, h2⟩ | ⟨h, h1, h2⟩ | ⟨h, h1, h2⟩
  · have t1 := zt h
    obtain rfl : R = -1 := by rw [HR.out]; exact HS.out.lt h
    clear h
    go_wp2
    refine z03 (by kernel_rfl) (by kernel_rfl) ?_
    repeat (go_big_quiet_step (first
     | (go_at_call 94; (with_reducible exact z02 D1.out _))
     | (go_at_call 94; (with_reducible exact z02 D2.out _))))
    refine wpQuiet_nil ?_
    intro _ hw'
    obtain ⟨qa, rfl⟩ := hw'
    go_wp2
    go_ret
    exact ⟨rfl, z00 HT.out.h _⟩
  · have t1 : decide (p < q) = false := zf (by omega)
    have t2 := zt h
    obtain rfl : R = 1 := by rw [HR.out]; exact HS.out.gt h
    clear h
    go_wp2
    refine z03 (by kernel_rfl) (by kernel_rfl) ?_
    repeat (go_big_quiet_step (first
     | (go_at_call 94; (with_reducible exact z02 D1.out _))
     | (go_at_call 94; (with_reducible exact z02 D2.out _))))
    refine wpQuiet_nil ?_
    intro _ hw'
    obtain ⟨qa, rfl⟩ := hw'
    go_wp2
    go_ret
    exact ⟨rfl, z00 HT.out.h _⟩
  all_goals
   have t1 : decide (p < q) = false := zf (by omega)
   have t2 : decide (q < p) = false := zf (by omega)
  · have t3 : (x == 0) = true := by simpa using h1
    have t4 : (y == 0) = true := by simpa using h2
    obtain rfl : R = 0 := by rw [HR.out]; exact HS.out.zz h h1 h2
    clear h h1 h2
    go_wp2
    refine z03 (by kernel_rfl) (by kernel_rfl) ?_
    repeat (go_big_quiet_step (first
     | (go_at_call 94; (with_reducible exact z02 D1.out _))
     | (go_at_call 94; (with_reducible exact z02 D2.out _))))
    refine wpQuiet_nil ?_
    intro _ hw'
    obtain ⟨qa, rfl⟩ := hw'
    go_wp2
    refine z03 (by kernel_rfl) (by kernel_rfl) ?_
    repeat (go_big_quiet_step (first
     | (go_at_call 95; (with_reducible exact z02 M1.out _))
     | (go_at_call 95; (with_reducible exact z02 M2.out _))))
    refine wpQuiet_nil ?_
    intro _ hw'
    obtain ⟨qb, rfl⟩ := hw'
    go_wp2
    go_ret
    exact ⟨rfl, z00 HT.out.h _⟩
  · have t3 : (x == 0) = true := by simpa using h1
    have t4 : (y == 0) = false := by simp; omega
    obtain rfl : R = -1 := by rw [HR.out]; exact HS.out.zx h h1 h2
    clear h h1 h2
    go_wp2
    refine z03 (by kernel_rfl) (by kernel_rfl) ?_
    repeat (go_big_quiet_step (first
     | (go_at_call 94; (with_reducible exact z02 D1.out _))
     | (go_at_call 94; (with_reducible exact z02 D2.out _))))
    refine wpQuiet_nil ?_
    intro _ hw'
    obtain ⟨qa, rfl⟩ := hw'
    go_wp2
    refine z03 (by kernel_rfl) (by kernel_rfl) ?_
    repeat (go_big_quiet_step (first
     | (go_at_call 95; (with_reducible exact z02 M1.out _))
     | (go_at_call 95; (with_reducible exact z02 M2.out _))))
    refine wpQuiet_nil ?_
    intro _ hw'
    obtain ⟨qb, rfl⟩ := hw'
    go_wp2
    go_ret
    exact ⟨rfl, z00 HT.out.h _⟩
  · have t3 : (x == 0) = false := by simp; omega
    have t4 : (y == 0) = true := by simpa using h2
    obtain rfl : R = 1 := by rw [HR.out]; exact HS.out.zy h h1 h2
    clear h h1 h2
    go_wp2
    refine z03 (by kernel_rfl) (by kernel_rfl) ?_
    repeat (go_big_quiet_step (first
     | (go_at_call 94; (with_reducible exact z02 D1.out _))
     | (go_at_call 94; (with_reducible exact z02 D2.out _))))
    refine wpQuiet_nil ?_
    intro _ hw'
    obtain ⟨qa, rfl⟩ := hw'
    go_wp2
    refine z03 (by kernel_rfl) (by kernel_rfl) ?_
    repeat (go_big_quiet_step (first
     | (go_at_call 95; (with_reducible exact z02 M1.out _))
     | (go_at_call 95; (with_reducible exact z02 M2.out _))))
    refine wpQuiet_nil ?_
    intro _ hw'
    obtain ⟨qb, rfl⟩ := hw'
    go_wp2
    go_ret
    exact ⟨rfl, z00 HT.out.h _⟩
  · have t3 : (x == 0) = false := by simp; omega
    have t4 : (y == 0) = false := by simp; omega
    have HX := zh (show 1 ≤ x ∧ 1 ≤ y from ⟨h1, h2⟩)
    have HN := zh (HS.out.on h)
    clear h h1 h2
    go_wp2
    refine z03 (by kernel_rfl) (by kernel_rfl) ?_
    repeat (go_big_quiet_step (first
     | (go_at_call 94; (with_reducible exact z02 D1.out _))
     | (go_at_call 94; (with_reducible exact z02 D2.out _))))
    refine wpQuiet_nil ?_
    intro _ hw'
    obtain ⟨qa, rfl⟩ := hw'
    go_wp2
    refine z03 (by kernel_rfl) (by kernel_rfl) ?_
    repeat (go_big_quiet_step (first
     | (go_at_call 95; (with_reducible exact z02 M1.out _))
     | (go_at_call 95; (with_reducible exact z02 M2.out _))))
    refine wpQuiet_nil ?_
    intro _ hw'
    obtain ⟨qb, rfl⟩ := hw'
    go_wp2
    go_roundw
    case rel =>
     obtain ⟨i1, i2, i3, i4⟩ := HI.out
     have x1 := HS.out.xd
     have y1 := HS.out.ye
     obtain ⟨x2, y2⟩ := HX.out
     exact ⟨e, y, d, x, i2, by unfold I64 at *; omega, i1, by unfold I64 at *; omega, y2, x2, by rw [HR.out, HN.out], two_next qb HT.out⟩
    case measure =>
     have x1 := HS.out.xd
     have y1 := HS.out.ye
     obtain ⟨x2, y2⟩ := HX.out
     have T := two_next qb HT.out (n' := e) (d' := y) (m' := d) (e' := x)
     rw [cellN_of T.b0, cellN_of T.b1, cellN_of (HT.out.b0.below p0.h), cellN_of (HT.out.b1.below p0.h)]
     omega
end
end
section
section
open Go.RowKit Go.Proofs.Sky
theorem ref3_Less (n d m e : Int) (w : World) (hn : I64 n) (hd : I64 d) (hm : I64 m) (he : I64 e) :
  Rt prog 35 #[.agg #[n, d], .agg #[m, e]] w (.bool (fless n d m e)) := by
 have R1 := zh (fun w => ref3_Right n d w)
 have R2 := zh (fun w => ref3_Right m e w)
 by_cases h1 : 1 ≤ d
 · by_cases h2 : 1 ≤ e
   · have C := zh (fun w => ref3_Cmp n d m e w hn hd hm he h1 h2)
     have E : Hid (fless n d m e = _) := zh (show fless n d m e = _ by unfold fless; rw [zt h1, zt h2, Bool.true_and, Bool.true_and, ← cmpI_lt])
     rw [zt h1] at R1
     rw [zt h2] at R2
     rw [E.out]
     clear E h1 h2 hn hd hm he
     generalize cmpI (n * e) (m * d) = R at *
     go_enter func35, ntmps35
     go_wp2_with (first
      | (go_at_call 34; (first | (with_reducible refine (R1.out _).mono ?_) | (with_reducible refine (R2.out _).mono ?_)); rintro e w1 ⟨rfl, hb⟩; obtain ⟨hc, hf, y0, y1, y2, y3⟩ := below2 (w := w) w.heap.size (by go_grown) hb (by first | (simp; done) | (simp; omega) | omega))
      | (go_at_call 59; refine (C.out _).mono ?_; rintro e w1 ⟨rfl, hb⟩; obtain ⟨hc, hf, y0, y1, y2, y3⟩ := below2 (w := w) w.heap.size (by go_grown) hb (by first | (simp; done) | (simp; omega) | omega)))
     go_ret
     exact ⟨rfl, by go_grown⟩
   · have E : fless n d m e = false := by unfold fless; rw [zf h2, Bool.false_and, Bool.and_false]
     rw [zt h1] at R1
     rw [zf h2] at R2
     rw [E]
     clear E h1 h2 hn hd hm he
     go_enter func35, ntmps35
     go_wp2_with (go_at_call 34; (first | (with_reducible refine (R1.out _).mono ?_) | (with_reducible refine (R2.out _).mono ?_)); rintro e w1 ⟨rfl, hb⟩; obtain ⟨hc, hf, y0, y1, y2, y3⟩ := below2 (w := w) w.heap.size (by go_grown) hb (by first | (simp; done) | (simp; omega) | omega))
     go_ret
     exact ⟨rfl, by go_grown⟩
 · have E : fless n d m e = false := by unfold fless; rw [zf h1, Bool.false_and]
   rw [zf h1] at R1
   rw [E]
   clear E h1 hn hd hm he
   go_enter func35, ntmps35
   go_wp2_with (go_at_call 34; with_reducible refine (R1.out _).mono ?_; rintro e w1 ⟨rfl, hb⟩; obtain ⟨hc, hf, y0, y1, y2, y3⟩ := below2 (w := w) w.heap.size (by go_grown) hb (by first | (simp; done) | (simp; omega) | omega))
   go_ret
   exact ⟨rfl, by go_grown⟩
theorem ref3_Same (n d m e : Int) (w : World) (hn : I64 n) (hd : I64 d) (hm : I64 m) (he : I64 e) :
  Rt prog 88 #[.agg #[n, d], .agg #[m, e]] w (.bool (fsame n d m e)) := by
 have R1 := zh (fun w => ref3_Right n d w)
 have R2 := zh (fun w => ref3_Right m e w)
 by_cases h1 : 1 ≤ d
 · by_cases h2 : 1 ≤ e
   · have C := zh (fun w => ref3_Cmp n d m e w hn hd hm he h1 h2)
     have E : Hid (fsame n d m e = _) := zh (show fsame n d m e = _ by unfold fsame; rw [zt h1, zt h2, Bool.true_and, Bool.true_and, ← cmpI_beq])
     rw [zt h1] at R1
     rw [zt h2] at R2
     rw [E.out]
     clear E h1 h2 hn hd hm he
     generalize cmpI (n * e) (m * d) = R at *
     go_enter func88, ntmps88
     go_wp2_with (first
      | (go_at_call 34; (first | (with_reducible refine (R1.out _).mono ?_) | (with_reducible refine (R2.out _).mono ?_)); rintro e w1 ⟨rfl, hb⟩; obtain ⟨hc, hf, y0, y1, y2, y3⟩ := below2 (w := w) w.heap.size (by go_grown) hb (by first | (simp; done) | (simp; omega) | omega))
      | (go_at_call 59; refine (C.out _).mono ?_; rintro e w1 ⟨rfl, hb⟩; obtain ⟨hc, hf, y0, y1, y2, y3⟩ := below2 (w := w) w.heap.size (by go_grown) hb (by first | (simp; done) | (simp; omega) | omega)))
     go_ret
     exact ⟨rfl, by go_grown⟩
   · have E : fsame n d m e = false := by unfold fsame; rw [zf h2, Bool.false_and, Bool.and_false]
     rw [zt h1] at R1
     rw [zf h2] at R2
     rw [E]
     clear E h1 h2 hn hd hm he
     go_enter func88, ntmps88
     go_wp2_with (go_at_call 34; (first | (with_reducible refine (R1.out _).mono ?_) | (with_reducible refine (R2.out _).mono ?_)); rintro e w1 ⟨rfl, hb⟩; obtain ⟨hc, hf, y0, y1, y2, y3⟩ := below2 (w := w) w.heap.size (by go_grown) hb (by first | (simp; done) | (simp; omega) | omega))
     go_ret
     exact ⟨rfl, by go_grown⟩
 · have E : fsame n d m e = false := by unfold fsame; rw [zf h1, Bool.false_and]
   rw [zf h1] at R1
   rw [E]
   clear E h1 hn hd hm he
   go_enter func88, ntmps88
   go_wp2_with (go_at_call 34; with_reducible refine (R1.out _).mono ?_; rintro e w1 ⟨rfl, hb⟩; obtain ⟨hc, hf, y0, y1, y2, y3⟩ := below2 (w := w) w.heap.size (by go_grown) hb (by first | (simp; done) | (simp; omega) | omega))
   go_ret
   exact ⟨rfl, by go_grown⟩
end
end
section
section
open Go.RowKit Go.Proofs.Sky
end
end
end Go.Proofs.YtbmpmjdlaahekaaGreat
