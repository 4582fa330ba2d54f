/- WideRoot: a root's square is not above its number, the next one's is; a number is its quotient times what it is divided by, and what is left. -/
import Derived.Test.YtdkahkobdoolkaaAwake02
namespace Go.Proofs.Ytdkahkobdoolkaa
open Go.RowKit Go.Proofs.Sky
set_option linter.unusedVariables false
set_option linter.unusedSimpArgs false
attribute [local go_sem ↓] Go.wp_at_zero Go.wp_at_succ

theorem cmpI_le {x y : Int} (h : x ≤ y) : decide (0 < cmpI x y) = false := decide_eq_false (by unfold cmpI; (repeat' split) <;> omega)

theorem cmpI_gt {x y : Int} (h : y < x) : cmpI x y = 1 := by unfold cmpI; rw [if_neg (by omega), if_pos h]

theorem cmpI_ge {x y : Int} (h : y ≤ x) : decide (0 ≤ cmpI x y) = true := decide_eq_true (by unfold cmpI; (repeat' split) <;> omega)

theorem cmpI_lt {x y : Int} (h : x < y) : cmpI x y = -1 := by unfold cmpI; rw [if_pos h]

theorem over_rest {x d : Int} (h : overOk x d = true) : 1 ≤ d ∧ overQ x d = x / d ∧ I64 (overQ x d) ∧ 0 ≤ x - overQ x d * d ∧ x - overQ x d * d < d := by
  have h1 := of_decide_eq_true h
  have h2 : overQ x d = x / d := by unfold overQ; rw [if_pos h]
  have h3 := Int.ediv_mul_add_emod x d
  have h4 := Int.emod_nonneg x (show d ≠ 0 by omega)
  have h5 := Int.emod_lt_of_pos x (show 0 < d by omega)
  refine ⟨h1.1, h2, by unfold I64; omega, ?_, ?_⟩ <;> rw [h2] <;> omega

set_option maxRecDepth 100000 in
set_option maxHeartbeats 8000000 in
theorem wr_neg_no (x d : Int) (hx : W128 x) (hd : I64 d) (w : World) (h0 : x < 0) (hv : overOk x d = false) :
    Calls Try.prog 5 #[.agg #[.int .i64 (hii x), .int .u64 (lon x : Int)], .int .i64 d] w fun e w' => e = .returned (.bool true) ∧ Below w.heap.size w w' := by
  have cOf := Lib.hid (fun w => law2_of x w)
  have cOver := Lib.hid (fun w => wide_Over x d w hx hd)
  have hh := hii_I64 x
  have n0 : hii x < 0 := by unfold W128 at hx; unfold hii; omega
  have cRoot := Lib.hid (fun w => wide_Root_neg x w hx h0)
  have hq : overQ x d = 0 := by unfold overQ; rw [hv]; rfl
  rw [hv, hq] at cOver
  clear hq
  generalize hii x = x1 at *
  generalize lon x = x2 at *
  clear hv hx
  go_enter Try.func5, Try.ntmps5
  go_wp2_with (first
      | (go_at_call 7; ((with_reducible refine (cOf.out _).mono ?_)); rintro e wa ⟨rfl, hbwa⟩; refine keep2e (w := w) (g := w.heap.size) (u := .int .i64 x1) (v := .int .u64 (x2 : Int)) hbwa ?_ ?_ ?_ ?_ ?_; (focus go_grown); (focus (simp; done)); (focus (simp; done)); (focus (simp; done)); intro k0wa k1wa k2wa y0wa; clear hbwa)
      | (go_at_call 6; ((with_reducible refine (cRoot.out _).mono ?_)); rintro e wr ⟨rfl, hbwr⟩; refine keep2e (w := w) (g := wa.heap.size) (u := .int .i64 x1) (v := .int .u64 (x2 : Int)) hbwr ?_ ?_ ?_ ?_ ?_; (focus go_grown); (focus (first | (with_reducible assumption) | (simp; done) | (simp; omega) | omega)); (focus (first | (with_reducible assumption) | (simp; done) | (simp [*, go_sem]; done))); (focus (first | (with_reducible assumption) | (simp; done) | (simp [*, go_sem]; done))); intro k0wr k1wr k2wr y0wr; refine keep2e (w := w) (g := w.heap.size) (u := .int .i64 x1) (v := .int .u64 (x2 : Int)) hbwr ?_ ?_ ?_ ?_ ?_; (focus go_grown); (focus (first | (with_reducible assumption) | (simp; done) | (simp; omega) | omega)); (focus (first | (with_reducible assumption) | (simp; done) | (simp [*, go_sem]; done))); (focus (first | (with_reducible assumption) | (simp; done) | (simp [*, go_sem]; done))); intro k3wr k4wr k5wr y1wr; clear hbwr)
      | (go_at_call 9; ((with_reducible refine (cOver.out _).mono ?_)); rintro e wo ⟨rfl, hbwo⟩; refine keep2e (w := w) (g := wa.heap.size) (u := .int .i64 x1) (v := .int .u64 (x2 : Int)) hbwo ?_ ?_ ?_ ?_ ?_; (focus go_grown); (focus (first | (with_reducible assumption) | (simp; done) | (simp; omega) | omega)); (focus (first | (with_reducible assumption) | (simp; done) | (simp [*, go_sem]; done))); (focus (first | (with_reducible assumption) | (simp; done) | (simp [*, go_sem]; done))); intro k0wo k1wo k2wo y0wo; refine keep2e (w := w) (g := w.heap.size) (u := .int .i64 x1) (v := .int .u64 (x2 : Int)) hbwo ?_ ?_ ?_ ?_ ?_; (focus go_grown); (focus (first | (with_reducible assumption) | (simp; done) | (simp; omega) | omega)); (focus (first | (with_reducible assumption) | (simp; done) | (simp [*, go_sem]; done))); (focus (first | (with_reducible assumption) | (simp; done) | (simp [*, go_sem]; done))); intro k3wo k4wo k5wo y1wo; clear hbwo)
      | (go_at_call 22; refine (awake02 _).mono ?_; rintro e wz ⟨rfl, hbz⟩; refine keep0e (w := w) hbz ?_ ?_; (focus go_grown); intro y0z y1z; clear hbz))
  go_ret
  exact ⟨rfl, by go_grown⟩

set_option maxRecDepth 100000 in
set_option maxHeartbeats 8000000 in
theorem wr_neg_yes (x d : Int) (hx : W128 x) (hd : I64 d) (w : World) (h0 : x < 0) (hv : overOk x d = true) :
    Calls Try.prog 5 #[.agg #[.int .i64 (hii x), .int .u64 (lon x : Int)], .int .i64 d] w fun e w' => e = .returned (.bool true) ∧ Below w.heap.size w w' := by
  have cOf := Lib.hid (fun w => law2_of x w)
  have cOver := Lib.hid (fun w => wide_Over x d w hx hd)
  have hh := hii_I64 x
  have n0 : hii x < 0 := by unfold W128 at hx; unfold hii; omega
  have cRoot := Lib.hid (fun w => wide_Root_neg x w hx h0)
  obtain ⟨d1, q1, q2, q3, q4⟩ := over_rest hv
  rw [hv] at cOver
  have cM3 := Lib.hid (fun w => wide_Mul (overQ x d) d w q2 hd)
  have cS := Lib.hid (fun w => wide_Sub x (overQ x d * d) w)
  have cO0 := Lib.hid (fun w => wide_Of 0 w (by unfold I64; omega))
  have cOd := Lib.hid (fun w => wide_Of d w hd)
  unfold I64 at hd
  have cC3 := Lib.hid (fun w => wide_Cmp (x - overQ x d * d) 0 w (by unfold W128; omega) (by unfold W128; omega))
  have cC4 := Lib.hid (fun w => wide_Cmp (x - overQ x d * d) d w (by unfold W128; omega) (by unfold W128; omega))
  have f3 := cmpI_ge q3
  rw [cmpI_lt q4] at cC4
  generalize cmpI (x - overQ x d * d) 0 = c3 at *
  generalize hii (x - overQ x d * d) = v1 at *
  generalize lon (x - overQ x d * d) = v2 at *
  generalize hii (overQ x d * d) = u1 at *
  generalize lon (overQ x d * d) = u2 at *
  generalize hii 0 = z1 at *
  generalize lon 0 = z2 at *
  generalize hii d = e1 at *
  generalize lon d = e2 at *
  clear q1 q3 q4
  obtain ⟨q5, q6⟩ := q2
  generalize overQ x d = q at *
  generalize hii x = x1 at *
  generalize lon x = x2 at *
  clear hv hx
  go_enter Try.func5, Try.ntmps5
  go_wp2_with (first
      | (go_at_call 7; ((with_reducible refine (cOf.out _).mono ?_)); rintro e wa ⟨rfl, hbwa⟩; refine keep2e (w := w) (g := w.heap.size) (u := .int .i64 x1) (v := .int .u64 (x2 : Int)) hbwa ?_ ?_ ?_ ?_ ?_; (focus go_grown); (focus (simp; done)); (focus (simp; done)); (focus (simp; done)); intro k0wa k1wa k2wa y0wa; clear hbwa)
      | (go_at_call 6; ((with_reducible refine (cRoot.out _).mono ?_)); rintro e wr ⟨rfl, hbwr⟩; refine keep2e (w := w) (g := wa.heap.size) (u := .int .i64 x1) (v := .int .u64 (x2 : Int)) hbwr ?_ ?_ ?_ ?_ ?_; (focus go_grown); (focus (first | (with_reducible assumption) | (simp; done) | (simp; omega) | omega)); (focus (first | (with_reducible assumption) | (simp; done) | (simp [*, go_sem]; done))); (focus (first | (with_reducible assumption) | (simp; done) | (simp [*, go_sem]; done))); intro k0wr k1wr k2wr y0wr; refine keep2e (w := w) (g := w.heap.size) (u := .int .i64 x1) (v := .int .u64 (x2 : Int)) hbwr ?_ ?_ ?_ ?_ ?_; (focus go_grown); (focus (first | (with_reducible assumption) | (simp; done) | (simp; omega) | omega)); (focus (first | (with_reducible assumption) | (simp; done) | (simp [*, go_sem]; done))); (focus (first | (with_reducible assumption) | (simp; done) | (simp [*, go_sem]; done))); intro k3wr k4wr k5wr y1wr; clear hbwr)
      | (go_at_call 9; ((with_reducible refine (cOver.out _).mono ?_)); rintro e wo ⟨rfl, hbwo⟩; refine keep2e (w := w) (g := wa.heap.size) (u := .int .i64 x1) (v := .int .u64 (x2 : Int)) hbwo ?_ ?_ ?_ ?_ ?_; (focus go_grown); (focus (first | (with_reducible assumption) | (simp; done) | (simp; omega) | omega)); (focus (first | (with_reducible assumption) | (simp; done) | (simp [*, go_sem]; done))); (focus (first | (with_reducible assumption) | (simp; done) | (simp [*, go_sem]; done))); intro k0wo k1wo k2wo y0wo; refine keep2e (w := w) (g := w.heap.size) (u := .int .i64 x1) (v := .int .u64 (x2 : Int)) hbwo ?_ ?_ ?_ ?_ ?_; (focus go_grown); (focus (first | (with_reducible assumption) | (simp; done) | (simp; omega) | omega)); (focus (first | (with_reducible assumption) | (simp; done) | (simp [*, go_sem]; done))); (focus (first | (with_reducible assumption) | (simp; done) | (simp [*, go_sem]; done))); intro k3wo k4wo k5wo y1wo; clear hbwo))
  go_cut [11] (fun s11 wx => ∃ p : Nat, s11 = .pointer (some ⟨p, 0, none⟩) ∧ wx.cell? ⟨p, 0, none⟩ = some (.int .i64 v1) ∧ wx.cell? ⟨p, 1, none⟩ = some (.int .u64 (v2 : Int)) ∧ p < wx.heap.size ∧ Below w.heap.size w wx)
  case first =>
    go_region_held3 (fun w' => w'.cell? ⟨wa.heap.size, 0, none⟩ = some (.int .i64 x1) ∧ w'.cell? ⟨wa.heap.size, 1, none⟩ = some (.int .u64 (x2 : Int))) (first | (refine ⟨?_, ?_⟩ <;> assumption) | go_keep | (simp (disch := first | omega | (simp only [World.size_alloc, World.size_setCell, World.size_drew]; omega)) [k0q, k1q, ca, csf]; done) | (simp (disch := first | omega | (simp only [World.size_alloc, World.size_setCell, World.size_drew]; omega)) [k0p, k1p, ca, csf]; done))
      (first
          | (go_at_call 14; ((with_reducible refine (cM3.out _).mono ?_)); rintro e wp ⟨rfl, hbp⟩; have hzp := hbp.size; (try simp at hzp); have hcp := bcell hbp; obtain ⟨hcp, hfp⟩ := hcp; (first | (refine ltk1 (n := wo.heap.size) (N := wp.heap.size) ?_ ?_; (focus omega); intro vp1) | skip); refine keep2e (w := w) (g := wa.heap.size) (u := .int .i64 x1) (v := .int .u64 (x2 : Int)) hbp ?_ ?_ ?_ ?_ ?_; (focus go_grown); (focus (first | (with_reducible assumption) | (simp; done) | (simp; omega) | omega)); (focus (first | (with_reducible assumption) | (simp; done) | (simp [*, go_sem]; done))); (focus (first | (with_reducible assumption) | (simp; done) | (simp [*, go_sem]; done))); intro k0p k1p k2p y0p; clear hbp)
          | (go_at_call 18; ((with_reducible refine (cS.out _).mono ?_)); rintro e wq ⟨rfl, hbq⟩; have hzq := hbq.size; (try simp at hzq); have hcq := bcell hbq; obtain ⟨hcq, hfq⟩ := hcq; (first | (refine ltk1 (n := wo.heap.size) (N := wq.heap.size) ?_ ?_; (focus omega); intro vq1) | skip); (first | (refine ltk1 (n := wp.heap.size) (N := wq.heap.size) ?_ ?_; (focus omega); intro vq2) | skip); refine keep2e (w := w) (g := wa.heap.size) (u := .int .i64 x1) (v := .int .u64 (x2 : Int)) hbq ?_ ?_ ?_ ?_ ?_; (focus go_grown); (focus (first | (with_reducible assumption) | (simp; done) | (simp; omega) | omega)); (focus (first | (with_reducible assumption) | (simp; done) | (simp [*, go_sem]; done))); (focus (first | (with_reducible assumption) | (simp; done) | (simp [*, go_sem]; done))); intro k0q k1q k2q y0q; clear hbq))
    all_goals (go_wp2_with fail; go_meet)
    all_goals
      refine ⟨_, rfl, ?_, ?_, ?_, ?_⟩
      all_goals first | (simp; done) | (simp; omega) | (simp [*, go_sem]; done) | (go_grown; done)
  case rest =>
    obtain ⟨p, rfl, c1, c2, hp, hB⟩ := hcut
    have hwp : w.heap.size ≤ wc.heap.size := hB.size
    go_wp2
    go_region_held3 (fun w' => w'.cell? ⟨p, 0, none⟩ = some (.int .i64 v1) ∧ w'.cell? ⟨p, 1, none⟩ = some (.int .u64 (v2 : Int))) (first | (refine ⟨?_, ?_⟩ <;> assumption) | go_keep | trivial)
      (first
          | (go_at_call 12; ((with_reducible refine (cO0.out _).mono ?_)); rintro e wf ⟨rfl, hbwf⟩; refine keep2e (w := w) (g := p) (u := .int .i64 v1) (v := .int .u64 (v2 : Int)) hbwf ?_ ?_ ?_ ?_ ?_; (focus go_grown); (focus (first | (with_reducible assumption) | (simp; done) | (simp; omega) | omega)); (focus (first | (with_reducible assumption) | (simp; done) | (simp [*, go_sem]; done))); (focus (first | (with_reducible assumption) | (simp; done) | (simp [*, go_sem]; done))); intro k0wf k1wf k2wf y0wf; clear hbwf)
          | (go_at_call 20; ((with_reducible refine (cC3.out _).mono ?_)); rintro e wg ⟨rfl, hbwg⟩; refine keep2e (w := w) (g := p) (u := .int .i64 v1) (v := .int .u64 (v2 : Int)) hbwg ?_ ?_ ?_ ?_ ?_; (focus go_grown); (focus (first | (with_reducible assumption) | (simp; done) | (simp; omega) | omega)); (focus (first | (with_reducible assumption) | (simp; done) | (simp [*, go_sem]; done))); (focus (first | (with_reducible assumption) | (simp; done) | (simp [*, go_sem]; done))); intro k0wg k1wg k2wg y0wg; clear hbwg)
          | (go_at_call 12; ((with_reducible refine (cOd.out _).mono ?_)); rintro e wh ⟨rfl, hbwh⟩; refine keep2e (w := w) (g := p) (u := .int .i64 v1) (v := .int .u64 (v2 : Int)) hbwh ?_ ?_ ?_ ?_ ?_; (focus go_grown); (focus (first | (with_reducible assumption) | (simp; done) | (simp; omega) | omega)); (focus (first | (with_reducible assumption) | (simp; done) | (simp [*, go_sem]; done))); (focus (first | (with_reducible assumption) | (simp; done) | (simp [*, go_sem]; done))); intro k0wh k1wh k2wh y0wh; clear hbwh)
          | (go_at_call 20; ((with_reducible refine (cC4.out _).mono ?_)); rintro e wi ⟨rfl, hbwi⟩; refine keep2e (w := w) (g := p) (u := .int .i64 v1) (v := .int .u64 (v2 : Int)) hbwi ?_ ?_ ?_ ?_ ?_; (focus go_grown); (focus (first | (with_reducible assumption) | (simp; done) | (simp; omega) | omega)); (focus (first | (with_reducible assumption) | (simp; done) | (simp [*, go_sem]; done))); (focus (first | (with_reducible assumption) | (simp; done) | (simp [*, go_sem]; done))); intro k0wi k1wi k2wi y0wi; clear hbwi)
          | (go_at_call 22; refine (awake02 _).mono ?_; rintro e wz ⟨rfl, hbz⟩; refine keep2e (w := w) (g := p) (u := .int .i64 v1) (v := .int .u64 (v2 : Int)) hbz ?_ ?_ ?_ ?_ ?_; (focus go_grown); (focus (first | (with_reducible assumption) | (simp; done) | (simp; omega) | omega)); (focus (first | (with_reducible assumption) | (simp; done) | (simp [*, go_sem]; done))); (focus (first | (with_reducible assumption) | (simp; done) | (simp [*, go_sem]; done))); intro k0z k1z k2z y0z; clear hbz))
    all_goals go_wp2
    all_goals go_ret
    all_goals exact ⟨rfl, by go_grown⟩

set_option maxRecDepth 100000 in
set_option maxHeartbeats 8000000 in
theorem wr_mid_no (x d : Int) (hx : W128 x) (hd : I64 d) (w : World) (h0 : 0 ≤ x) (h1 : isq x.toNat < 9223372036854775807) (hv : overOk x d = false) :
    Calls Try.prog 5 #[.agg #[.int .i64 (hii x), .int .u64 (lon x : Int)], .int .i64 d] w fun e w' => e = .returned (.bool true) ∧ Below w.heap.size w w' := by
  have cOf := Lib.hid (fun w => law2_of x w)
  have cOver := Lib.hid (fun w => wide_Over x d w hx hd)
  have hh := hii_I64 x
  have n0 : 0 ≤ hii x := by unfold W128 at hx; unfold hii; omega
  have cRoot := Lib.hid (fun w => wide_Root_pos x w hx h0)
  have hs := isq_spec x.toNat
  have hxx : ((x.toNat : Nat) : Int) = x := by omega
  unfold W128 at hx
  have m1 : ((isq x.toNat : Nat) : Int) * ((isq x.toNat : Nat) : Int) ≤ x := by have := hs.1; rw [← Int.natCast_mul]; omega
  have m2 : x < (((isq x.toNat : Nat) : Int) + 1) * (((isq x.toNat : Nat) : Int) + 1) := by have := hs.2; rw [show ((isq x.toNat : Nat) : Int) + 1 = ((isq x.toNat + 1 : Nat) : Int) by omega, ← Int.natCast_mul]; omega
  have m3 : (((isq x.toNat : Nat) : Int) + 1) * (((isq x.toNat : Nat) : Int) + 1) ≤ 85070591730234615847396907784232501249 := by
    rw [show ((isq x.toNat : Nat) : Int) + 1 = ((isq x.toNat + 1 : Nat) : Int) by omega, ← Int.natCast_mul]
    have := Nat.mul_le_mul (show isq x.toNat + 1 ≤ 9223372036854775807 by omega) (show isq x.toNat + 1 ≤ 9223372036854775807 by omega); omega
  have m0 : 0 ≤ ((isq x.toNat : Nat) : Int) * ((isq x.toNat : Nat) : Int) := Int.mul_nonneg (by omega) (by omega)
  clear hs hxx
  generalize isq x.toNat = R at *
  have hR : (R : Int) ≤ 9223372036854775806 := by omega
  have cM1 := Lib.hid (fun w => wide_Mul (R : Int) (R : Int) w (by unfold I64; omega) (by unfold I64; omega))
  have cM2 := Lib.hid (fun w => wide_Mul ((R : Int) + 1) ((R : Int) + 1) w (by unfold I64; omega) (by unfold I64; omega))
  have cC1 := Lib.hid (fun w => wide_Cmp ((R : Int) * (R : Int)) x w (by unfold W128; omega) (by unfold W128; omega))
  have cC2 := Lib.hid (fun w => wide_Cmp (((R : Int) + 1) * ((R : Int) + 1)) x w (by unfold W128; omega) (by unfold W128; omega))
  have f1 := cmpI_le m1
  rw [cmpI_gt m2] at cC2
  generalize cmpI ((R : Int) * (R : Int)) x = c1 at *
  generalize hii ((R : Int) * (R : Int)) = s1 at *
  generalize lon ((R : Int) * (R : Int)) = s2 at *
  generalize hii (((R : Int) + 1) * ((R : Int) + 1)) = t1 at *
  generalize lon (((R : Int) + 1) * ((R : Int) + 1)) = t2 at *
  have hRb : decide ((R : Int) < 9223372036854775807) = true := decide_eq_true (by omega)
  have hRw : IntKind.i64.wrap (R : Int) = (R : Int) := by rw [i64w]; omega
  have hRw1 : IntKind.i64.wrap ((R : Int) + 1) = (R : Int) + 1 := by rw [i64w]; omega
  clear m0 m1 m2 m3 h1 hR
  have hq : overQ x d = 0 := by unfold overQ; rw [hv]; rfl
  rw [hv, hq] at cOver
  clear hq
  generalize hii x = x1 at *
  generalize lon x = x2 at *
  clear hv hx
  go_enter Try.func5, Try.ntmps5
  go_wp2_with (first
      | (go_at_call 7; ((with_reducible refine (cOf.out _).mono ?_)); rintro e wa ⟨rfl, hbwa⟩; refine keep2e (w := w) (g := w.heap.size) (u := .int .i64 x1) (v := .int .u64 (x2 : Int)) hbwa ?_ ?_ ?_ ?_ ?_; (focus go_grown); (focus (simp; done)); (focus (simp; done)); (focus (simp; done)); intro k0wa k1wa k2wa y0wa; clear hbwa)
      | (go_at_call 6; ((with_reducible refine (cRoot.out _).mono ?_)); rintro e wr ⟨rfl, hbwr⟩; refine keep2e (w := w) (g := wa.heap.size) (u := .int .i64 x1) (v := .int .u64 (x2 : Int)) hbwr ?_ ?_ ?_ ?_ ?_; (focus go_grown); (focus (first | (with_reducible assumption) | (simp; done) | (simp; omega) | omega)); (focus (first | (with_reducible assumption) | (simp; done) | (simp [*, go_sem]; done))); (focus (first | (with_reducible assumption) | (simp; done) | (simp [*, go_sem]; done))); intro k0wr k1wr k2wr y0wr; refine keep2e (w := w) (g := w.heap.size) (u := .int .i64 x1) (v := .int .u64 (x2 : Int)) hbwr ?_ ?_ ?_ ?_ ?_; (focus go_grown); (focus (first | (with_reducible assumption) | (simp; done) | (simp; omega) | omega)); (focus (first | (with_reducible assumption) | (simp; done) | (simp [*, go_sem]; done))); (focus (first | (with_reducible assumption) | (simp; done) | (simp [*, go_sem]; done))); intro k3wr k4wr k5wr y1wr; clear hbwr)
      | (go_at_call 9; ((with_reducible refine (cOver.out _).mono ?_)); rintro e wo ⟨rfl, hbwo⟩; refine keep2e (w := w) (g := wa.heap.size) (u := .int .i64 x1) (v := .int .u64 (x2 : Int)) hbwo ?_ ?_ ?_ ?_ ?_; (focus go_grown); (focus (first | (with_reducible assumption) | (simp; done) | (simp; omega) | omega)); (focus (first | (with_reducible assumption) | (simp; done) | (simp [*, go_sem]; done))); (focus (first | (with_reducible assumption) | (simp; done) | (simp [*, go_sem]; done))); intro k0wo k1wo k2wo y0wo; refine keep2e (w := w) (g := w.heap.size) (u := .int .i64 x1) (v := .int .u64 (x2 : Int)) hbwo ?_ ?_ ?_ ?_ ?_; (focus go_grown); (focus (first | (with_reducible assumption) | (simp; done) | (simp; omega) | omega)); (focus (first | (with_reducible assumption) | (simp; done) | (simp [*, go_sem]; done))); (focus (first | (with_reducible assumption) | (simp; done) | (simp [*, go_sem]; done))); intro k3wo k4wo k5wo y1wo; clear hbwo)
      | (go_at_call 22; refine (awake02 _).mono ?_; rintro e wz ⟨rfl, hbz⟩; refine keep0e (w := w) hbz ?_ ?_; (focus go_grown); intro y0z y1z; clear hbz))
  go_region_held3 (fun w' => w'.cell? ⟨wa.heap.size, 0, none⟩ = some (.int .i64 x1) ∧ w'.cell? ⟨wa.heap.size, 1, none⟩ = some (.int .u64 (x2 : Int))) (first | (refine ⟨?_, ?_⟩ <;> assumption) | go_keep)
    (first
        | (go_at_call 14; ((with_reducible refine (cM1.out _).mono ?_)); rintro e wm ⟨rfl, hbwm⟩; refine keep2e (w := w) (g := wa.heap.size) (u := .int .i64 x1) (v := .int .u64 (x2 : Int)) hbwm ?_ ?_ ?_ ?_ ?_; (focus go_grown); (focus (first | (with_reducible assumption) | (simp; done) | (simp; omega) | omega)); (focus (first | (with_reducible assumption) | (simp; done) | (simp [*, go_sem]; done))); (focus (first | (with_reducible assumption) | (simp; done) | (simp [*, go_sem]; done))); intro k0wm k1wm k2wm y0wm; clear hbwm)
        | (go_at_call 20; ((with_reducible refine (cC1.out _).mono ?_)); rintro e wc ⟨rfl, hbwc⟩; refine keep2e (w := w) (g := wa.heap.size) (u := .int .i64 x1) (v := .int .u64 (x2 : Int)) hbwc ?_ ?_ ?_ ?_ ?_; (focus go_grown); (focus (first | (with_reducible assumption) | (simp; done) | (simp; omega) | omega)); (focus (first | (with_reducible assumption) | (simp; done) | (simp [*, go_sem]; done))); (focus (first | (with_reducible assumption) | (simp; done) | (simp [*, go_sem]; done))); intro k0wc k1wc k2wc y0wc; clear hbwc)
        | (go_at_call 14; ((with_reducible refine (cM2.out _).mono ?_)); rintro e wn ⟨rfl, hbwn⟩; refine keep2e (w := w) (g := wa.heap.size) (u := .int .i64 x1) (v := .int .u64 (x2 : Int)) hbwn ?_ ?_ ?_ ?_ ?_; (focus go_grown); (focus (first | (with_reducible assumption) | (simp; done) | (simp; omega) | omega)); (focus (first | (with_reducible assumption) | (simp; done) | (simp [*, go_sem]; done))); (focus (first | (with_reducible assumption) | (simp; done) | (simp [*, go_sem]; done))); intro k0wn k1wn k2wn y0wn; clear hbwn)
        | (go_at_call 20; ((with_reducible refine (cC2.out _).mono ?_)); rintro e wd ⟨rfl, hbwd⟩; refine keep2e (w := w) (g := wa.heap.size) (u := .int .i64 x1) (v := .int .u64 (x2 : Int)) hbwd ?_ ?_ ?_ ?_ ?_; (focus go_grown); (focus (first | (with_reducible assumption) | (simp; done) | (simp; omega) | omega)); (focus (first | (with_reducible assumption) | (simp; done) | (simp [*, go_sem]; done))); (focus (first | (with_reducible assumption) | (simp; done) | (simp [*, go_sem]; done))); intro k0wd k1wd k2wd y0wd; clear hbwd))
  go_wp2_with (first
      | (go_at_call 9; ((with_reducible refine (cOver.out _).mono ?_)); rintro e wo ⟨rfl, hbwo⟩; refine keep2e (w := w) (g := wa.heap.size) (u := .int .i64 x1) (v := .int .u64 (x2 : Int)) hbwo ?_ ?_ ?_ ?_ ?_; (focus go_grown); (focus (first | (with_reducible assumption) | (simp; done) | (simp; omega) | omega)); (focus (first | (with_reducible assumption) | (simp; done) | (simp [*, go_sem]; done))); (focus (first | (with_reducible assumption) | (simp; done) | (simp [*, go_sem]; done))); intro k0wo k1wo k2wo y0wo; clear hbwo)
      | (go_at_call 22; refine (awake02 _).mono ?_; rintro e wz ⟨rfl, hbz⟩; refine keep0e (w := w) hbz ?_ ?_; (focus go_grown); intro y0z y1z; clear hbz))
  go_ret
  exact ⟨rfl, by go_grown⟩

set_option maxRecDepth 100000 in
set_option maxHeartbeats 8000000 in
theorem wr_mid_yes (x d : Int) (hx : W128 x) (hd : I64 d) (w : World) (h0 : 0 ≤ x) (h1 : isq x.toNat < 9223372036854775807) (hv : overOk x d = true) :
    Calls Try.prog 5 #[.agg #[.int .i64 (hii x), .int .u64 (lon x : Int)], .int .i64 d] w fun e w' => e = .returned (.bool true) ∧ Below w.heap.size w w' := by
  have cOf := Lib.hid (fun w => law2_of x w)
  have cOver := Lib.hid (fun w => wide_Over x d w hx hd)
  have hh := hii_I64 x
  have n0 : 0 ≤ hii x := by unfold W128 at hx; unfold hii; omega
  have cRoot := Lib.hid (fun w => wide_Root_pos x w hx h0)
  have hs := isq_spec x.toNat
  have hxx : ((x.toNat : Nat) : Int) = x := by omega
  unfold W128 at hx
  have m1 : ((isq x.toNat : Nat) : Int) * ((isq x.toNat : Nat) : Int) ≤ x := by have := hs.1; rw [← Int.natCast_mul]; omega
  have m2 : x < (((isq x.toNat : Nat) : Int) + 1) * (((isq x.toNat : Nat) : Int) + 1) := by have := hs.2; rw [show ((isq x.toNat : Nat) : Int) + 1 = ((isq x.toNat + 1 : Nat) : Int) by omega, ← Int.natCast_mul]; omega
  have m3 : (((isq x.toNat : Nat) : Int) + 1) * (((isq x.toNat : Nat) : Int) + 1) ≤ 85070591730234615847396907784232501249 := by
    rw [show ((isq x.toNat : Nat) : Int) + 1 = ((isq x.toNat + 1 : Nat) : Int) by omega, ← Int.natCast_mul]
    have := Nat.mul_le_mul (show isq x.toNat + 1 ≤ 9223372036854775807 by omega) (show isq x.toNat + 1 ≤ 9223372036854775807 by omega); omega
  have m0 : 0 ≤ ((isq x.toNat : Nat) : Int) * ((isq x.toNat : Nat) : Int) := Int.mul_nonneg (by omega) (by omega)
  clear hs hxx
  generalize isq x.toNat = R at *
  have hR : (R : Int) ≤ 9223372036854775806 := by omega
  have cM1 := Lib.hid (fun w => wide_Mul (R : Int) (R : Int) w (by unfold I64; omega) (by unfold I64; omega))
  have cM2 := Lib.hid (fun w => wide_Mul ((R : Int) + 1) ((R : Int) + 1) w (by unfold I64; omega) (by unfold I64; omega))
  have cC1 := Lib.hid (fun w => wide_Cmp ((R : Int) * (R : Int)) x w (by unfold W128; omega) (by unfold W128; omega))
  have cC2 := Lib.hid (fun w => wide_Cmp (((R : Int) + 1) * ((R : Int) + 1)) x w (by unfold W128; omega) (by unfold W128; omega))
  have f1 := cmpI_le m1
  rw [cmpI_gt m2] at cC2
  generalize cmpI ((R : Int) * (R : Int)) x = c1 at *
  generalize hii ((R : Int) * (R : Int)) = s1 at *
  generalize lon ((R : Int) * (R : Int)) = s2 at *
  generalize hii (((R : Int) + 1) * ((R : Int) + 1)) = t1 at *
  generalize lon (((R : Int) + 1) * ((R : Int) + 1)) = t2 at *
  have hRb : decide ((R : Int) < 9223372036854775807) = true := decide_eq_true (by omega)
  have hRw : IntKind.i64.wrap (R : Int) = (R : Int) := by rw [i64w]; omega
  have hRw1 : IntKind.i64.wrap ((R : Int) + 1) = (R : Int) + 1 := by rw [i64w]; omega
  clear m0 m1 m2 m3 h1 hR
  obtain ⟨d1, q1, q2, q3, q4⟩ := over_rest hv
  rw [hv] at cOver
  have cM3 := Lib.hid (fun w => wide_Mul (overQ x d) d w q2 hd)
  have cS := Lib.hid (fun w => wide_Sub x (overQ x d * d) w)
  have cO0 := Lib.hid (fun w => wide_Of 0 w (by unfold I64; omega))
  have cOd := Lib.hid (fun w => wide_Of d w hd)
  unfold I64 at hd
  have cC3 := Lib.hid (fun w => wide_Cmp (x - overQ x d * d) 0 w (by unfold W128; omega) (by unfold W128; omega))
  have cC4 := Lib.hid (fun w => wide_Cmp (x - overQ x d * d) d w (by unfold W128; omega) (by unfold W128; omega))
  have f3 := cmpI_ge q3
  rw [cmpI_lt q4] at cC4
  generalize cmpI (x - overQ x d * d) 0 = c3 at *
  generalize hii (x - overQ x d * d) = v1 at *
  generalize lon (x - overQ x d * d) = v2 at *
  generalize hii (overQ x d * d) = u1 at *
  generalize lon (overQ x d * d) = u2 at *
  generalize hii 0 = z1 at *
  generalize lon 0 = z2 at *
  generalize hii d = e1 at *
  generalize lon d = e2 at *
  clear q1 q3 q4
  obtain ⟨q5, q6⟩ := q2
  generalize overQ x d = q at *
  generalize hii x = x1 at *
  generalize lon x = x2 at *
  clear hv hx
  go_enter Try.func5, Try.ntmps5
  go_wp2_with (first
      | (go_at_call 7; ((with_reducible refine (cOf.out _).mono ?_)); rintro e wa ⟨rfl, hbwa⟩; refine keep2e (w := w) (g := w.heap.size) (u := .int .i64 x1) (v := .int .u64 (x2 : Int)) hbwa ?_ ?_ ?_ ?_ ?_; (focus go_grown); (focus (simp; done)); (focus (simp; done)); (focus (simp; done)); intro k0wa k1wa k2wa y0wa; clear hbwa)
      | (go_at_call 6; ((with_reducible refine (cRoot.out _).mono ?_)); rintro e wr ⟨rfl, hbwr⟩; refine keep2e (w := w) (g := wa.heap.size) (u := .int .i64 x1) (v := .int .u64 (x2 : Int)) hbwr ?_ ?_ ?_ ?_ ?_; (focus go_grown); (focus (first | (with_reducible assumption) | (simp; done) | (simp; omega) | omega)); (focus (first | (with_reducible assumption) | (simp; done) | (simp [*, go_sem]; done))); (focus (first | (with_reducible assumption) | (simp; done) | (simp [*, go_sem]; done))); intro k0wr k1wr k2wr y0wr; refine keep2e (w := w) (g := w.heap.size) (u := .int .i64 x1) (v := .int .u64 (x2 : Int)) hbwr ?_ ?_ ?_ ?_ ?_; (focus go_grown); (focus (first | (with_reducible assumption) | (simp; done) | (simp; omega) | omega)); (focus (first | (with_reducible assumption) | (simp; done) | (simp [*, go_sem]; done))); (focus (first | (with_reducible assumption) | (simp; done) | (simp [*, go_sem]; done))); intro k3wr k4wr k5wr y1wr; clear hbwr)
      | (go_at_call 9; ((with_reducible refine (cOver.out _).mono ?_)); rintro e wo ⟨rfl, hbwo⟩; refine keep2e (w := w) (g := wa.heap.size) (u := .int .i64 x1) (v := .int .u64 (x2 : Int)) hbwo ?_ ?_ ?_ ?_ ?_; (focus go_grown); (focus (first | (with_reducible assumption) | (simp; done) | (simp; omega) | omega)); (focus (first | (with_reducible assumption) | (simp; done) | (simp [*, go_sem]; done))); (focus (first | (with_reducible assumption) | (simp; done) | (simp [*, go_sem]; done))); intro k0wo k1wo k2wo y0wo; refine keep2e (w := w) (g := w.heap.size) (u := .int .i64 x1) (v := .int .u64 (x2 : Int)) hbwo ?_ ?_ ?_ ?_ ?_; (focus go_grown); (focus (first | (with_reducible assumption) | (simp; done) | (simp; omega) | omega)); (focus (first | (with_reducible assumption) | (simp; done) | (simp [*, go_sem]; done))); (focus (first | (with_reducible assumption) | (simp; done) | (simp [*, go_sem]; done))); intro k3wo k4wo k5wo y1wo; clear hbwo))
  go_region_held3 (fun w' => w'.cell? ⟨wa.heap.size, 0, none⟩ = some (.int .i64 x1) ∧ w'.cell? ⟨wa.heap.size, 1, none⟩ = some (.int .u64 (x2 : Int))) (first | (refine ⟨?_, ?_⟩ <;> assumption) | go_keep)
    (first
        | (go_at_call 14; ((with_reducible refine (cM1.out _).mono ?_)); rintro e wm ⟨rfl, hbwm⟩; refine keep2e (w := w) (g := wa.heap.size) (u := .int .i64 x1) (v := .int .u64 (x2 : Int)) hbwm ?_ ?_ ?_ ?_ ?_; (focus go_grown); (focus (first | (with_reducible assumption) | (simp; done) | (simp; omega) | omega)); (focus (first | (with_reducible assumption) | (simp; done) | (simp [*, go_sem]; done))); (focus (first | (with_reducible assumption) | (simp; done) | (simp [*, go_sem]; done))); intro k0wm k1wm k2wm y0wm; clear hbwm)
        | (go_at_call 20; ((with_reducible refine (cC1.out _).mono ?_)); rintro e wc ⟨rfl, hbwc⟩; refine keep2e (w := w) (g := wa.heap.size) (u := .int .i64 x1) (v := .int .u64 (x2 : Int)) hbwc ?_ ?_ ?_ ?_ ?_; (focus go_grown); (focus (first | (with_reducible assumption) | (simp; done) | (simp; omega) | omega)); (focus (first | (with_reducible assumption) | (simp; done) | (simp [*, go_sem]; done))); (focus (first | (with_reducible assumption) | (simp; done) | (simp [*, go_sem]; done))); intro k0wc k1wc k2wc y0wc; clear hbwc)
        | (go_at_call 14; ((with_reducible refine (cM2.out _).mono ?_)); rintro e wn ⟨rfl, hbwn⟩; refine keep2e (w := w) (g := wa.heap.size) (u := .int .i64 x1) (v := .int .u64 (x2 : Int)) hbwn ?_ ?_ ?_ ?_ ?_; (focus go_grown); (focus (first | (with_reducible assumption) | (simp; done) | (simp; omega) | omega)); (focus (first | (with_reducible assumption) | (simp; done) | (simp [*, go_sem]; done))); (focus (first | (with_reducible assumption) | (simp; done) | (simp [*, go_sem]; done))); intro k0wn k1wn k2wn y0wn; clear hbwn)
        | (go_at_call 20; ((with_reducible refine (cC2.out _).mono ?_)); rintro e wd ⟨rfl, hbwd⟩; refine keep2e (w := w) (g := wa.heap.size) (u := .int .i64 x1) (v := .int .u64 (x2 : Int)) hbwd ?_ ?_ ?_ ?_ ?_; (focus go_grown); (focus (first | (with_reducible assumption) | (simp; done) | (simp; omega) | omega)); (focus (first | (with_reducible assumption) | (simp; done) | (simp [*, go_sem]; done))); (focus (first | (with_reducible assumption) | (simp; done) | (simp [*, go_sem]; done))); intro k0wd k1wd k2wd y0wd; clear hbwd))
  go_wp2_with (first
      | (go_at_call 9; ((with_reducible refine (cOver.out _).mono ?_)); rintro e wo ⟨rfl, hbwo⟩; refine keep2e (w := w) (g := wa.heap.size) (u := .int .i64 x1) (v := .int .u64 (x2 : Int)) hbwo ?_ ?_ ?_ ?_ ?_; (focus go_grown); (focus (first | (with_reducible assumption) | (simp; done) | (simp; omega) | omega)); (focus (first | (with_reducible assumption) | (simp; done) | (simp [*, go_sem]; done))); (focus (first | (with_reducible assumption) | (simp; done) | (simp [*, go_sem]; done))); intro k0wo k1wo k2wo y0wo; clear hbwo))
  clear hRb hRw hRw1
  go_cut [11] (fun s11 wx => ∃ p : Nat, s11 = .pointer (some ⟨p, 0, none⟩) ∧ wx.cell? ⟨p, 0, none⟩ = some (.int .i64 v1) ∧ wx.cell? ⟨p, 1, none⟩ = some (.int .u64 (v2 : Int)) ∧ p < wx.heap.size ∧ Below w.heap.size w wx)
  case first =>
    go_region_held3 (fun w' => w'.cell? ⟨wa.heap.size, 0, none⟩ = some (.int .i64 x1) ∧ w'.cell? ⟨wa.heap.size, 1, none⟩ = some (.int .u64 (x2 : Int))) (first | (refine ⟨?_, ?_⟩ <;> assumption) | go_keep | (simp (disch := first | omega | (simp only [World.size_alloc, World.size_setCell, World.size_drew]; omega)) [k0q, k1q, ca, csf]; done) | (simp (disch := first | omega | (simp only [World.size_alloc, World.size_setCell, World.size_drew]; omega)) [k0p, k1p, ca, csf]; done))
      (first
          | (go_at_call 14; ((with_reducible refine (cM3.out _).mono ?_)); rintro e wp ⟨rfl, hbp⟩; have hzp := hbp.size; (try simp at hzp); have hcp := bcell hbp; obtain ⟨hcp, hfp⟩ := hcp; (first | (refine ltk1 (n := wo.heap.size) (N := wp.heap.size) ?_ ?_; (focus omega); intro vp1) | skip); refine keep2e (w := w) (g := wa.heap.size) (u := .int .i64 x1) (v := .int .u64 (x2 : Int)) hbp ?_ ?_ ?_ ?_ ?_; (focus go_grown); (focus (first | (with_reducible assumption) | (simp; done) | (simp; omega) | omega)); (focus (first | (with_reducible assumption) | (simp; done) | (simp [*, go_sem]; done))); (focus (first | (with_reducible assumption) | (simp; done) | (simp [*, go_sem]; done))); intro k0p k1p k2p y0p; clear hbp)
          | (go_at_call 18; ((with_reducible refine (cS.out _).mono ?_)); rintro e wq ⟨rfl, hbq⟩; have hzq := hbq.size; (try simp at hzq); have hcq := bcell hbq; obtain ⟨hcq, hfq⟩ := hcq; (first | (refine ltk1 (n := wo.heap.size) (N := wq.heap.size) ?_ ?_; (focus omega); intro vq1) | skip); (first | (refine ltk1 (n := wp.heap.size) (N := wq.heap.size) ?_ ?_; (focus omega); intro vq2) | skip); refine keep2e (w := w) (g := wa.heap.size) (u := .int .i64 x1) (v := .int .u64 (x2 : Int)) hbq ?_ ?_ ?_ ?_ ?_; (focus go_grown); (focus (first | (with_reducible assumption) | (simp; done) | (simp; omega) | omega)); (focus (first | (with_reducible assumption) | (simp; done) | (simp [*, go_sem]; done))); (focus (first | (with_reducible assumption) | (simp; done) | (simp [*, go_sem]; done))); intro k0q k1q k2q y0q; clear hbq))
    all_goals (go_wp2_with fail; go_meet)
    all_goals
      refine ⟨_, rfl, ?_, ?_, ?_, ?_⟩
      all_goals first | (simp; done) | (simp; omega) | (simp [*, go_sem]; done) | (go_grown; done)
  case rest =>
    obtain ⟨p, rfl, c1, c2, hp, hB⟩ := hcut
    have hwp : w.heap.size ≤ wc.heap.size := hB.size
    go_wp2
    go_region_held3 (fun w' => w'.cell? ⟨p, 0, none⟩ = some (.int .i64 v1) ∧ w'.cell? ⟨p, 1, none⟩ = some (.int .u64 (v2 : Int))) (first | (refine ⟨?_, ?_⟩ <;> assumption) | go_keep | trivial)
      (first
          | (go_at_call 12; ((with_reducible refine (cO0.out _).mono ?_)); rintro e wf ⟨rfl, hbwf⟩; refine keep2e (w := w) (g := p) (u := .int .i64 v1) (v := .int .u64 (v2 : Int)) hbwf ?_ ?_ ?_ ?_ ?_; (focus go_grown); (focus (first | (with_reducible assumption) | (simp; done) | (simp; omega) | omega)); (focus (first | (with_reducible assumption) | (simp; done) | (simp [*, go_sem]; done))); (focus (first | (with_reducible assumption) | (simp; done) | (simp [*, go_sem]; done))); intro k0wf k1wf k2wf y0wf; clear hbwf)
          | (go_at_call 20; ((with_reducible refine (cC3.out _).mono ?_)); rintro e wg ⟨rfl, hbwg⟩; refine keep2e (w := w) (g := p) (u := .int .i64 v1) (v := .int .u64 (v2 : Int)) hbwg ?_ ?_ ?_ ?_ ?_; (focus go_grown); (focus (first | (with_reducible assumption) | (simp; done) | (simp; omega) | omega)); (focus (first | (with_reducible assumption) | (simp; done) | (simp [*, go_sem]; done))); (focus (first | (with_reducible assumption) | (simp; done) | (simp [*, go_sem]; done))); intro k0wg k1wg k2wg y0wg; clear hbwg)
          | (go_at_call 12; ((with_reducible refine (cOd.out _).mono ?_)); rintro e wh ⟨rfl, hbwh⟩; refine keep2e (w := w) (g := p) (u := .int .i64 v1) (v := .int .u64 (v2 : Int)) hbwh ?_ ?_ ?_ ?_ ?_; (focus go_grown); (focus (first | (with_reducible assumption) | (simp; done) | (simp; omega) | omega)); (focus (first | (with_reducible assumption) | (simp; done) | (simp [*, go_sem]; done))); (focus (first | (with_reducible assumption) | (simp; done) | (simp [*, go_sem]; done))); intro k0wh k1wh k2wh y0wh; clear hbwh)
          | (go_at_call 20; ((with_reducible refine (cC4.out _).mono ?_)); rintro e wi ⟨rfl, hbwi⟩; refine keep2e (w := w) (g := p) (u := .int .i64 v1) (v := .int .u64 (v2 : Int)) hbwi ?_ ?_ ?_ ?_ ?_; (focus go_grown); (focus (first | (with_reducible assumption) | (simp; done) | (simp; omega) | omega)); (focus (first | (with_reducible assumption) | (simp; done) | (simp [*, go_sem]; done))); (focus (first | (with_reducible assumption) | (simp; done) | (simp [*, go_sem]; done))); intro k0wi k1wi k2wi y0wi; clear hbwi)
          | (go_at_call 22; refine (awake02 _).mono ?_; rintro e wz ⟨rfl, hbz⟩; refine keep2e (w := w) (g := p) (u := .int .i64 v1) (v := .int .u64 (v2 : Int)) hbz ?_ ?_ ?_ ?_ ?_; (focus go_grown); (focus (first | (with_reducible assumption) | (simp; done) | (simp; omega) | omega)); (focus (first | (with_reducible assumption) | (simp; done) | (simp [*, go_sem]; done))); (focus (first | (with_reducible assumption) | (simp; done) | (simp [*, go_sem]; done))); intro k0z k1z k2z y0z; clear hbz))
    all_goals go_wp2
    all_goals go_ret
    all_goals exact ⟨rfl, by go_grown⟩

set_option maxRecDepth 100000 in
set_option maxHeartbeats 8000000 in
theorem wr_big_no (x d : Int) (hx : W128 x) (hd : I64 d) (w : World) (h0 : 0 ≤ x) (h1 : 9223372036854775807 ≤ isq x.toNat) (hv : overOk x d = false) :
    Calls Try.prog 5 #[.agg #[.int .i64 (hii x), .int .u64 (lon x : Int)], .int .i64 d] w fun e w' => e = .returned (.bool true) ∧ Below w.heap.size w w' := by
  have cOf := Lib.hid (fun w => law2_of x w)
  have cOver := Lib.hid (fun w => wide_Over x d w hx hd)
  have hh := hii_I64 x
  have n0 : 0 ≤ hii x := by unfold W128 at hx; unfold hii; omega
  have cRoot := Lib.hid (fun w => wide_Root_pos x w hx h0)
  have hs := isq_spec x.toNat
  have hxx : ((x.toNat : Nat) : Int) = x := by omega
  unfold W128 at hx
  have hR2 : isq x.toNat < 18446744073709551616 := isq_lt (by omega)
  clear hs hxx
  generalize isq x.toNat = R at *
  have hR : (9223372036854775807 : Int) ≤ (R : Int) := by omega
  have hRb : decide ((R : Int) < 9223372036854775807) = false := decide_eq_false (by omega)
  clear h1 hR hR2
  have hq : overQ x d = 0 := by unfold overQ; rw [hv]; rfl
  rw [hv, hq] at cOver
  clear hq
  generalize hii x = x1 at *
  generalize lon x = x2 at *
  clear hv hx
  go_enter Try.func5, Try.ntmps5
  go_wp2_with (first
      | (go_at_call 7; ((with_reducible refine (cOf.out _).mono ?_)); rintro e wa ⟨rfl, hbwa⟩; refine keep2e (w := w) (g := w.heap.size) (u := .int .i64 x1) (v := .int .u64 (x2 : Int)) hbwa ?_ ?_ ?_ ?_ ?_; (focus go_grown); (focus (simp; done)); (focus (simp; done)); (focus (simp; done)); intro k0wa k1wa k2wa y0wa; clear hbwa)
      | (go_at_call 6; ((with_reducible refine (cRoot.out _).mono ?_)); rintro e wr ⟨rfl, hbwr⟩; refine keep2e (w := w) (g := wa.heap.size) (u := .int .i64 x1) (v := .int .u64 (x2 : Int)) hbwr ?_ ?_ ?_ ?_ ?_; (focus go_grown); (focus (first | (with_reducible assumption) | (simp; done) | (simp; omega) | omega)); (focus (first | (with_reducible assumption) | (simp; done) | (simp [*, go_sem]; done))); (focus (first | (with_reducible assumption) | (simp; done) | (simp [*, go_sem]; done))); intro k0wr k1wr k2wr y0wr; refine keep2e (w := w) (g := w.heap.size) (u := .int .i64 x1) (v := .int .u64 (x2 : Int)) hbwr ?_ ?_ ?_ ?_ ?_; (focus go_grown); (focus (first | (with_reducible assumption) | (simp; done) | (simp; omega) | omega)); (focus (first | (with_reducible assumption) | (simp; done) | (simp [*, go_sem]; done))); (focus (first | (with_reducible assumption) | (simp; done) | (simp [*, go_sem]; done))); intro k3wr k4wr k5wr y1wr; clear hbwr)
      | (go_at_call 9; ((with_reducible refine (cOver.out _).mono ?_)); rintro e wo ⟨rfl, hbwo⟩; refine keep2e (w := w) (g := wa.heap.size) (u := .int .i64 x1) (v := .int .u64 (x2 : Int)) hbwo ?_ ?_ ?_ ?_ ?_; (focus go_grown); (focus (first | (with_reducible assumption) | (simp; done) | (simp; omega) | omega)); (focus (first | (with_reducible assumption) | (simp; done) | (simp [*, go_sem]; done))); (focus (first | (with_reducible assumption) | (simp; done) | (simp [*, go_sem]; done))); intro k0wo k1wo k2wo y0wo; refine keep2e (w := w) (g := w.heap.size) (u := .int .i64 x1) (v := .int .u64 (x2 : Int)) hbwo ?_ ?_ ?_ ?_ ?_; (focus go_grown); (focus (first | (with_reducible assumption) | (simp; done) | (simp; omega) | omega)); (focus (first | (with_reducible assumption) | (simp; done) | (simp [*, go_sem]; done))); (focus (first | (with_reducible assumption) | (simp; done) | (simp [*, go_sem]; done))); intro k3wo k4wo k5wo y1wo; clear hbwo)
      | (go_at_call 22; refine (awake02 _).mono ?_; rintro e wz ⟨rfl, hbz⟩; refine keep0e (w := w) hbz ?_ ?_; (focus go_grown); intro y0z y1z; clear hbz))
  go_ret
  exact ⟨rfl, by go_grown⟩

set_option maxRecDepth 100000 in
set_option maxHeartbeats 8000000 in
theorem wr_big_yes (x d : Int) (hx : W128 x) (hd : I64 d) (w : World) (h0 : 0 ≤ x) (h1 : 9223372036854775807 ≤ isq x.toNat) (hv : overOk x d = true) :
    Calls Try.prog 5 #[.agg #[.int .i64 (hii x), .int .u64 (lon x : Int)], .int .i64 d] w fun e w' => e = .returned (.bool true) ∧ Below w.heap.size w w' := by
  have cOf := Lib.hid (fun w => law2_of x w)
  have cOver := Lib.hid (fun w => wide_Over x d w hx hd)
  have hh := hii_I64 x
  have n0 : 0 ≤ hii x := by unfold W128 at hx; unfold hii; omega
  have cRoot := Lib.hid (fun w => wide_Root_pos x w hx h0)
  have hs := isq_spec x.toNat
  have hxx : ((x.toNat : Nat) : Int) = x := by omega
  unfold W128 at hx
  have hR2 : isq x.toNat < 18446744073709551616 := isq_lt (by omega)
  clear hs hxx
  generalize isq x.toNat = R at *
  have hR : (9223372036854775807 : Int) ≤ (R : Int) := by omega
  have hRb : decide ((R : Int) < 9223372036854775807) = false := decide_eq_false (by omega)
  clear h1 hR hR2
  obtain ⟨d1, q1, q2, q3, q4⟩ := over_rest hv
  rw [hv] at cOver
  have cM3 := Lib.hid (fun w => wide_Mul (overQ x d) d w q2 hd)
  have cS := Lib.hid (fun w => wide_Sub x (overQ x d * d) w)
  have cO0 := Lib.hid (fun w => wide_Of 0 w (by unfold I64; omega))
  have cOd := Lib.hid (fun w => wide_Of d w hd)
  unfold I64 at hd
  have cC3 := Lib.hid (fun w => wide_Cmp (x - overQ x d * d) 0 w (by unfold W128; omega) (by unfold W128; omega))
  have cC4 := Lib.hid (fun w => wide_Cmp (x - overQ x d * d) d w (by unfold W128; omega) (by unfold W128; omega))
  have f3 := cmpI_ge q3
  rw [cmpI_lt q4] at cC4
  generalize cmpI (x - overQ x d * d) 0 = c3 at *
  generalize hii (x - overQ x d * d) = v1 at *
  generalize lon (x - overQ x d * d) = v2 at *
  generalize hii (overQ x d * d) = u1 at *
  generalize lon (overQ x d * d) = u2 at *
  generalize hii 0 = z1 at *
  generalize lon 0 = z2 at *
  generalize hii d = e1 at *
  generalize lon d = e2 at *
  clear q1 q3 q4
  obtain ⟨q5, q6⟩ := q2
  generalize overQ x d = q at *
  generalize hii x = x1 at *
  generalize lon x = x2 at *
  clear hv hx
  go_enter Try.func5, Try.ntmps5
  go_wp2_with (first
      | (go_at_call 7; ((with_reducible refine (cOf.out _).mono ?_)); rintro e wa ⟨rfl, hbwa⟩; refine keep2e (w := w) (g := w.heap.size) (u := .int .i64 x1) (v := .int .u64 (x2 : Int)) hbwa ?_ ?_ ?_ ?_ ?_; (focus go_grown); (focus (simp; done)); (focus (simp; done)); (focus (simp; done)); intro k0wa k1wa k2wa y0wa; clear hbwa)
      | (go_at_call 6; ((with_reducible refine (cRoot.out _).mono ?_)); rintro e wr ⟨rfl, hbwr⟩; refine keep2e (w := w) (g := wa.heap.size) (u := .int .i64 x1) (v := .int .u64 (x2 : Int)) hbwr ?_ ?_ ?_ ?_ ?_; (focus go_grown); (focus (first | (with_reducible assumption) | (simp; done) | (simp; omega) | omega)); (focus (first | (with_reducible assumption) | (simp; done) | (simp [*, go_sem]; done))); (focus (first | (with_reducible assumption) | (simp; done) | (simp [*, go_sem]; done))); intro k0wr k1wr k2wr y0wr; refine keep2e (w := w) (g := w.heap.size) (u := .int .i64 x1) (v := .int .u64 (x2 : Int)) hbwr ?_ ?_ ?_ ?_ ?_; (focus go_grown); (focus (first | (with_reducible assumption) | (simp; done) | (simp; omega) | omega)); (focus (first | (with_reducible assumption) | (simp; done) | (simp [*, go_sem]; done))); (focus (first | (with_reducible assumption) | (simp; done) | (simp [*, go_sem]; done))); intro k3wr k4wr k5wr y1wr; clear hbwr)
      | (go_at_call 9; ((with_reducible refine (cOver.out _).mono ?_)); rintro e wo ⟨rfl, hbwo⟩; refine keep2e (w := w) (g := wa.heap.size) (u := .int .i64 x1) (v := .int .u64 (x2 : Int)) hbwo ?_ ?_ ?_ ?_ ?_; (focus go_grown); (focus (first | (with_reducible assumption) | (simp; done) | (simp; omega) | omega)); (focus (first | (with_reducible assumption) | (simp; done) | (simp [*, go_sem]; done))); (focus (first | (with_reducible assumption) | (simp; done) | (simp [*, go_sem]; done))); intro k0wo k1wo k2wo y0wo; refine keep2e (w := w) (g := w.heap.size) (u := .int .i64 x1) (v := .int .u64 (x2 : Int)) hbwo ?_ ?_ ?_ ?_ ?_; (focus go_grown); (focus (first | (with_reducible assumption) | (simp; done) | (simp; omega) | omega)); (focus (first | (with_reducible assumption) | (simp; done) | (simp [*, go_sem]; done))); (focus (first | (with_reducible assumption) | (simp; done) | (simp [*, go_sem]; done))); intro k3wo k4wo k5wo y1wo; clear hbwo))
  clear hRb
  go_cut [11] (fun s11 wx => ∃ p : Nat, s11 = .pointer (some ⟨p, 0, none⟩) ∧ wx.cell? ⟨p, 0, none⟩ = some (.int .i64 v1) ∧ wx.cell? ⟨p, 1, none⟩ = some (.int .u64 (v2 : Int)) ∧ p < wx.heap.size ∧ Below w.heap.size w wx)
  case first =>
    go_region_held3 (fun w' => w'.cell? ⟨wa.heap.size, 0, none⟩ = some (.int .i64 x1) ∧ w'.cell? ⟨wa.heap.size, 1, none⟩ = some (.int .u64 (x2 : Int))) (first | (refine ⟨?_, ?_⟩ <;> assumption) | go_keep | (simp (disch := first | omega | (simp only [World.size_alloc, World.size_setCell, World.size_drew]; omega)) [k0q, k1q, ca, csf]; done) | (simp (disch := first | omega | (simp only [World.size_alloc, World.size_setCell, World.size_drew]; omega)) [k0p, k1p, ca, csf]; done))
      (first
          | (go_at_call 14; ((with_reducible refine (cM3.out _).mono ?_)); rintro e wp ⟨rfl, hbp⟩; have hzp := hbp.size; (try simp at hzp); have hcp := bcell hbp; obtain ⟨hcp, hfp⟩ := hcp; (first | (refine ltk1 (n := wo.heap.size) (N := wp.heap.size) ?_ ?_; (focus omega); intro vp1) | skip); refine keep2e (w := w) (g := wa.heap.size) (u := .int .i64 x1) (v := .int .u64 (x2 : Int)) hbp ?_ ?_ ?_ ?_ ?_; (focus go_grown); (focus (first | (with_reducible assumption) | (simp; done) | (simp; omega) | omega)); (focus (first | (with_reducible assumption) | (simp; done) | (simp [*, go_sem]; done))); (focus (first | (with_reducible assumption) | (simp; done) | (simp [*, go_sem]; done))); intro k0p k1p k2p y0p; clear hbp)
          | (go_at_call 18; ((with_reducible refine (cS.out _).mono ?_)); rintro e wq ⟨rfl, hbq⟩; have hzq := hbq.size; (try simp at hzq); have hcq := bcell hbq; obtain ⟨hcq, hfq⟩ := hcq; (first | (refine ltk1 (n := wo.heap.size) (N := wq.heap.size) ?_ ?_; (focus omega); intro vq1) | skip); (first | (refine ltk1 (n := wp.heap.size) (N := wq.heap.size) ?_ ?_; (focus omega); intro vq2) | skip); refine keep2e (w := w) (g := wa.heap.size) (u := .int .i64 x1) (v := .int .u64 (x2 : Int)) hbq ?_ ?_ ?_ ?_ ?_; (focus go_grown); (focus (first | (with_reducible assumption) | (simp; done) | (simp; omega) | omega)); (focus (first | (with_reducible assumption) | (simp; done) | (simp [*, go_sem]; done))); (focus (first | (with_reducible assumption) | (simp; done) | (simp [*, go_sem]; done))); intro k0q k1q k2q y0q; clear hbq))
    all_goals (go_wp2_with fail; go_meet)
    all_goals
      refine ⟨_, rfl, ?_, ?_, ?_, ?_⟩
      all_goals first | (simp; done) | (simp; omega) | (simp [*, go_sem]; done) | (go_grown; done)
  case rest =>
    obtain ⟨p, rfl, c1, c2, hp, hB⟩ := hcut
    have hwp : w.heap.size ≤ wc.heap.size := hB.size
    go_wp2
    go_region_held3 (fun w' => w'.cell? ⟨p, 0, none⟩ = some (.int .i64 v1) ∧ w'.cell? ⟨p, 1, none⟩ = some (.int .u64 (v2 : Int))) (first | (refine ⟨?_, ?_⟩ <;> assumption) | go_keep | trivial)
      (first
          | (go_at_call 12; ((with_reducible refine (cO0.out _).mono ?_)); rintro e wf ⟨rfl, hbwf⟩; refine keep2e (w := w) (g := p) (u := .int .i64 v1) (v := .int .u64 (v2 : Int)) hbwf ?_ ?_ ?_ ?_ ?_; (focus go_grown); (focus (first | (with_reducible assumption) | (simp; done) | (simp; omega) | omega)); (focus (first | (with_reducible assumption) | (simp; done) | (simp [*, go_sem]; done))); (focus (first | (with_reducible assumption) | (simp; done) | (simp [*, go_sem]; done))); intro k0wf k1wf k2wf y0wf; clear hbwf)
          | (go_at_call 20; ((with_reducible refine (cC3.out _).mono ?_)); rintro e wg ⟨rfl, hbwg⟩; refine keep2e (w := w) (g := p) (u := .int .i64 v1) (v := .int .u64 (v2 : Int)) hbwg ?_ ?_ ?_ ?_ ?_; (focus go_grown); (focus (first | (with_reducible assumption) | (simp; done) | (simp; omega) | omega)); (focus (first | (with_reducible assumption) | (simp; done) | (simp [*, go_sem]; done))); (focus (first | (with_reducible assumption) | (simp; done) | (simp [*, go_sem]; done))); intro k0wg k1wg k2wg y0wg; clear hbwg)
          | (go_at_call 12; ((with_reducible refine (cOd.out _).mono ?_)); rintro e wh ⟨rfl, hbwh⟩; refine keep2e (w := w) (g := p) (u := .int .i64 v1) (v := .int .u64 (v2 : Int)) hbwh ?_ ?_ ?_ ?_ ?_; (focus go_grown); (focus (first | (with_reducible assumption) | (simp; done) | (simp; omega) | omega)); (focus (first | (with_reducible assumption) | (simp; done) | (simp [*, go_sem]; done))); (focus (first | (with_reducible assumption) | (simp; done) | (simp [*, go_sem]; done))); intro k0wh k1wh k2wh y0wh; clear hbwh)
          | (go_at_call 20; ((with_reducible refine (cC4.out _).mono ?_)); rintro e wi ⟨rfl, hbwi⟩; refine keep2e (w := w) (g := p) (u := .int .i64 v1) (v := .int .u64 (v2 : Int)) hbwi ?_ ?_ ?_ ?_ ?_; (focus go_grown); (focus (first | (with_reducible assumption) | (simp; done) | (simp; omega) | omega)); (focus (first | (with_reducible assumption) | (simp; done) | (simp [*, go_sem]; done))); (focus (first | (with_reducible assumption) | (simp; done) | (simp [*, go_sem]; done))); intro k0wi k1wi k2wi y0wi; clear hbwi)
          | (go_at_call 22; refine (awake02 _).mono ?_; rintro e wz ⟨rfl, hbz⟩; refine keep2e (w := w) (g := p) (u := .int .i64 v1) (v := .int .u64 (v2 : Int)) hbz ?_ ?_ ?_ ?_ ?_; (focus go_grown); (focus (first | (with_reducible assumption) | (simp; done) | (simp; omega) | omega)); (focus (first | (with_reducible assumption) | (simp; done) | (simp [*, go_sem]; done))); (focus (first | (with_reducible assumption) | (simp; done) | (simp [*, go_sem]; done))); intro k0z k1z k2z y0z; clear hbz))
    all_goals go_wp2
    all_goals go_ret
    all_goals exact ⟨rfl, by go_grown⟩

theorem law_WideRoot (x d : Int) (hx : W128 x) (hd : I64 d) (w : World) :
    Calls Try.prog 5 #[.agg #[.int .i64 (hii x), .int .u64 (lon x : Int)], .int .i64 d] w fun e w' => e = .returned (.bool true) ∧ Below w.heap.size w w' := by
  by_cases h0 : x < 0
  · by_cases hv : overOk x d = true
    · exact wr_neg_yes x d hx hd w h0 hv
    · exact wr_neg_no x d hx hd w h0 (by simpa using hv)
  · by_cases h1 : isq x.toNat < 9223372036854775807
    · by_cases hv : overOk x d = true
      · exact wr_mid_yes x d hx hd w (by omega) h1 hv
      · exact wr_mid_no x d hx hd w (by omega) h1 (by simpa using hv)
    · by_cases hv : overOk x d = true
      · exact wr_big_yes x d hx hd w (by omega) (by omega) hv
      · exact wr_big_no x d hx hd w (by omega) (by omega) (by simpa using hv)

theorem top_WideRoot (h l d : Int) (hh : I64 h) (hl : U64 l) (hd : I64 d) (w : World) :
    Calls Try.prog 5 #[.agg #[.int .i64 h, .int .u64 l], .int .i64 d] w fun e w' => e = .returned (.bool true) ∧ Below w.heap.size w w' := by
  obtain ⟨x, hx, rfl, rfl⟩ := wide_of h l hh hl
  exact law_WideRoot x d hx hd w

end Go.Proofs.Ytdkahkobdoolkaa
