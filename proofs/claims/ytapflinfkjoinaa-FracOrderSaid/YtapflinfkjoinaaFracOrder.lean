/- The walk of the statement FracOrder. -/
import Derived.Test.YtapflinfkjoinaaAwake03
import Derived.Test.YtapflinfkjoinaaBw
namespace Go.Proofs.Ytapflinfkjoinaa
open Go.RowKit Go.Proofs.Sky
set_option linter.unusedVariables false

theorem fr_trans {n d m e k l : Int} (hd : 1 ≤ d) (he : 1 ≤ e) (hl : 1 ≤ l) (h1 : n * e < m * d) (h2 : m * l < k * e) : n * l < k * d := by
  have a1 := Int.mul_lt_mul_of_pos_right h1 (show 0 < l by omega)
  have a2 := Int.mul_lt_mul_of_pos_right h2 (show 0 < d by omega)
  rw [show n * e * l = n * l * e by rw [Int.mul_right_comm], show m * d * l = m * l * d by rw [Int.mul_right_comm]] at a1
  rw [show k * e * d = k * d * e by rw [Int.mul_right_comm]] at a2
  exact Int.lt_of_mul_lt_mul_right (Int.lt_trans a1 a2) (by omega)
theorem fr_same {n d m e k l : Int} (hd : 1 ≤ d) (he : 1 ≤ e) (h1 : n * e = m * d) : n * l < k * d ↔ m * l < k * e := by
  have e1 : n * l * e = m * l * d := by rw [Int.mul_right_comm n l e, h1, Int.mul_right_comm m d l]
  have e2 : k * d * e = k * e * d := Int.mul_right_comm k d e
  constructor
  · intro h
    have := Int.mul_lt_mul_of_pos_right h (show 0 < e by omega)
    rw [e1, e2] at this
    exact Int.lt_of_mul_lt_mul_right this (by omega)
  · intro h
    have := Int.mul_lt_mul_of_pos_right h (show 0 < d by omega)
    rw [← e1, ← e2] at this
    exact Int.lt_of_mul_lt_mul_right this (by omega)
theorem sat_mono {x y : Int} (h : x ≤ y) : sat x ≤ sat y := by
  unfold sat; (repeat' split) <;> omega
theorem fat_mono {v n d m e : Int} (hv : 0 ≤ v) (hd : 1 ≤ d) (he : 1 ≤ e) (h : n * e ≤ m * d) : fat v n d ≤ fat v m e := by
  unfold fat
  rw [if_neg (by omega), if_neg (by omega)]
  refine sat_mono ?_
  rw [Int.le_ediv_iff_mul_le (by omega)]
  have q1 : v * n / d * d ≤ v * n := Int.ediv_mul_le _ (by omega)
  have q2 := Int.mul_le_mul_of_nonneg_right q1 (show 0 ≤ e by omega)
  have q3 := Int.mul_le_mul_of_nonneg_left h hv
  rw [← Int.mul_assoc, ← Int.mul_assoc] at q3
  have q4 := Int.le_trans q2 q3
  rw [Int.mul_right_comm] at q4
  exact Int.le_of_mul_le_mul_right q4 (by omega)

/-- What is known of three fractions that may be. -/
structure OrderIn (n d m e k l v : Int) (X Y S P Q : Bool) (a b : Int) : Prop where
  x : fless n d m e = X
  y : fless m e n d = Y
  s : fsame n d m e = S
  r0 : fless n d n d = false
  r1 : fsame n d n d = true
  p : fless m e k l = P
  q : fless n d k l = Q
  a_ : fat v n d = a
  b_ : fat v m e = b
  w : (X = true ∧ Y = false ∧ S = false ∧ (P = false ∨ P = true ∧ Q = true) ∧ a ≤ b) ∨ (X = false ∧ Y = true ∧ S = false) ∨ (X = false ∧ Y = false ∧ S = true ∧ P = Q ∧ a = b)
theorem OrderIn.make (n d m e k l v : Int) (hd : 1 ≤ d) (he : 1 ≤ e) (hl : 1 ≤ l) (hv : 0 ≤ v) :
    OrderIn n d m e k l v (fless n d m e) (fless m e n d) (fsame n d m e) (fless m e k l) (fless n d k l) (fat v n d) (fat v m e) := by
  have D := decide_eq_true hd
  have E := decide_eq_true he
  have L := decide_eq_true hl
  refine ⟨rfl, rfl, rfl, ?_, ?_, rfl, rfl, rfl, rfl, ?_⟩
  · unfold fless; rw [D, decide_eq_false (by omega)]; rfl
  · unfold fsame; rw [D, decide_eq_true rfl]; rfl
  · unfold fless fsame
    rw [D, E, L]
    simp only [Bool.true_and, decide_eq_true_eq, decide_eq_false_iff_not]
    rcases Int.lt_trichotomy (n * e) (m * d) with h | h | h
    · refine .inl ⟨h, by omega, by omega, ?_, fat_mono hv hd he (by omega)⟩
      by_cases g : m * l < k * e
      · exact .inr ⟨g, fr_trans hd he hl h g⟩
      · exact .inl g
    · refine .inr (.inr ⟨by omega, by omega, h, ?_, ?_⟩)
      · rw [decide_eq_decide]; exact (fr_same hd he h).symm
      · have := fat_mono hv hd he (show n * e ≤ m * d by omega)
        have := fat_mono hv he hd (show m * d ≤ n * e by omega)
        omega
    · exact .inr (.inl ⟨by omega, h, by omega⟩)

set_option maxRecDepth 100000 in
theorem law_FracOrder_no (n d m e k l v : Int) (w : World) (h : d < 1 ∨ e < 1 ∨ l < 1 ∨ v < 0) :
    Calls Try.prog 4 #[.agg #[.int .i64 n, .int .i64 d], .agg #[.int .i64 m, .int .i64 e], .agg #[.int .i64 k, .int .i64 l], .int .i64 v] w fun r w' => r = .returned (.bool true) ∧ Below w.heap.size w w' := by
  have HA := Lib.hid (fun w => awake03 w)
  by_cases h1 : d < 1
  · have t1 := decide_eq_true h1
    clear h h1
    go_enter Try.func4, Try.ntmps4
    go_wp2_with (go_at_call 6; refine (HA.out _).mono ?_; rintro e w1 ⟨rfl, hb⟩; have hz := hb.size; simp only [World.size_alloc] at hz)
    go_ret
    exact ⟨rfl, ((((Below.refl _ _).alloc (Nat.le_refl _) _).alloc (by simp) _).alloc (by simp; omega) _).trans (hb.mono (by simp; omega))⟩
  have t1 := decide_eq_false h1
  by_cases h2 : e < 1
  · have t2 := decide_eq_true h2
    clear h h1 h2
    go_enter Try.func4, Try.ntmps4
    go_wp2_with (go_at_call 6; refine (HA.out _).mono ?_; rintro e w1 ⟨rfl, hb⟩; have hz := hb.size; simp only [World.size_alloc] at hz)
    go_ret
    exact ⟨rfl, ((((Below.refl _ _).alloc (Nat.le_refl _) _).alloc (by simp) _).alloc (by simp; omega) _).trans (hb.mono (by simp; omega))⟩
  have t2 := decide_eq_false h2
  by_cases h3 : l < 1
  · have t3 := decide_eq_true h3
    clear h h1 h2 h3
    go_enter Try.func4, Try.ntmps4
    go_wp2_with (go_at_call 6; refine (HA.out _).mono ?_; rintro e w1 ⟨rfl, hb⟩; have hz := hb.size; simp only [World.size_alloc] at hz)
    go_ret
    exact ⟨rfl, ((((Below.refl _ _).alloc (Nat.le_refl _) _).alloc (by simp) _).alloc (by simp; omega) _).trans (hb.mono (by simp; omega))⟩
  have t3 := decide_eq_false h3
  have t4 := decide_eq_true (show v < 0 by omega)
  clear h h1 h2 h3
  go_enter Try.func4, Try.ntmps4
  go_wp2_with (go_at_call 6; refine (HA.out _).mono ?_; rintro e w1 ⟨rfl, hb⟩; have hz := hb.size; simp only [World.size_alloc] at hz)
  go_ret
  exact ⟨rfl, ((((Below.refl _ _).alloc (Nat.le_refl _) _).alloc (by simp) _).alloc (by simp; omega) _).trans (hb.mono (by simp; omega))⟩

set_option maxRecDepth 100000 in
set_option maxHeartbeats 4000000 in
theorem law_FracOrder_yes (n d m e k l v : Int) (w : World) (in_ : I64 n) (id_ : I64 d) (im : I64 m) (ie : I64 e) (ik : I64 k) (il : I64 l) (iv : I64 v) (hd : 1 ≤ d) (he : 1 ≤ e) (hl : 1 ≤ l) (hv : 0 ≤ v) :
    Calls Try.prog 4 #[.agg #[.int .i64 n, .int .i64 d], .agg #[.int .i64 m, .int .i64 e], .agg #[.int .i64 k, .int .i64 l], .int .i64 v] w fun r w' => r = .returned (.bool true) ∧ Below w.heap.size w w' := by
  have HA := Lib.hid (fun w => awake03 w)
  have M := OrderIn.make n d m e k l v hd he hl hv
  have CX := Lib.hid (fun w => frac_Less n d m e w in_ id_ im ie)
  have CY := Lib.hid (fun w => frac_Less m e n d w im ie in_ id_)
  have CS := Lib.hid (fun w => frac_Same n d m e w in_ id_ im ie)
  have C0 := Lib.hid (fun w => frac_Less n d n d w in_ id_ in_ id_)
  have C1 := Lib.hid (fun w => frac_Same n d n d w in_ id_ in_ id_)
  have CP := Lib.hid (fun w => frac_Less m e k l w im ie ik il)
  have CQ := Lib.hid (fun w => frac_Less n d k l w in_ id_ ik il)
  have CA := Lib.hid (fun w => frac_At v n d w iv in_ id_)
  have CB := Lib.hid (fun w => frac_At v m e w iv im ie)
  rw [M.r0] at C0
  rw [M.r1] at C1
  have W := M.w
  clear M
  generalize fless n d m e = X at *
  generalize fless m e n d = Y at *
  generalize fsame n d m e = S at *
  generalize fless m e k l = P at *
  generalize fless n d k l = Q at *
  generalize fat v n d = a at *
  generalize fat v m e = b at *
  have t1 : decide (d < 1) = false := decide_eq_false (by omega)
  have t2 : decide (e < 1) = false := decide_eq_false (by omega)
  have t3 : decide (l < 1) = false := decide_eq_false (by omega)
  have t4 : decide (v < 0) = false := decide_eq_false (by omega)
  have HW := Lib.hid W
  clear W hd he hl hv in_ id_ im ie ik il iv
  go_enter Try.func4, Try.ntmps4
  go_upto_region 3 with (fail)
  clear t1 t2 t3 t4
  obtain ⟨g0, hg0⟩ : ∃ g, g = w.heap.size := ⟨_, rfl⟩
  obtain ⟨g1, hg1⟩ : ∃ g, g = w.heap.size + 1 := ⟨_, rfl⟩
  obtain ⟨g2, hg2⟩ : ∃ g, g = w.heap.size + 1 + 1 := ⟨_, rfl⟩
  obtain ⟨W, hW⟩ : ∃ W, W = ((w.alloc (.cells #[.int .i64 n, .int .i64 d] 23)).alloc (.cells #[.int .i64 m, .int .i64 e] 23)).alloc (.cells #[.int .i64 k, .int .i64 l] 23) := ⟨_, rfl⟩
  have hB : Below w.heap.size w W := by rw [hW]; exact (((Below.refl _ _).alloc (Nat.le_refl _) _).alloc (by simp) _).alloc (by simp; omega) _
  have c0 : ∀ p : BW W, p.w.cell? ⟨g0, 0, none⟩ = some (.int .i64 n) := bw_cell (by subst hg0 hW; simp [go_sem])
  have c1 : ∀ p : BW W, p.w.cell? ⟨g0, 1, none⟩ = some (.int .i64 d) := bw_cell (by subst hg0 hW; simp [go_sem])
  have c2 : ∀ p : BW W, p.w.cell? ⟨g1, 0, none⟩ = some (.int .i64 m) := bw_cell (by subst hg1 hW; simp [go_sem])
  have c3 : ∀ p : BW W, p.w.cell? ⟨g1, 1, none⟩ = some (.int .i64 e) := bw_cell (by subst hg1 hW; simp [go_sem])
  have c4 : ∀ p : BW W, p.w.cell? ⟨g2, 0, none⟩ = some (.int .i64 k) := bw_cell (by subst hg2 hW; simp [go_sem])
  have c5 : ∀ p : BW W, p.w.cell? ⟨g2, 1, none⟩ = some (.int .i64 l) := bw_cell (by subst hg2 hW; simp [go_sem])
  rw [← hW, ← hg2, ← hg1, ← hg0]
  clear hW hg0 hg1 hg2
  obtain ⟨p, hp⟩ : ∃ p : BW W, p.w = W := ⟨BW.start W, rfl⟩
  rw [← hp]
  have HB := Lib.hid (fun q : BW W => bw_below hB q)
  clear hp hB
  rcases HW.out with ⟨rfl, rfl, rfl, (rfl | ⟨rfl, rfl⟩), hab⟩ | ⟨rfl, rfl, rfl⟩ | ⟨rfl, rfl, rfl, rfl, rfl⟩
  · have tab := decide_eq_true hab
    clear HW hab
    refine wp_region_bw (by kernel_rfl) (by kernel_rfl) ?_
    repeat (go_big_quiet_step (first
      | (go_at_call 11; (with_reducible exact bw_call CX.out _))
      | (go_at_call 11; (with_reducible exact bw_call CY.out _))
      | (go_at_call 13; (with_reducible exact bw_call CS.out _))))
    refine wpQuiet_nil ?_
    intro _ hw'
    obtain ⟨q, rfl⟩ := hw'
    go_wp2_with (first
      | (go_at_call 11; (with_reducible refine (bw_call C0.out _).mono ?_); rintro e w' ⟨rfl, q, rfl⟩)
      | (go_at_call 13; (with_reducible refine (bw_call C1.out _).mono ?_); rintro e w' ⟨rfl, q, rfl⟩))
    refine wp_region_bw (by kernel_rfl) (by kernel_rfl) ?_
    repeat (go_big_quiet_step (first
      | (go_at_call 11; (with_reducible exact bw_call CP.out _))
      | (go_at_call 11; (with_reducible exact bw_call CQ.out _))))
    refine wpQuiet_nil ?_
    intro _ hw'
    obtain ⟨q, rfl⟩ := hw'
    go_wp2
    refine wp_region_bw (by kernel_rfl) (by kernel_rfl) ?_
    repeat (go_big_quiet_step (first
      | (go_at_call 17; (with_reducible exact bw_call CA.out _))
      | (go_at_call 17; (with_reducible exact bw_call CB.out _))
      | (go_at_call 6; (with_reducible exact bw_call HA.out _))))
    refine wpQuiet_nil ?_
    intro _ hw'
    obtain ⟨q, rfl⟩ := hw'
    go_wp2
    go_ret
    exact ⟨rfl, HB.out _⟩
  · have tab := decide_eq_true hab
    clear HW hab
    refine wp_region_bw (by kernel_rfl) (by kernel_rfl) ?_
    repeat (go_big_quiet_step (first
      | (go_at_call 11; (with_reducible exact bw_call CX.out _))
      | (go_at_call 11; (with_reducible exact bw_call CY.out _))
      | (go_at_call 13; (with_reducible exact bw_call CS.out _))))
    refine wpQuiet_nil ?_
    intro _ hw'
    obtain ⟨q, rfl⟩ := hw'
    go_wp2_with (first
      | (go_at_call 11; (with_reducible refine (bw_call C0.out _).mono ?_); rintro e w' ⟨rfl, q, rfl⟩)
      | (go_at_call 13; (with_reducible refine (bw_call C1.out _).mono ?_); rintro e w' ⟨rfl, q, rfl⟩))
    refine wp_region_bw (by kernel_rfl) (by kernel_rfl) ?_
    repeat (go_big_quiet_step (first
      | (go_at_call 11; (with_reducible exact bw_call CP.out _))
      | (go_at_call 11; (with_reducible exact bw_call CQ.out _))))
    refine wpQuiet_nil ?_
    intro _ hw'
    obtain ⟨q, rfl⟩ := hw'
    go_wp2
    refine wp_region_bw (by kernel_rfl) (by kernel_rfl) ?_
    repeat (go_big_quiet_step (first
      | (go_at_call 17; (with_reducible exact bw_call CA.out _))
      | (go_at_call 17; (with_reducible exact bw_call CB.out _))
      | (go_at_call 6; (with_reducible exact bw_call HA.out _))))
    refine wpQuiet_nil ?_
    intro _ hw'
    obtain ⟨q, rfl⟩ := hw'
    go_wp2
    go_ret
    exact ⟨rfl, HB.out _⟩
  · clear HW
    refine wp_region_bw (by kernel_rfl) (by kernel_rfl) ?_
    repeat (go_big_quiet_step (first
      | (go_at_call 11; (with_reducible exact bw_call CX.out _))
      | (go_at_call 11; (with_reducible exact bw_call CY.out _))
      | (go_at_call 13; (with_reducible exact bw_call CS.out _))))
    refine wpQuiet_nil ?_
    intro _ hw'
    obtain ⟨q, rfl⟩ := hw'
    go_wp2_with (first
      | (go_at_call 11; (with_reducible refine (bw_call C0.out _).mono ?_); rintro e w' ⟨rfl, q, rfl⟩)
      | (go_at_call 13; (with_reducible refine (bw_call C1.out _).mono ?_); rintro e w' ⟨rfl, q, rfl⟩))
    refine wp_region_bw (by kernel_rfl) (by kernel_rfl) ?_
    repeat (go_big_quiet_step (first
      | (go_at_call 11; (with_reducible exact bw_call CP.out _))
      | (go_at_call 11; (with_reducible exact bw_call CQ.out _))))
    refine wpQuiet_nil ?_
    intro _ hw'
    obtain ⟨q, rfl⟩ := hw'
    go_wp2
    refine wp_region_bw (by kernel_rfl) (by kernel_rfl) ?_
    repeat (go_big_quiet_step (first
      | (go_at_call 17; (with_reducible exact bw_call CA.out _))
      | (go_at_call 17; (with_reducible exact bw_call CB.out _))
      | (go_at_call 6; (with_reducible exact bw_call HA.out _))))
    refine wpQuiet_nil ?_
    intro _ hw'
    obtain ⟨q, rfl⟩ := hw'
    go_wp2
    go_ret
    exact ⟨rfl, HB.out _⟩
  · clear HW
    cases P
    · refine wp_region_bw (by kernel_rfl) (by kernel_rfl) ?_
      repeat (go_big_quiet_step (first
        | (go_at_call 11; (with_reducible exact bw_call CX.out _))
        | (go_at_call 11; (with_reducible exact bw_call CY.out _))
        | (go_at_call 13; (with_reducible exact bw_call CS.out _))))
      refine wpQuiet_nil ?_
      intro _ hw'
      obtain ⟨q, rfl⟩ := hw'
      go_wp2_with (first
        | (go_at_call 11; (with_reducible refine (bw_call C0.out _).mono ?_); rintro e w' ⟨rfl, q, rfl⟩)
        | (go_at_call 13; (with_reducible refine (bw_call C1.out _).mono ?_); rintro e w' ⟨rfl, q, rfl⟩))
      refine wp_region_bw (by kernel_rfl) (by kernel_rfl) ?_
      repeat (go_big_quiet_step (first
        | (go_at_call 11; (with_reducible exact bw_call CP.out _))
        | (go_at_call 11; (with_reducible exact bw_call CQ.out _))))
      refine wpQuiet_nil ?_
      intro _ hw'
      obtain ⟨q, rfl⟩ := hw'
      go_wp2
      refine wp_region_bw (by kernel_rfl) (by kernel_rfl) ?_
      repeat (go_big_quiet_step (first
        | (go_at_call 17; (with_reducible exact bw_call CA.out _))
        | (go_at_call 17; (with_reducible exact bw_call CB.out _))
        | (go_at_call 6; (with_reducible exact bw_call HA.out _))))
      refine wpQuiet_nil ?_
      intro _ hw'
      obtain ⟨q, rfl⟩ := hw'
      go_wp2
      go_ret
      exact ⟨rfl, HB.out _⟩
    · refine wp_region_bw (by kernel_rfl) (by kernel_rfl) ?_
      repeat (go_big_quiet_step (first
        | (go_at_call 11; (with_reducible exact bw_call CX.out _))
        | (go_at_call 11; (with_reducible exact bw_call CY.out _))
        | (go_at_call 13; (with_reducible exact bw_call CS.out _))))
      refine wpQuiet_nil ?_
      intro _ hw'
      obtain ⟨q, rfl⟩ := hw'
      go_wp2_with (first
        | (go_at_call 11; (with_reducible refine (bw_call C0.out _).mono ?_); rintro e w' ⟨rfl, q, rfl⟩)
        | (go_at_call 13; (with_reducible refine (bw_call C1.out _).mono ?_); rintro e w' ⟨rfl, q, rfl⟩))
      refine wp_region_bw (by kernel_rfl) (by kernel_rfl) ?_
      repeat (go_big_quiet_step (first
        | (go_at_call 11; (with_reducible exact bw_call CP.out _))
        | (go_at_call 11; (with_reducible exact bw_call CQ.out _))))
      refine wpQuiet_nil ?_
      intro _ hw'
      obtain ⟨q, rfl⟩ := hw'
      go_wp2
      refine wp_region_bw (by kernel_rfl) (by kernel_rfl) ?_
      repeat (go_big_quiet_step (first
        | (go_at_call 17; (with_reducible exact bw_call CA.out _))
        | (go_at_call 17; (with_reducible exact bw_call CB.out _))
        | (go_at_call 6; (with_reducible exact bw_call HA.out _))))
      refine wpQuiet_nil ?_
      intro _ hw'
      obtain ⟨q, rfl⟩ := hw'
      go_wp2
      go_ret
      exact ⟨rfl, HB.out _⟩

theorem law_FracOrder (n d m e k l v : Int) (w : World) (in_ : I64 n) (id_ : I64 d) (im : I64 m) (ie : I64 e) (ik : I64 k) (il : I64 l) (iv : I64 v) :
    Calls Try.prog 4 #[.agg #[.int .i64 n, .int .i64 d], .agg #[.int .i64 m, .int .i64 e], .agg #[.int .i64 k, .int .i64 l], .int .i64 v] w fun r w' => r = .returned (.bool true) ∧ Below w.heap.size w w' := by
  by_cases h : d < 1 ∨ e < 1 ∨ l < 1 ∨ v < 0
  · exact law_FracOrder_no n d m e k l v w h
  · exact law_FracOrder_yes n d m e k l v w in_ id_ im ie ik il iv (by omega) (by omega) (by omega) (by omega)

end Go.Proofs.Ytapflinfkjoinaa
