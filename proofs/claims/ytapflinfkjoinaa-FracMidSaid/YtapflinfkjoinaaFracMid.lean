/- The walk of the statement FracMid. -/
import Derived.Test.YtapflinfkjoinaaAwake03
import Derived.Test.YtapflinfkjoinaaMem03
namespace Go.Proofs.Ytapflinfkjoinaa
open Go.RowKit Go.Proofs.Sky
set_option linter.unusedVariables false

theorem i32_of_wf {a : Int} (h : (Lit.int .i32 a).wf = true) : -2147483648 ≤ a ∧ a ≤ 2147483647 := by
  simp only [Lit.wf, IntKind.min, IntKind.max, IntKind.signed, IntKind.bits, Bool.and_eq_true, decide_eq_true_eq, if_true] at h
  omega
theorem u32_of_wf {a : Int} (h : (Lit.int .u32 a).wf = true) : 0 ≤ a ∧ a ≤ 4294967295 := by
  simp [Lit.wf, IntKind.min, IntKind.max, IntKind.signed, IntKind.bits] at h
  omega

/-- What is known of the two fractions, and of the one in their midst. -/
structure MidIn (n D m E s T p q : Int) (B : Bool) : Prop where
  mid : fmid n D m E = (s, T)
  at_ : fat D n D = n
  l1 : fless n D m E = B
  l2 : fless n D s T = B
  l3 : fless s T m E = B
  p_ : n * E = p
  q_ : m * D = q
  B_ : decide (p < q) = B
  wp : IntKind.i64.wrap p = p
  wq : IntKind.i64.wrap q = q
  in_ : I64 n
  iD : I64 D
  im : I64 m
  iE : I64 E
  is : I64 s
  iT : I64 T
theorem MidIn.make (n D m E : Int) (h1 : -2147483648 ≤ n ∧ n ≤ 2147483647) (h2 : 1 ≤ D ∧ D ≤ 2147483648) (h3 : -2147483648 ≤ m ∧ m ≤ 2147483647) (h4 : 1 ≤ E ∧ E ≤ 2147483648) :
    MidIn n D m E (n + m) (D + E) (n * E) (m * D) (decide (n * E < m * D)) := by
  have b1 : (n * E).natAbs ≤ 2147483648 * 2147483648 := by rw [Int.natAbs_mul]; exact Nat.mul_le_mul (by omega) (by omega)
  have b2 : (m * D).natAbs ≤ 2147483648 * 2147483648 := by rw [Int.natAbs_mul]; exact Nat.mul_le_mul (by omega) (by omega)
  refine ⟨?_, ?_, ?_, ?_, ?_, rfl, rfl, rfl, ?_, ?_, ?_, ?_, ?_, ?_, ?_, ?_⟩
  · unfold fmid; rw [if_pos ⟨fsmall_iff.2 (by omega), fsmall_iff.2 (by omega)⟩]
  · unfold fat; rw [if_neg (by omega), Int.mul_ediv_cancel_left _ (by omega)]; unfold sat; rw [if_neg (by omega), if_neg (by omega)]
  · unfold fless; rw [decide_eq_true h2.1, decide_eq_true h4.1]; rfl
  · unfold fless; rw [decide_eq_true h2.1, decide_eq_true (show 1 ≤ D + E by omega), Int.mul_add, Int.add_mul, Bool.true_and, Bool.true_and, decide_eq_decide]; omega
  · unfold fless; rw [decide_eq_true h4.1, decide_eq_true (show 1 ≤ D + E by omega), Int.mul_add, Int.add_mul, Bool.true_and, Bool.true_and, decide_eq_decide]; omega
  · rw [i64w]; omega
  · rw [i64w]; omega
  all_goals unfold I64; omega

set_option maxHeartbeats 4000000 in
theorem law_FracMid (n d m e : Int) (hn : -2147483648 ≤ n ∧ n ≤ 2147483647) (hd : 0 ≤ d ∧ d ≤ 4294967295) (hm : -2147483648 ≤ m ∧ m ≤ 2147483647) (he : 0 ≤ e ∧ e ≤ 4294967295) (w : World) :
    Calls Try.prog 5 #[.int .i32 n, .int .u32 d, .int .i32 m, .int .u32 e] w fun r w' => r = .returned (.bool true) ∧ Below w.heap.size w w' := by
  obtain ⟨D, hD⟩ : ∃ D, D = 1 + d / 2 := ⟨_, rfl⟩
  obtain ⟨E, hE⟩ : ∃ E, E = 1 + e / 2 := ⟨_, rfl⟩
  have M := MidIn.make n D m E hn (by omega) hm (by omega)
  generalize hB : decide (n * E < m * D) = B at M
  clear hB
  obtain ⟨s, hs⟩ : ∃ s, s = n + m := ⟨_, rfl⟩
  obtain ⟨T, hT⟩ : ∃ T, T = D + E := ⟨_, rfl⟩
  obtain ⟨p, hp⟩ : ∃ p, p = n * E := ⟨_, rfl⟩
  obtain ⟨q, hq⟩ : ∃ q, q = m * D := ⟨_, rfl⟩
  rw [← hs, ← hT, ← hp, ← hq] at M
  clear hs hT hp hq
  have CM := Lib.hid (fun w => frac_Mid n D m E w)
  rw [M.mid] at CM
  have CA := Lib.hid (fun w => frac_At D n D w M.iD M.in_ M.iD)
  rw [M.at_] at CA
  have C1 := Lib.hid (fun w => frac_Less n D m E w M.in_ M.iD M.im M.iE)
  rw [M.l1] at C1
  have C2 := Lib.hid (fun w => frac_Less n D s T w M.in_ M.iD M.is M.iT)
  rw [M.l2] at C2
  have C3 := Lib.hid (fun w => frac_Less s T m E w M.is M.iT M.im M.iE)
  rw [M.l3] at C3
  have HM := Lib.hid M
  obtain ⟨n0, n1⟩ := hn
  obtain ⟨m0, m1⟩ := hm
  obtain ⟨d0, d1⟩ := hd
  obtain ⟨e0, e1⟩ := he
  clear M
  go_enter Try.func5, Try.ntmps5
  go_upto_region 2 with (fail)
  rw [← hD, ← hE]
  clear hD hE d0 d1 e0 e1 n0 n1 m0 m1
  go_upto_region 3 with (go_at_call 19; refine (CM.out _).mono ?_; rintro r w1 ⟨rfl, hb⟩)
  have hz := hb.size
  obtain ⟨hc, hf⟩ := bcell hb
  obtain ⟨g0, hg0⟩ : ∃ g, g = w.heap.size := ⟨_, rfl⟩
  obtain ⟨g1, hg1⟩ : ∃ g, g = w.heap.size + 1 := ⟨_, rfl⟩
  obtain ⟨g2, hg2⟩ : ∃ g, g = w1.heap.size := ⟨_, rfl⟩
  obtain ⟨W, hW⟩ : ∃ W, W = w1.alloc (.cells #[.int .i64 s, .int .i64 T] 23) := ⟨_, rfl⟩
  have hs : Six w W g0 g1 g2 (.int .i64 n) (.int .i64 D) (.int .i64 m) (.int .i64 E) (.int .i64 s) (.int .i64 T) := by
    subst hg0 hg1 hg2 hW
    simp only [World.size_alloc] at hz
    refine ⟨?_, ?_, ?_, ?_, ?_, ?_, ?_, ?_, ?_, ?_⟩
    · exact ((((Below.refl _ _).alloc (Nat.le_refl _) _).alloc (by simp) _).trans (hb.mono (by simp; omega))).alloc (by omega) _
    · simp; omega
    · simp; omega
    · simp
    · exact (((Below.refl _ _).alloc (Nat.le_refl _) _).cell (p := ⟨w.heap.size, 0, none⟩) (by simp; omega)).trans ((hb.cell (p := ⟨w.heap.size, 0, none⟩) (by simp; omega)).trans (by simp [go_sem]))
    · exact (((Below.refl _ _).alloc (Nat.le_refl _) _).cell (p := ⟨w.heap.size, 1, none⟩) (by simp; omega)).trans ((hb.cell (p := ⟨w.heap.size, 1, none⟩) (by simp; omega)).trans (by simp [go_sem]))
    · exact (((Below.refl _ _).alloc (Nat.le_refl _) _).cell (p := ⟨w.heap.size + 1, 0, none⟩) (by simp; omega)).trans ((hb.cell (p := ⟨w.heap.size + 1, 0, none⟩) (by simp)).trans (by simp [go_sem]))
    · exact (((Below.refl _ _).alloc (Nat.le_refl _) _).cell (p := ⟨w.heap.size + 1, 1, none⟩) (by simp; omega)).trans ((hb.cell (p := ⟨w.heap.size + 1, 1, none⟩) (by simp)).trans (by simp [go_sem]))
    · simp [go_sem]
    · simp [go_sem]
  rw [← hW, ← hg1, ← hg0, ← hg2]
  clear hc hf hb hz hW hg0 hg1 hg2 CM
  obtain ⟨yh, yl, ym, yn, k0, k1, k2, k3, k4, k5⟩ := hs
  have wp := HM.out.wp
  have wq := HM.out.wq
  have hB := HM.out.B_
  have ep := HM.out.p_
  have eq := HM.out.q_
  clear HM
  have HA := Lib.hid (fun w => awake03 w)
  cases B
  all_goals
    go_region_held3 (fun w' => w'.cell? ⟨g0, 0, none⟩ = some (.int .i64 n) ∧ w'.cell? ⟨g0, 1, none⟩ = some (.int .i64 D) ∧ w'.cell? ⟨g1, 0, none⟩ = some (.int .i64 m) ∧ w'.cell? ⟨g1, 1, none⟩ = some (.int .i64 E) ∧ w'.cell? ⟨g2, 0, none⟩ = some (.int .i64 s) ∧ w'.cell? ⟨g2, 1, none⟩ = some (.int .i64 T)) (first | (refine ⟨?_, ?_, ?_, ?_, ?_, ?_⟩ <;> (first | assumption | (simp; assumption))) | go_keep)
        (first
          | (go_at_call 17; ((with_reducible refine (CA.out _).mono ?_)); rintro e wa ⟨rfl, hba⟩; refine keep6e (w := w) (g0 := g0) (g1 := g1) (g2 := g2) (a := .int .i64 n) (b := .int .i64 D) (c := .int .i64 m) (d := .int .i64 E) (e := .int .i64 s) (f := .int .i64 T) hba ?_ ?_; (focus (constructor <;> first | (with_reducible assumption) | go_grown | (simp; done) | (simp; omega) | omega | (simp [*, go_sem]; done))); intro yha yla yma yna k0a k1a k2a k3a k4a k5a; clear hba)
          | (go_at_call 11; ((with_reducible refine (C1.out _).mono ?_)); rintro e wb ⟨rfl, hbb⟩; refine keep6e (w := w) (g0 := g0) (g1 := g1) (g2 := g2) (a := .int .i64 n) (b := .int .i64 D) (c := .int .i64 m) (d := .int .i64 E) (e := .int .i64 s) (f := .int .i64 T) hbb ?_ ?_; (focus (constructor <;> first | (with_reducible assumption) | go_grown | (simp; done) | (simp; omega) | omega | (simp [*, go_sem]; done))); intro yhb ylb ymb ynb k0b k1b k2b k3b k4b k5b; clear hbb))
  all_goals
    go_wp2_with (first
      | (go_at_call 11; ((with_reducible refine (C1.out _).mono ?_)); rintro e wc ⟨rfl, hbc⟩; refine keep6e (w := w) (g0 := g0) (g1 := g1) (g2 := g2) (a := .int .i64 n) (b := .int .i64 D) (c := .int .i64 m) (d := .int .i64 E) (e := .int .i64 s) (f := .int .i64 T) hbc ?_ ?_; (focus (constructor <;> first | (with_reducible assumption) | go_grown | (simp; done) | (simp; omega) | omega | (simp [*, go_sem]; done))); intro yhc ylc ymc ync k0c k1c k2c k3c k4c k5c; clear hbc)
      | (go_at_call 11; ((with_reducible refine (C2.out _).mono ?_)); rintro e wd ⟨rfl, hbd⟩; refine keep6e (w := w) (g0 := g0) (g1 := g1) (g2 := g2) (a := .int .i64 n) (b := .int .i64 D) (c := .int .i64 m) (d := .int .i64 E) (e := .int .i64 s) (f := .int .i64 T) hbd ?_ ?_; (focus (constructor <;> first | (with_reducible assumption) | go_grown | (simp; done) | (simp; omega) | omega | (simp [*, go_sem]; done))); intro yhd yld ymd ynd k0d k1d k2d k3d k4d k5d; clear hbd)
      | (go_at_call 11; ((with_reducible refine (C3.out _).mono ?_)); rintro e we ⟨rfl, hbe⟩; refine keep6e (w := w) (g0 := g0) (g1 := g1) (g2 := g2) (a := .int .i64 n) (b := .int .i64 D) (c := .int .i64 m) (d := .int .i64 E) (e := .int .i64 s) (f := .int .i64 T) hbe ?_ ?_; (focus (constructor <;> first | (with_reducible assumption) | go_grown | (simp; done) | (simp; omega) | omega | (simp [*, go_sem]; done))); intro yhe yle yme yne k0e k1e k2e k3e k4e k5e; clear hbe)
      | (go_at_call 6; ((with_reducible refine (HA.out _).mono ?_)); rintro e wf ⟨rfl, hbf⟩; refine keep6e (w := w) (g0 := g0) (g1 := g1) (g2 := g2) (a := .int .i64 n) (b := .int .i64 D) (c := .int .i64 m) (d := .int .i64 E) (e := .int .i64 s) (f := .int .i64 T) hbf ?_ ?_; (focus (constructor <;> first | (with_reducible assumption) | go_grown | (simp; done) | (simp; omega) | omega | (simp [*, go_sem]; done))); intro yhf ylf ymf ynf k0f k1f k2f k3f k4f k5f; clear hbf))
  all_goals go_ret
  all_goals exact ⟨rfl, by assumption⟩

end Go.Proofs.Ytapflinfkjoinaa
