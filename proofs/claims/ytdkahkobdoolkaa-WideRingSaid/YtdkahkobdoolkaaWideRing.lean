/- WideRing: what was added is taken away; sums and products are the same either way round; products are spread over sums; what is small is as Go's. -/
import Derived.Test.YtdkahkobdoolkaaAwake02
namespace Go.Proofs.Ytdkahkobdoolkaa
open Go.RowKit Go.Proofs.Sky
set_option linter.unusedVariables false
set_option linter.unusedSimpArgs false
attribute [local go_sem ↓] Go.wp_at_zero Go.wp_at_succ

theorem cmpI_anti (x y : Int) : cmpI y x = -cmpI x y := by unfold cmpI; (repeat' split) <;> omega

theorem cmpI_zero {x y : Int} (h : x ≠ y) : (cmpI x y == 0) = false := by
  have : cmpI x y ≠ 0 := by unfold cmpI; (repeat' split) <;> omega
  simpa using this

theorem cmpI_neg (x y : Int) : decide (cmpI x y < 0) = decide (x < y) := by
  by_cases h : x < y
  · rw [decide_eq_true h]; exact decide_eq_true (by unfold cmpI; rw [if_pos h]; omega)
  · rw [decide_eq_false h]; exact decide_eq_false (by unfold cmpI; rw [if_neg h]; split <;> omega)

structure Halves (n N : Int) : Prop where
  e : n.tdiv 2 = N
  lo : -4611686018427387904 ≤ N
  hi : N ≤ 4611686018427387903
theorem Halves.make (n : Int) (h : I64 n) : ∃ N, Halves n N := by
  unfold I64 at h
  obtain ⟨t1, t2⟩ := tdm (a := n) (b := 2) (by omega)
  have t3 : 0 ≤ n → 0 ≤ n.tmod 2 := fun h => Int.tmod_nonneg 2 h
  refine ⟨n.tdiv 2, rfl, ?_, ?_⟩
  · by_cases h1 : n.tmod 2 < 0
    · have := (t1 h1).1; omega
    · have := (t2 (by omega)).1; omega
  · by_cases h1 : n.tmod 2 < 0
    · have := (t1 h1).1
      have h2 : n < 0 := by
        by_cases h3 : 0 ≤ n
        · have := t3 h3; omega
        · omega
      omega
    · have := (t2 (by omega)).1; omega

set_option maxRecDepth 100000 in
set_option maxHeartbeats 8000000 in
theorem law_WideRing (x y n m k : Int) (hx : W128 x) (hy : W128 y) (hn : I64 n) (hm : I64 m) (hk : I64 k) (w : World) :
    Calls Try.prog 4 #[.agg #[.int .i64 (hii x), .int .u64 (lon x : Int)], .agg #[.int .i64 (hii y), .int .u64 (lon y : Int)], .int .i64 n, .int .i64 m, .int .i64 k] w
      fun e w' => e = .returned (.bool true) ∧ Below w.heap.size w w' := by
  obtain ⟨N, eN, lN, uN⟩ := Halves.make n hn
  obtain ⟨M, eM, lM, uM⟩ := Halves.make m hm
  obtain ⟨K, eK, lK, uK⟩ := Halves.make k hk
  clear hn hm hk
  have cOf1 := Lib.hid (fun w => law2_of x w)
  have cOf2 := Lib.hid (fun w => law2_of y w)
  have cAdd := Lib.hid (fun w => wide_Add x y w)
  have cAdd' := Lib.hid (fun w => wide_Add y x w)
  have cSub := Lib.hid (fun w => wide_Sub (x + y) y w)
  rw [show x + y - y = x by omega] at cSub
  rw [Int.add_comm y x] at cAdd'
  have cCmp := Lib.hid (fun w => wide_Cmp x y w hx hy)
  have cCmp' := Lib.hid (fun w => wide_Cmp y x w hy hx)
  rw [cmpI_anti x y] at cCmp'
  have bM1 := Lib.hid (fun w => wide_Mul N M w (by unfold I64; omega) (by unfold I64; omega))
  have bM2 := Lib.hid (fun w => wide_Mul M N w (by unfold I64; omega) (by unfold I64; omega))
  rw [Int.mul_comm M N] at bM2
  have bM3 := Lib.hid (fun w => wide_Mul N (M + K) w (by unfold I64; omega) (by unfold I64; omega))
  have bM4 := Lib.hid (fun w => wide_Mul N K w (by unfold I64; omega) (by unfold I64; omega))
  have bAdd := Lib.hid (fun w => wide_Add (N * M) (N * K) w)
  rw [← Int.mul_add] at bAdd
  have bO1 := Lib.hid (fun w => wide_Of N w (by unfold I64; omega))
  have bO2 := Lib.hid (fun w => wide_Of M w (by unfold I64; omega))
  have bSub := Lib.hid (fun w => wide_Sub N M w)
  have bO3 := Lib.hid (fun w => wide_Of (N - M) w (by unfold I64; omega))
  have bCmp := Lib.hid (fun w => wide_Cmp N M w (by unfold W128; omega) (by unfold W128; omega))
  obtain ⟨A, eA⟩ : ∃ A, N / 4294967296 = A := ⟨_, rfl⟩
  obtain ⟨B, eB⟩ : ∃ B, M / 4294967296 = B := ⟨_, rfl⟩
  have lA : -1073741824 ≤ A ∧ A ≤ 1073741823 := by omega
  have lB : -1073741824 ≤ B ∧ B ≤ 1073741823 := by omega
  have bM5 := Lib.hid (fun w => wide_Mul A B w (by unfold I64; omega) (by unfold I64; omega))
  have lAB : -1152921504606846976 ≤ A * B ∧ A * B ≤ 1152921504606846976 := by
    have h1 : (A * B).natAbs ≤ 1152921504606846976 := by
      rw [Int.natAbs_mul]
      exact Nat.mul_le_mul (show A.natAbs ≤ 1073741824 by omega) (show B.natAbs ≤ 1073741824 by omega)
    omega
  have bO4 := Lib.hid (fun w => wide_Of (A * B) w (by unfold I64; omega))
  have wAB : IntKind.i64.wrap (A * B) = A * B := by rw [i64w]; omega
  have wMK : IntKind.i64.wrap (M + K) = M + K := by rw [i64w]; omega
  have wNM : IntKind.i64.wrap (N - M) = N - M := by rw [i64w]; omega
  have hxy : x = y ∨ (x ≠ y ∧ hii x ≠ hii y) ∨ (x ≠ y ∧ hii x = hii y ∧ lon x ≠ lon y) := by
    have e1 := wide_eq hx
    have e2 := wide_eq hy
    by_cases h : x = y
    · exact .inl h
    · by_cases h2 : hii x = hii y
      · refine .inr (.inr ⟨h, h2, fun h3 => h ?_⟩); rw [e1, e2, h2, h3]
      · exact .inr (.inl ⟨h, h2⟩)
  have cz : x = y → (cmpI x y == 0) = true := fun h => by subst h; unfold cmpI; simp
  have cnz : x ≠ y → (cmpI x y == 0) = false := cmpI_zero
  have crange := cmpI_range x y
  obtain ⟨bb, ebb⟩ : ∃ bb : Bool, decide (N < M) = bb := ⟨_, rfl⟩
  have ebc : decide (cmpI N M < 0) = bb := by rw [cmpI_neg]; exact ebb
  have P7 := Lib.hid (And.intro eA (And.intro eB (And.intro wAB (And.intro wMK (And.intro wNM (And.intro ebb ebc))))))
  clear eA eB wAB wMK wNM ebb ebc hx hy
  obtain ⟨HXY, hHXY⟩ : ∃ P : Prop, P = (x = y) := ⟨_, rfl⟩
  rw [← hHXY] at hxy cz
  have cnz' : ¬ HXY → (cmpI x y == 0) = false := fun h => cnz (by rw [hHXY] at h; exact h)
  have hxy' : HXY ∧ hii x = hii y ∧ lon x = lon y ∨ (¬ HXY ∧ hii x ≠ hii y) ∨ (¬ HXY ∧ hii x = hii y ∧ lon x ≠ lon y) := by
    rcases hxy with h | ⟨h, h'⟩ | ⟨h, h'⟩
    · refine .inl ⟨h, ?_⟩; rw [hHXY] at h; subst h; exact ⟨rfl, rfl⟩
    · refine .inr (.inl ⟨?_, h'⟩); rw [hHXY]; exact h
    · refine .inr (.inr ⟨?_, h'⟩); rw [hHXY]; exact h
  clear hxy cnz hHXY
  generalize cmpI x y = c at *
  generalize cmpI N M = c5 at *
  generalize hii (x + y) = s1 at *
  generalize lon (x + y) = s2 at *
  generalize hii x = x1 at *
  generalize lon x = x2 at *
  generalize hii y = y1 at *
  generalize lon y = y2 at *
  generalize hii (N * (M + K)) = p1 at *
  generalize lon (N * (M + K)) = p2 at *
  generalize hii (N * M) = q1 at *
  generalize lon (N * M) = q2 at *
  generalize hii (N * K) = r1 at *
  generalize lon (N * K) = r2 at *
  generalize hii (N - M) = d1 at *
  generalize lon (N - M) = d2 at *
  generalize hii (A * B) = a1 at *
  generalize lon (A * B) = a2 at *
  generalize hii N = n1 at *
  generalize lon N = n2 at *
  generalize hii M = m1 at *
  generalize lon M = m2 at *
  have HE := Lib.hid (And.intro eN (And.intro eM eK))
  clear eN eM eK
  have z0 : w.heap.size < w.heap.size + 1 + 1 := by omega
  have z1 : w.heap.size < w.heap.size + 1 + 1 + 1 := by omega
  have z2 : w.heap.size < w.heap.size + 1 + 1 + 1 + 1 := by omega
  go_enter Try.func4, Try.ntmps4
  go_upto_region 1 with fail
  go_cut [11, 12] (fun s11 s12 wx => ∃ p q : Nat, s11 = .pointer (some ⟨p, 0, none⟩) ∧ s12 = .pointer (some ⟨q, 0, none⟩) ∧ wx.cell? ⟨p, 0, none⟩ = some (.int .i64 x1) ∧ wx.cell? ⟨p, 1, none⟩ = some (.int .u64 (x2 : Int)) ∧
    wx.cell? ⟨q, 0, none⟩ = some (.int .i64 y1) ∧ wx.cell? ⟨q, 1, none⟩ = some (.int .u64 (y2 : Int)) ∧ p < wx.heap.size ∧ q < wx.heap.size ∧ Below w.heap.size w wx)
  case first =>
    go_region_held3 (fun w' => w'.cell? ⟨w.heap.size, 0, none⟩ = some (.int .i64 x1) ∧ w'.cell? ⟨w.heap.size, 1, none⟩ = some (.int .u64 (x2 : Int)) ∧
        w'.cell? ⟨w.heap.size + 1, 0, none⟩ = some (.int .i64 y1) ∧ w'.cell? ⟨w.heap.size + 1, 1, none⟩ = some (.int .u64 (y2 : Int)))
      (first | (simp (disch := first | omega | (simp only [World.size_alloc, World.size_setCell, World.size_drew]; omega)) [hca, hcb, ca, csf, List.getElem?_cons_zero, List.getElem?_cons_succ]; done) | (simp (disch := first | omega | (simp only [World.size_alloc, World.size_setCell, World.size_drew]; omega)) [hca, ca, csf, List.getElem?_cons_zero, List.getElem?_cons_succ]; done) | (simp (disch := first | omega | (simp only [World.size_alloc, World.size_setCell, World.size_drew]; omega)) [ca, csf, List.getElem?_cons_zero, List.getElem?_cons_succ]; done))
      (first
        | (go_at_call 7; ((with_reducible refine (cOf1.out _).mono ?_)); rintro e wa ⟨rfl, hba⟩; have hzwa := hba.size; (try simp at hzwa); (first | (refine below4e (w := w) w.heap.size ?_ hba ?_ ?_; (focus go_grown); (focus (first | omega | (simp; done) | (simp; omega))); intro hca hfa y0a x1a y1a y2a y3a y4a y5a) | (refine below3e (w := w) w.heap.size ?_ hba ?_ ?_; (focus go_grown); (focus (first | omega | (simp; done) | (simp; omega))); intro hca hfa y0a x1a y1a y2a y3a y4a) | (refine below2e (w := w) w.heap.size ?_ hba ?_ ?_; (focus go_grown); (focus (first | omega | (simp; done) | (simp; omega))); intro hca hfa y0a x1a y1a y2a y3a)))
        | (go_at_call 7; ((with_reducible refine (cOf2.out _).mono ?_)); rintro e wb ⟨rfl, hbb⟩; have hzwb := hbb.size; (try simp at hzwb); (first | (refine below4e (w := w) w.heap.size ?_ hbb ?_ ?_; (focus go_grown); (focus (first | omega | (simp; done) | (simp; omega))); intro hcb hfb y0b x1b y1b y2b y3b y4b y5b) | (refine below3e (w := w) w.heap.size ?_ hbb ?_ ?_; (focus go_grown); (focus (first | omega | (simp; done) | (simp; omega))); intro hcb hfb y0b x1b y1b y2b y3b y4b) | (refine below2e (w := w) w.heap.size ?_ hbb ?_ ?_; (focus go_grown); (focus (first | omega | (simp; done) | (simp; omega))); intro hcb hfb y0b x1b y1b y2b y3b)); (first | (refine ltk2 (n := wa.heap.size) (N := wb.heap.size) ?_ ?_; (focus omega); intro v1 v2) | (refine ltk1 (n := wa.heap.size) (N := wb.heap.size) ?_ ?_; (focus omega); intro v1) | skip)))
    all_goals (go_wp2_with fail; go_meet)
    all_goals
      refine ⟨_, _, rfl, rfl, ?_, ?_, ?_, ?_, ?_, ?_, ?_⟩
      all_goals first | (simp; done) | (simp; omega) | (go_grown; done) | (simp [*, go_sem]; done)
  case rest =>
    obtain ⟨p, q, rfl, rfl, px, px', qy, qy', hp, hq, hB⟩ := hcut
    obtain ⟨eN, eM, eK⟩ := HE.out
    go_upto_region 3 with fail
    clear eN eM eK
    generalize wc = W0 at *
    go_cut [59] (fun s59 wx => s59 = .bool false ∧ Below w.heap.size w wx ∧ w.heap.size ≤ wx.heap.size)
    case first =>
      have e1 : -(-c) = c := by omega
      have e2 : IntKind.i64.wrap c = c := by rw [i64w]; omega
      have e3 : IntKind.i64.wrap (-(-c)) = c := by rw [e1, e2]
      rcases hxy' with ⟨h, rfl, rfl⟩ | ⟨h, h1⟩ | ⟨h, rfl, h2⟩
      · have hc0 := cz h
        obtain rfl : c = 0 := by simpa using hc0
        clear hc0 e1 e2 e3 cz cnz' crange
        have e4 : IntKind.i64.wrap 0 = 0 := by decide
        go_region_held3 (fun w' => w'.cell? ⟨p, 0, none⟩ = some (.int .i64 x1) ∧ w'.cell? ⟨p, 1, none⟩ = some (.int .u64 (x2 : Int)) ∧ w'.cell? ⟨q, 0, none⟩ = some (.int .i64 x1) ∧ w'.cell? ⟨q, 1, none⟩ = some (.int .u64 (x2 : Int))) (first | (refine ⟨?_, ?_, ?_, ?_⟩ <;> (first | assumption | (simp; assumption))))
          (first
          | (go_at_call 16; ((with_reducible refine (cAdd.out _).mono ?_)); rintro e wd ⟨rfl, hbwd⟩; refine keep2e (w := w) (g := p) (u := .int .i64 x1) (v := .int .u64 (x2 : Int)) hbwd ?_ ?_ ?_ ?_ ?_; (focus go_grown); (focus (first | (with_reducible assumption) | (simp; done) | (simp; omega) | omega)); (focus (first | (with_reducible assumption) | (simp; done) | (simp [*, go_sem]; done))); (focus (first | (with_reducible assumption) | (simp; done) | (simp [*, go_sem]; done))); intro k0wd k1wd k2wd y0wd; refine keep2e (w := w) (g := q) (u := .int .i64 x1) (v := .int .u64 (x2 : Int)) hbwd ?_ ?_ ?_ ?_ ?_; (focus go_grown); (focus (first | (with_reducible assumption) | (simp; done) | (simp; omega) | omega)); (focus (first | (with_reducible assumption) | (simp; done) | (simp [*, go_sem]; done))); (focus (first | (with_reducible assumption) | (simp; done) | (simp [*, go_sem]; done))); intro k0wd' k1wd' k2wd' y0wd'; clear hbwd)
          | (go_at_call 18; ((with_reducible refine (cSub.out _).mono ?_)); rintro e we ⟨rfl, hbwe⟩; refine keep2e (w := w) (g := p) (u := .int .i64 x1) (v := .int .u64 (x2 : Int)) hbwe ?_ ?_ ?_ ?_ ?_; (focus go_grown); (focus (first | (with_reducible assumption) | (simp; done) | (simp; omega) | omega)); (focus (first | (with_reducible assumption) | (simp; done) | (simp [*, go_sem]; done))); (focus (first | (with_reducible assumption) | (simp; done) | (simp [*, go_sem]; done))); intro k0we k1we k2we y0we; refine keep2e (w := w) (g := q) (u := .int .i64 x1) (v := .int .u64 (x2 : Int)) hbwe ?_ ?_ ?_ ?_ ?_; (focus go_grown); (focus (first | (with_reducible assumption) | (simp; done) | (simp; omega) | omega)); (focus (first | (with_reducible assumption) | (simp; done) | (simp [*, go_sem]; done))); (focus (first | (with_reducible assumption) | (simp; done) | (simp [*, go_sem]; done))); intro k0we' k1we' k2we' y0we'; clear hbwe)
          | (go_at_call 16; ((with_reducible refine (cAdd'.out _).mono ?_)); rintro e wf ⟨rfl, hbwf⟩; refine keep2e (w := w) (g := p) (u := .int .i64 x1) (v := .int .u64 (x2 : Int)) hbwf ?_ ?_ ?_ ?_ ?_; (focus go_grown); (focus (first | (with_reducible assumption) | (simp; done) | (simp; omega) | omega)); (focus (first | (with_reducible assumption) | (simp; done) | (simp [*, go_sem]; done))); (focus (first | (with_reducible assumption) | (simp; done) | (simp [*, go_sem]; done))); intro k0wf k1wf k2wf y0wf; refine keep2e (w := w) (g := q) (u := .int .i64 x1) (v := .int .u64 (x2 : Int)) hbwf ?_ ?_ ?_ ?_ ?_; (focus go_grown); (focus (first | (with_reducible assumption) | (simp; done) | (simp; omega) | omega)); (focus (first | (with_reducible assumption) | (simp; done) | (simp [*, go_sem]; done))); (focus (first | (with_reducible assumption) | (simp; done) | (simp [*, go_sem]; done))); intro k0wf' k1wf' k2wf' y0wf'; clear hbwf)
          | (go_at_call 20; ((with_reducible refine (cCmp.out _).mono ?_)); rintro e wg ⟨rfl, hbwg⟩; refine keep2e (w := w) (g := p) (u := .int .i64 x1) (v := .int .u64 (x2 : Int)) hbwg ?_ ?_ ?_ ?_ ?_; (focus go_grown); (focus (first | (with_reducible assumption) | (simp; done) | (simp; omega) | omega)); (focus (first | (with_reducible assumption) | (simp; done) | (simp [*, go_sem]; done))); (focus (first | (with_reducible assumption) | (simp; done) | (simp [*, go_sem]; done))); intro k0wg k1wg k2wg y0wg; refine keep2e (w := w) (g := q) (u := .int .i64 x1) (v := .int .u64 (x2 : Int)) hbwg ?_ ?_ ?_ ?_ ?_; (focus go_grown); (focus (first | (with_reducible assumption) | (simp; done) | (simp; omega) | omega)); (focus (first | (with_reducible assumption) | (simp; done) | (simp [*, go_sem]; done))); (focus (first | (with_reducible assumption) | (simp; done) | (simp [*, go_sem]; done))); intro k0wg' k1wg' k2wg' y0wg'; clear hbwg)
          | (go_at_call 20; ((with_reducible refine (cCmp'.out _).mono ?_)); rintro e wh ⟨rfl, hbwh⟩; refine keep2e (w := w) (g := p) (u := .int .i64 x1) (v := .int .u64 (x2 : Int)) hbwh ?_ ?_ ?_ ?_ ?_; (focus go_grown); (focus (first | (with_reducible assumption) | (simp; done) | (simp; omega) | omega)); (focus (first | (with_reducible assumption) | (simp; done) | (simp [*, go_sem]; done))); (focus (first | (with_reducible assumption) | (simp; done) | (simp [*, go_sem]; done))); intro k0wh k1wh k2wh y0wh; refine keep2e (w := w) (g := q) (u := .int .i64 x1) (v := .int .u64 (x2 : Int)) hbwh ?_ ?_ ?_ ?_ ?_; (focus go_grown); (focus (first | (with_reducible assumption) | (simp; done) | (simp; omega) | omega)); (focus (first | (with_reducible assumption) | (simp; done) | (simp [*, go_sem]; done))); (focus (first | (with_reducible assumption) | (simp; done) | (simp [*, go_sem]; done))); intro k0wh' k1wh' k2wh' y0wh'; clear hbwh))
        all_goals (go_wp2_with fail; go_meet)
        all_goals exact ⟨rfl, y0wg, y0wg.size⟩
      · have hc0 := cnz' h
        have hb0 : (x1 == y1) = false := by simpa using h1
        go_region_held3 (fun w' => w'.cell? ⟨p, 0, none⟩ = some (.int .i64 x1) ∧ w'.cell? ⟨p, 1, none⟩ = some (.int .u64 (x2 : Int)) ∧ w'.cell? ⟨q, 0, none⟩ = some (.int .i64 y1) ∧ w'.cell? ⟨q, 1, none⟩ = some (.int .u64 (y2 : Int))) (first | (refine ⟨?_, ?_, ?_, ?_⟩ <;> (first | assumption | (simp; assumption))))
          (first
          | (go_at_call 16; ((with_reducible refine (cAdd.out _).mono ?_)); rintro e wd ⟨rfl, hbwd⟩; refine keep2e (w := w) (g := p) (u := .int .i64 x1) (v := .int .u64 (x2 : Int)) hbwd ?_ ?_ ?_ ?_ ?_; (focus go_grown); (focus (first | (with_reducible assumption) | (simp; done) | (simp; omega) | omega)); (focus (first | (with_reducible assumption) | (simp; done) | (simp [*, go_sem]; done))); (focus (first | (with_reducible assumption) | (simp; done) | (simp [*, go_sem]; done))); intro k0wd k1wd k2wd y0wd; refine keep2e (w := w) (g := q) (u := .int .i64 y1) (v := .int .u64 (y2 : Int)) hbwd ?_ ?_ ?_ ?_ ?_; (focus go_grown); (focus (first | (with_reducible assumption) | (simp; done) | (simp; omega) | omega)); (focus (first | (with_reducible assumption) | (simp; done) | (simp [*, go_sem]; done))); (focus (first | (with_reducible assumption) | (simp; done) | (simp [*, go_sem]; done))); intro k0wd' k1wd' k2wd' y0wd'; clear hbwd)
          | (go_at_call 18; ((with_reducible refine (cSub.out _).mono ?_)); rintro e we ⟨rfl, hbwe⟩; refine keep2e (w := w) (g := p) (u := .int .i64 x1) (v := .int .u64 (x2 : Int)) hbwe ?_ ?_ ?_ ?_ ?_; (focus go_grown); (focus (first | (with_reducible assumption) | (simp; done) | (simp; omega) | omega)); (focus (first | (with_reducible assumption) | (simp; done) | (simp [*, go_sem]; done))); (focus (first | (with_reducible assumption) | (simp; done) | (simp [*, go_sem]; done))); intro k0we k1we k2we y0we; refine keep2e (w := w) (g := q) (u := .int .i64 y1) (v := .int .u64 (y2 : Int)) hbwe ?_ ?_ ?_ ?_ ?_; (focus go_grown); (focus (first | (with_reducible assumption) | (simp; done) | (simp; omega) | omega)); (focus (first | (with_reducible assumption) | (simp; done) | (simp [*, go_sem]; done))); (focus (first | (with_reducible assumption) | (simp; done) | (simp [*, go_sem]; done))); intro k0we' k1we' k2we' y0we'; clear hbwe)
          | (go_at_call 16; ((with_reducible refine (cAdd'.out _).mono ?_)); rintro e wf ⟨rfl, hbwf⟩; refine keep2e (w := w) (g := p) (u := .int .i64 x1) (v := .int .u64 (x2 : Int)) hbwf ?_ ?_ ?_ ?_ ?_; (focus go_grown); (focus (first | (with_reducible assumption) | (simp; done) | (simp; omega) | omega)); (focus (first | (with_reducible assumption) | (simp; done) | (simp [*, go_sem]; done))); (focus (first | (with_reducible assumption) | (simp; done) | (simp [*, go_sem]; done))); intro k0wf k1wf k2wf y0wf; refine keep2e (w := w) (g := q) (u := .int .i64 y1) (v := .int .u64 (y2 : Int)) hbwf ?_ ?_ ?_ ?_ ?_; (focus go_grown); (focus (first | (with_reducible assumption) | (simp; done) | (simp; omega) | omega)); (focus (first | (with_reducible assumption) | (simp; done) | (simp [*, go_sem]; done))); (focus (first | (with_reducible assumption) | (simp; done) | (simp [*, go_sem]; done))); intro k0wf' k1wf' k2wf' y0wf'; clear hbwf)
          | (go_at_call 20; ((with_reducible refine (cCmp.out _).mono ?_)); rintro e wg ⟨rfl, hbwg⟩; refine keep2e (w := w) (g := p) (u := .int .i64 x1) (v := .int .u64 (x2 : Int)) hbwg ?_ ?_ ?_ ?_ ?_; (focus go_grown); (focus (first | (with_reducible assumption) | (simp; done) | (simp; omega) | omega)); (focus (first | (with_reducible assumption) | (simp; done) | (simp [*, go_sem]; done))); (focus (first | (with_reducible assumption) | (simp; done) | (simp [*, go_sem]; done))); intro k0wg k1wg k2wg y0wg; refine keep2e (w := w) (g := q) (u := .int .i64 y1) (v := .int .u64 (y2 : Int)) hbwg ?_ ?_ ?_ ?_ ?_; (focus go_grown); (focus (first | (with_reducible assumption) | (simp; done) | (simp; omega) | omega)); (focus (first | (with_reducible assumption) | (simp; done) | (simp [*, go_sem]; done))); (focus (first | (with_reducible assumption) | (simp; done) | (simp [*, go_sem]; done))); intro k0wg' k1wg' k2wg' y0wg'; clear hbwg)
          | (go_at_call 20; ((with_reducible refine (cCmp'.out _).mono ?_)); rintro e wh ⟨rfl, hbwh⟩; refine keep2e (w := w) (g := p) (u := .int .i64 x1) (v := .int .u64 (x2 : Int)) hbwh ?_ ?_ ?_ ?_ ?_; (focus go_grown); (focus (first | (with_reducible assumption) | (simp; done) | (simp; omega) | omega)); (focus (first | (with_reducible assumption) | (simp; done) | (simp [*, go_sem]; done))); (focus (first | (with_reducible assumption) | (simp; done) | (simp [*, go_sem]; done))); intro k0wh k1wh k2wh y0wh; refine keep2e (w := w) (g := q) (u := .int .i64 y1) (v := .int .u64 (y2 : Int)) hbwh ?_ ?_ ?_ ?_ ?_; (focus go_grown); (focus (first | (with_reducible assumption) | (simp; done) | (simp; omega) | omega)); (focus (first | (with_reducible assumption) | (simp; done) | (simp [*, go_sem]; done))); (focus (first | (with_reducible assumption) | (simp; done) | (simp [*, go_sem]; done))); intro k0wh' k1wh' k2wh' y0wh'; clear hbwh))
        all_goals (go_wp2_with fail; go_meet)
        all_goals exact ⟨rfl, y0wg, y0wg.size⟩
      · have hc0 := cnz' h
        have hb0 : ((x2 : Int) == (y2 : Int)) = false := by simp; omega
        go_region_held3 (fun w' => w'.cell? ⟨p, 0, none⟩ = some (.int .i64 x1) ∧ w'.cell? ⟨p, 1, none⟩ = some (.int .u64 (x2 : Int)) ∧ w'.cell? ⟨q, 0, none⟩ = some (.int .i64 x1) ∧ w'.cell? ⟨q, 1, none⟩ = some (.int .u64 (y2 : Int))) (first | (refine ⟨?_, ?_, ?_, ?_⟩ <;> (first | assumption | (simp; assumption))))
          (first
          | (go_at_call 16; ((with_reducible refine (cAdd.out _).mono ?_)); rintro e wd ⟨rfl, hbwd⟩; refine keep2e (w := w) (g := p) (u := .int .i64 x1) (v := .int .u64 (x2 : Int)) hbwd ?_ ?_ ?_ ?_ ?_; (focus go_grown); (focus (first | (with_reducible assumption) | (simp; done) | (simp; omega) | omega)); (focus (first | (with_reducible assumption) | (simp; done) | (simp [*, go_sem]; done))); (focus (first | (with_reducible assumption) | (simp; done) | (simp [*, go_sem]; done))); intro k0wd k1wd k2wd y0wd; refine keep2e (w := w) (g := q) (u := .int .i64 x1) (v := .int .u64 (y2 : Int)) hbwd ?_ ?_ ?_ ?_ ?_; (focus go_grown); (focus (first | (with_reducible assumption) | (simp; done) | (simp; omega) | omega)); (focus (first | (with_reducible assumption) | (simp; done) | (simp [*, go_sem]; done))); (focus (first | (with_reducible assumption) | (simp; done) | (simp [*, go_sem]; done))); intro k0wd' k1wd' k2wd' y0wd'; clear hbwd)
          | (go_at_call 18; ((with_reducible refine (cSub.out _).mono ?_)); rintro e we ⟨rfl, hbwe⟩; refine keep2e (w := w) (g := p) (u := .int .i64 x1) (v := .int .u64 (x2 : Int)) hbwe ?_ ?_ ?_ ?_ ?_; (focus go_grown); (focus (first | (with_reducible assumption) | (simp; done) | (simp; omega) | omega)); (focus (first | (with_reducible assumption) | (simp; done) | (simp [*, go_sem]; done))); (focus (first | (with_reducible assumption) | (simp; done) | (simp [*, go_sem]; done))); intro k0we k1we k2we y0we; refine keep2e (w := w) (g := q) (u := .int .i64 x1) (v := .int .u64 (y2 : Int)) hbwe ?_ ?_ ?_ ?_ ?_; (focus go_grown); (focus (first | (with_reducible assumption) | (simp; done) | (simp; omega) | omega)); (focus (first | (with_reducible assumption) | (simp; done) | (simp [*, go_sem]; done))); (focus (first | (with_reducible assumption) | (simp; done) | (simp [*, go_sem]; done))); intro k0we' k1we' k2we' y0we'; clear hbwe)
          | (go_at_call 16; ((with_reducible refine (cAdd'.out _).mono ?_)); rintro e wf ⟨rfl, hbwf⟩; refine keep2e (w := w) (g := p) (u := .int .i64 x1) (v := .int .u64 (x2 : Int)) hbwf ?_ ?_ ?_ ?_ ?_; (focus go_grown); (focus (first | (with_reducible assumption) | (simp; done) | (simp; omega) | omega)); (focus (first | (with_reducible assumption) | (simp; done) | (simp [*, go_sem]; done))); (focus (first | (with_reducible assumption) | (simp; done) | (simp [*, go_sem]; done))); intro k0wf k1wf k2wf y0wf; refine keep2e (w := w) (g := q) (u := .int .i64 x1) (v := .int .u64 (y2 : Int)) hbwf ?_ ?_ ?_ ?_ ?_; (focus go_grown); (focus (first | (with_reducible assumption) | (simp; done) | (simp; omega) | omega)); (focus (first | (with_reducible assumption) | (simp; done) | (simp [*, go_sem]; done))); (focus (first | (with_reducible assumption) | (simp; done) | (simp [*, go_sem]; done))); intro k0wf' k1wf' k2wf' y0wf'; clear hbwf)
          | (go_at_call 20; ((with_reducible refine (cCmp.out _).mono ?_)); rintro e wg ⟨rfl, hbwg⟩; refine keep2e (w := w) (g := p) (u := .int .i64 x1) (v := .int .u64 (x2 : Int)) hbwg ?_ ?_ ?_ ?_ ?_; (focus go_grown); (focus (first | (with_reducible assumption) | (simp; done) | (simp; omega) | omega)); (focus (first | (with_reducible assumption) | (simp; done) | (simp [*, go_sem]; done))); (focus (first | (with_reducible assumption) | (simp; done) | (simp [*, go_sem]; done))); intro k0wg k1wg k2wg y0wg; refine keep2e (w := w) (g := q) (u := .int .i64 x1) (v := .int .u64 (y2 : Int)) hbwg ?_ ?_ ?_ ?_ ?_; (focus go_grown); (focus (first | (with_reducible assumption) | (simp; done) | (simp; omega) | omega)); (focus (first | (with_reducible assumption) | (simp; done) | (simp [*, go_sem]; done))); (focus (first | (with_reducible assumption) | (simp; done) | (simp [*, go_sem]; done))); intro k0wg' k1wg' k2wg' y0wg'; clear hbwg)
          | (go_at_call 20; ((with_reducible refine (cCmp'.out _).mono ?_)); rintro e wh ⟨rfl, hbwh⟩; refine keep2e (w := w) (g := p) (u := .int .i64 x1) (v := .int .u64 (x2 : Int)) hbwh ?_ ?_ ?_ ?_ ?_; (focus go_grown); (focus (first | (with_reducible assumption) | (simp; done) | (simp; omega) | omega)); (focus (first | (with_reducible assumption) | (simp; done) | (simp [*, go_sem]; done))); (focus (first | (with_reducible assumption) | (simp; done) | (simp [*, go_sem]; done))); intro k0wh k1wh k2wh y0wh; refine keep2e (w := w) (g := q) (u := .int .i64 x1) (v := .int .u64 (y2 : Int)) hbwh ?_ ?_ ?_ ?_ ?_; (focus go_grown); (focus (first | (with_reducible assumption) | (simp; done) | (simp; omega) | omega)); (focus (first | (with_reducible assumption) | (simp; done) | (simp [*, go_sem]; done))); (focus (first | (with_reducible assumption) | (simp; done) | (simp [*, go_sem]; done))); intro k0wh' k1wh' k2wh' y0wh'; clear hbwh))
        all_goals (go_wp2_with fail; go_meet)
        all_goals exact ⟨rfl, y0wg, y0wg.size⟩
    case rest =>
      obtain ⟨rfl, hB2, hz⟩ := hcut
      have hzz : w.heap.size ≤ wc.heap.size := hz
      obtain ⟨eA, eB, wAB, wMK, wNM, ebb, ebc⟩ := P7.out
      clear cz cnz' hxy' px px' qy qy' hB
      clear lN uN lM uM lK uK lA lB lAB crange hp hq
      go_wp2_with (first
        | (go_at_call 14; ((with_reducible refine (bM1.out _).mono ?_)); rintro e wj ⟨rfl, hbwj⟩; refine keep0e (w := w) hbwj ?_ ?_; (focus go_grown); intro y0wj y1wj; clear hbwj)
        | (go_at_call 14; ((with_reducible refine (bM2.out _).mono ?_)); rintro e wk ⟨rfl, hbwk⟩; refine keep0e (w := w) hbwk ?_ ?_; (focus go_grown); intro y0wk y1wk; clear hbwk)
        | (go_at_call 14; ((with_reducible refine (bM3.out _).mono ?_)); rintro e wl ⟨rfl, hbwl⟩; refine keep0e (w := w) hbwl ?_ ?_; (focus go_grown); intro y0wl y1wl; clear hbwl)
        | (go_at_call 14; ((with_reducible refine (bM4.out _).mono ?_)); rintro e wm ⟨rfl, hbwm⟩; refine keep0e (w := w) hbwm ?_ ?_; (focus go_grown); intro y0wm y1wm; clear hbwm)
        | (go_at_call 16; ((with_reducible refine (bAdd.out _).mono ?_)); rintro e wn ⟨rfl, hbwn⟩; refine keep0e (w := w) hbwn ?_ ?_; (focus go_grown); intro y0wn y1wn; clear hbwn)
        | (go_at_call 12; ((with_reducible refine (bO1.out _).mono ?_)); rintro e wo ⟨rfl, hbwo⟩; refine keep0e (w := w) hbwo ?_ ?_; (focus go_grown); intro y0wo y1wo; clear hbwo)
        | (go_at_call 12; ((with_reducible refine (bO2.out _).mono ?_)); rintro e wp ⟨rfl, hbwp⟩; refine keep0e (w := w) hbwp ?_ ?_; (focus go_grown); intro y0wp y1wp; clear hbwp)
        | (go_at_call 18; ((with_reducible refine (bSub.out _).mono ?_)); rintro e wq ⟨rfl, hbwq⟩; refine keep0e (w := w) hbwq ?_ ?_; (focus go_grown); intro y0wq y1wq; clear hbwq)
        | (go_at_call 12; ((with_reducible refine (bO3.out _).mono ?_)); rintro e wr ⟨rfl, hbwr⟩; refine keep0e (w := w) hbwr ?_ ?_; (focus go_grown); intro y0wr y1wr; clear hbwr)
        | (go_at_call 14; ((with_reducible refine (bM5.out _).mono ?_)); rintro e wS ⟨rfl, hbwS⟩; refine keep0e (w := w) hbwS ?_ ?_; (focus go_grown); intro y0wS y1wS; clear hbwS))
      go_region_held3 (fun w' => w'.cell? ⟨wS.heap.size, 0, none⟩ = some (.int .i64 a1) ∧ w'.cell? ⟨wS.heap.size, 1, none⟩ = some (.int .u64 (a2 : Int))) (first | (refine ⟨?_, ?_⟩ <;> (first | assumption | (simp; done))) | go_keep)
        (first
          | (go_at_call 12; ((with_reducible refine (bO4.out _).mono ?_)); rintro e xa ⟨rfl, hbxa⟩; refine keep2e (w := w) (g := wS.heap.size) (u := .int .i64 a1) (v := .int .u64 (a2 : Int)) hbxa ?_ ?_ ?_ ?_ ?_; (focus go_grown); (focus (first | (with_reducible assumption) | (simp; done) | (simp; omega) | omega)); (focus (first | (with_reducible assumption) | (simp; done) | (simp [*, go_sem]; done))); (focus (first | (with_reducible assumption) | (simp; done) | (simp [*, go_sem]; done))); intro k0xa k1xa k2xa y0xa; clear hbxa)
          | (go_at_call 12; ((with_reducible refine (bO1.out _).mono ?_)); rintro e xb ⟨rfl, hbxb⟩; refine keep2e (w := w) (g := wS.heap.size) (u := .int .i64 a1) (v := .int .u64 (a2 : Int)) hbxb ?_ ?_ ?_ ?_ ?_; (focus go_grown); (focus (first | (with_reducible assumption) | (simp; done) | (simp; omega) | omega)); (focus (first | (with_reducible assumption) | (simp; done) | (simp [*, go_sem]; done))); (focus (first | (with_reducible assumption) | (simp; done) | (simp [*, go_sem]; done))); intro k0xb k1xb k2xb y0xb; clear hbxb)
          | (go_at_call 12; ((with_reducible refine (bO2.out _).mono ?_)); rintro e xc ⟨rfl, hbxc⟩; refine keep2e (w := w) (g := wS.heap.size) (u := .int .i64 a1) (v := .int .u64 (a2 : Int)) hbxc ?_ ?_ ?_ ?_ ?_; (focus go_grown); (focus (first | (with_reducible assumption) | (simp; done) | (simp; omega) | omega)); (focus (first | (with_reducible assumption) | (simp; done) | (simp [*, go_sem]; done))); (focus (first | (with_reducible assumption) | (simp; done) | (simp [*, go_sem]; done))); intro k0xc k1xc k2xc y0xc; clear hbxc)
          | (go_at_call 20; ((with_reducible refine (bCmp.out _).mono ?_)); rintro e xd ⟨rfl, hbxd⟩; refine keep2e (w := w) (g := wS.heap.size) (u := .int .i64 a1) (v := .int .u64 (a2 : Int)) hbxd ?_ ?_ ?_ ?_ ?_; (focus go_grown); (focus (first | (with_reducible assumption) | (simp; done) | (simp; omega) | omega)); (focus (first | (with_reducible assumption) | (simp; done) | (simp [*, go_sem]; done))); (focus (first | (with_reducible assumption) | (simp; done) | (simp [*, go_sem]; done))); intro k0xd k1xd k2xd y0xd; clear hbxd)
          | (go_at_call 22; refine (awake02 _).mono ?_; rintro e wz ⟨rfl, hbz⟩; refine keep2e (w := w) (g := wS.heap.size) (u := .int .i64 a1) (v := .int .u64 (a2 : Int)) hbz ?_ ?_ ?_ ?_ ?_; (focus go_grown); (focus (first | (with_reducible assumption) | (simp; done) | (simp; omega) | omega)); (focus (first | (with_reducible assumption) | (simp; done) | (simp [*, go_sem]; done))); (focus (first | (with_reducible assumption) | (simp; done) | (simp [*, go_sem]; done))); intro k0z k1z k2z y0z; clear hbz))
      all_goals go_wp2
      all_goals go_ret
      all_goals exact ⟨rfl, by go_grown⟩

theorem top_WideRing (h l h' l' n m k : Int) (hh : I64 h) (hl : U64 l) (hh' : I64 h') (hl' : U64 l') (hn : I64 n) (hm : I64 m) (hk : I64 k) (w : World) :
    Calls Try.prog 4 #[.agg #[.int .i64 h, .int .u64 l], .agg #[.int .i64 h', .int .u64 l'], .int .i64 n, .int .i64 m, .int .i64 k] w fun e w' => e = .returned (.bool true) ∧ Below w.heap.size w w' := by
  obtain ⟨x, hx, rfl, rfl⟩ := wide_of h l hh hl
  obtain ⟨y, hy, rfl, rfl⟩ := wide_of h' l' hh' hl'
  exact law_WideRing x y n m k hx hy hn hm hk w

end Go.Proofs.Ytdkahkobdoolkaa
