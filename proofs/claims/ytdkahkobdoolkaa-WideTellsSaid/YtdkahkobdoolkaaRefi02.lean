/- Contract of the document's quotient, where there is one (skylightref02). -/
import Derived.Test.YtdkahkobdoolkaaRefh02
namespace Go.Proofs.Ytdkahkobdoolkaa
open Go.RowKit Go.Proofs.Sky
set_option linter.unusedVariables false
set_option linter.unusedSimpArgs false
attribute [local go_sem ↓] Go.wp_at_zero Go.wp_at_succ

set_option maxHeartbeats 16000000 in
theorem ref2_Over_main (x d : Int) (w : World) (hx : W128 x) (hd : I64 d) (h1 : 1 ≤ d) (h2 : -9223372036854775808 * d ≤ x) (h3 : x - 9223372036854775807 * d < d) :
    Calls Try.prog 10 #[.agg #[.int .i64 (hii x), .int .u64 (lon x : Int)], .int .i64 d] w fun e w' => e = .returned (.tuple #[.int .i64 (x / d), .bool true]) ∧ Below w.heap.size w w' := by
  have hd' := hd
  unfold I64 at hd'
  have hx' := hx
  unfold W128 at hx'
  obtain ⟨m1, m2⟩ := mul_W128 (c := -9223372036854775808) (d := d) (by omega) (by omega) h1 hd'.2
  obtain ⟨m3, m4⟩ := mul_W128 (c := 9223372036854775807) (d := d) (by omega) (by omega) h1 hd'.2
  have M1 := Lib.hid (fun w => ref2_Mul (-9223372036854775808) d w (by unfold I64; omega) hd)
  have C1 := Lib.hid (fun w => ref2_Cmp x (-9223372036854775808 * d) w hx (by unfold W128; omega))
  have M2 := Lib.hid (fun w => ref2_Mul 9223372036854775807 d w (by unfold I64; omega) hd)
  have S1 := Lib.hid (fun w => ref2_Sub x (9223372036854775807 * d) w)
  have O1 := Lib.hid (fun w => ref2_Of d w hd)
  have C2 := Lib.hid (fun w => ref2_Cmp (x - 9223372036854775807 * d) d w (by unfold W128; omega) (by unfold W128; omega))
  have hc1 : decide (cmpI x (-9223372036854775808 * d) < 0) = false := decide_eq_false (by unfold cmpI; (repeat' split) <;> omega)
  have hb : decide (d < 1) = false := decide_eq_false (by omega)
  have hc2 : decide (0 ≤ cmpI (x - 9223372036854775807 * d) d) = false := decide_eq_false (by unfold cmpI; rw [if_pos (by omega)]; omega)
  have HD := Lib.hid (And.intro h1 hd'.2)
  have HX := Lib.hid hx
  have g1 : -9223372036854775808 ≤ x / d := (le_div h1).2 h2
  have g2 : x / d < 9223372036854775808 := (div_lt h1).2 (by omega)
  have gs : x < 0 → x / d < 0 := fun h => (div_lt h1).2 (by omega)
  have gp : 0 ≤ x → 0 ≤ x / d := fun h => Int.ediv_nonneg h (by omega)
  obtain ⟨T, hT⟩ : ∃ T, T = if x / d < 0 then x / d else -1 := ⟨_, rfl⟩
  have LE := Lib.hid (fun (c : Int) (_ : c < 0) (h : c ≤ T) => show c * d ≤ x from (le_div h1).1 (by rw [hT] at h; split at h <;> omega))
  have LT := Lib.hid (fun (c : Int) (hc : c < 0) (h : T < c) => show x < c * d from (div_lt h1).1 (by rw [hT] at h; split at h <;> omega))
  have LE2 := Lib.hid (fun (c : Int) (_ : c < 9223372036854775808) (h : c ≤ x / d) => show c * d ≤ x from (le_div h1).1 h)
  have LT2 := Lib.hid (fun (c : Int) (_ : c < 9223372036854775808) (h : x / d < c) => show x < c * d from (div_lt h1).1 h)
  have QS7 := Lib.hid (show QBits T (-9223372036854775808) 63 0 from ⟨by omega, by rw [hT]; split <;> omega, by rw [hT]; split <;> omega, by omega, by omega⟩)
  have QS8 := Lib.hid (fun (h : 0 ≤ x) => show QBits (x / d) 0 63 9223372036854775808 from ⟨by omega, gp h, by have := g2; omega, by omega, by omega⟩)
  have NEG := Lib.hid (fun (h : x < 0) => show T = x / d ∧ T < 0 ∧ decide (cmpI (0 * d) x ≤ 0) = false from ⟨by rw [hT, if_pos (gs h)], by rw [hT, if_pos (gs h)]; exact gs h, cmp_le_no (by omega)⟩)
  have POS := Lib.hid (fun (h : 0 ≤ x) => show T = -1 ∧ decide (cmpI (0 * d) x ≤ 0) = true from ⟨by rw [hT, if_neg (by have := gp h; omega)], cmp_le_yes (by omega)⟩)
  have M0 := Lib.hid (fun w => ref2_Mul 0 d w (by unfold I64; omega) hd)
  have C0 := Lib.hid (fun w => ref2_Cmp (0 * d) x w (by unfold W128; omega) hx)
  generalize cmpI x (-9223372036854775808 * d) = c1 at *
  generalize cmpI (x - 9223372036854775807 * d) d = c2 at *
  generalize hii (-9223372036854775808 * d) = s1 at *
  generalize lon (-9223372036854775808 * d) = s2 at *
  generalize hii (x - 9223372036854775807 * d) = u1 at *
  generalize lon (x - 9223372036854775807 * d) = u2 at *
  generalize hii (9223372036854775807 * d) = t1 at *
  generalize lon (9223372036854775807 * d) = t2 at *
  generalize hii d = v1 at *
  generalize lon d = v2 at *
  clear hT g1 g2 gs gp h1 h2 h3 m1 m2 m3 m4 hd hd' hx hx'
  go_enter Try.func10, Try.ntmps10
  go_wp2
  go_region_held3 (fun w' => w'.cell? ⟨w.heap.size, 0, none⟩ = some (.int .i64 (hii x)) ∧ w'.cell? ⟨w.heap.size, 1, none⟩ = some (.int .u64 (lon x : Int))) (first | (refine ⟨?_, ?_⟩ <;> (first | assumption | (simp; assumption))) | go_keep)
    (first
      | (go_at_call 15; ((with_reducible refine (M1.out _).mono ?_)); rintro e wa ⟨rfl, hba⟩; refine keep2e (w := w) (g := w.heap.size) (u := .int .i64 (hii x)) (v := .int .u64 (lon x : Int)) hba ?_ ?_ ?_ ?_ ?_; (focus go_grown); (focus (first | (with_reducible assumption) | (simp; done) | (simp; omega) | omega)); (focus (first | (with_reducible assumption) | (simp; done) | (simp [*, go_sem]; done))); (focus (first | (with_reducible assumption) | (simp; done) | (simp [*, go_sem]; done))); intro k0a k1a k2a y0a; clear hba)
      | (go_at_call 21; ((with_reducible refine (C1.out _).mono ?_)); rintro e wb ⟨rfl, hbb⟩; refine keep2e (w := w) (g := w.heap.size) (u := .int .i64 (hii x)) (v := .int .u64 (lon x : Int)) hbb ?_ ?_ ?_ ?_ ?_; (focus go_grown); (focus (first | (with_reducible assumption) | (simp; done) | (simp; omega) | omega)); (focus (first | (with_reducible assumption) | (simp; done) | (simp [*, go_sem]; done))); (focus (first | (with_reducible assumption) | (simp; done) | (simp [*, go_sem]; done))); intro k0b k1b k2b y0b; clear hbb)
      | (go_at_call 15; ((with_reducible refine (M2.out _).mono ?_)); rintro e wc ⟨rfl, hbc⟩; refine keep2e (w := w) (g := w.heap.size) (u := .int .i64 (hii x)) (v := .int .u64 (lon x : Int)) hbc ?_ ?_ ?_ ?_ ?_; (focus go_grown); (focus (first | (with_reducible assumption) | (simp; done) | (simp; omega) | omega)); (focus (first | (with_reducible assumption) | (simp; done) | (simp [*, go_sem]; done))); (focus (first | (with_reducible assumption) | (simp; done) | (simp [*, go_sem]; done))); intro k0c k1c k2c y0c; clear hbc)
      | (go_at_call 19; ((with_reducible refine (S1.out _).mono ?_)); rintro e wd ⟨rfl, hbd⟩; refine keep2e (w := w) (g := w.heap.size) (u := .int .i64 (hii x)) (v := .int .u64 (lon x : Int)) hbd ?_ ?_ ?_ ?_ ?_; (focus go_grown); (focus (first | (with_reducible assumption) | (simp; done) | (simp; omega) | omega)); (focus (first | (with_reducible assumption) | (simp; done) | (simp [*, go_sem]; done))); (focus (first | (with_reducible assumption) | (simp; done) | (simp [*, go_sem]; done))); intro k0d k1d k2d y0d; clear hbd)
      | (go_at_call 13; ((with_reducible refine (O1.out _).mono ?_)); rintro e we ⟨rfl, hbe⟩; refine keep2e (w := w) (g := w.heap.size) (u := .int .i64 (hii x)) (v := .int .u64 (lon x : Int)) hbe ?_ ?_ ?_ ?_ ?_; (focus go_grown); (focus (first | (with_reducible assumption) | (simp; done) | (simp; omega) | omega)); (focus (first | (with_reducible assumption) | (simp; done) | (simp [*, go_sem]; done))); (focus (first | (with_reducible assumption) | (simp; done) | (simp [*, go_sem]; done))); intro k0e k1e k2e y0e; clear hbe)
      | (go_at_call 21; ((with_reducible refine (C2.out _).mono ?_)); rintro e wf ⟨rfl, hbf⟩; refine keep2e (w := w) (g := w.heap.size) (u := .int .i64 (hii x)) (v := .int .u64 (lon x : Int)) hbf ?_ ?_ ?_ ?_ ?_; (focus go_grown); (focus (first | (with_reducible assumption) | (simp; done) | (simp; omega) | omega)); (focus (first | (with_reducible assumption) | (simp; done) | (simp [*, go_sem]; done))); (focus (first | (with_reducible assumption) | (simp; done) | (simp [*, go_sem]; done))); intro k0f k1f k2f y0f; clear hbf))
  all_goals go_wp2
  clear M1 C1 M2 S1 O1 C2 hc1 hc2 hb
  go_loopw [6, 7] (fun u v wr => ∃ (m : Nat) (q : Int), QBits T q m 0 ∧ u = .int .i64 q ∧ v = .int .i64 ((m : Int) - 1) ∧ wr.cell? ⟨w.heap.size, 0, none⟩ = some (.int .i64 (hii x)) ∧ wr.cell? ⟨w.heap.size, 1, none⟩ = some (.int .u64 (lon x : Int)) ∧ w.heap.size < wr.heap.size ∧ Below w.heap.size w wr) (fun _ v _ => (intOf v + 1).toNat)
  case atStart =>
    refine ⟨63, (-9223372036854775808), QS7.out, rfl, rfl, ?_, ?_, ?_, by go_grown⟩
    all_goals first | assumption | (simp; done) | (simp [*, go_sem]; done)
  case round =>
    clear k0f k1f k2f
    obtain ⟨m, q, hi, rfl, rfl, k0, k1, k2, hB⟩ := hrel
    match m, hi with
    | 0, hi =>
      obtain rfl : T = q := hi.done.symm
      clear hi
      by_cases h0 : x < 0
      · obtain ⟨hT, hneg, hc0⟩ := NEG.out h0
        have HT := Lib.hid hT
        have qb : decide (T < 0) = true := decide_eq_true (by omega)
        generalize cmpI (0 * d) x = cc at *
        generalize hii (0 * d) = r1 at *
        generalize lon (0 * d) = r2 at *
        clear hT h0 hneg
        go_wp2
        first
          | go_region_with (first
            | (go_at_call 15; ((with_reducible refine (M0.out _).mono ?_)); rintro e wm ⟨rfl, hbm⟩; refine keep2e (w := w) (g := w.heap.size) (u := .int .i64 (hii x)) (v := .int .u64 (lon x : Int)) hbm ?_ ?_ ?_ ?_ ?_; (focus go_grown); (focus (first | (with_reducible assumption) | (simp; done) | (simp; omega) | omega)); (focus (first | (with_reducible assumption) | (simp; done) | (simp [*, go_sem]; done))); (focus (first | (with_reducible assumption) | (simp; done) | (simp [*, go_sem]; done))); intro k0m k1m k2m y0m; clear hbm)
            | (go_at_call 21; ((with_reducible refine (C0.out _).mono ?_)); rintro e wn ⟨rfl, hbn⟩; refine keep2e (w := w) (g := w.heap.size) (u := .int .i64 (hii x)) (v := .int .u64 (lon x : Int)) hbn ?_ ?_ ?_ ?_ ?_; (focus go_grown); (focus (first | (with_reducible assumption) | (simp; done) | (simp; omega) | omega)); (focus (first | (with_reducible assumption) | (simp; done) | (simp [*, go_sem]; done))); (focus (first | (with_reducible assumption) | (simp; done) | (simp [*, go_sem]; done))); intro k0n k1n k2n y0n; clear hbn))
          | fail
        all_goals go_wp2
        all_goals go_ret2
        all_goals exact ⟨by rw [← HT.out]; rfl, by go_grown⟩
      · obtain ⟨hT, hc0⟩ := POS.out (by omega)
        have H0 := Lib.hid (show 0 ≤ x by omega)
        subst hT
        generalize cmpI (0 * d) x = cc at *
        generalize hii (0 * d) = r1 at *
        generalize lon (0 * d) = r2 at *
        clear h0
        go_wp2
        go_region_held3 (fun w' => w'.cell? ⟨w.heap.size, 0, none⟩ = some (.int .i64 (hii x)) ∧ w'.cell? ⟨w.heap.size, 1, none⟩ = some (.int .u64 (lon x : Int))) (first | (refine ⟨?_, ?_⟩ <;> (first | assumption | (simp; assumption))) | go_keep)
          (first
            | (go_at_call 15; ((with_reducible refine (M0.out _).mono ?_)); rintro e wm ⟨rfl, hbm⟩; refine keep2e (w := w) (g := w.heap.size) (u := .int .i64 (hii x)) (v := .int .u64 (lon x : Int)) hbm ?_ ?_ ?_ ?_ ?_; (focus go_grown); (focus (first | (with_reducible assumption) | (simp; done) | (simp; omega) | omega)); (focus (first | (with_reducible assumption) | (simp; done) | (simp [*, go_sem]; done))); (focus (first | (with_reducible assumption) | (simp; done) | (simp [*, go_sem]; done))); intro k0m k1m k2m y0m; clear hbm)
            | (go_at_call 21; ((with_reducible refine (C0.out _).mono ?_)); rintro e wn ⟨rfl, hbn⟩; refine keep2e (w := w) (g := w.heap.size) (u := .int .i64 (hii x)) (v := .int .u64 (lon x : Int)) hbn ?_ ?_ ?_ ?_ ?_; (focus go_grown); (focus (first | (with_reducible assumption) | (simp; done) | (simp; omega) | omega)); (focus (first | (with_reducible assumption) | (simp; done) | (simp [*, go_sem]; done))); (focus (first | (with_reducible assumption) | (simp; done) | (simp [*, go_sem]; done))); intro k0n k1n k2n y0n; clear hbn))
        all_goals go_wp2
        go_loopw [6, 8] (fun u v wr => ∃ (m : Nat) (q : Int), QBits (x / d) q m 9223372036854775808 ∧ u = .int .i64 q ∧ v = .int .i64 ((m : Int) - 1) ∧ wr.cell? ⟨w.heap.size, 0, none⟩ = some (.int .i64 (hii x)) ∧ wr.cell? ⟨w.heap.size, 1, none⟩ = some (.int .u64 (lon x : Int)) ∧ w.heap.size < wr.heap.size ∧ Below w.heap.size w wr) (fun _ v _ => (intOf v + 1).toNat)
        case atStart =>
          refine ⟨63, 0, (QS8.out H0.out), rfl, rfl, ?_, ?_, ?_, by go_grown⟩
          all_goals first | assumption | (simp; done) | (simp [*, go_sem]; done)
        case round =>
          clear k0n k1n k2n
          obtain ⟨m, q, hi, rfl, rfl, k0, k1, k2, hB⟩ := hrel
          match m, hi with
          | 0, hi =>
            obtain rfl : (x / d) = q := hi.done.symm
            clear hi
            go_wp2
            go_ret2
            exact ⟨rfl, by go_grown⟩
          | k + 1, hi =>
            obtain ⟨b, eb, hb1, hb2, hb3, hb4, hY, hN⟩ := hi.step (by omega)
            have e0 : ((((k + 1 : Nat) : Int)) - 1) = (k : Int) := by omega
            rw [e0]
            have HY := Lib.hid hY
            have HN := Lib.hid hN
            have p1 : IntKind.i64.wrap ((2 : Int) ^ k) = (b : Int) := by rw [eb, i64w]; omega
            have e64 : min k 64 = k := by have := hi.1; omega
            obtain ⟨c, hc⟩ : ∃ c, q + (b : Int) = c := ⟨_, rfl⟩
            rw [hc] at hb2 hb3 hb4 HY HN
            have p2 : IntKind.i64.wrap c = c := by rw [i64w]; omega
            obtain ⟨n1, n2⟩ := mul_W128 (c := c) (d := d) (by omega) (by omega) HD.out.1 HD.out.2
            have ML := Lib.hid (fun w => ref2_Mul c d w (by unfold I64; omega) (by have := HD.out; unfold I64; omega))
            have CM := Lib.hid (fun w => ref2_Cmp (c * d) x w (by unfold W128; omega) HX.out)
            by_cases h : c ≤ (x / d)
            · have hcm := cmp_le_yes (x := c * d) (y := x) (LE2.out c hb4 h)
              have H := Lib.hid h
              generalize cmpI (c * d) x = cc at *
              generalize hii (c * d) = r1 at *
              generalize lon (c * d) = r2 at *
              have PC := Lib.hid hc
              clear h hY hN eb e0 hb1 hb2 hb3 hb4 n1 n2 hi hc
              have hc := PC.out
              go_wp2
              go_region_held3 (fun w' => w'.cell? ⟨w.heap.size, 0, none⟩ = some (.int .i64 (hii x)) ∧ w'.cell? ⟨w.heap.size, 1, none⟩ = some (.int .u64 (lon x : Int))) (first | (refine ⟨?_, ?_⟩ <;> (first | assumption | (simp; assumption))) | go_keep)
                (first
                  | (go_at_call 15; ((with_reducible refine (ML.out _).mono ?_)); rintro e wm ⟨rfl, hbm⟩; refine keep2e (w := w) (g := w.heap.size) (u := .int .i64 (hii x)) (v := .int .u64 (lon x : Int)) hbm ?_ ?_ ?_ ?_ ?_; (focus go_grown); (focus (first | (with_reducible assumption) | (simp; done) | (simp; omega) | omega)); (focus (first | (with_reducible assumption) | (simp; done) | (simp [*, go_sem]; done))); (focus (first | (with_reducible assumption) | (simp; done) | (simp [*, go_sem]; done))); intro k0m k1m k2m y0m; clear hbm)
                  | (go_at_call 21; ((with_reducible refine (CM.out _).mono ?_)); rintro e wn ⟨rfl, hbn⟩; refine keep2e (w := w) (g := w.heap.size) (u := .int .i64 (hii x)) (v := .int .u64 (lon x : Int)) hbn ?_ ?_ ?_ ?_ ?_; (focus go_grown); (focus (first | (with_reducible assumption) | (simp; done) | (simp; omega) | omega)); (focus (first | (with_reducible assumption) | (simp; done) | (simp [*, go_sem]; done))); (focus (first | (with_reducible assumption) | (simp; done) | (simp [*, go_sem]; done))); intro k0n k1n k2n y0n; clear hbn))
              all_goals
                go_wp2
                go_roundw
                case rel => exact ⟨k, c, HY.out H.out, by go_num, by go_num, by first | assumption | simp [*, go_sem], by first | assumption | simp [*, go_sem], by first | assumption | (simp; omega) | omega, by go_grown⟩
                case measure => simp [intOf]
            · have hcm := cmp_le_no (x := c * d) (y := x) (LT2.out c hb4 (by omega))
              have H := Lib.hid (show (x / d) < c by omega)
              generalize cmpI (c * d) x = cc at *
              generalize hii (c * d) = r1 at *
              generalize lon (c * d) = r2 at *
              have PC := Lib.hid hc
              clear h hY hN eb e0 hb1 hb2 hb3 hb4 n1 n2 hi hc
              have hc := PC.out
              go_wp2
              go_region_held3 (fun w' => w'.cell? ⟨w.heap.size, 0, none⟩ = some (.int .i64 (hii x)) ∧ w'.cell? ⟨w.heap.size, 1, none⟩ = some (.int .u64 (lon x : Int))) (first | (refine ⟨?_, ?_⟩ <;> (first | assumption | (simp; assumption))) | go_keep)
                (first
                  | (go_at_call 15; ((with_reducible refine (ML.out _).mono ?_)); rintro e wm ⟨rfl, hbm⟩; refine keep2e (w := w) (g := w.heap.size) (u := .int .i64 (hii x)) (v := .int .u64 (lon x : Int)) hbm ?_ ?_ ?_ ?_ ?_; (focus go_grown); (focus (first | (with_reducible assumption) | (simp; done) | (simp; omega) | omega)); (focus (first | (with_reducible assumption) | (simp; done) | (simp [*, go_sem]; done))); (focus (first | (with_reducible assumption) | (simp; done) | (simp [*, go_sem]; done))); intro k0m k1m k2m y0m; clear hbm)
                  | (go_at_call 21; ((with_reducible refine (CM.out _).mono ?_)); rintro e wn ⟨rfl, hbn⟩; refine keep2e (w := w) (g := w.heap.size) (u := .int .i64 (hii x)) (v := .int .u64 (lon x : Int)) hbn ?_ ?_ ?_ ?_ ?_; (focus go_grown); (focus (first | (with_reducible assumption) | (simp; done) | (simp; omega) | omega)); (focus (first | (with_reducible assumption) | (simp; done) | (simp [*, go_sem]; done))); (focus (first | (with_reducible assumption) | (simp; done) | (simp [*, go_sem]; done))); intro k0n k1n k2n y0n; clear hbn))
              all_goals
                go_wp2
                go_roundw
                case rel => exact ⟨k, q, HN.out H.out, rfl, by go_num, by first | assumption | simp [*, go_sem], by first | assumption | simp [*, go_sem], by first | assumption | (simp; omega) | omega, by go_grown⟩
                case measure => simp [intOf]
    | k + 1, hi =>
      obtain ⟨b, eb, hb1, hb2, hb3, hb4, hY, hN⟩ := hi.step (by omega)
      have e0 : ((((k + 1 : Nat) : Int)) - 1) = (k : Int) := by omega
      rw [e0]
      have HY := Lib.hid hY
      have HN := Lib.hid hN
      have p1 : IntKind.i64.wrap ((2 : Int) ^ k) = (b : Int) := by rw [eb, i64w]; omega
      have e64 : min k 64 = k := by have := hi.1; omega
      obtain ⟨c, hc⟩ : ∃ c, q + (b : Int) = c := ⟨_, rfl⟩
      rw [hc] at hb2 hb3 hb4 HY HN
      have p2 : IntKind.i64.wrap c = c := by rw [i64w]; omega
      obtain ⟨n1, n2⟩ := mul_W128 (c := c) (d := d) (by omega) (by omega) HD.out.1 HD.out.2
      have ML := Lib.hid (fun w => ref2_Mul c d w (by unfold I64; omega) (by have := HD.out; unfold I64; omega))
      have CM := Lib.hid (fun w => ref2_Cmp (c * d) x w (by unfold W128; omega) HX.out)
      by_cases h : c ≤ T
      · have hcm := cmp_le_yes (x := c * d) (y := x) (LE.out c hb4 h)
        have H := Lib.hid h
        generalize cmpI (c * d) x = cc at *
        generalize hii (c * d) = r1 at *
        generalize lon (c * d) = r2 at *
        have PC := Lib.hid hc
        clear h hY hN eb e0 hb1 hb2 hb3 hb4 n1 n2 hi hc
        have hc := PC.out
        go_wp2
        go_region_held3 (fun w' => w'.cell? ⟨w.heap.size, 0, none⟩ = some (.int .i64 (hii x)) ∧ w'.cell? ⟨w.heap.size, 1, none⟩ = some (.int .u64 (lon x : Int))) (first | (refine ⟨?_, ?_⟩ <;> (first | assumption | (simp; assumption))) | go_keep)
          (first
            | (go_at_call 15; ((with_reducible refine (ML.out _).mono ?_)); rintro e wm ⟨rfl, hbm⟩; refine keep2e (w := w) (g := w.heap.size) (u := .int .i64 (hii x)) (v := .int .u64 (lon x : Int)) hbm ?_ ?_ ?_ ?_ ?_; (focus go_grown); (focus (first | (with_reducible assumption) | (simp; done) | (simp; omega) | omega)); (focus (first | (with_reducible assumption) | (simp; done) | (simp [*, go_sem]; done))); (focus (first | (with_reducible assumption) | (simp; done) | (simp [*, go_sem]; done))); intro k0m k1m k2m y0m; clear hbm)
            | (go_at_call 21; ((with_reducible refine (CM.out _).mono ?_)); rintro e wn ⟨rfl, hbn⟩; refine keep2e (w := w) (g := w.heap.size) (u := .int .i64 (hii x)) (v := .int .u64 (lon x : Int)) hbn ?_ ?_ ?_ ?_ ?_; (focus go_grown); (focus (first | (with_reducible assumption) | (simp; done) | (simp; omega) | omega)); (focus (first | (with_reducible assumption) | (simp; done) | (simp [*, go_sem]; done))); (focus (first | (with_reducible assumption) | (simp; done) | (simp [*, go_sem]; done))); intro k0n k1n k2n y0n; clear hbn))
        all_goals
          go_wp2
          go_roundw
          case rel => exact ⟨k, c, HY.out H.out, by go_num, by go_num, by first | assumption | simp [*, go_sem], by first | assumption | simp [*, go_sem], by first | assumption | (simp; omega) | omega, by go_grown⟩
          case measure => simp [intOf]
      · have hcm := cmp_le_no (x := c * d) (y := x) (LT.out c hb4 (by omega))
        have H := Lib.hid (show T < c by omega)
        generalize cmpI (c * d) x = cc at *
        generalize hii (c * d) = r1 at *
        generalize lon (c * d) = r2 at *
        have PC := Lib.hid hc
        clear h hY hN eb e0 hb1 hb2 hb3 hb4 n1 n2 hi hc
        have hc := PC.out
        go_wp2
        go_region_held3 (fun w' => w'.cell? ⟨w.heap.size, 0, none⟩ = some (.int .i64 (hii x)) ∧ w'.cell? ⟨w.heap.size, 1, none⟩ = some (.int .u64 (lon x : Int))) (first | (refine ⟨?_, ?_⟩ <;> (first | assumption | (simp; assumption))) | go_keep)
          (first
            | (go_at_call 15; ((with_reducible refine (ML.out _).mono ?_)); rintro e wm ⟨rfl, hbm⟩; refine keep2e (w := w) (g := w.heap.size) (u := .int .i64 (hii x)) (v := .int .u64 (lon x : Int)) hbm ?_ ?_ ?_ ?_ ?_; (focus go_grown); (focus (first | (with_reducible assumption) | (simp; done) | (simp; omega) | omega)); (focus (first | (with_reducible assumption) | (simp; done) | (simp [*, go_sem]; done))); (focus (first | (with_reducible assumption) | (simp; done) | (simp [*, go_sem]; done))); intro k0m k1m k2m y0m; clear hbm)
            | (go_at_call 21; ((with_reducible refine (CM.out _).mono ?_)); rintro e wn ⟨rfl, hbn⟩; refine keep2e (w := w) (g := w.heap.size) (u := .int .i64 (hii x)) (v := .int .u64 (lon x : Int)) hbn ?_ ?_ ?_ ?_ ?_; (focus go_grown); (focus (first | (with_reducible assumption) | (simp; done) | (simp; omega) | omega)); (focus (first | (with_reducible assumption) | (simp; done) | (simp [*, go_sem]; done))); (focus (first | (with_reducible assumption) | (simp; done) | (simp [*, go_sem]; done))); intro k0n k1n k2n y0n; clear hbn))
        all_goals
          go_wp2
          go_roundw
          case rel => exact ⟨k, q, HN.out H.out, rfl, by go_num, by first | assumption | simp [*, go_sem], by first | assumption | simp [*, go_sem], by first | assumption | (simp; omega) | omega, by go_grown⟩
          case measure => simp [intOf]

end Go.Proofs.Ytdkahkobdoolkaa
