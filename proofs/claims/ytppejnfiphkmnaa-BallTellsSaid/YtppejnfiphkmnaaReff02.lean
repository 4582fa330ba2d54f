/- Contract of the document's product, digit by digit (skylightref02). -/
import Derived.Test.YtppejnfiphkmnaaRefe02
namespace Go.Proofs.Ytppejnfiphkmnaa
open Go.RowKit Go.Proofs.Sky
set_option linter.unusedVariables false
set_option linter.unusedSimpArgs false
attribute [local go_sem ↓] Go.wp_at_zero Go.wp_at_succ

theorem Bk_store2 {w : World} {b : Nat} {t : TypeId} {u0 u1 v0 v1 : Value} (h : Bk w b t #[u0, u1]) : Bk ((w.setCell ⟨b, 0, none⟩ v0).setCell ⟨b, 1, none⟩ v1) b t #[v0, v1] :=
  ((h.set 0 v0).set 1 v1).cast (by simp)

theorem Bk_other2 {w : World} {b p : Nat} {t : TypeId} {cs : Array Value} {v0 v1 : Value} (h : Bk w b t cs) (hp : b ≠ p) : Bk ((w.setCell ⟨p, 0, none⟩ v0).setCell ⟨p, 1, none⟩ v1) b t cs :=
  (h.other (a := ⟨p, 0, none⟩) hp v0).other (a := ⟨p, 1, none⟩) hp v1

theorem keep2fe {w W w1 : World} {g : Nat} {u v : Value} {C : Prop} (hb : Below W.heap.size W w1) (h0 : Below w.heap.size w W) (hg : g < W.heap.size) (k0 : W.cell? ⟨g, 0, none⟩ = some u) (k1 : W.cell? ⟨g, 1, none⟩ = some v)
    (f0 : W.frozen? ⟨g, 0, none⟩ = false) (f1 : W.frozen? ⟨g, 1, none⟩ = false)
    (K : w1.cell? ⟨g, 0, none⟩ = some u → w1.cell? ⟨g, 1, none⟩ = some v → g < w1.heap.size → Below w.heap.size w w1 → w1.frozen? ⟨g, 0, none⟩ = false → w1.frozen? ⟨g, 1, none⟩ = false → C) : C := by
  obtain ⟨a, b, c, d⟩ := keep2 h0 hb hg k0 k1
  exact K a b c d ((hb.frozen (p := ⟨g, 0, none⟩) hg).trans f0) ((hb.frozen (p := ⟨g, 1, none⟩) hg).trans f1)

theorem add_congr {a b c : Int} (h : b % 340282366920938463463374607431768211456 = c % 340282366920938463463374607431768211456) : hii (a + b) = hii (a + c) ∧ lon (a + b) = lon (a + c) := by
  have := hii_congr (x := a + b) (y := a + c) (by omega)
  exact ⟨this.1, this.2.1⟩

theorem prod_range (u v : Int) (i j : Nat) : 0 ≤ dg u i * dg v j ∧ dg u i * dg v j ≤ 4294836225 := by
  obtain ⟨a, b⟩ := dg_range u i
  obtain ⟨c, d⟩ := dg_range v j
  exact ⟨Int.mul_nonneg a c, Int.mul_le_mul b d c (by omega)⟩

theorem rowP_range (u v : Int) (i n j : Nat) : 0 ≤ rowP u v i n j ∧ rowP u v i n j ≤ 4294836225 := by
  unfold rowP; split
  · exact prod_range _ _ _ _
  · omega

theorem rowP_zero (u v : Int) (i : Nat) : arr8 (rowP u v i 0) = #[.int .i64 0, .int .i64 0, .int .i64 0, .int .i64 0, .int .i64 0, .int .i64 0, .int .i64 0, .int .i64 0] := by
  have h : ∀ j, rowP u v i 0 j = 0 := fun j => by unfold rowP; rw [if_neg (by omega)]
  unfold arr8
  rw [h, h, h, h, h, h, h, h]

theorem times_end (u v : Int) : hii (sumP u v 8) = hii (u * v) ∧ lon (sumP u v 8) = lon (u * v) := by
  have h : sumP u v 8 % 340282366920938463463374607431768211456 = u * v % 340282366920938463463374607431768211456 := by rw [sumP_8, Int.mul_emod, Int.emod_emod, ← Int.mul_emod]
  have := hii_congr h
  exact ⟨this.1, this.2.1⟩

set_option maxHeartbeats 16000000 in
theorem ref2_times (u v : Int) (w : World) :
    Calls Try.prog 47 #[.agg #[.int .i64 (dg u 0), .int .i64 (dg u 1), .int .i64 (dg u 2), .int .i64 (dg u 3), .int .i64 (dg u 4), .int .i64 (dg u 5), .int .i64 (dg u 6), .int .i64 (dg u 7)], .agg #[.int .i64 (dg v 0), .int .i64 (dg v 1), .int .i64 (dg v 2), .int .i64 (dg v 3), .int .i64 (dg v 4), .int .i64 (dg v 5), .int .i64 (dg v 6), .int .i64 (dg v 7)]] w fun e w' => e = .returned (.agg #[.int .i64 (hii (u * v)), .int .u64 (lon (u * v) : Int)]) ∧ Below w.heap.size w w' := by
  have E8 := Lib.hid (times_end u v)
  go_enter Try.func47, Try.ntmps47
  go_wp2
  go_loopw [6] (fun s wr => ∃ k : Nat, k ≤ 8 ∧ s = .int .i64 k ∧ Bk wr w.heap.size 55 (arr8 (dg u)) ∧ Bk wr (w.heap.size + 1) 55 (arr8 (dg v)) ∧ Bk wr (w.heap.size + 2) 39 #[.int .i64 0, .int .u64 0] ∧
      Bk wr (w.heap.size + 3) 39 #[.int .i64 (hii (sumP u v k)), .int .u64 (lon (sumP u v k) : Int)] ∧ Below w.heap.size w wr) (fun s _ => 8 - (intOf s).toNat)
  case atStart =>
    have h0 : hii (sumP u v 0) = 0 := by show hii 0 = 0; decide
    have h1 : ((lon (sumP u v 0) : Nat) : Int) = 0 := by show ((lon 0 : Nat) : Int) = 0; decide
    refine ⟨0, by omega, rfl, ?_, ?_, ?_, ?_, by go_grown⟩
    all_goals
      try unfold arr8
      try simp only [h0, h1]
      repeat (first | ((with_reducible refine Bk.new_at _ _ _ _ ?_); (focus (first | (simp; done) | (simp; omega)))) | (with_reducible refine Bk.alloc ?_ _))
  case round =>
    obtain ⟨i, hi8, rfl, BG, BH, BT, BS, hB⟩ := hrel
    obtain ⟨wo, rfl⟩ : ∃ wo : World, wo = wr := ⟨_, rfl⟩
    have HG := Lib.hid BG
    have HH := Lib.hid BH
    have HT := Lib.hid BT
    have HS := Lib.hid BS
    have hsz : w.heap.size ≤ wo.heap.size := hB.size
    by_cases hi : i < 8
    · have i8 : (i : Int) < 8 := by omega
      have i0 : (0 : Int) ≤ (i : Int) := by omega
      clear BG BH BT BS
      go_wp2
      go_loopw [8] (fun s wr => ∃ m : Nat, m + i ≤ 8 ∧ s = .int .i64 m ∧ Bk wr w.heap.size 55 (arr8 (dg u)) ∧ Bk wr (w.heap.size + 1) 55 (arr8 (dg v)) ∧ Bk wr (w.heap.size + 2) 39 #[.int .i64 0, .int .u64 0] ∧
          Bk wr (w.heap.size + 3) 39 #[.int .i64 (hii (sumP u v i)), .int .u64 (lon (sumP u v i) : Int)] ∧ Bk wr wo.heap.size 55 (arr8 (rowP u v i m)) ∧ Below w.heap.size w wr ∧ w.heap.size + 3 < wo.heap.size) (fun s _ => 8 - (intOf s).toNat)
      case atStart =>
        have l3 := HS.out.lt
        exact ⟨0, by omega, rfl, HG.out.alloc _, HH.out.alloc _, HT.out.alloc _, HS.out.alloc _, (Bk.new _ _ _).cast (rowP_zero u v i).symm, by go_grown, l3⟩
      case round =>
        clear HG HH HT HS
        obtain ⟨m, hm8, rfl, BG, BH, BT, BS, BD, hB2, hlt⟩ := hrel
        have HG := Lib.hid BG
        have HH := Lib.hid BH
        have HT := Lib.hid BT
        have HS := Lib.hid BS
        by_cases hm : m + i < 8
        · have c1 : wr.cell? ⟨w.heap.size, i, none⟩ = some (.int .i64 (dg u i)) := BG.cell (arr8_get _ hi)
          have c2 : wr.cell? ⟨w.heap.size + 1, m, none⟩ = some (.int .i64 (dg v m)) := BH.cell (arr8_get _ (by omega))
          have c3 : wr.cell? ⟨wo.heap.size, m + i, none⟩ = some (.int .i64 (rowP u v i m (m + i))) := BD.cell (arr8_get _ hm)
          have f3 := BD.frozen (m + i)
          obtain ⟨s, hs⟩ : ∃ s, s = m + i := ⟨_, rfl⟩
          have e1 : (m : Int) + (i : Int) = (s : Int) := by omega
          have e2 : IntKind.i64.wrap (s : Int) = (s : Int) := by rw [i64w]; omega
          obtain ⟨x1, x2⟩ := prod_range u v i m
          obtain ⟨Z, hZ⟩ : ∃ Z, Z = dg u i * dg v m := ⟨_, rfl⟩
          have e3 : IntKind.i64.wrap (dg u i * dg v m) = Z := by rw [i64w, hZ]; omega
          have HD := Lib.hid BD
          have HSs := Lib.hid hs
          have HZ := Lib.hid hZ
          have HM := Lib.hid hm
          rw [← hs] at c3 f3 hm
          have s8 : (s : Int) < 8 := by omega
          have s0 : (0 : Int) ≤ (s : Int) := by omega
          have m0 : (0 : Int) ≤ (m : Int) := by omega
          have m8 : (m : Int) < 8 := by omega
          generalize rowP u v i m s = R0 at *
          generalize hX : dg u i = X at *
          generalize hY : dg v m = Y at *
          have HX := Lib.hid hX
          have HY := Lib.hid hY
          clear BG BH BT BS BD hs hZ x1 x2 hX hY
          go_wp2
          go_region_with (fail)
          all_goals
            go_wp2
            go_roundw
            case rel =>
              refine ⟨m + 1, by have := HM.out; omega, by go_num, HG.out.other (by simp; omega) _, HH.out.other (by simp; omega) _, HT.out.other (by simp; omega) _, HS.out.other (by simp; omega) _, ?_, by go_grown, hlt⟩
              refine HD.out.set8 hm ?_ fun j hj hjs => ?_
              · rw [HZ.out]; unfold rowP; rw [if_pos (by have := HSs.out; omega), show s - i = m by have := HSs.out; omega, HX.out, HY.out]
              · have := HSs.out
                unfold rowP
                by_cases h : i ≤ j ∧ j < i + m
                · rw [if_pos h, if_pos (by omega)]
                · rw [if_neg h, if_neg (by omega)]
            case measure => simp [intOf]; omega
        · obtain rfl : m = 8 - i := by omega
          have rm := row_mod u v hi
          have NB : ∀ w, Calls Try.prog 46 #[.agg #[.int .i64 (rowP u v i (8 - i) 0), .int .i64 (rowP u v i (8 - i) 1), .int .i64 (rowP u v i (8 - i) 2), .int .i64 (rowP u v i (8 - i) 3), .int .i64 (rowP u v i (8 - i) 4), .int .i64 (rowP u v i (8 - i) 5), .int .i64 (rowP u v i (8 - i) 6), .int .i64 (rowP u v i (8 - i) 7)]] w fun e w' => e = .returned (.agg #[.int .i64 (hii (num8 (rowP u v i (8 - i) 0) (rowP u v i (8 - i) 1) (rowP u v i (8 - i) 2) (rowP u v i (8 - i) 3) (rowP u v i (8 - i) 4) (rowP u v i (8 - i) 5) (rowP u v i (8 - i) 6) (rowP u v i (8 - i) 7))), .int .u64 (lon (num8 (rowP u v i (8 - i) 0) (rowP u v i (8 - i) 1) (rowP u v i (8 - i) 2) (rowP u v i (8 - i) 3) (rowP u v i (8 - i) 4) (rowP u v i (8 - i) 5) (rowP u v i (8 - i) 6) (rowP u v i (8 - i) 7)) : Int)]) ∧ Below w.heap.size w w' := fun w => by
            have h := rowP_range u v i (8 - i)
            exact ref2_number (rowP u v i (8 - i) 0) (rowP u v i (8 - i) 1) (rowP u v i (8 - i) 2) (rowP u v i (8 - i) 3) (rowP u v i (8 - i) 4) (rowP u v i (8 - i) 5) (rowP u v i (8 - i) 6) (rowP u v i (8 - i) 7) w (by have := h 0; omega) (by have := h 1; omega) (by have := h 2; omega) (by have := h 3; omega) (by have := h 4; omega) (by have := h 5; omega) (by have := h 6; omega) (by have := h 7; omega)
          have AB : ∀ w, Calls Try.prog 33 #[.agg #[.int .i64 (hii (sumP u v i)), .int .u64 (lon (sumP u v i) : Int)], .agg #[.int .i64 (hii (num8 (rowP u v i (8 - i) 0) (rowP u v i (8 - i) 1) (rowP u v i (8 - i) 2) (rowP u v i (8 - i) 3) (rowP u v i (8 - i) 4) (rowP u v i (8 - i) 5) (rowP u v i (8 - i) 6) (rowP u v i (8 - i) 7))), .int .u64 (lon (num8 (rowP u v i (8 - i) 0) (rowP u v i (8 - i) 1) (rowP u v i (8 - i) 2) (rowP u v i (8 - i) 3) (rowP u v i (8 - i) 4) (rowP u v i (8 - i) 5) (rowP u v i (8 - i) 6) (rowP u v i (8 - i) 7)) : Int)]] w fun e w' => e = .returned (.agg #[.int .i64 (hii (sumP u v (i + 1))), .int .u64 (lon (sumP u v (i + 1)) : Int)]) ∧ Below w.heap.size w w' := fun w => by
            have h := ref2_Add (sumP u v i) (num8 (rowP u v i (8 - i) 0) (rowP u v i (8 - i) 1) (rowP u v i (8 - i) 2) (rowP u v i (8 - i) 3) (rowP u v i (8 - i) 4) (rowP u v i (8 - i) 5) (rowP u v i (8 - i) 6) (rowP u v i (8 - i) 7)) w
            rw [(add_congr rm).1, (add_congr rm).2] at h
            exact h
          have HNB := Lib.hid NB
          have HAB := Lib.hid AB
          clear NB AB rm
          have c0 : wr.cell? ⟨wo.heap.size, 0, none⟩ = some (.int .i64 (rowP u v i (8 - i) 0)) := BD.cell rfl
          have c1 : wr.cell? ⟨wo.heap.size, 1, none⟩ = some (.int .i64 (rowP u v i (8 - i) 1)) := BD.cell rfl
          have c2 : wr.cell? ⟨wo.heap.size, 2, none⟩ = some (.int .i64 (rowP u v i (8 - i) 2)) := BD.cell rfl
          have c3 : wr.cell? ⟨wo.heap.size, 3, none⟩ = some (.int .i64 (rowP u v i (8 - i) 3)) := BD.cell rfl
          have c4 : wr.cell? ⟨wo.heap.size, 4, none⟩ = some (.int .i64 (rowP u v i (8 - i) 4)) := BD.cell rfl
          have c5 : wr.cell? ⟨wo.heap.size, 5, none⟩ = some (.int .i64 (rowP u v i (8 - i) 5)) := BD.cell rfl
          have c6 : wr.cell? ⟨wo.heap.size, 6, none⟩ = some (.int .i64 (rowP u v i (8 - i) 6)) := BD.cell rfl
          have c7 : wr.cell? ⟨wo.heap.size, 7, none⟩ = some (.int .i64 (rowP u v i (8 - i) 7)) := BD.cell rfl
          have s0 : wr.cell? ⟨w.heap.size + 3, 0, none⟩ = some (.int .i64 (hii (sumP u v i))) := BS.cell rfl
          have s1 : wr.cell? ⟨w.heap.size + 3, 1, none⟩ = some (.int .u64 (lon (sumP u v i) : Int)) := BS.cell rfl
          have hw3 : w.heap.size + 3 < wr.heap.size := BS.lt
          have fs0 := BS.frozen 0
          have fs1 := BS.frozen 1
          have y2 : w.heap.size ≤ wr.heap.size := hB2.size
          clear BG BH BT BS BD
          go_wp2
          go_region_with (first
            | (go_at_call 46; refine (HNB.out _).mono ?_; rintro e wn ⟨rfl, hbn⟩; have HSn := Lib.hid (Bk.below (Bk.drew HS.out) hbn); have nn0 := HSn.out.cell (i := 0) rfl; have nn1 := HSn.out.cell (i := 1) rfl; have yn : Below w.heap.size w wn := Below.trans (by go_grown) (hbn.mono (by first | exact y2 | (simp; exact y2))))
            | (go_at_call 33; refine (HAB.out _).mono ?_; rintro e wk ⟨rfl, hbk⟩; have HSk := Lib.hid (Bk.below HSn.out hbk); have kk0 := HSk.out.cell (i := 0) rfl; have kk1 := HSk.out.cell (i := 1) rfl; have kf0 := HSk.out.frozen 0; have kf1 := HSk.out.frozen 1; have yk : Below w.heap.size w wk := Below.trans yn (hbk.mono yn.size)))
          all_goals
            go_wp2
            go_roundw
            case rel =>
              refine ⟨i + 1, by omega, by go_num, ?_, ?_, ?_, ?_, by go_grown⟩
              · exact Bk_other2 (Bk.below (Bk.below (Bk.drew HG.out) hbn) hbk) (by omega)
              · exact Bk_other2 (Bk.below (Bk.below (Bk.drew HH.out) hbn) hbk) (by omega)
              · exact Bk_other2 (Bk.below (Bk.below (Bk.drew HT.out) hbn) hbk) (by omega)
              · exact Bk_store2 HSk.out
            case measure => simp [intOf]; omega
    · obtain rfl : i = 8 := by omega
      obtain ⟨e1, e2⟩ := E8.out
      have s0 : wo.cell? ⟨w.heap.size + 3, 0, none⟩ = some (.int .i64 (hii (u * v))) := by rw [← e1]; exact BS.cell rfl
      have s1 : wo.cell? ⟨w.heap.size + 3, 1, none⟩ = some (.int .u64 (lon (u * v) : Int)) := by rw [← e2]; exact BS.cell rfl
      have kt0 : wo.cell? ⟨w.heap.size + 2, 0, none⟩ = some (.int .i64 0) := BT.cell rfl
      have kt1 : wo.cell? ⟨w.heap.size + 2, 1, none⟩ = some (.int .u64 0) := BT.cell rfl
      have ft0 := BT.frozen 0
      have ft1 := BT.frozen 1
      clear BG BH BT BS HG HH HT HS e1 e2
      go_wp2
      exact bodyPost_ret (v := .agg #[.int .i64 (hii (u * v)), .int .u64 (lon (u * v) : Int)]) (by simp [results, Try.results47, go_sem, kt0, kt1]) rfl ⟨rfl, by go_grown⟩

theorem ref2_Mul (a b : Int) (w : World) (ha : I64 a) (hb : I64 b) :
    Calls Try.prog 29 #[.int .i64 a, .int .i64 b] w fun e w' => e = .returned (.agg #[.int .i64 (hii (a * b)), .int .u64 (lon (a * b) : Int)]) ∧ Below w.heap.size w w' := by
  have O1 := Lib.hid (fun w => ref2_Of a w ha)
  have O2 := Lib.hid (fun w => ref2_Of b w hb)
  have D1 := Lib.hid (fun w => ref2_digits a w)
  have D2 := Lib.hid (fun w => ref2_digits b w)
  have TT := Lib.hid (fun w => ref2_times a b w)
  clear ha hb
  go_enter Try.func29, Try.ntmps29
  go_wp2_with (first
    | (go_at_call 48; ((with_reducible refine (O1.out _).mono ?_)); rintro e wa ⟨rfl, hba⟩; refine keep2fe (w := w) (g := w.heap.size) (u := .int .i64 0) (v := .int .u64 0) hba ?_ ?_ ?_ ?_ ?_ ?_ ?_; (focus go_grown); (focus (first | (with_reducible assumption) | (simp; done) | (simp; omega) | omega)); (focus (first | (with_reducible assumption) | (simp; done) | (simp [*, go_sem]; done))); (focus (first | (with_reducible assumption) | (simp; done) | (simp [*, go_sem]; done))); (focus (first | (with_reducible assumption) | (simp; done) | (simp [*, go_sem]; done))); (focus (first | (with_reducible assumption) | (simp; done) | (simp [*, go_sem]; done))); intro k0a k1a k2a y0a f0a f1a; clear hba)
    | (go_at_call 35; ((with_reducible refine (D1.out _).mono ?_)); rintro e wb ⟨rfl, hba⟩; refine keep2fe (w := w) (g := w.heap.size) (u := .int .i64 0) (v := .int .u64 0) hba ?_ ?_ ?_ ?_ ?_ ?_ ?_; (focus go_grown); (focus (first | (with_reducible assumption) | (simp; done) | (simp; omega) | omega)); (focus (first | (with_reducible assumption) | (simp; done) | (simp [*, go_sem]; done))); (focus (first | (with_reducible assumption) | (simp; done) | (simp [*, go_sem]; done))); (focus (first | (with_reducible assumption) | (simp; done) | (simp [*, go_sem]; done))); (focus (first | (with_reducible assumption) | (simp; done) | (simp [*, go_sem]; done))); intro k0b k1b k2b y0b f0b f1b; clear hba)
    | (go_at_call 48; ((with_reducible refine (O2.out _).mono ?_)); rintro e wc ⟨rfl, hba⟩; refine keep2fe (w := w) (g := w.heap.size) (u := .int .i64 0) (v := .int .u64 0) hba ?_ ?_ ?_ ?_ ?_ ?_ ?_; (focus go_grown); (focus (first | (with_reducible assumption) | (simp; done) | (simp; omega) | omega)); (focus (first | (with_reducible assumption) | (simp; done) | (simp [*, go_sem]; done))); (focus (first | (with_reducible assumption) | (simp; done) | (simp [*, go_sem]; done))); (focus (first | (with_reducible assumption) | (simp; done) | (simp [*, go_sem]; done))); (focus (first | (with_reducible assumption) | (simp; done) | (simp [*, go_sem]; done))); intro k0c k1c k2c y0c f0c f1c; clear hba)
    | (go_at_call 35; ((with_reducible refine (D2.out _).mono ?_)); rintro e wd ⟨rfl, hba⟩; refine keep2fe (w := w) (g := w.heap.size) (u := .int .i64 0) (v := .int .u64 0) hba ?_ ?_ ?_ ?_ ?_ ?_ ?_; (focus go_grown); (focus (first | (with_reducible assumption) | (simp; done) | (simp; omega) | omega)); (focus (first | (with_reducible assumption) | (simp; done) | (simp [*, go_sem]; done))); (focus (first | (with_reducible assumption) | (simp; done) | (simp [*, go_sem]; done))); (focus (first | (with_reducible assumption) | (simp; done) | (simp [*, go_sem]; done))); (focus (first | (with_reducible assumption) | (simp; done) | (simp [*, go_sem]; done))); intro k0d k1d k2d y0d f0d f1d; clear hba)
    | (go_at_call 47; refine (TT.out _).mono ?_; rintro e we ⟨rfl, hba⟩; refine keep2fe (w := w) (g := w.heap.size) (u := .int .i64 0) (v := .int .u64 0) hba ?_ ?_ ?_ ?_ ?_ ?_ ?_; (focus go_grown); (focus (first | (with_reducible assumption) | (simp; done) | (simp; omega) | omega)); (focus (first | (with_reducible assumption) | (simp; done) | (simp [*, go_sem]; done))); (focus (first | (with_reducible assumption) | (simp; done) | (simp [*, go_sem]; done))); (focus (first | (with_reducible assumption) | (simp; done) | (simp [*, go_sem]; done))); (focus (first | (with_reducible assumption) | (simp; done) | (simp [*, go_sem]; done))); intro k0e k1e k2e y0e f0e f1e; clear hba))
  exact bodyPost_ret (v := .agg #[.int .i64 (hii (a * b)), .int .u64 (lon (a * b) : Int)]) (by simp [results, Try.results29, go_sem, k0e, k1e]) rfl ⟨rfl, by go_grown⟩

theorem ref2_square (n : Nat) (w : World) (hn : n < 18446744073709551616) :
    Calls Try.prog 45 #[.int .u64 n] w fun e w' => e = .returned (.agg #[.int .i64 (hii ((n : Int) * n)), .int .u64 (lon ((n : Int) * n) : Int)]) ∧ Below w.heap.size w w' := by
  have DD := fun w => ref2_digits (n : Int) w
  rw [show hii (n : Int) = 0 by unfold hii; omega, show lon (n : Int) = n by unfold lon; omega] at DD
  have D1 := Lib.hid DD
  have TT := Lib.hid (fun w => ref2_times (n : Int) (n : Int) w)
  have R0 := dg_range (n : Int) 0
  clear DD hn R0
  go_enter Try.func45, Try.ntmps45
  go_wp2_with (first
    | (go_at_call 35; ((with_reducible refine (D1.out _).mono ?_)); rintro e wb ⟨rfl, hba⟩; refine keep2fe (w := w) (g := w.heap.size) (u := .int .i64 0) (v := .int .u64 0) hba ?_ ?_ ?_ ?_ ?_ ?_ ?_; (focus go_grown); (focus (first | (with_reducible assumption) | (simp; done) | (simp; omega) | omega)); (focus (first | (with_reducible assumption) | (simp; done) | (simp [*, go_sem]; done))); (focus (first | (with_reducible assumption) | (simp; done) | (simp [*, go_sem]; done))); (focus (first | (with_reducible assumption) | (simp; done) | (simp [*, go_sem]; done))); (focus (first | (with_reducible assumption) | (simp; done) | (simp [*, go_sem]; done))); intro k0b k1b k2b y0b f0b f1b; clear hba)
    | (go_at_call 47; refine (TT.out _).mono ?_; rintro e we ⟨rfl, hba⟩; refine keep2fe (w := w) (g := w.heap.size) (u := .int .i64 0) (v := .int .u64 0) hba ?_ ?_ ?_ ?_ ?_ ?_ ?_; (focus go_grown); (focus (first | (with_reducible assumption) | (simp; done) | (simp; omega) | omega)); (focus (first | (with_reducible assumption) | (simp; done) | (simp [*, go_sem]; done))); (focus (first | (with_reducible assumption) | (simp; done) | (simp [*, go_sem]; done))); (focus (first | (with_reducible assumption) | (simp; done) | (simp [*, go_sem]; done))); (focus (first | (with_reducible assumption) | (simp; done) | (simp [*, go_sem]; done))); intro k0e k1e k2e y0e f0e f1e; clear hba))
  exact bodyPost_ret (v := .agg #[.int .i64 (hii ((n : Int) * n)), .int .u64 (lon ((n : Int) * n) : Int)]) (by simp [results, Try.results45, go_sem, k0e, k1e]) rfl ⟨rfl, by go_grown⟩

end Go.Proofs.Ytppejnfiphkmnaa
