/- Contract of the document's differences (skylightref02). -/
import Derived.Test.YtppejnfiphkmnaaRef02
namespace Go.Proofs.Ytppejnfiphkmnaa
open Go.RowKit Go.Proofs.Sky
set_option linter.unusedVariables false
set_option linter.unusedSimpArgs false
attribute [local go_sem ↓] Go.wp_at_zero Go.wp_at_succ

set_option maxHeartbeats 8000000 in
theorem ref2_Sub (x y : Int) (w : World) :
    Calls Try.prog 28 #[.agg #[.int .i64 (hii x), .int .u64 (lon x : Int)], .agg #[.int .i64 (hii y), .int .u64 (lon y : Int)]] w fun e w' =>
      e = .returned (.agg #[.int .i64 (hii (x - y)), .int .u64 (lon (x - y) : Int)]) ∧ Below w.heap.size w w' := by
  have z0 : w.heap.size < w.heap.size + 1 + 1 := by omega
  have z1 : w.heap.size < w.heap.size + 1 + 1 + 1 := by omega
  have z2 : w.heap.size < w.heap.size + 1 + 1 + 1 + 1 := by omega
  have z3 : w.heap.size < w.heap.size + 1 + 1 + 1 + 1 + 1 := by omega
  have D := Lib.hid (fun (x : Int) w => ref2_digits x w)
  go_enter Try.func28, Try.ntmps28
  go_upto_region 1 with fail
  go_cut [5, 6] (fun s5 s6 wx => ∃ p q : Nat, s5 = .pointer (some ⟨p, 0, none⟩) ∧ s6 = .pointer (some ⟨q, 0, none⟩) ∧ p ≠ q ∧ w.heap.size + 2 < p ∧ w.heap.size + 2 < q ∧ Bk wx (w.heap.size + 2) 39 #[.int .i64 0, .int .u64 0] ∧ Bk wx p 55 (arr8 (dg x)) ∧ Bk wx q 55 (arr8 (dg y)) ∧ Below w.heap.size w wx)
  case first =>
    go_region_held3 (fun w' => w'.cell? ⟨w.heap.size, 0, none⟩ = some (.int .i64 (hii x)) ∧ w'.cell? ⟨w.heap.size, 1, none⟩ = some (.int .u64 (lon x)) ∧
        w'.cell? ⟨w.heap.size + 1, 0, none⟩ = some (.int .i64 (hii y)) ∧ w'.cell? ⟨w.heap.size + 1, 1, none⟩ = some (.int .u64 (lon y)))
      (first | (simp (disch := first | omega | (simp only [World.size_alloc, World.size_setCell, World.size_drew]; omega)) [hca, hcb, ca, csf, List.getElem?_cons_zero, List.getElem?_cons_succ]; done) | (simp (disch := first | omega | (simp only [World.size_alloc, World.size_setCell, World.size_drew]; omega)) [hca, ca, csf, List.getElem?_cons_zero, List.getElem?_cons_succ]; done) | (simp (disch := first | omega | (simp only [World.size_alloc, World.size_setCell, World.size_drew]; omega)) [ca, csf, List.getElem?_cons_zero, List.getElem?_cons_succ]; done))
      (first
        | (go_at_call 35; ((with_reducible refine (D.out x _).mono ?_)); rintro e wa ⟨rfl, hba⟩; have hzwa := hba.size; (try simp at hzwa); (first | (refine below5e (w := w) w.heap.size ?_ hba ?_ ?_; (focus go_grown); (focus (first | omega | (simp; done) | (simp; omega))); intro hca hfa y0a x1a y1a y2a y3a y4a y5a y6a) | (refine below4e (w := w) w.heap.size ?_ hba ?_ ?_; (focus go_grown); (focus (first | omega | (simp; done) | (simp; omega))); intro hca hfa y0a x1a y1a y2a y3a y4a y5a) | (refine below3e (w := w) w.heap.size ?_ hba ?_ ?_; (focus go_grown); (focus (first | omega | (simp; done) | (simp; omega))); intro hca hfa y0a x1a y1a y2a y3a y4a) | (refine below2e (w := w) w.heap.size ?_ hba ?_ ?_; (focus go_grown); (focus (first | omega | (simp; done) | (simp; omega))); intro hca hfa y0a x1a y1a y2a y3a)))
        | (go_at_call 35; ((with_reducible refine (D.out y _).mono ?_)); rintro e wb ⟨rfl, hbb⟩; have hzwb := hbb.size; (try simp at hzwb); (first | (refine below5e (w := w) w.heap.size ?_ hbb ?_ ?_; (focus go_grown); (focus (first | omega | (simp; done) | (simp; omega))); intro hcb hfb y0b x1b y1b y2b y3b y4b y5b y6b) | (refine below4e (w := w) w.heap.size ?_ hbb ?_ ?_; (focus go_grown); (focus (first | omega | (simp; done) | (simp; omega))); intro hcb hfb y0b x1b y1b y2b y3b y4b y5b) | (refine below3e (w := w) w.heap.size ?_ hbb ?_ ?_; (focus go_grown); (focus (first | omega | (simp; done) | (simp; omega))); intro hcb hfb y0b x1b y1b y2b y3b y4b) | (refine below2e (w := w) w.heap.size ?_ hbb ?_ ?_; (focus go_grown); (focus (first | omega | (simp; done) | (simp; omega))); intro hcb hfb y0b x1b y1b y2b y3b)); (first | (refine ltk2 (n := wa.heap.size) (N := wb.heap.size) ?_ ?_; (focus omega); intro v1 v2) | (refine ltk1 (n := wa.heap.size) (N := wb.heap.size) ?_ ?_; (focus omega); intro v1) | skip)))
    all_goals (go_wp2_with fail; go_meet)
    all_goals
      refine ⟨_, _, rfl, rfl, ?_, ?_, ?_, ?_, ?_, ?_, ?_⟩
      all_goals first
        | ((try unfold arr8); (repeat (first | ((with_reducible refine Bk.new_at _ _ _ _ ?_); (focus (first | (simp; done) | (simp; omega)))) | (with_reducible refine Bk.drew ?_) | (with_reducible refine Bk.store8 ?_) | ((with_reducible refine Bk.other8 ?_ ?_); rotate_left; (focus omega)) | (with_reducible refine Bk.alloc ?_ _) | (with_reducible refine Bk.below ?_ hbb) | (with_reducible refine Bk.below ?_ hba))); done)
        | (focus omega)
        | (go_grown; done)
  case rest =>
    obtain ⟨p, q, rfl, rfl, hpq, hp, hq, T, P, Q, hB⟩ := hcut
    go_wp2
    go_loopw [7] (fun v wr => ∃ k : Nat, k ≤ 8 ∧ v = .int .i64 k ∧ Bk wr p 55 (arr8 (fun j => if j < k then dg x j + 65535 - dg y j else dg x j)) ∧ Bk wr q 55 (arr8 (dg y)) ∧
        Bk wr (w.heap.size + 2) 39 #[.int .i64 0, .int .u64 0] ∧ Below w.heap.size w wr) (fun v _ => 8 - (intOf v).toNat)
    case atStart => exact ⟨0, by omega, rfl, P, Q, T, hB⟩
    case round =>
      clear P Q T hB
      obtain ⟨k, hk8, rfl, P, Q, T, hB⟩ := hrel
      by_cases hk : k < 8
      · have c1 : wr.cell? ⟨p, k, none⟩ = some (.int .i64 (dg x k)) := by
          have := P.cell (arr8_get _ hk); simpa using this
        have c2 : wr.cell? ⟨q, k, none⟩ = some (.int .i64 (dg y k)) := Q.cell (arr8_get _ hk)
        have f1 := P.frozen k
        obtain ⟨r1, r2⟩ := dg_range x k
        obtain ⟨r3, r4⟩ := dg_range y k
        have P' := Lib.hid P
        have Q' := Lib.hid Q
        have T' := Lib.hid T
        have k0 : (0 : Int) ≤ (k : Int) := by omega
        have k8 : (k : Int) < 8 := by omega
        generalize hX : dg x k = X at *
        generalize hY : dg y k = Y at *
        have HX := Lib.hid hX
        have HY := Lib.hid hY
        clear hX hY P Q T
        have wr1 : IntKind.i64.wrap (X + 65535) = X + 65535 := by rw [i64w]; omega
        have wr2 : IntKind.i64.wrap (X + 65535 - Y) = X + 65535 - Y := by rw [i64w]; omega
        go_wp2
        go_region_with (fail)
        all_goals
          go_wp2
          go_roundw
          case rel =>
            refine ⟨k + 1, by omega, by go_num, ?_, Q'.out.other (fun e => hpq e.symm) _, T'.out.other (by simp; omega) _, by go_grown⟩
            refine P'.out.set8 hk ?_ fun j hj hjk => ?_
            · rw [if_pos (by omega), HX.out, HY.out]
            · by_cases h : j < k
              · rw [if_pos h, if_pos (by omega)]
              · rw [if_neg h, if_neg (by omega)]
          case measure => simp [intOf]; omega
      · obtain rfl : k = 8 := by omega
        have P8 : Bk wr p 55 (arr8 (fun j => dg x j + 65535 - dg y j)) := P.cast (arr8_congr fun j hj => by rw [if_pos hj])
        clear P Q
        have NB : ∀ w, Calls Try.prog 46 #[.agg #[.int .i64 (dg x 0 + 65535 - dg y 0 + 1), .int .i64 (dg x 1 + 65535 - dg y 1), .int .i64 (dg x 2 + 65535 - dg y 2), .int .i64 (dg x 3 + 65535 - dg y 3), .int .i64 (dg x 4 + 65535 - dg y 4), .int .i64 (dg x 5 + 65535 - dg y 5), .int .i64 (dg x 6 + 65535 - dg y 6), .int .i64 (dg x 7 + 65535 - dg y 7)]] w fun e w' => e = .returned (.agg #[.int .i64 (hii (x - y)), .int .u64 (lon (x - y) : Int)]) ∧ Below w.heap.size w w' := fun w => by
          have rx0 := dg_range x 0
          have ry0 := dg_range y 0
          have rx1 := dg_range x 1
          have ry1 := dg_range y 1
          have rx2 := dg_range x 2
          have ry2 := dg_range y 2
          have rx3 := dg_range x 3
          have ry3 := dg_range y 3
          have rx4 := dg_range x 4
          have ry4 := dg_range y 4
          have rx5 := dg_range x 5
          have ry5 := dg_range y 5
          have rx6 := dg_range x 6
          have ry6 := dg_range y 6
          have rx7 := dg_range x 7
          have ry7 := dg_range y 7
          have h := ref2_number (dg x 0 + 65535 - dg y 0 + 1) (dg x 1 + 65535 - dg y 1) (dg x 2 + 65535 - dg y 2) (dg x 3 + 65535 - dg y 3) (dg x 4 + 65535 - dg y 4) (dg x 5 + 65535 - dg y 5) (dg x 6 + 65535 - dg y 6) (dg x 7 + 65535 - dg y 7) w (by omega) (by omega) (by omega) (by omega) (by omega) (by omega) (by omega) (by omega)
          rw [(num8_sub x y).1, (num8_sub x y).2] at h
          exact h
        have NBH := Lib.hid NB
        clear NB
        have c0 : wr.cell? ⟨p, 0, none⟩ = some (.int .i64 (dg x 0 + 65535 - dg y 0)) := P8.cell rfl
        have c1 : wr.cell? ⟨p, 1, none⟩ = some (.int .i64 (dg x 1 + 65535 - dg y 1)) := P8.cell rfl
        have c2 : wr.cell? ⟨p, 2, none⟩ = some (.int .i64 (dg x 2 + 65535 - dg y 2)) := P8.cell rfl
        have c3 : wr.cell? ⟨p, 3, none⟩ = some (.int .i64 (dg x 3 + 65535 - dg y 3)) := P8.cell rfl
        have c4 : wr.cell? ⟨p, 4, none⟩ = some (.int .i64 (dg x 4 + 65535 - dg y 4)) := P8.cell rfl
        have c5 : wr.cell? ⟨p, 5, none⟩ = some (.int .i64 (dg x 5 + 65535 - dg y 5)) := P8.cell rfl
        have c6 : wr.cell? ⟨p, 6, none⟩ = some (.int .i64 (dg x 6 + 65535 - dg y 6)) := P8.cell rfl
        have c7 : wr.cell? ⟨p, 7, none⟩ = some (.int .i64 (dg x 7 + 65535 - dg y 7)) := P8.cell rfl
        have f0 := P8.frozen 0
        have hp0 : w.heap.size + 2 ≠ p := by omega
        have T' := Lib.hid T
        obtain ⟨rx0, rx0'⟩ := dg_range x 0
        obtain ⟨ry0, ry0'⟩ := dg_range y 0
        have wr0 : IntKind.i64.wrap (dg x 0 + 65535 - dg y 0 + 1) = dg x 0 + 65535 - dg y 0 + 1 := by rw [i64w]; omega
        have b0 : 0 ≤ dg x 0 + 65535 - dg y 0 := by omega
        have b0' : dg x 0 + 65535 - dg y 0 ≤ 131070 := by omega
        clear rx0 rx0' ry0 ry0'
        generalize dg x 0 + 65535 - dg y 0 = F0 at *
        generalize dg x 1 + 65535 - dg y 1 = F1 at *
        generalize dg x 2 + 65535 - dg y 2 = F2 at *
        generalize dg x 3 + 65535 - dg y 3 = F3 at *
        generalize dg x 4 + 65535 - dg y 4 = F4 at *
        generalize dg x 5 + 65535 - dg y 5 = F5 at *
        generalize dg x 6 + 65535 - dg y 6 = F6 at *
        generalize dg x 7 + 65535 - dg y 7 = F7 at *
        clear P8 T
        go_wp2_with (go_at_call 46; refine (NBH.out _).mono ?_; rintro e wn ⟨rfl, hbn⟩; have T1 := ((T'.out.other (a := ⟨p, 0, none⟩) (by simp; omega) _)).below hbn; have k0 := T1.cell (i := 0) rfl; have k1 := T1.cell (i := 1) rfl; have f0 := T1.frozen 0; have f1 := T1.frozen 1; have y0 : Below w.heap.size w wn := Below.trans (by go_grown) (hbn.mono (by first | exact hB.size | (simp; exact hB.size))); clear T1 hbn)
        exact bodyPost_ret (v := .agg #[.int .i64 (hii (x - y)), .int .u64 (lon (x - y) : Int)]) (by simp [results, Try.results28, go_sem, k0, k1]) rfl ⟨rfl, by go_grown⟩

end Go.Proofs.Ytppejnfiphkmnaa
