/- Contract of the document's order (skylightref02). -/
import Derived.Test.YtppejnfiphkmnaaRef02
namespace Go.Proofs.Ytppejnfiphkmnaa
open Go.RowKit Go.Proofs.Sky
set_option linter.unusedVariables false
set_option linter.unusedSimpArgs false
attribute [local go_sem ↓] Go.wp_at_zero Go.wp_at_succ

theorem dg_up (x : Int) : ∀ j, j < 8 → (j ≠ 7 → dg x j = dg (x + 170141183460469231731687303715884105728) j) ∧ (j = 7 → (dg x 7 + 32768) % 65536 = dg (x + 170141183460469231731687303715884105728) 7) := by
  intro j hj
  refine cases8 (P := fun j => (j ≠ 7 → dg x j = dg (x + 170141183460469231731687303715884105728) j) ∧ (j = 7 → (dg x 7 + 32768) % 65536 = dg (x + 170141183460469231731687303715884105728) 7)) hj ?_ ?_ ?_ ?_ ?_ ?_ ?_ ?_
  · exact ⟨fun _ => by rw [dg0, dg0]; omega, fun h => by omega⟩
  · exact ⟨fun _ => by rw [dg1, dg1]; omega, fun h => by omega⟩
  · exact ⟨fun _ => by rw [dg2, dg2]; omega, fun h => by omega⟩
  · exact ⟨fun _ => by rw [dg3, dg3]; omega, fun h => by omega⟩
  · exact ⟨fun _ => by rw [dg4, dg4]; omega, fun h => by omega⟩
  · exact ⟨fun _ => by rw [dg5, dg5]; omega, fun h => by omega⟩
  · exact ⟨fun _ => by rw [dg6, dg6]; omega, fun h => by omega⟩
  · exact ⟨fun h => by omega, fun _ => by rw [dg7, dg7]; omega⟩

theorem dg_split (u : Int) (j : Nat) : u / 65536 ^ j = u / 65536 ^ (j + 1) * 65536 + dg u j := by
  have h : u / 65536 ^ (j + 1) = u / 65536 ^ j / 65536 := by
    rw [Int.pow_succ, Int.ediv_ediv_of_nonneg (Int.pow_nonneg (by omega))]
  rw [h]; unfold dg; omega

theorem dg_less {u v : Int} {j : Nat} (h : u / 65536 ^ (j + 1) = v / 65536 ^ (j + 1)) (hd : dg u j < dg v j) : u < v := by
  have h1 := dg_split u j
  have h2 := dg_split v j
  have h3 : u / 65536 ^ j < v / 65536 ^ j := by omega
  rcases Int.lt_or_le u v with h4 | h4
  · exact h4
  · have := Int.ediv_le_ediv (show (0 : Int) < 65536 ^ j from Int.pow_pos (by omega)) h4
    omega

set_option maxHeartbeats 8000000 in
theorem ref2_Cmp (x y : Int) (w : World) (hx : W128 x) (hy : W128 y) :
    Calls Try.prog 19 #[.agg #[.int .i64 (hii x), .int .u64 (lon x : Int)], .agg #[.int .i64 (hii y), .int .u64 (lon y : Int)]] w fun e w' =>
      e = .returned (.int .i64 (cmpI x y)) ∧ Below w.heap.size w w' := by
  have z0 : w.heap.size < w.heap.size + 1 + 1 := by omega
  have z1 : w.heap.size < w.heap.size + 1 + 1 + 1 := by omega
  have z2 : w.heap.size < w.heap.size + 1 + 1 + 1 + 1 := by omega
  have z3 : w.heap.size < w.heap.size + 1 + 1 + 1 + 1 + 1 := by omega
  have D := Lib.hid (fun (x : Int) w => ref2_digits x w)
  go_enter Try.func19, Try.ntmps19
  go_upto_region 1 with fail
  go_cut [5, 6] (fun s5 s6 wx => ∃ p q : Nat, s5 = .pointer (some ⟨p, 0, none⟩) ∧ s6 = .pointer (some ⟨q, 0, none⟩) ∧ p ≠ q ∧ w.heap.size + 1 < p ∧ w.heap.size + 1 < q ∧ Bk wx p 55 (arr8 (dg x)) ∧ Bk wx q 55 (arr8 (dg y)) ∧ Below w.heap.size w wx)
  case first =>
    go_region_held3 (fun w' => w'.cell? ⟨w.heap.size, 0, none⟩ = some (.int .i64 (hii x)) ∧ w'.cell? ⟨w.heap.size, 1, none⟩ = some (.int .u64 (lon x)) ∧
        w'.cell? ⟨w.heap.size + 1, 0, none⟩ = some (.int .i64 (hii y)) ∧ w'.cell? ⟨w.heap.size + 1, 1, none⟩ = some (.int .u64 (lon y)))
      (first | (simp (disch := first | omega | (simp only [World.size_alloc, World.size_setCell, World.size_drew]; omega)) [hca, hcb, ca, csf, List.getElem?_cons_zero, List.getElem?_cons_succ]; done) | (simp (disch := first | omega | (simp only [World.size_alloc, World.size_setCell, World.size_drew]; omega)) [hca, ca, csf, List.getElem?_cons_zero, List.getElem?_cons_succ]; done) | (simp (disch := first | omega | (simp only [World.size_alloc, World.size_setCell, World.size_drew]; omega)) [ca, csf, List.getElem?_cons_zero, List.getElem?_cons_succ]; done))
      (first
        | (go_at_call 35; ((with_reducible refine (D.out x _).mono ?_)); rintro e wa ⟨rfl, hba⟩; have hzwa := hba.size; (try simp at hzwa); (first | (refine below5e (w := w) w.heap.size ?_ hba ?_ ?_; (focus go_grown); (focus (first | omega | (simp; done) | (simp; omega))); intro hca hfa y0a x1a y1a y2a y3a y4a y5a y6a) | (refine below4e (w := w) w.heap.size ?_ hba ?_ ?_; (focus go_grown); (focus (first | omega | (simp; done) | (simp; omega))); intro hca hfa y0a x1a y1a y2a y3a y4a y5a) | (refine below3e (w := w) w.heap.size ?_ hba ?_ ?_; (focus go_grown); (focus (first | omega | (simp; done) | (simp; omega))); intro hca hfa y0a x1a y1a y2a y3a y4a) | (refine below2e (w := w) w.heap.size ?_ hba ?_ ?_; (focus go_grown); (focus (first | omega | (simp; done) | (simp; omega))); intro hca hfa y0a x1a y1a y2a y3a)))
        | (go_at_call 35; ((with_reducible refine (D.out y _).mono ?_)); rintro e wb ⟨rfl, hbb⟩; have hzwb := hbb.size; (try simp at hzwb); (first | (refine below5e (w := w) w.heap.size ?_ hbb ?_ ?_; (focus go_grown); (focus (first | omega | (simp; done) | (simp; omega))); intro hcb hfb y0b x1b y1b y2b y3b y4b y5b y6b) | (refine below4e (w := w) w.heap.size ?_ hbb ?_ ?_; (focus go_grown); (focus (first | omega | (simp; done) | (simp; omega))); intro hcb hfb y0b x1b y1b y2b y3b y4b y5b) | (refine below3e (w := w) w.heap.size ?_ hbb ?_ ?_; (focus go_grown); (focus (first | omega | (simp; done) | (simp; omega))); intro hcb hfb y0b x1b y1b y2b y3b y4b) | (refine below2e (w := w) w.heap.size ?_ hbb ?_ ?_; (focus go_grown); (focus (first | omega | (simp; done) | (simp; omega))); intro hcb hfb y0b x1b y1b y2b y3b)); (first | (refine ltk2 (n := wa.heap.size) (N := wb.heap.size) ?_ ?_; (focus omega); intro v1 v2) | (refine ltk1 (n := wa.heap.size) (N := wb.heap.size) ?_ ?_; (focus omega); intro v1) | skip)))
    all_goals (go_wp2_with fail; go_meet)
    all_goals
      refine ⟨_, _, rfl, rfl, ?_, ?_, ?_, ?_, ?_, ?_⟩
      all_goals first
        | ((try unfold arr8); (repeat (first | ((with_reducible refine Bk.new_at _ _ _ _ ?_); (focus (first | (simp; done) | (simp; omega)))) | (with_reducible refine Bk.drew ?_) | (with_reducible refine Bk.store8 ?_) | ((with_reducible refine Bk.other8 ?_ ?_); rotate_left; (focus omega)) | (with_reducible refine Bk.alloc ?_ _) | (with_reducible refine Bk.below ?_ hbb) | (with_reducible refine Bk.below ?_ hba))); done)
        | (focus omega)
        | (go_grown; done)
  case rest =>
    obtain ⟨p, q, rfl, rfl, hpq, hp, hq, P, Q, hB⟩ := hcut
    have c7 : wc.cell? ⟨p, 7, none⟩ = some (.int .i64 (dg x 7)) := P.cell rfl
    have d7 : wc.cell? ⟨q, 7, none⟩ = some (.int .i64 (dg y 7)) := Q.cell rfl
    have f7 := P.frozen 7
    have g7 := Q.frozen 7
    have hqp : ¬ q = p := fun e => hpq e.symm
    obtain ⟨u, hu⟩ : ∃ u, u = x + 170141183460469231731687303715884105728 := ⟨_, rfl⟩
    obtain ⟨v, hv⟩ : ∃ v, v = y + 170141183460469231731687303715884105728 := ⟨_, rfl⟩
    have E1 : ∀ j, j < 8 → (j ≠ 7 → dg x j = dg u j) ∧ (j = 7 → (dg x 7 + 32768) % 65536 = dg u 7) := by rw [hu]; exact dg_up x
    have E2 : ∀ j, j < 8 → (j ≠ 7 → dg y j = dg v j) ∧ (j = 7 → (dg y 7 + 32768) % 65536 = dg v 7) := by rw [hv]; exact dg_up y
    have P' : Bk (wc.setCell ⟨p, 7, none⟩ (.int .i64 ((dg x 7 + 32768) % 65536))) p 55 (arr8 (dg u)) := P.set8 (by omega) ((E1 7 (by omega)).2 rfl) fun j hj h => (E1 j hj).1 h
    have Q' : Bk ((wc.setCell ⟨p, 7, none⟩ (.int .i64 ((dg x 7 + 32768) % 65536))).setCell ⟨q, 7, none⟩ (.int .i64 ((dg y 7 + 32768) % 65536))) q 55 (arr8 (dg v)) :=
      (Q.other hqp _).set8 (by omega) ((E2 7 (by omega)).2 rfl) fun j hj h => (E2 j hj).1 h
    have HP := Lib.hid (P'.other (a := ⟨q, 7, none⟩) hpq (.int .i64 ((dg y 7 + 32768) % 65536)))
    have HQ := Lib.hid Q'
    have RX := dg_range x 7
    have RY := dg_range y 7
    unfold W128 at hx hy
    have HU := Lib.hid (show 0 ≤ u ∧ u < 340282366920938463463374607431768211456 ∧ 0 ≤ v ∧ v < 340282366920938463463374607431768211456 ∧ (u < v → cmpI x y = -1) ∧ (v < u → cmpI x y = 1) ∧ (u = v → cmpI x y = 0) by
      refine ⟨by omega, by omega, by omega, by omega, fun h => ?_, fun h => ?_, fun h => ?_⟩ <;> unfold cmpI <;> (repeat' split) <;> omega)
    have hsz : w.heap.size ≤ wc.heap.size := hB.size
    clear E1 E2 P Q P' Q' hu hv hx hy D
    generalize dg x 7 = X7 at *
    generalize dg y 7 = Y7 at *
    obtain ⟨RX1, RX2⟩ := RX
    obtain ⟨RY1, RY2⟩ := RY
    go_wp2
    go_loopw [7] (fun s wr => ∃ k : Nat, k ≤ 8 ∧ s = .int .i64 ((k : Int) - 1) ∧ u / 65536 ^ k = v / 65536 ^ k ∧ Bk wr p 55 (arr8 (dg u)) ∧ Bk wr q 55 (arr8 (dg v)) ∧ Below w.heap.size w wr) (fun s _ => (intOf s + 1).toNat)
    case atStart =>
      refine ⟨8, by omega, rfl, ?_, HP.out, HQ.out, by go_grown⟩
      obtain ⟨h1, h2, h3, h4, _⟩ := HU.out
      rw [Int.ediv_eq_zero_of_lt h1 (by simpa using h2), Int.ediv_eq_zero_of_lt h3 (by simpa using h4)]
    case round =>
      clear c7 d7 f7 g7
      obtain ⟨k, hk8, rfl, hE, P, Q, hB⟩ := hrel
      match k, hk8, hE with
      | 0, _, hE =>
        have hR : cmpI x y = 0 := by
          obtain ⟨_, _, _, _, _, _, h⟩ := HU.out
          exact h (by simpa using hE)
        have HR := Lib.hid hR
        clear hR hE P Q
        go_wp2
        go_ret
        exact ⟨ret_int HR.out.symm, by go_grown⟩
      | j + 1, hk8, hE =>
        have e0 : (((j + 1 : Nat) : Int)) - 1 = (j : Int) := by omega
        rw [e0]
        have hj : j < 8 := by omega
        have c1 : wr.cell? ⟨p, j, none⟩ = some (.int .i64 (dg u j)) := P.cell (arr8_get _ hj)
        have c2 : wr.cell? ⟨q, j, none⟩ = some (.int .i64 (dg v j)) := Q.cell (arr8_get _ hj)
        have j0 : (0 : Int) ≤ (j : Int) := by omega
        have j8 : (j : Int) < 8 := by omega
        have P' := Lib.hid P
        have Q' := Lib.hid Q
        have HE := Lib.hid hE
        have L1 := Lib.hid (fun h => dg_less (u := u) (v := v) (j := j) hE h)
        have L2 := Lib.hid (fun h => dg_less (u := v) (v := u) (j := j) hE.symm h)
        have S1 := Lib.hid (dg_split u j)
        have S2 := Lib.hid (dg_split v j)
        clear e0 P Q hE
        generalize dg u j = X at *
        generalize dg v j = Y at *
        rcases Int.lt_trichotomy X Y with h | h | h
        · have hR : cmpI x y = -1 := HU.out.2.2.2.2.1 (L1.out h)
          have HR := Lib.hid hR
          clear hR
          go_wp2
          go_quiet (fail)
          go_wp2
          go_ret
          exact ⟨ret_int HR.out.symm, by first | (refine below_drewN ?_ _; go_grown; done) | (refine below_drewN (below_drewN ?_ _) _; go_grown; done)⟩
        · subst h
          go_wp2
          go_quiet (fail)
          go_wp2
          go_quiet (fail)
          go_wp2
          go_roundw
          case rel => exact ⟨j, by omega, by go_num, by rw [S1.out, S2.out, HE.out], by first | exact P'.out.drewN _ | exact (P'.out.drewN _).drewN _, by first | exact Q'.out.drewN _ | exact (Q'.out.drewN _).drewN _, by first | (refine below_drewN ?_ _; go_grown; done) | (refine below_drewN (below_drewN ?_ _) _; go_grown; done)⟩
          case measure => simp [intOf]; try omega
        · have hR : cmpI x y = 1 := HU.out.2.2.2.2.2.1 (L2.out h)
          have HR := Lib.hid hR
          have hn : ¬ X < Y := by omega
          clear hR
          go_wp2
          go_quiet (fail)
          go_wp2
          go_quiet (fail)
          go_wp2
          go_ret
          exact ⟨ret_int HR.out.symm, by first | (refine below_drewN ?_ _; go_grown; done) | (refine below_drewN (below_drewN ?_ _) _; go_grown; done)⟩

end Go.Proofs.Ytppejnfiphkmnaa
