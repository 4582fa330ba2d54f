/- The document's own Less, Same, Least, At (layer 3). -/
import Derived.Test.YtapflinfkjoinaaRefb03
namespace Go.Proofs.Ytapflinfkjoinaa
open Go.RowKit Go.Proofs.Sky
set_option linter.unusedVariables false

theorem ref3_Less (n d m e : Int) (w : World) (hn : I64 n) (hd : I64 d) (hm : I64 m) (he : I64 e) :
    Calls Try.prog 12 #[.agg #[.int .i64 n, .int .i64 d], .agg #[.int .i64 m, .int .i64 e]] w fun r w' => r = .returned (.bool (fless n d m e)) ∧ Below w.heap.size w w' := by
  have R1 := Lib.hid (fun w => ref3_Right n d w)
  have R2 := Lib.hid (fun w => ref3_Right m e w)
  by_cases h1 : 1 ≤ d
  · by_cases h2 : 1 ≤ e
    · have C := Lib.hid (fun w => ref3_Cmp n d m e w hn hd hm he h1 h2)
      have E : Hid (fless n d m e = _) := Lib.hid (show fless n d m e = _ by unfold fless; rw [decide_eq_true h1, decide_eq_true h2, Bool.true_and, Bool.true_and, ← cmpI_lt])
      rw [decide_eq_true h1] at R1
      rw [decide_eq_true h2] at R2
      rw [E.out]
      clear E h1 h2 hn hd hm he
      generalize cmpI (n * e) (m * d) = R at *
      go_enter Try.func12, Try.ntmps12
      go_wp2_with (first
        | (go_at_call 10; (first | (with_reducible refine (R1.out _).mono ?_) | (with_reducible refine (R2.out _).mono ?_)); rintro e w1 ⟨rfl, hb⟩; obtain ⟨hc, hf, y0, y1, y2, y3⟩ := below2 (w := w) w.heap.size (by go_grown) hb (by first | (simp; done) | (simp; omega) | omega))
        | (go_at_call 22; refine (C.out _).mono ?_; rintro e w1 ⟨rfl, hb⟩; obtain ⟨hc, hf, y0, y1, y2, y3⟩ := below2 (w := w) w.heap.size (by go_grown) hb (by first | (simp; done) | (simp; omega) | omega)))
      go_ret
      exact ⟨rfl, by go_grown⟩
    · have E : fless n d m e = false := by unfold fless; rw [decide_eq_false h2, Bool.false_and, Bool.and_false]
      rw [decide_eq_true h1] at R1
      rw [decide_eq_false h2] at R2
      rw [E]
      clear E h1 h2 hn hd hm he
      go_enter Try.func12, Try.ntmps12
      go_wp2_with (go_at_call 10; (first | (with_reducible refine (R1.out _).mono ?_) | (with_reducible refine (R2.out _).mono ?_)); rintro e w1 ⟨rfl, hb⟩; obtain ⟨hc, hf, y0, y1, y2, y3⟩ := below2 (w := w) w.heap.size (by go_grown) hb (by first | (simp; done) | (simp; omega) | omega))
      go_ret
      exact ⟨rfl, by go_grown⟩
  · have E : fless n d m e = false := by unfold fless; rw [decide_eq_false h1, Bool.false_and]
    rw [decide_eq_false h1] at R1
    rw [E]
    clear E h1 hn hd hm he
    go_enter Try.func12, Try.ntmps12
    go_wp2_with (go_at_call 10; with_reducible refine (R1.out _).mono ?_; rintro e w1 ⟨rfl, hb⟩; obtain ⟨hc, hf, y0, y1, y2, y3⟩ := below2 (w := w) w.heap.size (by go_grown) hb (by first | (simp; done) | (simp; omega) | omega))
    go_ret
    exact ⟨rfl, by go_grown⟩

theorem ref3_Same (n d m e : Int) (w : World) (hn : I64 n) (hd : I64 d) (hm : I64 m) (he : I64 e) :
    Calls Try.prog 14 #[.agg #[.int .i64 n, .int .i64 d], .agg #[.int .i64 m, .int .i64 e]] w fun r w' => r = .returned (.bool (fsame n d m e)) ∧ Below w.heap.size w w' := by
  have R1 := Lib.hid (fun w => ref3_Right n d w)
  have R2 := Lib.hid (fun w => ref3_Right m e w)
  by_cases h1 : 1 ≤ d
  · by_cases h2 : 1 ≤ e
    · have C := Lib.hid (fun w => ref3_Cmp n d m e w hn hd hm he h1 h2)
      have E : Hid (fsame n d m e = _) := Lib.hid (show fsame n d m e = _ by unfold fsame; rw [decide_eq_true h1, decide_eq_true h2, Bool.true_and, Bool.true_and, ← cmpI_beq])
      rw [decide_eq_true h1] at R1
      rw [decide_eq_true h2] at R2
      rw [E.out]
      clear E h1 h2 hn hd hm he
      generalize cmpI (n * e) (m * d) = R at *
      go_enter Try.func14, Try.ntmps14
      go_wp2_with (first
        | (go_at_call 10; (first | (with_reducible refine (R1.out _).mono ?_) | (with_reducible refine (R2.out _).mono ?_)); rintro e w1 ⟨rfl, hb⟩; obtain ⟨hc, hf, y0, y1, y2, y3⟩ := below2 (w := w) w.heap.size (by go_grown) hb (by first | (simp; done) | (simp; omega) | omega))
        | (go_at_call 22; refine (C.out _).mono ?_; rintro e w1 ⟨rfl, hb⟩; obtain ⟨hc, hf, y0, y1, y2, y3⟩ := below2 (w := w) w.heap.size (by go_grown) hb (by first | (simp; done) | (simp; omega) | omega)))
      go_ret
      exact ⟨rfl, by go_grown⟩
    · have E : fsame n d m e = false := by unfold fsame; rw [decide_eq_false h2, Bool.false_and, Bool.and_false]
      rw [decide_eq_true h1] at R1
      rw [decide_eq_false h2] at R2
      rw [E]
      clear E h1 h2 hn hd hm he
      go_enter Try.func14, Try.ntmps14
      go_wp2_with (go_at_call 10; (first | (with_reducible refine (R1.out _).mono ?_) | (with_reducible refine (R2.out _).mono ?_)); rintro e w1 ⟨rfl, hb⟩; obtain ⟨hc, hf, y0, y1, y2, y3⟩ := below2 (w := w) w.heap.size (by go_grown) hb (by first | (simp; done) | (simp; omega) | omega))
      go_ret
      exact ⟨rfl, by go_grown⟩
  · have E : fsame n d m e = false := by unfold fsame; rw [decide_eq_false h1, Bool.false_and]
    rw [decide_eq_false h1] at R1
    rw [E]
    clear E h1 hn hd hm he
    go_enter Try.func14, Try.ntmps14
    go_wp2_with (go_at_call 10; with_reducible refine (R1.out _).mono ?_; rintro e w1 ⟨rfl, hb⟩; obtain ⟨hc, hf, y0, y1, y2, y3⟩ := below2 (w := w) w.heap.size (by go_grown) hb (by first | (simp; done) | (simp; omega) | omega))
    go_ret
    exact ⟨rfl, by go_grown⟩

theorem lst_valid (N D : Nat → Int) : ∀ k, lst N D k = -1 ∨ ∃ j : Nat, lst N D k = (j : Int) ∧ j < k ∧ 1 ≤ D j
  | 0 => .inl rfl
  | k + 1 => by
    unfold lst
    split
    · rename_i h; exact .inr ⟨k, rfl, by omega, h.1⟩
    · rcases lst_valid N D k with h | ⟨j, h1, h2, h3⟩
      · exact .inl h
      · exact .inr ⟨j, h1, by omega, h3⟩

theorem lst_hit0 {N D : Nat → Int} {k : Nat} (hd : 1 ≤ D k) (h : lst N D k = -1) : lst N D (k + 1) = (k : Int) := by
  unfold lst; rw [if_pos ⟨hd, .inl (by omega)⟩]
theorem lst_hit1 {N D : Nat → Int} {k j : Nat} (hd : 1 ≤ D k) (h : lst N D k = (j : Int)) (hc : N k * D j < N j * D k) : lst N D (k + 1) = (k : Int) := by
  unfold lst; rw [h, Int.toNat_natCast, if_pos ⟨hd, .inr hc⟩]
theorem lst_no {N D : Nat → Int} {k j : Nat} (h : lst N D k = (j : Int)) (hc : ¬ N k * D j < N j * D k) : lst N D (k + 1) = (j : Int) := by
  unfold lst
  rw [h, Int.toNat_natCast, if_neg (fun g => by
    rcases g.2 with g | g
    · omega
    · exact hc g)]
theorem lst_skip {N D : Nat → Int} {k : Nat} (hd : ¬ 1 ≤ D k) : lst N D (k + 1) = lst N D k := by
  show (if _ then _ else _) = _
  rw [if_neg (fun h => hd h.1)]

theorem ref3_Least_none (p : Option Addr) (cap : Nat) (w : World) :
    Calls Try.prog 16 #[.slice p 0 cap] w fun e w' => e = .returned (.int .i64 (-1)) ∧ Below w.heap.size w w' := by
  go_enter Try.func16, Try.ntmps16
  go_wp2
  go_rounds 1
  go_ret
  exact ⟨rfl, Below.refl _ _⟩

set_option maxHeartbeats 2000000 in
theorem ref3_Least (b off cap n : Nat) (N D : Nat → Int) (w : World) (hrow : FrRow w b off n N D) (hN : ∀ k, k < n → I64 (N k) ∧ I64 (D k)) (hb : b < w.heap.size) (hn : n ≤ 1048576) :
    Calls Try.prog 16 #[.slice (some ⟨b, off, none⟩) n cap] w fun e w' => e = .returned (.int .i64 (lst N D n)) ∧ Below w.heap.size w w' := by
  have HF := Lib.hid hrow
  have HN := Lib.hid hN
  clear hrow hN
  go_enter Try.func16, Try.ntmps16
  go_wp2
  go_loopw [3, 4] (fun u i wr => ∃ k : Nat, k ≤ n ∧ i = .int .i64 k ∧ u = .int .i64 (lst N D k) ∧ Below w.heap.size w wr) (fun _ i _ => n - (intOf i).toNat)
  case atStart => exact ⟨0, Nat.zero_le _, rfl, rfl, Below.refl _ _⟩
  case round =>
    obtain ⟨k, hk, rfl, rfl, hB⟩ := hrel
    by_cases hlt : k < n
    · have hr := HF.out.below hB hb
      have c0 : ∀ p : BW wr, p.w.cell? ⟨b, off + k * 2, none⟩ = some (.int .i64 (N k)) := bw_cell (hr k hlt).1
      have c1 : ∀ p : BW wr, p.w.cell? ⟨b, off + k * 2 + 1, none⟩ = some (.int .i64 (D k)) := bw_cell (hr k hlt).2
      have R := Lib.hid (fun w => ref3_Right (N k) (D k) w)
      have HB := Lib.hid (fun q : BW wr => bw_below hB q)
      have hkn : (k : Int) < n := by omega
      obtain ⟨p0, hp0⟩ : ∃ p0 : BW wr, p0.w = wr := ⟨BW.start wr, rfl⟩
      by_cases hd : 1 ≤ D k
      · rw [decide_eq_true hd] at R
        rcases lst_valid N D k with hl | ⟨j, hl, hj, hdj⟩
        · have E := Lib.hid (lst_hit0 hd hl)
          rw [hl]
          clear hl hd hr
          go_upto_region 5 with (fail)
          rw [← hp0]
          clear hp0 hB
          refine wp_region_bw (by kernel_rfl) (by kernel_rfl) ?_
          repeat (go_big_quiet_step (first
            | (go_at_call 10; (with_reducible exact bw_call R.out _))
            | (go_at_call 12; (with_reducible exact bw_call L.out _))))
          refine wpQuiet_nil ?_
          intro _ hw'
          obtain ⟨q, rfl⟩ := hw'
          go_wp2
          go_roundw
          case rel => exact ⟨k + 1, by omega, by go_num, by rw [E.out], HB.out _⟩
          case measure => simp [intOf]; omega
        · have hjn : (j : Int) < n := by omega
          have j0 : (0 : Int) ≤ (j : Int) := by omega
          have tj : decide ((j : Int) < 0) = false := decide_eq_false (by omega)
          have c2 : ∀ p : BW wr, p.w.cell? ⟨b, off + j * 2, none⟩ = some (.int .i64 (N j)) := bw_cell (hr j (by omega)).1
          have c3 : ∀ p : BW wr, p.w.cell? ⟨b, off + j * 2 + 1, none⟩ = some (.int .i64 (D j)) := bw_cell (hr j (by omega)).2
          have L := Lib.hid (fun w => ref3_Less (N k) (D k) (N j) (D j) w (HN.out k hlt).1 (HN.out k hlt).2 (HN.out j (by omega)).1 (HN.out j (by omega)).2)
          have e1 : fless (N k) (D k) (N j) (D j) = decide (N k * D j < N j * D k) := by unfold fless; rw [decide_eq_true hd, decide_eq_true hdj]; rfl
          rw [e1] at L
          by_cases hc : N k * D j < N j * D k
          · have E := Lib.hid (lst_hit1 hd hl hc)
            rw [decide_eq_true hc] at L
            rw [hl]
            clear hl hd hr hc e1 hdj
            generalize N k = nk at *
            generalize D k = dk at *
            generalize N j = nj at *
            generalize D j = dj at *
            go_upto_region 5 with (fail)
            rw [← hp0]
            clear hp0 hB
            refine wp_region_bw (by kernel_rfl) (by kernel_rfl) ?_
            repeat (go_big_quiet_step (first
              | (go_at_call 10; (with_reducible exact bw_call R.out _))
              | (go_at_call 12; (with_reducible exact bw_call L.out _))))
            refine wpQuiet_nil ?_
            intro _ hw'
            obtain ⟨q, rfl⟩ := hw'
            go_wp2
            go_roundw
            case rel => exact ⟨k + 1, by omega, by go_num, by rw [E.out], HB.out _⟩
            case measure => simp [intOf]; omega
          · have E := Lib.hid (lst_no hl hc)
            rw [decide_eq_false hc] at L
            rw [hl]
            clear hl hd hr hc e1 hdj
            generalize N k = nk at *
            generalize D k = dk at *
            generalize N j = nj at *
            generalize D j = dj at *
            go_upto_region 5 with (fail)
            rw [← hp0]
            clear hp0 hB
            refine wp_region_bw (by kernel_rfl) (by kernel_rfl) ?_
            repeat (go_big_quiet_step (first
              | (go_at_call 10; (with_reducible exact bw_call R.out _))
              | (go_at_call 12; (with_reducible exact bw_call L.out _))))
            refine wpQuiet_nil ?_
            intro _ hw'
            obtain ⟨q, rfl⟩ := hw'
            go_wp2
            go_roundw
            case rel => exact ⟨k + 1, by omega, by go_num, by rw [E.out], HB.out _⟩
            case measure => simp [intOf]; omega
      · have E := Lib.hid (lst_skip (N := N) hd)
        rw [decide_eq_false hd] at R
        clear hd hr
        generalize lst N D k = l at *
        go_upto_region 5 with (fail)
        rw [← hp0]
        clear hp0 hB
        refine wp_region_bw (by kernel_rfl) (by kernel_rfl) ?_
        repeat (go_big_quiet_step (first
          | (go_at_call 10; (with_reducible exact bw_call R.out _))
          | (go_at_call 12; (with_reducible exact bw_call L.out _))))
        refine wpQuiet_nil ?_
        intro _ hw'
        obtain ⟨q, rfl⟩ := hw'
        go_wp2
        go_roundw
        case rel => exact ⟨k + 1, by omega, by go_num, by rw [E.out], HB.out _⟩
        case measure => simp [intOf]; omega
    · obtain rfl : k = n := by omega
      go_wp2
      go_ret
      exact ⟨rfl, hB⟩

end Go.Proofs.Ytapflinfkjoinaa
