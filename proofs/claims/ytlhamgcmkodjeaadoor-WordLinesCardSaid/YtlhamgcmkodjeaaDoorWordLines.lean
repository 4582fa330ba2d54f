/- WordLines: the walk. -/
import Derived.Test.YtlhamgcmkodjeaaDoorLinm18
import Derived.Test.YtlhamgcmkodjeaaDoorLine18
namespace Go.Proofs.YtlhamgcmkodjeaaDoor
open Go.RowKit Go.Shelf Go.Proofs.Sky
set_option linter.unusedVariables false
set_option linter.unusedSimpArgs false

theorem fits_txt {tab : Bool} {rem : List UInt8} {ls : List (List (List UInt8))} {k : Nat} (h : ∀ x ∈ ls.take k, Fit x) (hn : ls.length ≤ 6) (hr : rem.length ≤ 20) : (txt tab rem (ls.take k)).length ≤ 600 :=
  txt_len tab rem _ h (by rw [List.length_take]; omega) hr

set_option maxRecDepth 100000 in
set_option maxHeartbeats 8000000 in
theorem law_WordLines_long (a : Option Addr) (n c : Nat) (rem : List UInt8) (tab : Bool) (hl : 6 < n) (W : World) (hL : Laid18 W) :
    Calls Tryd.prog 5 #[.slice a n c, .string ⟨rem.toArray⟩, .bool tab] W fun e W' => e = .returned (.bool true) ∧ Below W.heap.size W W' := by
  obtain ⟨y, hy⟩ : ∃ y : ByteArray, y = ⟨rem.toArray⟩ := ⟨_, rfl⟩
  rw [← hy]
  have hlen2 := fun ty w => len18 (P := Tryd.prog) Tryd.underlying9 hy ty w
  have q : decide (6 < (n : Int)) = true := decide_eq_true (by omega)
  have KA := Lib.hid (awake18 W hL)
  clear hy hl hL
  generalize rem.length = k2 at *
  go_enter Tryd.func5, Tryd.ntmps5
  go_wp2_with (go_at_call 6; (with_reducible refine KA.out.mono ?_); rintro e w1 ⟨rfl, hb1⟩)
  go_ret
  exact ⟨rfl, hb1⟩

set_option maxRecDepth 100000 in
set_option maxHeartbeats 8000000 in
theorem law_WordLines_longr (a : Option Addr) (n c : Nat) (rem : List UInt8) (tab : Bool) (hl : n ≤ 6 ∧ 20 < rem.length) (W : World) (hL : Laid18 W) :
    Calls Tryd.prog 5 #[.slice a n c, .string ⟨rem.toArray⟩, .bool tab] W fun e W' => e = .returned (.bool true) ∧ Below W.heap.size W W' := by
  obtain ⟨y, hy⟩ : ∃ y : ByteArray, y = ⟨rem.toArray⟩ := ⟨_, rfl⟩
  rw [← hy]
  have hlen2 := fun ty w => len18 (P := Tryd.prog) Tryd.underlying9 hy ty w
  have q : decide (6 < (n : Int)) = false := decide_eq_false (by omega)
  have q2 : decide (20 < (rem.length : Int)) = true := decide_eq_true (by omega)
  have KA := Lib.hid (awake18 W hL)
  clear hy hl hL
  generalize rem.length = k2 at *
  go_enter Tryd.func5, Tryd.ntmps5
  go_wp2_with (go_at_call 6; (with_reducible refine KA.out.mono ?_); rintro e w1 ⟨rfl, hb1⟩)
  go_ret
  exact ⟨rfl, hb1⟩

set_option maxRecDepth 100000 in
set_option maxHeartbeats 32000000 in
theorem law_WordLines_true (a : Option Addr) (c : Nat) (ls : List (List (List UInt8))) (rem : List UInt8) (W : World) (hn : ls.length ≤ 6) (hr : rem.length ≤ 20)
    (hC : ∀ (i : Nat) x, ls[i]? = some x → ∃ b off u, a = some ⟨b, off, none⟩ ∧ b < W.heap.size ∧ W.cell? ⟨b, off + i, none⟩ = some u ∧ Inner18 W u x) (hL : Laid18 W) :
    Calls Tryd.prog 5 #[.slice a ls.length c, .string ⟨rem.toArray⟩, .bool true] W fun e W' => e = .returned (.bool true) ∧ Below W.heap.size W W' := by
  have KL : ∀ p : BW W, Laid18 p.w := fun p => hL.below p.h
  have KA := Lib.hid (fun p : BW W => awake18 p.w (KL p))
  have HC := Lib.hid hC
  clear hC hL KL
  obtain ⟨n, hnn⟩ : ∃ n, n = ls.length := ⟨_, rfl⟩
  have HN := Lib.hid hnn
  obtain ⟨m, hmm⟩ : ∃ m, m = rem.length := ⟨_, rfl⟩
  have HM := Lib.hid hmm
  obtain ⟨sr, hsr⟩ : ∃ s : ByteArray, s = ⟨rem.toArray⟩ := ⟨_, rfl⟩
  have HSR := Lib.hid hsr
  have hlenr := fun ty w => len18 (P := Tryd.prog) Tryd.underlying9 hsr ty w
  rw [← hnn] at hn ⊢
  rw [← hmm] at hr hlenr
  rw [← hsr]
  clear hnn hmm hsr
  have q1 : decide (6 < (n : Int)) = false := decide_eq_false (by omega)
  have q2 : decide (20 < (m : Int)) = false := decide_eq_false (by omega)
  obtain ⟨p0, hp0⟩ : ∃ p : BW W, p.w = W := ⟨BW.start W, rfl⟩
  suffices H : Calls Tryd.prog 5 #[.slice a n c, .string sr, .bool true] p0.w fun e W' => e = .returned (.bool true) ∧ ∃ q : BW W, W' = q.w by
    rw [hp0] at H
    exact H.mono (fun e W' ⟨h1, q, h2⟩ => ⟨h1, by rw [h2]; exact q.h⟩)
  clear hp0
  go_enter Tryd.func5, Tryd.ntmps5
  go_wp2
  clear q1 q2
  go_loopw [7] (fun i wr => ∃ (k : Nat) (q : BW W), k ≤ m ∧ i = .int .i64 k ∧ Hid (∀ ch ∈ rem.take k, nl ch = false) ∧ wr = q.w) (fun i _ => m - (intOf i).toNat)
  case atStart => exact ⟨0, p0, by omega, rfl, Lib.hid (fun ch h => by simp at h), rfl⟩
  case round =>
    obtain ⟨k, q, hk, rfl, HR, rfl⟩ := hrel
    by_cases hlt : k < m
    · have hkl : k < rem.length := by have := HM.out; omega
      have hix := fun w => idx18 (P := Tryd.prog) Tryd.underlying9 HSR.out k rem[k] (List.getElem?_eq_getElem hkl) w
      have hrk : rem[k]? = some rem[k] := List.getElem?_eq_getElem hkl
      obtain ⟨ch, hch⟩ : ∃ ch, ch = rem[k] := ⟨_, rfl⟩
      rw [← hch] at hix hrk
      clear hch hkl
      by_cases h10 : ch = 10
      · subst h10
        go_wp2_with (go_at_call 6; (with_reducible refine (bw_callp KA.out _).mono ?_); rintro e w1 ⟨rfl, q1, rfl⟩)
        go_ret
        exact ⟨rfl, _, rfl⟩
      · have hc10 : ((ch.toNat : Int) == 10) = false := by rw [beq_eq_false_iff_ne]; exact fun h => h10 (UInt8.toNat_inj.1 (by simp; omega))
        have HR2 := Lib.hid (take_all HR.out hrk (by simpa [nl] using h10))
        clear hrk h10
        generalize ch.toNat = cn at *
        go_wp2
        go_roundw
        case rel => exact ⟨k + 1, q, by omega, by go_num, HR2, rfl⟩
        case measure => simp [intOf]; omega
    · obtain rfl : k = m := by omega
      have HR3 : Hid (∀ ch ∈ rem, nl ch = false) := Lib.hid (take_whole (by have := HR.out; rw [HM.out] at this; exact this))
      have hmr : rem.length ≤ 20 := by have := HM.out; omega
      have hp1 := fun w => plus18 (P := Tryd.prog) [10, 32, 35] rem (by simp; omega) w
      have hp2 := fun w => plus18 (P := Tryd.prog) ([10, 32, 35] ++ rem) [10] (by simp; omega) w
      have et : ([10, 32, 35] ++ rem) ++ [10] = txt true rem [] := by simp [txt, body]
      rw [et] at hp2
      rw [← HSR.out] at hp1
      clear et HR
      generalize ([10, 32, 35] ++ rem) = t1 at *
      obtain ⟨s0, hs0⟩ : ∃ s : ByteArray, s = ⟨(txt true rem []).toArray⟩ := ⟨_, rfl⟩
      rw [← hs0] at hp2
      have HS0 := Lib.hid hs0
      clear hs0
      go_wp2
      clear hp1 hp2
      go_loopw [8, 9] (fun u i wr => ∃ (j : Nat) (q : BW W) (st : ByteArray), j ≤ n ∧ i = .int .i64 j ∧ u = .string st ∧ Hid (st = ⟨(txt true rem (ls.take j)).toArray⟩ ∧ ∀ x ∈ ls.take j, Fit x) ∧ wr = q.w) (fun _ i _ => n - (intOf i).toNat)
      case atStart => exact ⟨0, q, s0, by omega, rfl, rfl, Lib.hid ⟨HS0.out, fun x h => by simp at h⟩, rfl⟩
      case round =>
        obtain ⟨j, q, st, hj, rfl, rfl, HT, rfl⟩ := hrel
        by_cases hjt : j < n
        · have hjl : j < ls.length := by have := HN.out; omega
          have hx : ls[j]? = some ls[j] := List.getElem?_eq_getElem hjl
          obtain ⟨x, hxx⟩ : ∃ x, x = ls[j] := ⟨_, rfl⟩
          rw [← hxx] at hx
          obtain ⟨b, off, u, rfl, hb, hc, a2, c2, rfl, hcap, hin⟩ := HC.out j x hx
          have HX := Lib.hid hx
          clear hx hxx hjl hb
          have c_u := bw_cell hc
          clear hc
          obtain ⟨xl, hxl⟩ : ∃ xl, xl = x.length := ⟨_, rfl⟩
          have HXL := Lib.hid hxl
          rw [← hxl] at c_u hcap
          clear hxl
          by_cases h6 : 6 < xl
          · have q1 : decide (6 < (xl : Int)) = true := decide_eq_true (by omega)
            clear hin hcap
            go_wp2_with (go_at_call 6; (with_reducible refine (bw_callp KA.out _).mono ?_); rintro e w1 ⟨rfl, q1, rfl⟩)
            go_ret
            exact ⟨rfl, _, rfl⟩
          · have q1 : decide (6 < (xl : Int)) = false := decide_eq_false (by omega)
            by_cases h0 : xl = 0
            · have q2 : ((xl : Int) == 0) = true := by rw [beq_iff_eq]; omega
              clear hin hcap h0
              go_wp2_with (go_at_call 6; (with_reducible refine (bw_callp KA.out _).mono ?_); rintro e w1 ⟨rfl, q1, rfl⟩)
              go_ret
              exact ⟨rfl, _, rfl⟩
            · have q2 : ((xl : Int) == 0) = false := by rw [beq_eq_false_iff_ne]; omega
              obtain ⟨b2, off2, rfl, hb2, hcy⟩ := hin (fun e => h0 (by rw [HXL.out, e]; rfl))
              have HY := Lib.hid hcy
              clear hin hcy
              go_wp2
              clear q1 q2
              go_loopw [10] (fun i wr => ∃ (k : Nat) (q : BW W), k ≤ xl ∧ i = .int .i64 k ∧ Hid (∀ y ∈ x.take k, y.length ≤ 10 ∧ IsWord y) ∧ wr = q.w) (fun i _ => xl - (intOf i).toNat)
              case atStart => exact ⟨0, q, by omega, rfl, Lib.hid (fun y h => by simp at h), rfl⟩
              case round =>
                obtain ⟨k, q, hk, rfl, HW, rfl⟩ := hrel
                by_cases hkt : k < xl
                · have hkl : k < x.length := by have := HXL.out; omega
                  have hy : x[k]? = some x[k] := List.getElem?_eq_getElem hkl
                  obtain ⟨y, hyy⟩ : ∃ y, y = x[k] := ⟨_, rfl⟩
                  rw [← hyy] at hy
                  have c_y := bw_cell (HY.out k y hy)
                  have Hy := Lib.hid hy
                  clear hy hyy hkl
                  unfold sval at c_y
                  have KP := Lib.hid (fun (hl : y.length ≤ 10) (p : BW W) => ref18_Plain y (by omega) p.w)
                  obtain ⟨sy, hsy⟩ : ∃ s : ByteArray, s = ⟨y.toArray⟩ := ⟨_, rfl⟩
                  have hleny := fun ty w => len18 (P := Tryd.prog) Tryd.underlying9 hsy ty w
                  rw [← hsy] at c_y KP
                  clear hsy
                  obtain ⟨yl, hyl⟩ : ∃ yl, yl = y.length := ⟨_, rfl⟩
                  have HYL := Lib.hid hyl
                  rw [← hyl] at hleny KP
                  clear hyl
                  by_cases h10 : 10 < yl
                  · have q1 : decide (10 < (yl : Int)) = true := decide_eq_true (by omega)
                    clear KP
                    go_wp2_with (go_at_call 6; (with_reducible refine (bw_callp KA.out _).mono ?_); rintro e w1 ⟨rfl, q1, rfl⟩)
                    go_ret
                    exact ⟨rfl, _, rfl⟩
                  · have q1 : decide (10 < (yl : Int)) = false := decide_eq_false (by omega)
                    have KQ := Lib.hid (KP.out (by omega))
                    clear KP
                    by_cases hpl : plainB y = true
                    · rw [hpl] at KQ
                      have HW2 := Lib.hid (take_all HW.out Hy.out ⟨by have := HYL.out; omega, plainB_is hpl⟩)
                      clear hpl
                      go_wp2_with (go_at_call 18; (with_reducible refine (bw_callp KQ.out _).mono ?_); rintro e w1 ⟨rfl, q1, rfl⟩)
                      go_roundw
                      case rel => exact ⟨k + 1, q1, by omega, by go_num, HW2, rfl⟩
                      case measure => simp [intOf]; omega
                    · have hpl : plainB y = false := by simpa using hpl
                      rw [hpl] at KQ
                      clear hpl
                      go_wp2_with (first
                        | (go_at_call 18; (with_reducible refine (bw_callp KQ.out _).mono ?_); rintro e w1 ⟨rfl, q1, rfl⟩)
                        | (go_at_call 6; (with_reducible refine (bw_callp KA.out _).mono ?_); rintro e w1 ⟨rfl, q1, rfl⟩))
                      go_ret
                      exact ⟨rfl, _, rfl⟩
                · obtain rfl : k = xl := by omega
                  have hfit : Fit x := ⟨fun e => h0 (by rw [HXL.out, e]; rfl), by have := HXL.out; omega, take_whole (by have := HW.out; rw [HXL.out] at this; exact this)⟩
                  have HT2 := Lib.hid (take_all HT.out.2 HX.out hfit)
                  have hnl : ls.length ≤ 6 := by have := HN.out; omega
                  have b1 := fits_txt (tab := true) (rem := rem) HT.out.2 hnl hmr
                  have b2' := fit_len hfit
                  have b3 := ahd_len true
                  have enx := txt_next (tab := true) (rem := rem) HX.out
                  have hcells : ∀ (p : BW W) (j : Nat) z, x[j]? = some z → p.w.cell? ⟨b2, off2 + j, none⟩ = some (sval z) := fun p j z hz => bw_cell (HY.out j z hz) p
                  have KLn := Lib.hid (fun p : BW W => word_Line b2 off2 c2 x p.w (hcells p) (Nat.lt_of_lt_of_le hb2 p.h.size) (by have := HXL.out; omega) (by have := HXL.out; omega) (by have := b2'; unfold lineOf at this; rw [List.length_append] at this; omega))
                  rw [← HXL.out] at KLn
                  have hp0 := fun w => plus18 (P := Tryd.prog) (txt true rem (ls.take j)) [9, 32, 32] (by simp; omega) w
                  have hp1 := fun w => plus18 (P := Tryd.prog) (txt true rem (ls.take j) ++ [9, 32, 32]) (lineOf x) (by simp; omega) w
                  have hp2 := fun w => plus18 (P := Tryd.prog) ((txt true rem (ls.take j) ++ [9, 32, 32]) ++ lineOf x) [32, 10] (by simp; omega) w
                  rw [show ((txt true rem (ls.take j) ++ [9, 32, 32]) ++ lineOf x) ++ [32, 10] = txt true rem (ls.take (j + 1)) from enx.symm] at hp2
                  rw [← HT.out.1] at hp0
                  generalize ((txt true rem (ls.take j) ++ [9, 32, 32]) ++ lineOf x) = t3 at *
                  generalize (txt true rem (ls.take j) ++ [9, 32, 32]) = t2 at *
                  obtain ⟨s3, hs3⟩ : ∃ s : ByteArray, s = ⟨(txt true rem (ls.take (j + 1))).toArray⟩ := ⟨_, rfl⟩
                  rw [← hs3] at hp2
                  have HS3 := Lib.hid hs3
                  clear hs3 enx b1 b2' b3 hcells hnl hfit
                  generalize lineOf x = lx at *
                  go_wp2_with (go_at_call 19; (with_reducible refine (bw_callp KLn.out _).mono ?_); rintro e w1 ⟨rfl, q1, rfl⟩)
                  go_roundw
                  case rel => exact ⟨j + 1, q1, s3, by omega, by go_num, rfl, Lib.hid ⟨HS3.out, HT2.out⟩, rfl⟩
                  case measure => simp [intOf]; omega
        · obtain rfl : j = n := by omega
          have hall : ∀ x ∈ ls, Fit x := take_whole (by have := HT.out.2; rw [HN.out] at this; exact this)
          have HF := Lib.hid hall
          have hst : st = ⟨(txt true rem ls).toArray⟩ := by have := HT.out.1; rw [HN.out, List.take_length] at this; exact this
          have KR := Lib.hid (fun p : BW W => word_Rows (txt true rem ls) (by have := txt_len true rem ls hall (by have := HN.out; omega) hmr; omega) p.w)
          rw [rows_txt true rem ls HR3.out hall, ← hst] at KR
          clear hst hall HT
          go_upto_region 23 with (go_at_call 12; (with_reducible refine (KR.out _).mono ?_); rintro e w1 ⟨u1, rfl, R1, hb1⟩; obtain ⟨q1, rfl⟩ := bw_take18 hb1; clear hb1)
          obtain ⟨ar, cr, rfl, hB⟩ := rows_back R1
          have HB := Lib.hid hB
          rw [← HN.out]
          clear R1 hB KR
          go_wp2
          go_loopw [12] (fun i wr => ∃ (k : Nat) (q : BW q1.w), k ≤ j ∧ i = .int .i64 k ∧ wr = q.w) (fun i _ => j - (intOf i).toNat)
          case atStart => exact ⟨0, BW.start q1.w, by omega, rfl, rfl⟩
          case round =>
            obtain ⟨i, q, hi, rfl, rfl⟩ := hrel
            by_cases hit : i < j
            · have hil : i < ls.length := by have := HN.out; omega
              have hx : ls[i]? = some ls[i] := List.getElem?_eq_getElem hil
              obtain ⟨x, hxx⟩ : ∃ x, x = ls[i] := ⟨_, rfl⟩
              rw [← hxx] at hx
              have hfit := HF.out x (List.mem_of_getElem? hx)
              obtain ⟨b, off, u, rfl, hb, hc, a2, c2, rfl, hcap, hin⟩ := HC.out i x hx
              obtain ⟨br, or, a3, c3, rfl, hbr, x0, x1, x2, X⟩ := HB.out i x hx
              have HX := Lib.hid X
              obtain ⟨b2, off2, rfl, hb2, hcy⟩ := hin hfit.1
              have HY := Lib.hid hcy
              have HF2 := Lib.hid hfit
              have c_u : ∀ p : BW q1.w, p.w.cell? ⟨b, off + i, none⟩ = _ := fun p => bw_cell hc ⟨p.w, q1.h.trans (p.h.mono q1.h.size)⟩
              have c_0 := bw_cell x0
              have c_1 := bw_cell x1
              have c_2 := bw_cell x2
              obtain ⟨xl, hxl⟩ : ∃ xl, xl = x.length := ⟨_, rfl⟩
              have HXL := Lib.hid hxl
              rw [← hxl] at c_u c_2 hcap
              have hrm := reach_small x (fun y hy => (hfit.2.2 y hy).1) (ofs true)
              have hx6 := hfit.2.1
              have ho3 : ofs true ≤ 3 := by decide
              have hxl6 : xl ≤ 6 := by have := HXL.out; omega
              clear X hcy hin hx hxx hil hxl hc x0 x1 x2 hfit
              obtain ⟨fe, hfe⟩ : ∃ fe, fe = reach (ofs true) x := ⟨_, rfl⟩
              have HFE := Lib.hid hfe
              rw [← hfe] at c_1 hrm
              clear hfe
              have w1 : IntKind.i64.wrap (2 * (i : Int)) = 2 * i := by rw [IntKind.wrap_i64]; omega
              have w2 : IntKind.i64.wrap (3 + 2 * (i : Int)) = 3 + 2 * i := by rw [IntKind.wrap_i64]; omega
              go_upto_region 28 with (fail)
              refine wp_region_bw (by kernel_rfl) (by kernel_rfl) ?_
              repeat (go_big_quiet_step (first | fail))
              refine wpQuiet_nil ?_
              intro _ hw'
              obtain ⟨q, rfl⟩ := hw'
              go_wp2
              go_loopw [13, 14] (fun t s wr => ∃ (k : Nat) (q : BW q1.w) (f : Nat), k ≤ xl ∧ s = .int .i64 k ∧ t = .int .i64 ((f : Int) + 1) ∧ f ≤ 100 ∧ Hid (f = reach (ofs true) (x.take k)) ∧ wr = q.w) (fun _ s _ => xl - (intOf s).toNat)
              case atStart => exact ⟨0, q, ofs true, by omega, rfl, rfl, by omega, Lib.hid rfl, rfl⟩
              case round =>
                obtain ⟨k, q, f, hk, rfl, rfl, hf, HK, rfl⟩ := hrel
                by_cases hkt : k < xl
                · have hkl : k < x.length := by have := HXL.out; omega
                  have hy : x[k]? = some x[k] := List.getElem?_eq_getElem hkl
                  obtain ⟨y, hyy⟩ : ∃ y, y = x[k] := ⟨_, rfl⟩
                  rw [← hyy] at hy
                  have hy10 := (HF2.out.2.2 y (List.mem_of_getElem? hy)).1
                  have v0 := HY.out k y hy
                  obtain ⟨b4, o4, rfl, ib4, u0, u1, u2⟩ := HX.out k y hy
                  have hrt := reach_take hy (ofs true)
                  have hrs : reach (ofs true) (x.take (k + 1)) ≤ 100 := by
                    have := reach_small (x.take (k + 1)) (fun z hz => (HF2.out.2.2 z (List.mem_of_mem_take hz)).1) (ofs true)
                    rw [List.length_take] at this
                    omega
                  rw [← HK.out] at hrt u2
                  unfold sval at v0 u0
                  obtain ⟨sy, hsy⟩ : ∃ s : ByteArray, s = ⟨y.toArray⟩ := ⟨_, rfl⟩
                  have hleny := fun ty w => len18 (P := Tryd.prog) Tryd.underlying9 hsy ty w
                  rw [← hsy] at v0 u0
                  have hself : (sy.toList == sy.toList) = true := by simp
                  have d_v0 : ∀ p : BW q1.w, p.w.cell? ⟨b2, off2 + k, none⟩ = _ := fun p => bw_cell v0 ⟨p.w, q1.h.trans (p.h.mono q1.h.size)⟩
                  have d_u0 := bw_cell u0
                  have d_u1 := bw_cell u1
                  have d_u2 := bw_cell u2
                  have HRT := Lib.hid (And.intro hrt hrs)
                  obtain ⟨yl, hyl⟩ : ∃ yl, yl = y.length := ⟨_, rfl⟩
                  have HYL := Lib.hid hyl
                  rw [← hyl] at hleny hy10
                  have w3 : IntKind.i64.wrap ((f : Int) + 1 + (yl : Int)) = (f : Int) + 1 + yl := by rw [IntKind.wrap_i64]; omega
                  have w4 : IntKind.i64.wrap ((f : Int) + 1 + (yl : Int) + 1) = (f : Int) + 1 + yl + 1 := by rw [IntKind.wrap_i64]; omega
                  clear hy hyy hyl hsy v0 u0 u1 u2 hrt hrs hkl ib4
                  go_upto_region 36 with (fail)
                  refine wp_region_bw (by kernel_rfl) (by kernel_rfl) ?_
                  repeat (go_big_quiet_step (first | fail))
                  refine wpQuiet_nil ?_
                  intro _ hw'
                  obtain ⟨q, rfl⟩ := hw'
                  go_wp2
                  go_roundw
                  case rel => exact ⟨k + 1, q, f + yl + 1, by omega, by go_num, by first | (rw [w4]; push_cast; congr 1; omega) | (go_num), by have := HRT.out; have := HYL.out; omega, Lib.hid (by have := HRT.out.1; have := HYL.out; omega), rfl⟩
                  case measure => simp [intOf]; omega
                · obtain rfl : k = xl := by omega
                  have hfe : f = fe := by have h1 := HK.out; rw [HXL.out, List.take_length] at h1; rw [h1, HFE.out]
                  subst hfe
                  have w5 : IntKind.i64.wrap ((f : Int) + 1 - 1) = f := by rw [IntKind.wrap_i64]; omega
                  go_wp2
                  go_roundw
                  case rel => exact ⟨i + 1, q, by omega, by go_num, rfl⟩
                  case measure => simp [intOf]; omega
            · obtain rfl : i = j := by omega
              obtain ⟨qq, hqq⟩ : ∃ qq : BW W, qq.w = q.w := ⟨⟨q.w, q1.h.trans (q.h.mono q1.h.size)⟩, rfl⟩
              rw [← hqq]
              clear hqq
              go_wp2_with (go_at_call 6; (with_reducible refine (bw_callp KA.out _).mono ?_); rintro e w1 ⟨rfl, q1, rfl⟩)
              go_ret
              exact ⟨rfl, _, rfl⟩

set_option maxRecDepth 100000 in
set_option maxHeartbeats 32000000 in
theorem law_WordLines_false (a : Option Addr) (c : Nat) (ls : List (List (List UInt8))) (rem : List UInt8) (W : World) (hn : ls.length ≤ 6) (hr : rem.length ≤ 20)
    (hC : ∀ (i : Nat) x, ls[i]? = some x → ∃ b off u, a = some ⟨b, off, none⟩ ∧ b < W.heap.size ∧ W.cell? ⟨b, off + i, none⟩ = some u ∧ Inner18 W u x) (hL : Laid18 W) :
    Calls Tryd.prog 5 #[.slice a ls.length c, .string ⟨rem.toArray⟩, .bool false] W fun e W' => e = .returned (.bool true) ∧ Below W.heap.size W W' := by
  have KL : ∀ p : BW W, Laid18 p.w := fun p => hL.below p.h
  have KA := Lib.hid (fun p : BW W => awake18 p.w (KL p))
  have HC := Lib.hid hC
  clear hC hL KL
  obtain ⟨n, hnn⟩ : ∃ n, n = ls.length := ⟨_, rfl⟩
  have HN := Lib.hid hnn
  obtain ⟨m, hmm⟩ : ∃ m, m = rem.length := ⟨_, rfl⟩
  have HM := Lib.hid hmm
  obtain ⟨sr, hsr⟩ : ∃ s : ByteArray, s = ⟨rem.toArray⟩ := ⟨_, rfl⟩
  have HSR := Lib.hid hsr
  have hlenr := fun ty w => len18 (P := Tryd.prog) Tryd.underlying9 hsr ty w
  rw [← hnn] at hn ⊢
  rw [← hmm] at hr hlenr
  rw [← hsr]
  clear hnn hmm hsr
  have q1 : decide (6 < (n : Int)) = false := decide_eq_false (by omega)
  have q2 : decide (20 < (m : Int)) = false := decide_eq_false (by omega)
  obtain ⟨p0, hp0⟩ : ∃ p : BW W, p.w = W := ⟨BW.start W, rfl⟩
  suffices H : Calls Tryd.prog 5 #[.slice a n c, .string sr, .bool false] p0.w fun e W' => e = .returned (.bool true) ∧ ∃ q : BW W, W' = q.w by
    rw [hp0] at H
    exact H.mono (fun e W' ⟨h1, q, h2⟩ => ⟨h1, by rw [h2]; exact q.h⟩)
  clear hp0
  go_enter Tryd.func5, Tryd.ntmps5
  go_wp2
  clear q1 q2
  go_loopw [7] (fun i wr => ∃ (k : Nat) (q : BW W), k ≤ m ∧ i = .int .i64 k ∧ Hid (∀ ch ∈ rem.take k, nl ch = false) ∧ wr = q.w) (fun i _ => m - (intOf i).toNat)
  case atStart => exact ⟨0, p0, by omega, rfl, Lib.hid (fun ch h => by simp at h), rfl⟩
  case round =>
    obtain ⟨k, q, hk, rfl, HR, rfl⟩ := hrel
    by_cases hlt : k < m
    · have hkl : k < rem.length := by have := HM.out; omega
      have hix := fun w => idx18 (P := Tryd.prog) Tryd.underlying9 HSR.out k rem[k] (List.getElem?_eq_getElem hkl) w
      have hrk : rem[k]? = some rem[k] := List.getElem?_eq_getElem hkl
      obtain ⟨ch, hch⟩ : ∃ ch, ch = rem[k] := ⟨_, rfl⟩
      rw [← hch] at hix hrk
      clear hch hkl
      by_cases h10 : ch = 10
      · subst h10
        go_wp2_with (go_at_call 6; (with_reducible refine (bw_callp KA.out _).mono ?_); rintro e w1 ⟨rfl, q1, rfl⟩)
        go_ret
        exact ⟨rfl, _, rfl⟩
      · have hc10 : ((ch.toNat : Int) == 10) = false := by rw [beq_eq_false_iff_ne]; exact fun h => h10 (UInt8.toNat_inj.1 (by simp; omega))
        have HR2 := Lib.hid (take_all HR.out hrk (by simpa [nl] using h10))
        clear hrk h10
        generalize ch.toNat = cn at *
        go_wp2
        go_roundw
        case rel => exact ⟨k + 1, q, by omega, by go_num, HR2, rfl⟩
        case measure => simp [intOf]; omega
    · obtain rfl : k = m := by omega
      have HR3 : Hid (∀ ch ∈ rem, nl ch = false) := Lib.hid (take_whole (by have := HR.out; rw [HM.out] at this; exact this))
      have hmr : rem.length ≤ 20 := by have := HM.out; omega
      have hp1 := fun w => plus18 (P := Tryd.prog) [10, 32, 35] rem (by simp; omega) w
      have hp2 := fun w => plus18 (P := Tryd.prog) ([10, 32, 35] ++ rem) [10] (by simp; omega) w
      have et : ([10, 32, 35] ++ rem) ++ [10] = txt false rem [] := by simp [txt, body]
      rw [et] at hp2
      rw [← HSR.out] at hp1
      clear et HR
      generalize ([10, 32, 35] ++ rem) = t1 at *
      obtain ⟨s0, hs0⟩ : ∃ s : ByteArray, s = ⟨(txt false rem []).toArray⟩ := ⟨_, rfl⟩
      rw [← hs0] at hp2
      have HS0 := Lib.hid hs0
      clear hs0
      go_wp2
      clear hp1 hp2
      go_loopw [8, 9] (fun u i wr => ∃ (j : Nat) (q : BW W) (st : ByteArray), j ≤ n ∧ i = .int .i64 j ∧ u = .string st ∧ Hid (st = ⟨(txt false rem (ls.take j)).toArray⟩ ∧ ∀ x ∈ ls.take j, Fit x) ∧ wr = q.w) (fun _ i _ => n - (intOf i).toNat)
      case atStart => exact ⟨0, q, s0, by omega, rfl, rfl, Lib.hid ⟨HS0.out, fun x h => by simp at h⟩, rfl⟩
      case round =>
        obtain ⟨j, q, st, hj, rfl, rfl, HT, rfl⟩ := hrel
        by_cases hjt : j < n
        · have hjl : j < ls.length := by have := HN.out; omega
          have hx : ls[j]? = some ls[j] := List.getElem?_eq_getElem hjl
          obtain ⟨x, hxx⟩ : ∃ x, x = ls[j] := ⟨_, rfl⟩
          rw [← hxx] at hx
          obtain ⟨b, off, u, rfl, hb, hc, a2, c2, rfl, hcap, hin⟩ := HC.out j x hx
          have HX := Lib.hid hx
          clear hx hxx hjl hb
          have c_u := bw_cell hc
          clear hc
          obtain ⟨xl, hxl⟩ : ∃ xl, xl = x.length := ⟨_, rfl⟩
          have HXL := Lib.hid hxl
          rw [← hxl] at c_u hcap
          clear hxl
          by_cases h6 : 6 < xl
          · have q1 : decide (6 < (xl : Int)) = true := decide_eq_true (by omega)
            clear hin hcap
            go_wp2_with (go_at_call 6; (with_reducible refine (bw_callp KA.out _).mono ?_); rintro e w1 ⟨rfl, q1, rfl⟩)
            go_ret
            exact ⟨rfl, _, rfl⟩
          · have q1 : decide (6 < (xl : Int)) = false := decide_eq_false (by omega)
            by_cases h0 : xl = 0
            · have q2 : ((xl : Int) == 0) = true := by rw [beq_iff_eq]; omega
              clear hin hcap h0
              go_wp2_with (go_at_call 6; (with_reducible refine (bw_callp KA.out _).mono ?_); rintro e w1 ⟨rfl, q1, rfl⟩)
              go_ret
              exact ⟨rfl, _, rfl⟩
            · have q2 : ((xl : Int) == 0) = false := by rw [beq_eq_false_iff_ne]; omega
              obtain ⟨b2, off2, rfl, hb2, hcy⟩ := hin (fun e => h0 (by rw [HXL.out, e]; rfl))
              have HY := Lib.hid hcy
              clear hin hcy
              go_wp2
              clear q1 q2
              go_loopw [10] (fun i wr => ∃ (k : Nat) (q : BW W), k ≤ xl ∧ i = .int .i64 k ∧ Hid (∀ y ∈ x.take k, y.length ≤ 10 ∧ IsWord y) ∧ wr = q.w) (fun i _ => xl - (intOf i).toNat)
              case atStart => exact ⟨0, q, by omega, rfl, Lib.hid (fun y h => by simp at h), rfl⟩
              case round =>
                obtain ⟨k, q, hk, rfl, HW, rfl⟩ := hrel
                by_cases hkt : k < xl
                · have hkl : k < x.length := by have := HXL.out; omega
                  have hy : x[k]? = some x[k] := List.getElem?_eq_getElem hkl
                  obtain ⟨y, hyy⟩ : ∃ y, y = x[k] := ⟨_, rfl⟩
                  rw [← hyy] at hy
                  have c_y := bw_cell (HY.out k y hy)
                  have Hy := Lib.hid hy
                  clear hy hyy hkl
                  unfold sval at c_y
                  have KP := Lib.hid (fun (hl : y.length ≤ 10) (p : BW W) => ref18_Plain y (by omega) p.w)
                  obtain ⟨sy, hsy⟩ : ∃ s : ByteArray, s = ⟨y.toArray⟩ := ⟨_, rfl⟩
                  have hleny := fun ty w => len18 (P := Tryd.prog) Tryd.underlying9 hsy ty w
                  rw [← hsy] at c_y KP
                  clear hsy
                  obtain ⟨yl, hyl⟩ : ∃ yl, yl = y.length := ⟨_, rfl⟩
                  have HYL := Lib.hid hyl
                  rw [← hyl] at hleny KP
                  clear hyl
                  by_cases h10 : 10 < yl
                  · have q1 : decide (10 < (yl : Int)) = true := decide_eq_true (by omega)
                    clear KP
                    go_wp2_with (go_at_call 6; (with_reducible refine (bw_callp KA.out _).mono ?_); rintro e w1 ⟨rfl, q1, rfl⟩)
                    go_ret
                    exact ⟨rfl, _, rfl⟩
                  · have q1 : decide (10 < (yl : Int)) = false := decide_eq_false (by omega)
                    have KQ := Lib.hid (KP.out (by omega))
                    clear KP
                    by_cases hpl : plainB y = true
                    · rw [hpl] at KQ
                      have HW2 := Lib.hid (take_all HW.out Hy.out ⟨by have := HYL.out; omega, plainB_is hpl⟩)
                      clear hpl
                      go_wp2_with (go_at_call 18; (with_reducible refine (bw_callp KQ.out _).mono ?_); rintro e w1 ⟨rfl, q1, rfl⟩)
                      go_roundw
                      case rel => exact ⟨k + 1, q1, by omega, by go_num, HW2, rfl⟩
                      case measure => simp [intOf]; omega
                    · have hpl : plainB y = false := by simpa using hpl
                      rw [hpl] at KQ
                      clear hpl
                      go_wp2_with (first
                        | (go_at_call 18; (with_reducible refine (bw_callp KQ.out _).mono ?_); rintro e w1 ⟨rfl, q1, rfl⟩)
                        | (go_at_call 6; (with_reducible refine (bw_callp KA.out _).mono ?_); rintro e w1 ⟨rfl, q1, rfl⟩))
                      go_ret
                      exact ⟨rfl, _, rfl⟩
                · obtain rfl : k = xl := by omega
                  have hfit : Fit x := ⟨fun e => h0 (by rw [HXL.out, e]; rfl), by have := HXL.out; omega, take_whole (by have := HW.out; rw [HXL.out] at this; exact this)⟩
                  have HT2 := Lib.hid (take_all HT.out.2 HX.out hfit)
                  have hnl : ls.length ≤ 6 := by have := HN.out; omega
                  have b1 := fits_txt (tab := false) (rem := rem) HT.out.2 hnl hmr
                  have b2' := fit_len hfit
                  have b3 := ahd_len false
                  have enx := txt_next (tab := false) (rem := rem) HX.out
                  have hcells : ∀ (p : BW W) (j : Nat) z, x[j]? = some z → p.w.cell? ⟨b2, off2 + j, none⟩ = some (sval z) := fun p j z hz => bw_cell (HY.out j z hz) p
                  have KLn := Lib.hid (fun p : BW W => word_Line b2 off2 c2 x p.w (hcells p) (Nat.lt_of_lt_of_le hb2 p.h.size) (by have := HXL.out; omega) (by have := HXL.out; omega) (by have := b2'; unfold lineOf at this; rw [List.length_append] at this; omega))
                  rw [← HXL.out] at KLn
                  have hp1 := fun w => plus18 (P := Tryd.prog) (txt false rem (ls.take j)) (lineOf x) (by omega) w
                  have hp2 := fun w => plus18 (P := Tryd.prog) (txt false rem (ls.take j) ++ lineOf x) [32, 10] (by simp; omega) w
                  rw [show (txt false rem (ls.take j) ++ lineOf x) ++ [32, 10] = txt false rem (ls.take (j + 1)) by rw [enx]; simp [ahd]] at hp2
                  rw [← HT.out.1] at hp1
                  generalize (txt false rem (ls.take j) ++ lineOf x) = t3 at *
                  obtain ⟨s3, hs3⟩ : ∃ s : ByteArray, s = ⟨(txt false rem (ls.take (j + 1))).toArray⟩ := ⟨_, rfl⟩
                  rw [← hs3] at hp2
                  have HS3 := Lib.hid hs3
                  clear hs3 enx b1 b2' b3 hcells hnl hfit
                  generalize lineOf x = lx at *
                  go_wp2_with (go_at_call 19; (with_reducible refine (bw_callp KLn.out _).mono ?_); rintro e w1 ⟨rfl, q1, rfl⟩)
                  go_roundw
                  case rel => exact ⟨j + 1, q1, s3, by omega, by go_num, rfl, Lib.hid ⟨HS3.out, HT2.out⟩, rfl⟩
                  case measure => simp [intOf]; omega
        · obtain rfl : j = n := by omega
          have hall : ∀ x ∈ ls, Fit x := take_whole (by have := HT.out.2; rw [HN.out] at this; exact this)
          have HF := Lib.hid hall
          have hst : st = ⟨(txt false rem ls).toArray⟩ := by have := HT.out.1; rw [HN.out, List.take_length] at this; exact this
          have KR := Lib.hid (fun p : BW W => word_Rows (txt false rem ls) (by have := txt_len false rem ls hall (by have := HN.out; omega) hmr; omega) p.w)
          rw [rows_txt false rem ls HR3.out hall, ← hst] at KR
          clear hst hall HT
          go_upto_region 23 with (go_at_call 12; (with_reducible refine (KR.out _).mono ?_); rintro e w1 ⟨u1, rfl, R1, hb1⟩; obtain ⟨q1, rfl⟩ := bw_take18 hb1; clear hb1)
          obtain ⟨ar, cr, rfl, hB⟩ := rows_back R1
          have HB := Lib.hid hB
          rw [← HN.out]
          clear R1 hB KR
          go_wp2
          go_loopw [12] (fun i wr => ∃ (k : Nat) (q : BW q1.w), k ≤ j ∧ i = .int .i64 k ∧ wr = q.w) (fun i _ => j - (intOf i).toNat)
          case atStart => exact ⟨0, BW.start q1.w, by omega, rfl, rfl⟩
          case round =>
            obtain ⟨i, q, hi, rfl, rfl⟩ := hrel
            by_cases hit : i < j
            · have hil : i < ls.length := by have := HN.out; omega
              have hx : ls[i]? = some ls[i] := List.getElem?_eq_getElem hil
              obtain ⟨x, hxx⟩ : ∃ x, x = ls[i] := ⟨_, rfl⟩
              rw [← hxx] at hx
              have hfit := HF.out x (List.mem_of_getElem? hx)
              obtain ⟨b, off, u, rfl, hb, hc, a2, c2, rfl, hcap, hin⟩ := HC.out i x hx
              obtain ⟨br, or, a3, c3, rfl, hbr, x0, x1, x2, X⟩ := HB.out i x hx
              have HX := Lib.hid X
              obtain ⟨b2, off2, rfl, hb2, hcy⟩ := hin hfit.1
              have HY := Lib.hid hcy
              have HF2 := Lib.hid hfit
              have c_u : ∀ p : BW q1.w, p.w.cell? ⟨b, off + i, none⟩ = _ := fun p => bw_cell hc ⟨p.w, q1.h.trans (p.h.mono q1.h.size)⟩
              have c_0 := bw_cell x0
              have c_1 := bw_cell x1
              have c_2 := bw_cell x2
              obtain ⟨xl, hxl⟩ : ∃ xl, xl = x.length := ⟨_, rfl⟩
              have HXL := Lib.hid hxl
              rw [← hxl] at c_u c_2 hcap
              have hrm := reach_small x (fun y hy => (hfit.2.2 y hy).1) (ofs false)
              have hx6 := hfit.2.1
              have ho3 : ofs false ≤ 3 := by decide
              have hxl6 : xl ≤ 6 := by have := HXL.out; omega
              clear X hcy hin hx hxx hil hxl hc x0 x1 x2 hfit
              obtain ⟨fe, hfe⟩ : ∃ fe, fe = reach (ofs false) x := ⟨_, rfl⟩
              have HFE := Lib.hid hfe
              rw [← hfe] at c_1 hrm
              clear hfe
              have w1 : IntKind.i64.wrap (2 * (i : Int)) = 2 * i := by rw [IntKind.wrap_i64]; omega
              have w2 : IntKind.i64.wrap (3 + 2 * (i : Int)) = 3 + 2 * i := by rw [IntKind.wrap_i64]; omega
              go_upto_region 28 with (fail)
              refine wp_region_bw (by kernel_rfl) (by kernel_rfl) ?_
              repeat (go_big_quiet_step (first | fail))
              refine wpQuiet_nil ?_
              intro _ hw'
              obtain ⟨q, rfl⟩ := hw'
              go_wp2
              go_loopw [13, 14] (fun t s wr => ∃ (k : Nat) (q : BW q1.w) (f : Nat), k ≤ xl ∧ s = .int .i64 k ∧ t = .int .i64 ((f : Int) + 1) ∧ f ≤ 100 ∧ Hid (f = reach (ofs false) (x.take k)) ∧ wr = q.w) (fun _ s _ => xl - (intOf s).toNat)
              case atStart => exact ⟨0, q, ofs false, by omega, rfl, rfl, by omega, Lib.hid rfl, rfl⟩
              case round =>
                obtain ⟨k, q, f, hk, rfl, rfl, hf, HK, rfl⟩ := hrel
                by_cases hkt : k < xl
                · have hkl : k < x.length := by have := HXL.out; omega
                  have hy : x[k]? = some x[k] := List.getElem?_eq_getElem hkl
                  obtain ⟨y, hyy⟩ : ∃ y, y = x[k] := ⟨_, rfl⟩
                  rw [← hyy] at hy
                  have hy10 := (HF2.out.2.2 y (List.mem_of_getElem? hy)).1
                  have v0 := HY.out k y hy
                  obtain ⟨b4, o4, rfl, ib4, u0, u1, u2⟩ := HX.out k y hy
                  have hrt := reach_take hy (ofs false)
                  have hrs : reach (ofs false) (x.take (k + 1)) ≤ 100 := by
                    have := reach_small (x.take (k + 1)) (fun z hz => (HF2.out.2.2 z (List.mem_of_mem_take hz)).1) (ofs false)
                    rw [List.length_take] at this
                    omega
                  rw [← HK.out] at hrt u2
                  unfold sval at v0 u0
                  obtain ⟨sy, hsy⟩ : ∃ s : ByteArray, s = ⟨y.toArray⟩ := ⟨_, rfl⟩
                  have hleny := fun ty w => len18 (P := Tryd.prog) Tryd.underlying9 hsy ty w
                  rw [← hsy] at v0 u0
                  have hself : (sy.toList == sy.toList) = true := by simp
                  have d_v0 : ∀ p : BW q1.w, p.w.cell? ⟨b2, off2 + k, none⟩ = _ := fun p => bw_cell v0 ⟨p.w, q1.h.trans (p.h.mono q1.h.size)⟩
                  have d_u0 := bw_cell u0
                  have d_u1 := bw_cell u1
                  have d_u2 := bw_cell u2
                  have HRT := Lib.hid (And.intro hrt hrs)
                  obtain ⟨yl, hyl⟩ : ∃ yl, yl = y.length := ⟨_, rfl⟩
                  have HYL := Lib.hid hyl
                  rw [← hyl] at hleny hy10
                  have w3 : IntKind.i64.wrap ((f : Int) + 1 + (yl : Int)) = (f : Int) + 1 + yl := by rw [IntKind.wrap_i64]; omega
                  have w4 : IntKind.i64.wrap ((f : Int) + 1 + (yl : Int) + 1) = (f : Int) + 1 + yl + 1 := by rw [IntKind.wrap_i64]; omega
                  clear hy hyy hyl hsy v0 u0 u1 u2 hrt hrs hkl ib4
                  go_upto_region 36 with (fail)
                  refine wp_region_bw (by kernel_rfl) (by kernel_rfl) ?_
                  repeat (go_big_quiet_step (first | fail))
                  refine wpQuiet_nil ?_
                  intro _ hw'
                  obtain ⟨q, rfl⟩ := hw'
                  go_wp2
                  go_roundw
                  case rel => exact ⟨k + 1, q, f + yl + 1, by omega, by go_num, by first | (rw [w4]; push_cast; congr 1; omega) | (go_num), by have := HRT.out; have := HYL.out; omega, Lib.hid (by have := HRT.out.1; have := HYL.out; omega), rfl⟩
                  case measure => simp [intOf]; omega
                · obtain rfl : k = xl := by omega
                  have hfe : f = fe := by have h1 := HK.out; rw [HXL.out, List.take_length] at h1; rw [h1, HFE.out]
                  subst hfe
                  have w5 : IntKind.i64.wrap ((f : Int) + 1 - 1) = f := by rw [IntKind.wrap_i64]; omega
                  go_wp2
                  go_roundw
                  case rel => exact ⟨i + 1, q, by omega, by go_num, rfl⟩
                  case measure => simp [intOf]; omega
            · obtain rfl : i = j := by omega
              obtain ⟨qq, hqq⟩ : ∃ qq : BW W, qq.w = q.w := ⟨⟨q.w, q1.h.trans (q.h.mono q1.h.size)⟩, rfl⟩
              rw [← hqq]
              clear hqq
              go_wp2_with (go_at_call 6; (with_reducible refine (bw_callp KA.out _).mono ?_); rintro e w1 ⟨rfl, q1, rfl⟩)
              go_ret
              exact ⟨rfl, _, rfl⟩

theorem card_WordLines (v : Value) (y : ByteArray) (tab : Bool) (ls : List (List (List UInt8))) (W : World) (hv : Lists18 W v ls) (hL : Laid18 W) :
    Calls Tryd.prog 5 #[v, .string y, .bool tab] W fun e W' => e = .returned (.bool true) ∧ Below W.heap.size W W' := by
  obtain ⟨rem, rfl⟩ := string18 y
  obtain ⟨a, c, rfl, hC⟩ := hv
  by_cases hn : 6 < ls.length
  · exact law_WordLines_long a _ c rem tab hn W hL
  · by_cases hr : 20 < rem.length
    · exact law_WordLines_longr a _ c rem tab ⟨by omega, hr⟩ W hL
    · cases tab with
      | true => exact law_WordLines_true a c ls rem W (by omega) (by omega) hC hL
      | false => exact law_WordLines_false a c ls rem W (by omega) (by omega) hC hL

end Go.Proofs.YtlhamgcmkodjeaaDoor
