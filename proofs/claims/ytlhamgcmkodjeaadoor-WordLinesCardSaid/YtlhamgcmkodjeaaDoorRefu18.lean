/- The document's answers: a line's row. -/
import Derived.Test.YtlhamgcmkodjeaaDoorReft18
import Derived.Test.YtlhamgcmkodjeaaDoorRow
import Derived.Test.YtlhamgcmkodjeaaDoorFloat
namespace Go.Proofs.YtlhamgcmkodjeaaDoor
open Go.RowKit Go.Proofs.Sky
set_option linter.unusedVariables false
set_option linter.unusedSimpArgs false

set_option maxRecDepth 100000 in
set_option maxHeartbeats 8000000 in
theorem ref18_row (l : List UInt8) (m : Nat) (hl : l.length ≤ 100000) (hm : m ≤ 1000000) (w : World) :
    Calls Tryd.prog 27 #[.string ⟨l.toArray⟩, .int .i64 (m : Int)] w fun e w' => ∃ u, e = .returned (.agg #[.int .i64 (m : Int), .int .i64 (endOf (toks l) : Int), u]) ∧ TokRow w' w.heap.size 57 u m (toks l) ∧ Below w.heap.size w w' := by
  obtain ⟨i0, hi0, hz0, hz1, hz2⟩ := info_parts rtok_info
  obtain ⟨s, hs⟩ : ∃ s : ByteArray, s = ⟨l.toArray⟩ := ⟨_, rfl⟩
  rw [← hs]
  have HS := Lib.hid hs
  have hlen := fun ty w => len18 (P := Tryd.prog) Tryd.underlying9 hs ty w
  clear hs
  obtain ⟨n, hn⟩ : ∃ n, n = l.length := ⟨_, rfl⟩
  have HN := Lib.hid hn
  rw [← hn] at hlen hl
  clear hn
  obtain ⟨T, hT⟩ : ∃ T, T = toks l := ⟨_, rfl⟩
  have HT := Lib.hid hT
  rw [← hT]
  clear hT
  go_enter Tryd.func27, Tryd.ntmps27
  go_upto_region 2 with (fail)
  obtain ⟨W1, hW1⟩ : ∃ W, W = (w.alloc (.cells #[.int .i64 0, .int .i64 0, .slice none 0 0] 56)).alloc (.cells #[.int .i64 (m : Int), .int .i64 0, .slice none 0 0] 56) := ⟨_, rfl⟩
  obtain ⟨k_o, k_r, B1⟩ := st2 hW1
  rw [← hW1]
  clear hW1
  have l_r : w.heap.size < w.heap.size + 1 := by omega
  generalize w.heap.size + 1 = g_r at *
  go_wp2
  go_loopw [6] (fun i wr => ∃ (k : Nat) (ts : List (Nat × List UInt8)) (u : Value), k ≤ n ∧ i = .int .i64 k ∧ Hid (T = ts ++ scan k (aheadB l k) (l.drop k) ∧ ts.length ≤ k) ∧ Bk wr w.heap.size 56 #[.int .i64 0, .int .i64 0, .slice none 0 0] ∧ Bk wr g_r 56 #[.int .i64 (m : Int), .int .i64 (endOf ts : Int), u] ∧ TokRow wr w.heap.size 57 u m ts ∧ Below w.heap.size w wr) (fun i _ => n - (intOf i).toNat)
  case atStart => exact ⟨0, [], _, by omega, rfl, Lib.hid ⟨by rw [HT.out, toks_scan]; rfl, by simp⟩, k_o, k_r, World.ownsRow_nil _ _ _ _, B1⟩
  case round =>
    clear k_o k_r B1
    obtain ⟨k, ts, u, hk, rfl, HD, k_o, k_r, hu, BO⟩ := hrel
    obtain ⟨ua, uc, rfl⟩ := owns_slice hu
    have hnl := HN.out
    obtain ⟨hD1, hD2⟩ := HD.out
    by_cases hlt : k < n
    · have hkl : k < l.length := by omega
      have hix := fun w => idx18 (P := Tryd.prog) Tryd.underlying9 HS.out k l[k] (List.getElem?_eq_getElem hkl) w
      have KB := ref18_blank l[k]
      have hah := aheadB_succ hkl
      obtain ⟨c, hc⟩ : ∃ c, c = l[k] := ⟨_, rfl⟩
      rw [← hc] at hix KB hah
      by_cases hb : bl c = true
      · rw [hb] at KB hah
        replace KB := Lib.hid KB
        have HNX : Hid (T = ts ++ scan (k + 1) (aheadB l (k + 1)) (l.drop (k + 1)) ∧ ts.length ≤ k + 1) := Lib.hid ⟨by rw [hD1, scan_skip hkl (.inl (by rw [← hc]; exact hb)), hah, ← hc, hb], by omega⟩
        clear hc hah hb hD1 hD2 HD hnl hkl
        go_wp2_with (go_at_call 37; (with_reducible refine (KB.out _).mono ?_); rintro e w' ⟨rfl, rfl⟩)
        go_roundw
        case rel => exact ⟨k + 1, ts, _, by omega, by go_num, HNX, k_o, k_r, hu, BO⟩
        case measure => simp [intOf]; omega
      · have hb : bl c = false := by simpa using hb
        rw [hb] at KB hah
        replace KB := Lib.hid KB
        by_cases h0 : k = 0
        · have hpr : aheadB l k = true := by rw [h0]; rfl
          have hk0 : ¬ 0 < k := by omega
          clear h0
          by_cases h35 : c = 35
          · have HE : Hid (T = ts) := Lib.hid (by rw [hD1, hpr, scan_rem hkl (by rw [← hc]; exact h35), List.append_nil])
            clear hc hah hb hD1 hD2 HD hnl hkl hpr
            rw [show (c.toNat : Int) = 35 by rw [h35]; rfl] at hix KB
            clear h35
            have q0 := k_r.cell (i := 0) rfl
            have q1 := k_r.cell (i := 1) rfl
            have q2 := k_r.cell (i := 2) rfl
            have f0 := k_o.frozen 0
            have f1 := k_o.frozen 1
            have f2 := k_o.frozen 2
            have z0 := k_o.cell (i := 0) rfl
            have z1 := k_o.cell (i := 1) rfl
            have z2 := k_o.cell (i := 2) rfl
            have kr := bkp3 k_o (.int .i64 (m : Int)) (.int .i64 (endOf ts : Int)) (.slice ua ts.length uc)
            obtain ⟨rc0, rc1, rc2⟩ := rwc3 kr
            have hne : (Value.slice ua ts.length uc).ownBlock ≠ some w.heap.size := owns_bk hu k_o (by decide)
            have hu2 := owns_set (a := ⟨w.heap.size, 2, none⟩) (x := .slice ua ts.length uc) (owns_set (a := ⟨w.heap.size, 1, none⟩) (x := .int .i64 (endOf ts : Int)) (owns_set (a := ⟨w.heap.size, 0, none⟩) (x := .int .i64 (m : Int)) hu hne) hne) hne
            have B9 : Below w.heap.size w _ := blp3 (v0 := .int .i64 (m : Int)) (v1 := .int .i64 (endOf ts : Int)) (v2 := .slice ua ts.length uc) BO (Nat.le_refl _)
            have HU := Lib.hid hu2
            have HB9 := Lib.hid B9
            have HR0 := Lib.hid rc0
            have HR1 := Lib.hid rc1
            have HR2 := Lib.hid rc2
            clear kr hne hu2 B9 k_o k_r rc0 rc1 rc2
            have HET : Hid (endOf ts = endOf T) := Lib.hid (by rw [HE.out])
            generalize endOf ts = et at *
            go_wp2_with (go_at_call 37; (with_reducible refine (KB.out _).mono ?_); rintro e w' ⟨rfl, rfl⟩)
            have rc0 := HR0.out
            have rc1 := HR1.out
            have rc2 := HR2.out
            exact bodyPost_ret (v := .agg #[.int .i64 (m : Int), .int .i64 (et : Int), .slice ua ts.length uc]) (by simp [results, Tryd.results27, go_sem, rc0, rc1, rc2]) rfl ⟨_, by rw [HET.out], by rw [HE.out]; exact HU.out, HB9.out⟩
          · have h35i : ¬ ((c.toNat : Int) = 35) := fun h => h35 (UInt8.toNat_inj.1 (by simp; omega))
            have h35b : ((c.toNat : Int) == 35) = false := by simpa using h35i
            have hD1' : T = ts ++ (k, (l.drop k).takeWhile (fun c => !bl c)) :: scan (k + 1) (aheadB l (k + 1)) (l.drop (k + 1)) := by rw [hD1, hpr, scan_word hkl (by rw [← hc]; exact hb) (by rw [← hc]; exact h35), hah]
            have HD1 := Lib.hid hD1'
            have hbk : bl (l[k]'hkl) = false := by rw [← hc]; exact hb
            have HBK : Hid (∀ h : k < l.length, bl (l[k]'h) = false) := Lib.hid (fun h => hbk)
            clear hc hah hb hD1 hD1' hpr HD h35 hbk hkl hnl
            generalize c.toNat = cn at *
            go_upto_region 8 with (go_at_call 37; (with_reducible refine (KB.out _).mono ?_); rintro e w' ⟨rfl, rfl⟩)
            go_wp2
            rename World => wq
            go_loopw [7] (fun jv wr => ∃ j : Nat, k ≤ j ∧ j ≤ n ∧ jv = .int .i64 j ∧ Hid (∀ i (h : i < l.length), k ≤ i → i < j → bl (l[i]'h) = false) ∧ wr = wq) (fun jv _ => n - (intOf jv).toNat)
            case atStart => exact ⟨k, by omega, by omega, rfl, Lib.hid (fun i h a b => by omega), rfl⟩
            case round =>
              obtain ⟨j, hkj, hjn, rfl, HALL, rfl⟩ := hrel
              by_cases hjlt : j < n
              · have hjl : j < l.length := by have := HN.out; omega
                have hixj := fun w => idx18 (P := Tryd.prog) Tryd.underlying9 HS.out j l[j] (List.getElem?_eq_getElem hjl) w
                have KD := ref18_blank l[j]
                by_cases hbj : bl l[j] = true
                · have HST : Hid ((l.drop k).takeWhile (fun c => !bl c) = (l.drop k).take (j - k)) := Lib.hid (word_upto hkj (Nat.le_of_lt hjl) HALL.out (.inr ⟨hjl, hbj⟩))
                  rw [hbj] at KD
                  replace KD := Lib.hid KD
                  clear hbj
                  generalize l[j].toNat = dn at *
                  have hnl := HN.out
                  have hkj2 : k ≤ j := by omega
                  have hsl := fun w => slc18 (P := Tryd.prog) Tryd.underlying9 HS.out k j hkj2 (by omega) w
                  obtain ⟨wd, hwd⟩ : ∃ wd, wd = (l.drop k).take (j - k) := ⟨_, rfl⟩
                  rw [← hwd] at hsl
                  have hwl : wd.length = j - k := by rw [hwd]; simp; omega
                  have hjnE := HST.out
                  have HNX : Hid (T = (ts ++ [(k, wd)]) ++ scan (k + 1) (aheadB l (k + 1)) (l.drop (k + 1)) ∧ (ts ++ [(k, wd)]).length ≤ k + 1) := Lib.hid ⟨by rw [HD1.out, hjnE, hwd]; simp, by simp; omega⟩
                  have hend : (endOf (ts ++ [(k, wd)]) : Int) = (j : Int) + 1 := by rw [endOf_snoc]; simp only; omega
                  have HEND := Lib.hid hend
                  have hts : ts.length ≤ 100000 := by omega
                  have B1 := BO
                  clear hwd hwl hend hjnE HST HALL hnl
                  obtain ⟨c_r_0, c_r_1, c_r_2⟩ := bwc3 k_r
                  obtain ⟨p1, hp1⟩ : ∃ p : BW wr, p.w = wr := ⟨BW.start wr, rfl⟩
                  rw [← hp1]
                  clear hp1
                  go_upto_region 11 with (go_at_call 37; (with_reducible refine (KD.out _).mono ?_); rintro e w' ⟨rfl, rfl⟩)
                  refine wp_region_floatV (t := 57) (zs := #[.string ⟨wd.toArray⟩, .int .i64 (m : Int), .int .i64 ((k : Int) + 1)]) 11 10 61 68 [60] (fun g => .slice (some ⟨g, 0, none⟩) 1 1) (by kernel_rfl) (by kernel_rfl) (by kernel_rfl) (by kernel_rfl) rfl rfl ?_
                  apply Exists.intro
                  refine ⟨?_, ?_, ?_⟩
                  · intro wb' hwb'
                    obtain ⟨d_r_0, d_r_1, d_r_2⟩ := bwc3 (k_r.below hwb')
                    simp only [maskAt, List.take_succ_cons, List.take_zero]
                    repeat (go_big_quiet_step (first
                      | fail))
                    refine wpQuiet_nil ?_
                    exact rfl
                  · intro ax wx hp
                    have e60 := hp 60 (by decide)
                    clear hp
                    simp only [Act.put, List.setIfInBounds_toArray, List.set_cons_zero, List.set_cons_succ, List.getElem?_toArray, List.getElem?_cons_succ, List.getElem?_cons_zero] at e60
                    exact ⟨by simp [Region.wanted, yielded, e60], by simp [execOp, go_sem, Act.eval, e60]⟩
                  intro W3 g_nb hW hg k_nb
                  have B3 : Below w.heap.size w W3 := B1.trans (hW.mono B1.size)
                  have k_o := k_o.below hW
                  have k_r := k_r.below hW
                  have hu : TokRow W3 w.heap.size 57 (.slice ua ts.length uc) m ts := owns_below hu hW
                  clear hW hg B1 c_r_0 c_r_1 c_r_2
                  simp only [List.drop_succ_cons, List.drop_zero, Act.put, List.setIfInBounds_toArray, List.set_cons_zero, List.set_cons_succ]
                  have hsz := B3.size
                  go_wp2_with (at_builtin; refine wpList_append_at rfl _ _ 54 rfl w.heap.size 57 i0 _ 3 32 Tryd.underlying54 hi0 hz0 hz1 hz2 rfl (by decide) _ ts.length (ts.flatMap (tcells m)) rfl hu ⟨g_nb, 0, none⟩ 1 1 (tcells m (k, wd)) rfl rfl ?g1 ?g2 ?g3 ?g4 ?g5 ?_)
                  case g1 => exact bk_at18 k_nb
                  case g2 => exact tcells_one _ _
                  case g3 => unfold maxLen; omega
                  case g4 => omega
                  case g5 => omega
                  intro v' w1 hown hgrow hat
                  obtain ⟨va, vc, rfl⟩ := owns_slice hown
                  have r1 : TokRow w1 w.heap.size 57 (.slice va (ts.length + 1) vc) m (ts ++ [(k, wd)]) := by unfold TokRow; rw [List.length_append, tok_snoc]; exact hown
                  have hb1 : Below w.heap.size w w1 := B3.grown hgrow hsz (fun j ej => (World.ownsRow.lt hu j ej).1)
                  have kr1 := k_r.grown hgrow (fun e => owns_bk hu k_r (by decide) e.symm)
                  have ko1 := k_o.grown hgrow (fun e => owns_bk hu k_o (by decide) e.symm)
                  have q2 := kr1.cell (i := 2) rfl
                  have f2 := kr1.frozen 2
                  have hne : (Value.slice va (ts.length + 1) vc).ownBlock ≠ some g_r := owns_bk r1 kr1 (by decide)
                  clear hown hgrow hat hu k_o k_r k_nb
                  go_upto_region 12 with (fail)
                  obtain ⟨W4, hW4⟩ : ∃ W, W = w1.setCell ⟨g_r, 2, none⟩ (.slice va (ts.length + 1) vc) := ⟨_, rfl⟩
                  have B4 : Below w.heap.size w W4 := by rw [hW4]; exact (hb1.setCell (p := ⟨g_r, 2, none⟩) (by show w.heap.size ≤ g_r; omega) (.slice va (ts.length + 1) vc))
                  have kr2 : Bk W4 g_r 56 #[.int .i64 (m : Int), .int .i64 (endOf ts : Int), .slice va (ts.length + 1) vc] := by rw [hW4]; exact (kr1.set 2 (.slice va (ts.length + 1) vc)).cast (by simp)
                  have ko2 : Bk W4 w.heap.size 56 #[.int .i64 0, .int .i64 0, .slice none 0 0] := by rw [hW4]; exact (ko1.other (a := ⟨g_r, 2, none⟩) (by show ¬ w.heap.size = g_r; omega) (.slice va (ts.length + 1) vc))
                  have r2 : TokRow W4 w.heap.size 57 (.slice va (ts.length + 1) vc) m (ts ++ [(k, wd)]) := by rw [hW4]; exact owns_set r1 hne
                  rw [← hW4]
                  clear hW4 hb1 kr1 ko1 r1 q2 f2
                  have q1 := kr2.cell (i := 1) rfl
                  have f1 := kr2.frozen 1
                  have B5 : Below w.heap.size w _ := (B4.setCell (p := ⟨g_r, 1, none⟩) (by show w.heap.size ≤ g_r; omega) (.int .i64 ((j : Int) + 1)))
                  have kr3 : Bk _ g_r 56 #[.int .i64 (m : Int), .int .i64 (endOf (ts ++ [(k, wd)]) : Int), .slice va (ts.length + 1) vc] := (kr2.set 1 (.int .i64 ((j : Int) + 1))).cast (by rw [HEND.out]; simp)
                  have ko3 := ko2.other (a := ⟨g_r, 1, none⟩) (by show ¬ w.heap.size = g_r; omega) (.int .i64 ((j : Int) + 1))
                  have r3 : TokRow _ w.heap.size 57 (.slice va (ts.length + 1) vc) m (ts ++ [(k, wd)]) := owns_set (a := ⟨g_r, 1, none⟩) (x := .int .i64 ((j : Int) + 1)) r2 hne
                  have HALLX := Lib.hid (And.intro ko3 (And.intro kr3 (And.intro r3 B5)))
                  clear B5 kr3 ko3 r3 kr2 ko2 r2 B4 hne
                  generalize endOf ts = et at *
                  go_wp2
                  go_roundw
                  case rel => exact ⟨k + 1, ts ++ [(k, wd)], _, by omega, by go_num, HNX, HALLX.out⟩
                  case measure => simp [intOf]; omega
                · have hbj : bl l[j] = false := by simpa using hbj
                  have HNEXT : Hid (∀ i (h : i < l.length), k ≤ i → i < j + 1 → bl (l[i]'h) = false) := Lib.hid (fun i h a b => by
                    by_cases e : i = j
                    · subst e; exact hbj
                    · exact HALL.out i h a (by omega))
                  rw [hbj] at KD
                  replace KD := Lib.hid KD
                  clear hbj
                  generalize l[j].toNat = dn at *
                  go_wp2_with (go_at_call 37; (with_reducible refine (KD.out _).mono ?_); rintro e w' ⟨rfl, rfl⟩)
                  go_roundw
                  case rel => exact ⟨j + 1, by omega, by omega, by go_num, HNEXT, trivial⟩
                  case measure => simp [intOf]; omega
              · obtain rfl : j = n := by omega
                have HST : Hid ((l.drop k).takeWhile (fun c => !bl c) = (l.drop k).take (j - k)) := Lib.hid (word_upto hkj (by have := HN.out; omega) HALL.out (.inl HN.out))
                have hnl := HN.out
                have hkj2 : k ≤ j := by omega
                have hsl := fun w => slc18 (P := Tryd.prog) Tryd.underlying9 HS.out k j hkj2 (by omega) w
                obtain ⟨wd, hwd⟩ : ∃ wd, wd = (l.drop k).take (j - k) := ⟨_, rfl⟩
                rw [← hwd] at hsl
                have hwl : wd.length = j - k := by rw [hwd]; simp; omega
                have hjnE := HST.out
                have HNX : Hid (T = (ts ++ [(k, wd)]) ++ scan (k + 1) (aheadB l (k + 1)) (l.drop (k + 1)) ∧ (ts ++ [(k, wd)]).length ≤ k + 1) := Lib.hid ⟨by rw [HD1.out, hjnE, hwd]; simp, by simp; omega⟩
                have hend : (endOf (ts ++ [(k, wd)]) : Int) = (j : Int) + 1 := by rw [endOf_snoc]; simp only; omega
                have HEND := Lib.hid hend
                have hts : ts.length ≤ 100000 := by omega
                have B1 := BO
                clear hwd hwl hend hjnE HST HALL hnl
                obtain ⟨c_r_0, c_r_1, c_r_2⟩ := bwc3 k_r
                obtain ⟨p1, hp1⟩ : ∃ p : BW wr, p.w = wr := ⟨BW.start wr, rfl⟩
                rw [← hp1]
                clear hp1
                go_upto_region 11 with (fail)
                refine wp_region_floatV (t := 57) (zs := #[.string ⟨wd.toArray⟩, .int .i64 (m : Int), .int .i64 ((k : Int) + 1)]) 11 10 61 68 [60] (fun g => .slice (some ⟨g, 0, none⟩) 1 1) (by kernel_rfl) (by kernel_rfl) (by kernel_rfl) (by kernel_rfl) rfl rfl ?_
                apply Exists.intro
                refine ⟨?_, ?_, ?_⟩
                · intro wb' hwb'
                  obtain ⟨d_r_0, d_r_1, d_r_2⟩ := bwc3 (k_r.below hwb')
                  simp only [maskAt, List.take_succ_cons, List.take_zero]
                  repeat (go_big_quiet_step (first
                    | fail))
                  refine wpQuiet_nil ?_
                  exact rfl
                · intro ax wx hp
                  have e60 := hp 60 (by decide)
                  clear hp
                  simp only [Act.put, List.setIfInBounds_toArray, List.set_cons_zero, List.set_cons_succ, List.getElem?_toArray, List.getElem?_cons_succ, List.getElem?_cons_zero] at e60
                  exact ⟨by simp [Region.wanted, yielded, e60], by simp [execOp, go_sem, Act.eval, e60]⟩
                intro W3 g_nb hW hg k_nb
                have B3 : Below w.heap.size w W3 := B1.trans (hW.mono B1.size)
                have k_o := k_o.below hW
                have k_r := k_r.below hW
                have hu : TokRow W3 w.heap.size 57 (.slice ua ts.length uc) m ts := owns_below hu hW
                clear hW hg B1 c_r_0 c_r_1 c_r_2
                simp only [List.drop_succ_cons, List.drop_zero, Act.put, List.setIfInBounds_toArray, List.set_cons_zero, List.set_cons_succ]
                have hsz := B3.size
                go_wp2_with (at_builtin; refine wpList_append_at rfl _ _ 54 rfl w.heap.size 57 i0 _ 3 32 Tryd.underlying54 hi0 hz0 hz1 hz2 rfl (by decide) _ ts.length (ts.flatMap (tcells m)) rfl hu ⟨g_nb, 0, none⟩ 1 1 (tcells m (k, wd)) rfl rfl ?g1 ?g2 ?g3 ?g4 ?g5 ?_)
                case g1 => exact bk_at18 k_nb
                case g2 => exact tcells_one _ _
                case g3 => unfold maxLen; omega
                case g4 => omega
                case g5 => omega
                intro v' w1 hown hgrow hat
                obtain ⟨va, vc, rfl⟩ := owns_slice hown
                have r1 : TokRow w1 w.heap.size 57 (.slice va (ts.length + 1) vc) m (ts ++ [(k, wd)]) := by unfold TokRow; rw [List.length_append, tok_snoc]; exact hown
                have hb1 : Below w.heap.size w w1 := B3.grown hgrow hsz (fun j ej => (World.ownsRow.lt hu j ej).1)
                have kr1 := k_r.grown hgrow (fun e => owns_bk hu k_r (by decide) e.symm)
                have ko1 := k_o.grown hgrow (fun e => owns_bk hu k_o (by decide) e.symm)
                have q2 := kr1.cell (i := 2) rfl
                have f2 := kr1.frozen 2
                have hne : (Value.slice va (ts.length + 1) vc).ownBlock ≠ some g_r := owns_bk r1 kr1 (by decide)
                clear hown hgrow hat hu k_o k_r k_nb
                go_upto_region 12 with (fail)
                obtain ⟨W4, hW4⟩ : ∃ W, W = w1.setCell ⟨g_r, 2, none⟩ (.slice va (ts.length + 1) vc) := ⟨_, rfl⟩
                have B4 : Below w.heap.size w W4 := by rw [hW4]; exact (hb1.setCell (p := ⟨g_r, 2, none⟩) (by show w.heap.size ≤ g_r; omega) (.slice va (ts.length + 1) vc))
                have kr2 : Bk W4 g_r 56 #[.int .i64 (m : Int), .int .i64 (endOf ts : Int), .slice va (ts.length + 1) vc] := by rw [hW4]; exact (kr1.set 2 (.slice va (ts.length + 1) vc)).cast (by simp)
                have ko2 : Bk W4 w.heap.size 56 #[.int .i64 0, .int .i64 0, .slice none 0 0] := by rw [hW4]; exact (ko1.other (a := ⟨g_r, 2, none⟩) (by show ¬ w.heap.size = g_r; omega) (.slice va (ts.length + 1) vc))
                have r2 : TokRow W4 w.heap.size 57 (.slice va (ts.length + 1) vc) m (ts ++ [(k, wd)]) := by rw [hW4]; exact owns_set r1 hne
                rw [← hW4]
                clear hW4 hb1 kr1 ko1 r1 q2 f2
                have q1 := kr2.cell (i := 1) rfl
                have f1 := kr2.frozen 1
                have B5 : Below w.heap.size w _ := (B4.setCell (p := ⟨g_r, 1, none⟩) (by show w.heap.size ≤ g_r; omega) (.int .i64 ((j : Int) + 1)))
                have kr3 : Bk _ g_r 56 #[.int .i64 (m : Int), .int .i64 (endOf (ts ++ [(k, wd)]) : Int), .slice va (ts.length + 1) vc] := (kr2.set 1 (.int .i64 ((j : Int) + 1))).cast (by rw [HEND.out]; simp)
                have ko3 := ko2.other (a := ⟨g_r, 1, none⟩) (by show ¬ w.heap.size = g_r; omega) (.int .i64 ((j : Int) + 1))
                have r3 : TokRow _ w.heap.size 57 (.slice va (ts.length + 1) vc) m (ts ++ [(k, wd)]) := owns_set (a := ⟨g_r, 1, none⟩) (x := .int .i64 ((j : Int) + 1)) r2 hne
                have HALLX := Lib.hid (And.intro ko3 (And.intro kr3 (And.intro r3 B5)))
                clear B5 kr3 ko3 r3 kr2 ko2 r2 B4 hne
                generalize endOf ts = et at *
                go_wp2
                go_roundw
                case rel => exact ⟨k + 1, ts ++ [(k, wd)], _, by omega, by go_num, HNX, HALLX.out⟩
                case measure => simp [intOf]; omega
        · have hk0 : 0 < k := by omega
          obtain ⟨j0, hj0⟩ : ∃ j, j = k - 1 := ⟨_, rfl⟩
          have hjl : j0 < l.length := by omega
          have hix0 := fun w => idx18 (P := Tryd.prog) Tryd.underlying9 HS.out j0 l[j0] (List.getElem?_eq_getElem hjl) w
          have KC := ref18_blank l[j0]
          have hpr : aheadB l k = bl l[j0] := by have := aheadB_succ hjl; rw [show j0 + 1 = k by omega] at this; exact this
          have e1 : (k : Int) - 1 = (j0 : Int) := by omega
          have e2 : IntKind.i64.wrap (j0 : Int) = (j0 : Int) := by rw [IntKind.wrap_i64]; omega
          have e3 : IntKind.i64.wrap ((k : Int) - 1) = (j0 : Int) := by rw [IntKind.wrap_i64]; omega
          obtain ⟨d0, hd0⟩ : ∃ d, d = l[j0] := ⟨_, rfl⟩
          rw [← hd0] at hix0 KC hpr
          clear hd0 hjl hj0 h0
          by_cases hbd : bl d0 = true
          · rw [hbd] at KC hpr
            replace KC := Lib.hid KC
            clear hbd
            by_cases h35 : c = 35
            · have HE : Hid (T = ts) := Lib.hid (by rw [hD1, hpr, scan_rem hkl (by rw [← hc]; exact h35), List.append_nil])
              clear hc hah hb hD1 hD2 HD hnl hkl hpr
              rw [show (c.toNat : Int) = 35 by rw [h35]; rfl] at hix KB
              clear h35
              have q0 := k_r.cell (i := 0) rfl
              have q1 := k_r.cell (i := 1) rfl
              have q2 := k_r.cell (i := 2) rfl
              have f0 := k_o.frozen 0
              have f1 := k_o.frozen 1
              have f2 := k_o.frozen 2
              have z0 := k_o.cell (i := 0) rfl
              have z1 := k_o.cell (i := 1) rfl
              have z2 := k_o.cell (i := 2) rfl
              have kr := bkp3 k_o (.int .i64 (m : Int)) (.int .i64 (endOf ts : Int)) (.slice ua ts.length uc)
              obtain ⟨rc0, rc1, rc2⟩ := rwc3 kr
              have hne : (Value.slice ua ts.length uc).ownBlock ≠ some w.heap.size := owns_bk hu k_o (by decide)
              have hu2 := owns_set (a := ⟨w.heap.size, 2, none⟩) (x := .slice ua ts.length uc) (owns_set (a := ⟨w.heap.size, 1, none⟩) (x := .int .i64 (endOf ts : Int)) (owns_set (a := ⟨w.heap.size, 0, none⟩) (x := .int .i64 (m : Int)) hu hne) hne) hne
              have B9 : Below w.heap.size w _ := blp3 (v0 := .int .i64 (m : Int)) (v1 := .int .i64 (endOf ts : Int)) (v2 := .slice ua ts.length uc) BO (Nat.le_refl _)
              have HU := Lib.hid hu2
              have HB9 := Lib.hid B9
              have HR0 := Lib.hid rc0
              have HR1 := Lib.hid rc1
              have HR2 := Lib.hid rc2
              clear kr hne hu2 B9 k_o k_r rc0 rc1 rc2
              have HET : Hid (endOf ts = endOf T) := Lib.hid (by rw [HE.out])
              generalize endOf ts = et at *
              go_wp2_with (first
                  | (go_at_call 37; (with_reducible refine (KB.out _).mono ?_); rintro e w' ⟨rfl, rfl⟩)
                  | (go_at_call 37; (with_reducible refine (KC.out _).mono ?_); rintro e w' ⟨rfl, rfl⟩))
              have rc0 := HR0.out
              have rc1 := HR1.out
              have rc2 := HR2.out
              exact bodyPost_ret (v := .agg #[.int .i64 (m : Int), .int .i64 (et : Int), .slice ua ts.length uc]) (by simp [results, Tryd.results27, go_sem, rc0, rc1, rc2]) rfl ⟨_, by rw [HET.out], by rw [HE.out]; exact HU.out, HB9.out⟩
            · have h35i : ¬ ((c.toNat : Int) = 35) := fun h => h35 (UInt8.toNat_inj.1 (by simp; omega))
              have h35b : ((c.toNat : Int) == 35) = false := by simpa using h35i
              have hD1' : T = ts ++ (k, (l.drop k).takeWhile (fun c => !bl c)) :: scan (k + 1) (aheadB l (k + 1)) (l.drop (k + 1)) := by rw [hD1, hpr, scan_word hkl (by rw [← hc]; exact hb) (by rw [← hc]; exact h35), hah]
              have HD1 := Lib.hid hD1'
              have hbk : bl (l[k]'hkl) = false := by rw [← hc]; exact hb
              have HBK : Hid (∀ h : k < l.length, bl (l[k]'h) = false) := Lib.hid (fun h => hbk)
              clear hc hah hb hD1 hD1' hpr HD h35 hbk hkl hnl
              generalize c.toNat = cn at *
              go_upto_region 8 with (first
                | (go_at_call 37; (with_reducible refine (KB.out _).mono ?_); rintro e w' ⟨rfl, rfl⟩)
                | (go_at_call 37; (with_reducible refine (KC.out _).mono ?_); rintro e w' ⟨rfl, rfl⟩))
              go_wp2
              rename World => wq
              go_loopw [7] (fun jv wr => ∃ j : Nat, k ≤ j ∧ j ≤ n ∧ jv = .int .i64 j ∧ Hid (∀ i (h : i < l.length), k ≤ i → i < j → bl (l[i]'h) = false) ∧ wr = wq) (fun jv _ => n - (intOf jv).toNat)
              case atStart => exact ⟨k, by omega, by omega, rfl, Lib.hid (fun i h a b => by omega), rfl⟩
              case round =>
                obtain ⟨j, hkj, hjn, rfl, HALL, rfl⟩ := hrel
                by_cases hjlt : j < n
                · have hjl : j < l.length := by have := HN.out; omega
                  have hixj := fun w => idx18 (P := Tryd.prog) Tryd.underlying9 HS.out j l[j] (List.getElem?_eq_getElem hjl) w
                  have KD := ref18_blank l[j]
                  by_cases hbj : bl l[j] = true
                  · have HST : Hid ((l.drop k).takeWhile (fun c => !bl c) = (l.drop k).take (j - k)) := Lib.hid (word_upto hkj (Nat.le_of_lt hjl) HALL.out (.inr ⟨hjl, hbj⟩))
                    rw [hbj] at KD
                    replace KD := Lib.hid KD
                    clear hbj
                    generalize l[j].toNat = dn at *
                    have hnl := HN.out
                    have hkj2 : k ≤ j := by omega
                    have hsl := fun w => slc18 (P := Tryd.prog) Tryd.underlying9 HS.out k j hkj2 (by omega) w
                    obtain ⟨wd, hwd⟩ : ∃ wd, wd = (l.drop k).take (j - k) := ⟨_, rfl⟩
                    rw [← hwd] at hsl
                    have hwl : wd.length = j - k := by rw [hwd]; simp; omega
                    have hjnE := HST.out
                    have HNX : Hid (T = (ts ++ [(k, wd)]) ++ scan (k + 1) (aheadB l (k + 1)) (l.drop (k + 1)) ∧ (ts ++ [(k, wd)]).length ≤ k + 1) := Lib.hid ⟨by rw [HD1.out, hjnE, hwd]; simp, by simp; omega⟩
                    have hend : (endOf (ts ++ [(k, wd)]) : Int) = (j : Int) + 1 := by rw [endOf_snoc]; simp only; omega
                    have HEND := Lib.hid hend
                    have hts : ts.length ≤ 100000 := by omega
                    have B1 := BO
                    clear hwd hwl hend hjnE HST HALL hnl
                    obtain ⟨c_r_0, c_r_1, c_r_2⟩ := bwc3 k_r
                    obtain ⟨p1, hp1⟩ : ∃ p : BW wr, p.w = wr := ⟨BW.start wr, rfl⟩
                    rw [← hp1]
                    clear hp1
                    go_upto_region 11 with (go_at_call 37; (with_reducible refine (KD.out _).mono ?_); rintro e w' ⟨rfl, rfl⟩)
                    refine wp_region_floatV (t := 57) (zs := #[.string ⟨wd.toArray⟩, .int .i64 (m : Int), .int .i64 ((k : Int) + 1)]) 11 10 61 68 [60] (fun g => .slice (some ⟨g, 0, none⟩) 1 1) (by kernel_rfl) (by kernel_rfl) (by kernel_rfl) (by kernel_rfl) rfl rfl ?_
                    apply Exists.intro
                    refine ⟨?_, ?_, ?_⟩
                    · intro wb' hwb'
                      obtain ⟨d_r_0, d_r_1, d_r_2⟩ := bwc3 (k_r.below hwb')
                      simp only [maskAt, List.take_succ_cons, List.take_zero]
                      repeat (go_big_quiet_step (first
                        | fail))
                      refine wpQuiet_nil ?_
                      exact rfl
                    · intro ax wx hp
                      have e60 := hp 60 (by decide)
                      clear hp
                      simp only [Act.put, List.setIfInBounds_toArray, List.set_cons_zero, List.set_cons_succ, List.getElem?_toArray, List.getElem?_cons_succ, List.getElem?_cons_zero] at e60
                      exact ⟨by simp [Region.wanted, yielded, e60], by simp [execOp, go_sem, Act.eval, e60]⟩
                    intro W3 g_nb hW hg k_nb
                    have B3 : Below w.heap.size w W3 := B1.trans (hW.mono B1.size)
                    have k_o := k_o.below hW
                    have k_r := k_r.below hW
                    have hu : TokRow W3 w.heap.size 57 (.slice ua ts.length uc) m ts := owns_below hu hW
                    clear hW hg B1 c_r_0 c_r_1 c_r_2
                    simp only [List.drop_succ_cons, List.drop_zero, Act.put, List.setIfInBounds_toArray, List.set_cons_zero, List.set_cons_succ]
                    have hsz := B3.size
                    go_wp2_with (at_builtin; refine wpList_append_at rfl _ _ 54 rfl w.heap.size 57 i0 _ 3 32 Tryd.underlying54 hi0 hz0 hz1 hz2 rfl (by decide) _ ts.length (ts.flatMap (tcells m)) rfl hu ⟨g_nb, 0, none⟩ 1 1 (tcells m (k, wd)) rfl rfl ?g1 ?g2 ?g3 ?g4 ?g5 ?_)
                    case g1 => exact bk_at18 k_nb
                    case g2 => exact tcells_one _ _
                    case g3 => unfold maxLen; omega
                    case g4 => omega
                    case g5 => omega
                    intro v' w1 hown hgrow hat
                    obtain ⟨va, vc, rfl⟩ := owns_slice hown
                    have r1 : TokRow w1 w.heap.size 57 (.slice va (ts.length + 1) vc) m (ts ++ [(k, wd)]) := by unfold TokRow; rw [List.length_append, tok_snoc]; exact hown
                    have hb1 : Below w.heap.size w w1 := B3.grown hgrow hsz (fun j ej => (World.ownsRow.lt hu j ej).1)
                    have kr1 := k_r.grown hgrow (fun e => owns_bk hu k_r (by decide) e.symm)
                    have ko1 := k_o.grown hgrow (fun e => owns_bk hu k_o (by decide) e.symm)
                    have q2 := kr1.cell (i := 2) rfl
                    have f2 := kr1.frozen 2
                    have hne : (Value.slice va (ts.length + 1) vc).ownBlock ≠ some g_r := owns_bk r1 kr1 (by decide)
                    clear hown hgrow hat hu k_o k_r k_nb
                    go_upto_region 12 with (fail)
                    obtain ⟨W4, hW4⟩ : ∃ W, W = w1.setCell ⟨g_r, 2, none⟩ (.slice va (ts.length + 1) vc) := ⟨_, rfl⟩
                    have B4 : Below w.heap.size w W4 := by rw [hW4]; exact (hb1.setCell (p := ⟨g_r, 2, none⟩) (by show w.heap.size ≤ g_r; omega) (.slice va (ts.length + 1) vc))
                    have kr2 : Bk W4 g_r 56 #[.int .i64 (m : Int), .int .i64 (endOf ts : Int), .slice va (ts.length + 1) vc] := by rw [hW4]; exact (kr1.set 2 (.slice va (ts.length + 1) vc)).cast (by simp)
                    have ko2 : Bk W4 w.heap.size 56 #[.int .i64 0, .int .i64 0, .slice none 0 0] := by rw [hW4]; exact (ko1.other (a := ⟨g_r, 2, none⟩) (by show ¬ w.heap.size = g_r; omega) (.slice va (ts.length + 1) vc))
                    have r2 : TokRow W4 w.heap.size 57 (.slice va (ts.length + 1) vc) m (ts ++ [(k, wd)]) := by rw [hW4]; exact owns_set r1 hne
                    rw [← hW4]
                    clear hW4 hb1 kr1 ko1 r1 q2 f2
                    have q1 := kr2.cell (i := 1) rfl
                    have f1 := kr2.frozen 1
                    have B5 : Below w.heap.size w _ := (B4.setCell (p := ⟨g_r, 1, none⟩) (by show w.heap.size ≤ g_r; omega) (.int .i64 ((j : Int) + 1)))
                    have kr3 : Bk _ g_r 56 #[.int .i64 (m : Int), .int .i64 (endOf (ts ++ [(k, wd)]) : Int), .slice va (ts.length + 1) vc] := (kr2.set 1 (.int .i64 ((j : Int) + 1))).cast (by rw [HEND.out]; simp)
                    have ko3 := ko2.other (a := ⟨g_r, 1, none⟩) (by show ¬ w.heap.size = g_r; omega) (.int .i64 ((j : Int) + 1))
                    have r3 : TokRow _ w.heap.size 57 (.slice va (ts.length + 1) vc) m (ts ++ [(k, wd)]) := owns_set (a := ⟨g_r, 1, none⟩) (x := .int .i64 ((j : Int) + 1)) r2 hne
                    have HALLX := Lib.hid (And.intro ko3 (And.intro kr3 (And.intro r3 B5)))
                    clear B5 kr3 ko3 r3 kr2 ko2 r2 B4 hne
                    generalize endOf ts = et at *
                    go_wp2
                    go_roundw
                    case rel => exact ⟨k + 1, ts ++ [(k, wd)], _, by omega, by go_num, HNX, HALLX.out⟩
                    case measure => simp [intOf]; omega
                  · have hbj : bl l[j] = false := by simpa using hbj
                    have HNEXT : Hid (∀ i (h : i < l.length), k ≤ i → i < j + 1 → bl (l[i]'h) = false) := Lib.hid (fun i h a b => by
                      by_cases e : i = j
                      · subst e; exact hbj
                      · exact HALL.out i h a (by omega))
                    rw [hbj] at KD
                    replace KD := Lib.hid KD
                    clear hbj
                    generalize l[j].toNat = dn at *
                    go_wp2_with (go_at_call 37; (with_reducible refine (KD.out _).mono ?_); rintro e w' ⟨rfl, rfl⟩)
                    go_roundw
                    case rel => exact ⟨j + 1, by omega, by omega, by go_num, HNEXT, trivial⟩
                    case measure => simp [intOf]; omega
                · obtain rfl : j = n := by omega
                  have HST : Hid ((l.drop k).takeWhile (fun c => !bl c) = (l.drop k).take (j - k)) := Lib.hid (word_upto hkj (by have := HN.out; omega) HALL.out (.inl HN.out))
                  have hnl := HN.out
                  have hkj2 : k ≤ j := by omega
                  have hsl := fun w => slc18 (P := Tryd.prog) Tryd.underlying9 HS.out k j hkj2 (by omega) w
                  obtain ⟨wd, hwd⟩ : ∃ wd, wd = (l.drop k).take (j - k) := ⟨_, rfl⟩
                  rw [← hwd] at hsl
                  have hwl : wd.length = j - k := by rw [hwd]; simp; omega
                  have hjnE := HST.out
                  have HNX : Hid (T = (ts ++ [(k, wd)]) ++ scan (k + 1) (aheadB l (k + 1)) (l.drop (k + 1)) ∧ (ts ++ [(k, wd)]).length ≤ k + 1) := Lib.hid ⟨by rw [HD1.out, hjnE, hwd]; simp, by simp; omega⟩
                  have hend : (endOf (ts ++ [(k, wd)]) : Int) = (j : Int) + 1 := by rw [endOf_snoc]; simp only; omega
                  have HEND := Lib.hid hend
                  have hts : ts.length ≤ 100000 := by omega
                  have B1 := BO
                  clear hwd hwl hend hjnE HST HALL hnl
                  obtain ⟨c_r_0, c_r_1, c_r_2⟩ := bwc3 k_r
                  obtain ⟨p1, hp1⟩ : ∃ p : BW wr, p.w = wr := ⟨BW.start wr, rfl⟩
                  rw [← hp1]
                  clear hp1
                  go_upto_region 11 with (fail)
                  refine wp_region_floatV (t := 57) (zs := #[.string ⟨wd.toArray⟩, .int .i64 (m : Int), .int .i64 ((k : Int) + 1)]) 11 10 61 68 [60] (fun g => .slice (some ⟨g, 0, none⟩) 1 1) (by kernel_rfl) (by kernel_rfl) (by kernel_rfl) (by kernel_rfl) rfl rfl ?_
                  apply Exists.intro
                  refine ⟨?_, ?_, ?_⟩
                  · intro wb' hwb'
                    obtain ⟨d_r_0, d_r_1, d_r_2⟩ := bwc3 (k_r.below hwb')
                    simp only [maskAt, List.take_succ_cons, List.take_zero]
                    repeat (go_big_quiet_step (first
                      | fail))
                    refine wpQuiet_nil ?_
                    exact rfl
                  · intro ax wx hp
                    have e60 := hp 60 (by decide)
                    clear hp
                    simp only [Act.put, List.setIfInBounds_toArray, List.set_cons_zero, List.set_cons_succ, List.getElem?_toArray, List.getElem?_cons_succ, List.getElem?_cons_zero] at e60
                    exact ⟨by simp [Region.wanted, yielded, e60], by simp [execOp, go_sem, Act.eval, e60]⟩
                  intro W3 g_nb hW hg k_nb
                  have B3 : Below w.heap.size w W3 := B1.trans (hW.mono B1.size)
                  have k_o := k_o.below hW
                  have k_r := k_r.below hW
                  have hu : TokRow W3 w.heap.size 57 (.slice ua ts.length uc) m ts := owns_below hu hW
                  clear hW hg B1 c_r_0 c_r_1 c_r_2
                  simp only [List.drop_succ_cons, List.drop_zero, Act.put, List.setIfInBounds_toArray, List.set_cons_zero, List.set_cons_succ]
                  have hsz := B3.size
                  go_wp2_with (at_builtin; refine wpList_append_at rfl _ _ 54 rfl w.heap.size 57 i0 _ 3 32 Tryd.underlying54 hi0 hz0 hz1 hz2 rfl (by decide) _ ts.length (ts.flatMap (tcells m)) rfl hu ⟨g_nb, 0, none⟩ 1 1 (tcells m (k, wd)) rfl rfl ?g1 ?g2 ?g3 ?g4 ?g5 ?_)
                  case g1 => exact bk_at18 k_nb
                  case g2 => exact tcells_one _ _
                  case g3 => unfold maxLen; omega
                  case g4 => omega
                  case g5 => omega
                  intro v' w1 hown hgrow hat
                  obtain ⟨va, vc, rfl⟩ := owns_slice hown
                  have r1 : TokRow w1 w.heap.size 57 (.slice va (ts.length + 1) vc) m (ts ++ [(k, wd)]) := by unfold TokRow; rw [List.length_append, tok_snoc]; exact hown
                  have hb1 : Below w.heap.size w w1 := B3.grown hgrow hsz (fun j ej => (World.ownsRow.lt hu j ej).1)
                  have kr1 := k_r.grown hgrow (fun e => owns_bk hu k_r (by decide) e.symm)
                  have ko1 := k_o.grown hgrow (fun e => owns_bk hu k_o (by decide) e.symm)
                  have q2 := kr1.cell (i := 2) rfl
                  have f2 := kr1.frozen 2
                  have hne : (Value.slice va (ts.length + 1) vc).ownBlock ≠ some g_r := owns_bk r1 kr1 (by decide)
                  clear hown hgrow hat hu k_o k_r k_nb
                  go_upto_region 12 with (fail)
                  obtain ⟨W4, hW4⟩ : ∃ W, W = w1.setCell ⟨g_r, 2, none⟩ (.slice va (ts.length + 1) vc) := ⟨_, rfl⟩
                  have B4 : Below w.heap.size w W4 := by rw [hW4]; exact (hb1.setCell (p := ⟨g_r, 2, none⟩) (by show w.heap.size ≤ g_r; omega) (.slice va (ts.length + 1) vc))
                  have kr2 : Bk W4 g_r 56 #[.int .i64 (m : Int), .int .i64 (endOf ts : Int), .slice va (ts.length + 1) vc] := by rw [hW4]; exact (kr1.set 2 (.slice va (ts.length + 1) vc)).cast (by simp)
                  have ko2 : Bk W4 w.heap.size 56 #[.int .i64 0, .int .i64 0, .slice none 0 0] := by rw [hW4]; exact (ko1.other (a := ⟨g_r, 2, none⟩) (by show ¬ w.heap.size = g_r; omega) (.slice va (ts.length + 1) vc))
                  have r2 : TokRow W4 w.heap.size 57 (.slice va (ts.length + 1) vc) m (ts ++ [(k, wd)]) := by rw [hW4]; exact owns_set r1 hne
                  rw [← hW4]
                  clear hW4 hb1 kr1 ko1 r1 q2 f2
                  have q1 := kr2.cell (i := 1) rfl
                  have f1 := kr2.frozen 1
                  have B5 : Below w.heap.size w _ := (B4.setCell (p := ⟨g_r, 1, none⟩) (by show w.heap.size ≤ g_r; omega) (.int .i64 ((j : Int) + 1)))
                  have kr3 : Bk _ g_r 56 #[.int .i64 (m : Int), .int .i64 (endOf (ts ++ [(k, wd)]) : Int), .slice va (ts.length + 1) vc] := (kr2.set 1 (.int .i64 ((j : Int) + 1))).cast (by rw [HEND.out]; simp)
                  have ko3 := ko2.other (a := ⟨g_r, 1, none⟩) (by show ¬ w.heap.size = g_r; omega) (.int .i64 ((j : Int) + 1))
                  have r3 : TokRow _ w.heap.size 57 (.slice va (ts.length + 1) vc) m (ts ++ [(k, wd)]) := owns_set (a := ⟨g_r, 1, none⟩) (x := .int .i64 ((j : Int) + 1)) r2 hne
                  have HALLX := Lib.hid (And.intro ko3 (And.intro kr3 (And.intro r3 B5)))
                  clear B5 kr3 ko3 r3 kr2 ko2 r2 B4 hne
                  generalize endOf ts = et at *
                  go_wp2
                  go_roundw
                  case rel => exact ⟨k + 1, ts ++ [(k, wd)], _, by omega, by go_num, HNX, HALLX.out⟩
                  case measure => simp [intOf]; omega
          · have hbd : bl d0 = false := by simpa using hbd
            rw [hbd] at KC hpr
            replace KC := Lib.hid KC
            have HNX : Hid (T = ts ++ scan (k + 1) (aheadB l (k + 1)) (l.drop (k + 1)) ∧ ts.length ≤ k + 1) := Lib.hid ⟨by rw [hD1, scan_skip hkl (.inr hpr), hah, ← hc, hb], by omega⟩
            clear hc hah hb hD1 hD2 HD hnl hkl hpr hbd
            go_wp2_with (first
              | (go_at_call 37; (with_reducible refine (KB.out _).mono ?_); rintro e w' ⟨rfl, rfl⟩)
              | (go_at_call 37; (with_reducible refine (KC.out _).mono ?_); rintro e w' ⟨rfl, rfl⟩))
            go_roundw
            case rel => exact ⟨k + 1, ts, _, by omega, by go_num, HNX, k_o, k_r, hu, BO⟩
            case measure => simp [intOf]; omega
    · obtain rfl : k = n := by omega
      have HE : Hid (T = ts) := Lib.hid (by rw [hD1, scan_out (by omega), List.append_nil])
      clear hD1 hD2 HD hnl
      have q0 := k_r.cell (i := 0) rfl
      have q1 := k_r.cell (i := 1) rfl
      have q2 := k_r.cell (i := 2) rfl
      have f0 := k_o.frozen 0
      have f1 := k_o.frozen 1
      have f2 := k_o.frozen 2
      have z0 := k_o.cell (i := 0) rfl
      have z1 := k_o.cell (i := 1) rfl
      have z2 := k_o.cell (i := 2) rfl
      have kr := bkp3 k_o (.int .i64 (m : Int)) (.int .i64 (endOf ts : Int)) (.slice ua ts.length uc)
      obtain ⟨rc0, rc1, rc2⟩ := rwc3 kr
      have hne : (Value.slice ua ts.length uc).ownBlock ≠ some w.heap.size := owns_bk hu k_o (by decide)
      have hu2 := owns_set (a := ⟨w.heap.size, 2, none⟩) (x := .slice ua ts.length uc) (owns_set (a := ⟨w.heap.size, 1, none⟩) (x := .int .i64 (endOf ts : Int)) (owns_set (a := ⟨w.heap.size, 0, none⟩) (x := .int .i64 (m : Int)) hu hne) hne) hne
      have B9 : Below w.heap.size w _ := blp3 (v0 := .int .i64 (m : Int)) (v1 := .int .i64 (endOf ts : Int)) (v2 := .slice ua ts.length uc) BO (Nat.le_refl _)
      have HU := Lib.hid hu2
      have HB9 := Lib.hid B9
      have HR0 := Lib.hid rc0
      have HR1 := Lib.hid rc1
      have HR2 := Lib.hid rc2
      clear kr hne hu2 B9 k_o k_r rc0 rc1 rc2
      have HET : Hid (endOf ts = endOf T) := Lib.hid (by rw [HE.out])
      generalize endOf ts = et at *
      go_wp2
      have rc0 := HR0.out
      have rc1 := HR1.out
      have rc2 := HR2.out
      exact bodyPost_ret (v := .agg #[.int .i64 (m : Int), .int .i64 (et : Int), .slice ua ts.length uc]) (by simp [results, Tryd.results27, go_sem, rc0, rc1, rc2]) rfl ⟨_, by rw [HET.out], by rw [HE.out]; exact HU.out, HB9.out⟩
end Go.Proofs.YtlhamgcmkodjeaaDoor
