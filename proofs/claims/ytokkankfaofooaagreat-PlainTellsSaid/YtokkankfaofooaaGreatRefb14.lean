/- Contracts of the document's own answers, layer 14: first, Closest, Any. Contracts of the document's own answers, layer 14: Closest, Any, Among; the statements' same; a slice of things that came in. -/
import Derived.Test.YtokkankfaofooaaGreatRef14
import Derived.Deep.DeepCutAuto
import Derived.Test.YtokkankfaofooaaGreatOpen
import Derived.Test.YtokkankfaofooaaGreatRecs
import Derived.Laws.AppendOwn

namespace Go.Proofs.YtokkankfaofooaaGreat
section
open Go.RowKit Go.Proofs.Sky
set_option linter.unusedVariables false

theorem take_all_succ (l : List H3) (p : H3 → Bool) (k : Nat) (h : k < l.length) : (l.take (k + 1)).all p = ((l.take k).all p && p l[k]) := by
  rw [List.take_succ_eq_append_getElem h, List.all_append]
  simp

set_option maxRecDepth 100000 in
set_option maxHeartbeats 8000000 in
theorem ref14_first (v : Value) (l : List H3) (w : World) (hs : Hits w v l) (hI : ∀ x ∈ l, I64 x.1 ∧ I64 x.2.1 ∧ I64 x.2.2) (hn : l.length ≤ 1000000) :
    Calls Tryz.prog 19 #[v] w fun e w' => e = .returned (.tuple #[.agg #[.int .i64 (hFirst l).1.1, .int .i64 (hFirst l).1.2.1, .int .i64 (hFirst l).1.2.2], .bool (hFirst l).2]) ∧ Below w.heap.size w w' := by
  obtain ⟨a, cap, rfl, hm, hS⟩ := hs
  have HS := Lib.hid hS
  clear hS
  obtain ⟨F, hF⟩ : ∃ F, F = hFirst l := ⟨_, rfl⟩
  rw [← hF]
  have HF := Lib.hid hF
  clear hF
  go_enter Tryz.func19, Tryz.ntmps19
  go_upto_region 1 with (fail)
  obtain ⟨W1, hW1⟩ : ∃ W, W = w.alloc (.cells #[.int .i64 0, .int .i64 0, .int .i64 0] 31) := ⟨_, rfl⟩
  obtain ⟨k_r, B1⟩ := st1 hW1
  rw [← hW1]
  clear hW1
  go_wp2
  go_loopw [4] (fun i wr => ∃ (k : Nat) (q : BW W1), k ≤ l.length ∧ i = .int .i64 k ∧ wr = q.w ∧ ∀ j (h : j < l.length), j < k → hBest l l[j] = false) (fun i _ => l.length - (intOf i).toNat)
  case atStart => exact ⟨0, BW.start W1, by omega, rfl, rfl, fun j _ h => absurd h (by omega)⟩
  case round =>
    obtain ⟨k, p1, hk, rfl, rfl, hnone⟩ := hrel
    have HN := Lib.hid hnone
    clear hnone
    by_cases hlt : k < l.length
    · obtain ⟨b, off, rfl, hlb, hcell⟩ := HS.out.resolve_left (by omega)
      have hIk := hI _ (List.getElem_mem hlt)
      have f0 : w.cell? ⟨b, off + k * 3 + 0, none⟩ = some (.int .i64 l[k].1) := hcell k hlt 0 (by omega)
      have f1 : w.cell? ⟨b, off + k * 3 + 1, none⟩ = some (.int .i64 l[k].2.1) := hcell k hlt 1 (by omega)
      have f2 : w.cell? ⟨b, off + k * 3 + 2, none⟩ = some (.int .i64 l[k].2.2) := hcell k hlt 2 (by omega)
      obtain ⟨z, hz⟩ : ∃ z, z = l[k] := ⟨_, rfl⟩
      rw [← hz] at f0 f1 f2 hIk
      have HZ := Lib.hid hz
      clear hz
      obtain ⟨z1, z2, z3⟩ := z
      dsimp only at f0 f1 f2 hIk
      have c_f_0 : ∀ p : BW W1, p.w.cell? ⟨b, off + k * 3, none⟩ = some (.int .i64 z1) := bw_cell ((B1.cell (p := ⟨b, off + k * 3, none⟩) hlb).trans f0)
      have c_f_1 : ∀ p : BW W1, p.w.cell? ⟨b, off + k * 3 + 1, none⟩ = some (.int .i64 z2) := bw_cell ((B1.cell (p := ⟨b, off + k * 3 + 1, none⟩) hlb).trans f1)
      have c_f_2 : ∀ p : BW W1, p.w.cell? ⟨b, off + k * 3 + 2, none⟩ = some (.int .i64 z3) := bw_cell ((B1.cell (p := ⟨b, off + k * 3 + 2, none⟩) hlb).trans f2)
      go_wp2
      go_loopw [5, 6] (fun best i wr => ∃ (m : Nat) (q : BW W1), m ≤ l.length ∧ i = .int .i64 m ∧ best = .bool ((l.take m).all (fun y => !hb y (z1, z2, z3))) ∧ wr = q.w) (fun _ i _ => l.length - (intOf i).toNat)
      case atStart => exact ⟨0, p1, by omega, rfl, rfl, rfl⟩
      case round =>
        obtain ⟨m, p2, hm2, rfl, rfl, rfl⟩ := hrel
        by_cases hl2 : m < l.length
        · have hIm := hI _ (List.getElem_mem hl2)
          have y0 : w.cell? ⟨b, off + m * 3 + 0, none⟩ = some (.int .i64 l[m].1) := hcell m hl2 0 (by omega)
          have y1 : w.cell? ⟨b, off + m * 3 + 1, none⟩ = some (.int .i64 l[m].2.1) := hcell m hl2 1 (by omega)
          have y2 : w.cell? ⟨b, off + m * 3 + 2, none⟩ = some (.int .i64 l[m].2.2) := hcell m hl2 2 (by omega)
          have hT := take_all_succ l (fun y => !hb y (z1, z2, z3)) m hl2
          obtain ⟨s, hs⟩ : ∃ s, s = (l.take m).all (fun y => !hb y (z1, z2, z3)) := ⟨_, rfl⟩
          rw [← hs] at hT ⊢
          clear hs
          have HC := Lib.hid hcell
          clear hcell
          generalize l[m] = y at *
          obtain ⟨u1, u2, u3⟩ := y
          dsimp only at y0 y1 y2 hIm
          have KB := Lib.hid (fun w => ref14_Better u1 u2 u3 z1 z2 z3 w hIm.2.1 hIm.2.2 hIk.2.1 hIk.2.2)
          generalize hb (u1, u2, u3) (z1, z2, z3) = e at *
          have HT := Lib.hid hT
          clear hT hIm

          have c_y_0 : ∀ p : BW W1, p.w.cell? ⟨b, off + m * 3, none⟩ = some (.int .i64 u1) := bw_cell ((B1.cell (p := ⟨b, off + m * 3, none⟩) hlb).trans y0)
          have c_y_1 : ∀ p : BW W1, p.w.cell? ⟨b, off + m * 3 + 1, none⟩ = some (.int .i64 u2) := bw_cell ((B1.cell (p := ⟨b, off + m * 3 + 1, none⟩) hlb).trans y1)
          have c_y_2 : ∀ p : BW W1, p.w.cell? ⟨b, off + m * 3 + 2, none⟩ = some (.int .i64 u3) := bw_cell ((B1.cell (p := ⟨b, off + m * 3 + 2, none⟩) hlb).trans y2)
          go_upto_region 8 with (fail)
          refine wp_region_bw (by kernel_rfl) (by kernel_rfl) ?_
          repeat (go_big_quiet_step (first
            | (go_at_call 12; (with_reducible exact bw_call KB.out _))
            | fail))
          refine wpQuiet_nil ?_
          intro _ hw'
          obtain ⟨q, rfl⟩ := hw'
          cases e with
          | false =>
            go_wp2
            go_roundw
            case rel => exact ⟨m + 1, q, by omega, by go_num, by rw [HT.out]; simp, rfl⟩
            case measure => simp [intOf]; omega
          | true =>
            go_wp2
            go_roundw
            case rel => exact ⟨m + 1, q, by omega, by go_num, by rw [HT.out]; simp, rfl⟩
            case measure => simp [intOf]; omega
        · obtain rfl : m = l.length := by omega
          have hB : hBest l l[k] = (l.take l.length).all (fun y => !hb y (z1, z2, z3)) := by rw [List.take_length, ← HZ.out]; rfl
          have HB := Lib.hid hB
          clear hB
          generalize (l.take l.length).all (fun y => !hb y (z1, z2, z3)) = s at *
          cases s with
          | false =>
            go_wp2
            go_roundw
            case rel => exact ⟨k + 1, p2, by omega, by go_num, rfl, fun j h hj => by
              by_cases e : j < k
              · exact HN.out j h e
              · obtain rfl : j = k := by omega
                exact HB.out⟩
            case measure => simp [intOf]; omega
          | true =>
            have hF : F = ((z1, z2, z3), true) := by rw [HF.out, HZ.out]; exact hFirst_yes hlt HB.out (fun j q hj => HN.out j q hj)
            clear HF hcell
            subst hF
            have c_r_0 : ∀ p : BW W1, p.w.cell? ⟨w.heap.size, 0, none⟩ = some (.int .i64 0) := bw_cell (k_r.cell rfl)
            have f_r_0 : ∀ p : BW W1, p.w.frozen? ⟨w.heap.size, 0, none⟩ = false := fun p => (k_r.below p.h).frozen 0
            have c_r_1 : ∀ p : BW W1, p.w.cell? ⟨w.heap.size, 1, none⟩ = some (.int .i64 0) := bw_cell (k_r.cell rfl)
            have f_r_1 : ∀ p : BW W1, p.w.frozen? ⟨w.heap.size, 1, none⟩ = false := fun p => (k_r.below p.h).frozen 1
            have c_r_2 : ∀ p : BW W1, p.w.cell? ⟨w.heap.size, 2, none⟩ = some (.int .i64 0) := bw_cell (k_r.cell rfl)
            have f_r_2 : ∀ p : BW W1, p.w.frozen? ⟨w.heap.size, 2, none⟩ = false := fun p => (k_r.below p.h).frozen 2
            go_wp2
            have kr := bkp3 (k_r.below p2.h) (.int .i64 z1) (.int .i64 z2) (.int .i64 z3)
            obtain ⟨rc0, rc1, rc2⟩ := rwc3 kr
            exact bodyPost_ret (v := .tuple #[.agg #[.int .i64 z1, .int .i64 z2, .int .i64 z3], .bool true]) (by simp [results, Tryz.results19, go_sem, rc0, rc1, rc2]) rfl ⟨rfl, blp3 (bw_below B1 p2) (by omega)⟩
    · obtain rfl : k = l.length := by omega
      have hF : F = ((0, 0, 0), false) := by rw [HF.out]; exact hFirst_no (fun j q => HN.out j q q)
      clear HF
      subst hF
      have c_r_0 : ∀ p : BW W1, p.w.cell? ⟨w.heap.size, 0, none⟩ = some (.int .i64 0) := bw_cell (k_r.cell rfl)
      have f_r_0 : ∀ p : BW W1, p.w.frozen? ⟨w.heap.size, 0, none⟩ = false := fun p => (k_r.below p.h).frozen 0
      have c_r_1 : ∀ p : BW W1, p.w.cell? ⟨w.heap.size, 1, none⟩ = some (.int .i64 0) := bw_cell (k_r.cell rfl)
      have f_r_1 : ∀ p : BW W1, p.w.frozen? ⟨w.heap.size, 1, none⟩ = false := fun p => (k_r.below p.h).frozen 1
      have c_r_2 : ∀ p : BW W1, p.w.cell? ⟨w.heap.size, 2, none⟩ = some (.int .i64 0) := bw_cell (k_r.cell rfl)
      have f_r_2 : ∀ p : BW W1, p.w.frozen? ⟨w.heap.size, 2, none⟩ = false := fun p => (k_r.below p.h).frozen 2
      go_wp2
      have kr := bkp3 (k_r.below p1.h) (.int .i64 0) (.int .i64 0) (.int .i64 0)
      obtain ⟨rc0, rc1, rc2⟩ := rwc3 kr
      exact bodyPost_ret (v := .tuple #[.agg #[.int .i64 0, .int .i64 0, .int .i64 0], .bool false]) (by simp [results, Tryz.results19, go_sem, rc0, rc1, rc2]) rfl ⟨rfl, blp3 (bw_below B1 p1) (by omega)⟩

end
end Go.Proofs.YtokkankfaofooaaGreat

namespace Go.Proofs.YtokkankfaofooaaGreat
section
open Go.RowKit Go.Proofs.Sky
set_option linter.unusedVariables false

theorem owns_hits {w : World} {B : Nat} {v : Value} {l : List H3} (hm : l.length ≤ maxLen) (h : w.ownsRow B 31 3 v l.length (l.flatMap hcells)) : Hits w v l := owns_sll hcells_len (by decide) rfl hm h

theorem hits_below {w w' : World} {v : Value} {l : List H3} (h : Hits w v l) (hb : Below w.heap.size w w') : Hits w' v l := Sll.below h hb (Nat.le_refl _)

theorem intslice_down {w w' : World} {a : Option Addr} {n : Nat} {Z : Nat → Int} (h : IntSlice w a n Z) (hb : Below w.heap.size w w') : IntSlice w' a n Z := by
  rcases h with h | ⟨b, off, e, hc, hlt⟩
  · exact .inl h
  · exact .inr ⟨b, off, e, fun k hk => ⟨(hb.cell (p := ⟨b, off + k, none⟩) hlt).trans (hc k hk).1, (hc k hk).2⟩, Nat.lt_of_lt_of_le hlt hb.size⟩

set_option maxRecDepth 100000 in
set_option maxHeartbeats 8000000 in
theorem ref14_Closest (a : Option Addr) (n cap : Nat) (P : Nat → Pr) (o1 o2 o3 d1 d2 d3 fr : Int) (w : World) (hs : Prims w (.slice a n cap) n P) (ho : I3 (o1, o2, o3)) (hd : I3 (d1, d2, d3)) (hf : I64 fr) (hn : n ≤ 1000000) :
    Calls Tryz.prog 6 #[.slice a n cap, .agg #[.int .i64 o1, .int .i64 o2, .int .i64 o3, .int .i64 d1, .int .i64 d2, .int .i64 d3, .int .i64 fr]] w fun e w' => e = .returned (.tuple #[.agg #[.int .i64 (hClosest P n (o1, o2, o3) (d1, d2, d3) fr).1.1, .int .i64 (hClosest P n (o1, o2, o3) (d1, d2, d3) fr).1.2.1, .int .i64 (hClosest P n (o1, o2, o3) (d1, d2, d3) fr).1.2.2], .bool (hClosest P n (o1, o2, o3) (d1, d2, d3) fr).2]) ∧ Below w.heap.size w w' := by
  obtain ⟨L, hL⟩ : ∃ L, L = hUp P n (o1, o2, o3) (d1, d2, d3) fr := ⟨_, rfl⟩
  have KA : Hid (∀ X, Prims X (.slice a n cap) n P → Calls Tryz.prog 15 #[.slice a n cap, .agg #[.int .i64 o1, .int .i64 o2, .int .i64 o3, .int .i64 d1, .int .i64 d2, .int .i64 d3, .int .i64 fr]] X fun e w' => ∃ u, e = .returned u ∧ w'.ownsRow X.heap.size 31 3 u L.length (L.flatMap hcells) ∧ Below X.heap.size X w') := Lib.hid (fun X hX => by rw [hL]; exact ref14_All (.slice a n cap) n P o1 o2 o3 d1 d2 d3 fr X hX ho hd hf hn)
  have HIL : Hid (∀ x ∈ L, I64 x.1 ∧ I64 x.2.1 ∧ I64 x.2.2) := Lib.hid (by rw [hL]; exact hUp_I64 (by omega))
  have HLN : L.length ≤ n := by rw [hL]; exact hUp_len _ _ _ _ _
  unfold hClosest
  rw [← hL]
  have KF : Hid (∀ u X, Hits X u L → Calls Tryz.prog 19 #[u] X fun e w' => e = .returned (.tuple #[.agg #[.int .i64 (hFirst L).1.1, .int .i64 (hFirst L).1.2.1, .int .i64 (hFirst L).1.2.2], .bool (hFirst L).2]) ∧ Below X.heap.size X w') := Lib.hid (fun u X hX => ref14_first u L X hX HIL.out (by omega))
  generalize hFirst L = F at *
  obtain ⟨⟨f1, f2, f3⟩, fk⟩ := F
  dsimp only at KF ⊢
  have HLM : Hid (L.length ≤ maxLen) := Lib.hid (by unfold maxLen; omega)
  clear hL HLN hn ho hd hf HIL
  go_enter Tryz.func6, Tryz.ntmps6
  go_upto_region 1 with (fail)
  obtain ⟨W1, hW1⟩ : ∃ W, W = (w.alloc (.cells #[.int .i64 o1, .int .i64 o2, .int .i64 o3, .int .i64 d1, .int .i64 d2, .int .i64 d3, .int .i64 fr] 27)).alloc (.cells #[.int .i64 0, .int .i64 0, .int .i64 0] 31) := ⟨_, rfl⟩
  obtain ⟨k_y, k_r, B1⟩ := st2 hW1
  rw [← hW1]
  clear hW1
  have l_r : w.heap.size < w.heap.size + 1 := by omega
  generalize w.heap.size + 1 = g_r at *
  have hs1 := hs.below B1 (Nat.le_refl _)
  obtain ⟨c_y_0, c_y_1, c_y_2, c_y_3, c_y_4, c_y_5, c_y_6⟩ := bwc7 (k_y)
  obtain ⟨c_r_0, c_r_1, c_r_2⟩ := bwc3 (k_r)
  obtain ⟨f_r_0, f_r_1, f_r_2⟩ := bwf3 (k_r)
  obtain ⟨p1, hp1⟩ : ∃ p : BW W1, p.w = W1 := ⟨BW.start W1, rfl⟩
  rw [← hp1]
  clear hp1
  go_wp2_with (first | (go_at_call 15; refine (KA.out _ (hs1.below (BW.h _) (Nat.le_refl _))).mono ?_; rintro e w1 ⟨u, rfl, hu, hb⟩) | (go_at_call 19; refine (KF.out _ _ (owns_hits HLM.out hu)).mono ?_; rintro e w2 ⟨rfl, hb2⟩; obtain ⟨q, rfl⟩ := bw_take (hb.trans (hb2.mono hb.size))))
  have kr := bkp3 (k_r.below q.h) (.int .i64 f1) (.int .i64 f2) (.int .i64 f3)
  obtain ⟨rc0, rc1, rc2⟩ := rwc3 kr
  exact bodyPost_ret (v := .tuple #[.agg #[.int .i64 f1, .int .i64 f2, .int .i64 f3], .bool fk]) (by simp [results, Tryz.results6, go_sem, rc0, rc1, rc2]) rfl ⟨rfl, blp3 (bw_below B1 q) (by omega)⟩

set_option maxRecDepth 100000 in
set_option maxHeartbeats 8000000 in
theorem ref14_Any (a : Option Addr) (n cap : Nat) (P : Nat → Pr) (o1 o2 o3 d1 d2 d3 fr : Int) (w : World) (hs : Prims w (.slice a n cap) n P) (ho : I3 (o1, o2, o3)) (hd : I3 (d1, d2, d3)) (hf : I64 fr) (mm ee : Int) (hm : I64 mm) (he : I64 ee) (hn : n ≤ 1000000) :
    Calls Tryz.prog 10 #[.slice a n cap, .agg #[.int .i64 o1, .int .i64 o2, .int .i64 o3, .int .i64 d1, .int .i64 d2, .int .i64 d3, .int .i64 fr], .agg #[.int .i64 mm, .int .i64 ee]] w fun e w' => e = .returned (.bool (hAny P n (o1, o2, o3) (d1, d2, d3) fr mm ee)) ∧ Below w.heap.size w w' := by
  obtain ⟨L, hL⟩ : ∃ L, L = hUp P n (o1, o2, o3) (d1, d2, d3) fr := ⟨_, rfl⟩
  have KA : Hid (∀ X, Prims X (.slice a n cap) n P → Calls Tryz.prog 15 #[.slice a n cap, .agg #[.int .i64 o1, .int .i64 o2, .int .i64 o3, .int .i64 d1, .int .i64 d2, .int .i64 d3, .int .i64 fr]] X fun e w' => ∃ u, e = .returned u ∧ w'.ownsRow X.heap.size 31 3 u L.length (L.flatMap hcells) ∧ Below X.heap.size X w') := Lib.hid (fun X hX => by rw [hL]; exact ref14_All (.slice a n cap) n P o1 o2 o3 d1 d2 d3 fr X hX ho hd hf hn)
  have HIL : Hid (∀ x ∈ L, I64 x.1 ∧ I64 x.2.1 ∧ I64 x.2.2) := Lib.hid (by rw [hL]; exact hUp_I64 (by omega))
  have HLN : L.length ≤ n := by rw [hL]; exact hUp_len _ _ _ _ _
  have KR := Lib.hid (fun w => ref3_Right mm ee w)
  have KL := Lib.hid (fun x2 x3 (h2 : I64 x2) (h3 : I64 x3) w => ref3_Less x2 x3 mm ee w h2 h3 hm he)
  unfold hAny
  rw [← hL]
  obtain ⟨de, hde⟩ : ∃ de, de = decide (1 ≤ ee) := ⟨_, rfl⟩
  rw [← hde] at KR ⊢
  obtain ⟨res, hres⟩ : ∃ res, res = L.any (fun h => !de || fless h.2.1 h.2.2 mm ee) := ⟨_, rfl⟩
  rw [← hres]
  have HRES := Lib.hid hres
  have hLB : L.length ≤ 1000000 := by omega
  clear hL hn ho hd hf hm he hres hde
  go_enter Tryz.func10, Tryz.ntmps10
  go_upto_region 1 with (fail)
  obtain ⟨W1, hW1⟩ : ∃ W, W = (w.alloc (.cells #[.int .i64 o1, .int .i64 o2, .int .i64 o3, .int .i64 d1, .int .i64 d2, .int .i64 d3, .int .i64 fr] 27)).alloc (.cells #[.int .i64 mm, .int .i64 ee] 29) := ⟨_, rfl⟩
  obtain ⟨k_y, k_m, B1⟩ := st2 hW1
  rw [← hW1]
  clear hW1
  have l_m : w.heap.size < w.heap.size + 1 := by omega
  generalize w.heap.size + 1 = g_m at *
  have hs1 := hs.below B1 (Nat.le_refl _)
  obtain ⟨c_y_0, c_y_1, c_y_2, c_y_3, c_y_4, c_y_5, c_y_6⟩ := bwc7 (k_y)
  obtain ⟨c_m_0, c_m_1⟩ := bwc2 (k_m)
  obtain ⟨p1, hp1⟩ : ∃ p : BW W1, p.w = W1 := ⟨BW.start W1, rfl⟩
  rw [← hp1]
  clear hp1
  go_upto_region 2 with (first | (go_at_call 15; refine (KA.out _ (hs1.below (BW.h _) (Nat.le_refl _))).mono ?_; rintro e w1 ⟨u, rfl, hu, hb⟩))
  obtain ⟨_, cap2, rfl, hmx, hS⟩ := owns_hits (l := L) (by have := hs1.1; obtain ⟨_, _, _, h, _⟩ := this; omega) hu
  have B2 : Below w.heap.size w w1 := (bw_below B1 p1).trans (hb.mono (bw_below B1 p1).size)
  have k_m := (k_m.below p1.h).below hb
  have HS := Lib.hid hS
  clear hS hu hb B1 k_y hs1
  clear c_y_0 c_y_1 c_y_2 c_y_3 c_y_4 c_y_5 c_y_6 c_m_0 c_m_1
  obtain ⟨W2, hW2⟩ : ∃ W2, W2 = w1 := ⟨_, rfl⟩
  rw [← hW2] at B2 k_m HS ⊢
  clear hW2
  obtain ⟨c_m_0, c_m_1⟩ := bwc2 (k_m)
  obtain ⟨p2, hp2⟩ : ∃ p : BW W2, p.w = W2 := ⟨BW.start W2, rfl⟩
  rw [← hp2]
  clear hp2
  go_wp2
  go_loopw [8] (fun i wr => ∃ (k : Nat) (q : BW W2), k ≤ L.length ∧ i = .int .i64 k ∧ wr = q.w ∧ ∀ j (h : j < L.length), j < k → (!de || fless L[j].2.1 L[j].2.2 mm ee) = false) (fun i _ => L.length - (intOf i).toNat)
  case atStart => exact ⟨0, p2, by omega, rfl, rfl, fun j _ h => absurd h (by omega)⟩
  case round =>
    obtain ⟨k, p3, hk, rfl, rfl, hno⟩ := hrel
    have HNO := Lib.hid hno
    clear hno
    by_cases hlt : k < L.length
    · obtain ⟨b, off, rfl, hlb, hcell⟩ := HS.out.resolve_left (by omega)
      have hIk := HIL.out _ (List.getElem_mem hlt)
      have f1 : W2.cell? ⟨b, off + k * 3 + 1, none⟩ = some (.int .i64 L[k].2.1) := hcell k hlt 1 (by omega)
      have f2 : W2.cell? ⟨b, off + k * 3 + 2, none⟩ = some (.int .i64 L[k].2.2) := hcell k hlt 2 (by omega)
      have HC := Lib.hid hcell
      clear hcell
      obtain ⟨z, hz⟩ : ∃ z, z = L[k] := ⟨_, rfl⟩
      rw [← hz] at f1 f2 hIk
      have HZ := Lib.hid hz
      clear hz
      obtain ⟨z1, z2, z3⟩ := z
      dsimp only at f1 f2 hIk
      have KLx := Lib.hid (fun w => KL.out z2 z3 hIk.2.1 hIk.2.2 w)
      clear hIk
      obtain ⟨fl, hfl⟩ : ∃ fl, fl = fless z2 z3 mm ee := ⟨_, rfl⟩
      rw [← hfl] at KLx
      have HFL := Lib.hid hfl
      clear hfl
      have c_f_1 : ∀ p : BW W2, p.w.cell? ⟨b, off + k * 3 + 1, none⟩ = some (.int .i64 z2) := bw_cell f1
      have c_f_2 : ∀ p : BW W2, p.w.cell? ⟨b, off + k * 3 + 2, none⟩ = some (.int .i64 z3) := bw_cell f2
      have nx : (!de || fl) = (!de || fless L[k].2.1 L[k].2.2 mm ee) := by rw [← HZ.out]; dsimp only; rw [← HFL.out]
      have HNX := Lib.hid nx
      clear nx
      cases de with
      | false =>
        go_upto_region 5 with (fail)
        refine wp_region_bw (by kernel_rfl) (by kernel_rfl) ?_
        repeat (go_big_quiet_step (first
          | (go_at_call 23; (first | (with_reducible exact bw_call KR.out _)))
          | (go_at_call 24; (first | (with_reducible exact bw_call KLx.out _)))))
        refine wpQuiet_nil ?_
        intro _ hw'
        obtain ⟨q, rfl⟩ := hw'
        go_wp2
        go_ret
        exact ⟨by rw [HRES.out, List.any_eq_true.2 ⟨_, List.getElem_mem hlt, HNX.out.symm⟩]; rfl, bw_below B2 _⟩
      | true =>
        cases fl with
        | true =>
          go_upto_region 5 with (fail)
          refine wp_region_bw (by kernel_rfl) (by kernel_rfl) ?_
          repeat (go_big_quiet_step (first
            | (go_at_call 23; (first | (with_reducible exact bw_call KR.out _)))
            | (go_at_call 24; (first | (with_reducible exact bw_call KLx.out _)))))
          refine wpQuiet_nil ?_
          intro _ hw'
          obtain ⟨q, rfl⟩ := hw'
          go_wp2
          go_ret
          exact ⟨by rw [HRES.out, List.any_eq_true.2 ⟨_, List.getElem_mem hlt, HNX.out.symm⟩]; rfl, bw_below B2 _⟩
        | false =>
          go_upto_region 5 with (fail)
          refine wp_region_bw (by kernel_rfl) (by kernel_rfl) ?_
          repeat (go_big_quiet_step (first
            | (go_at_call 23; (first | (with_reducible exact bw_call KR.out _)))
            | (go_at_call 24; (first | (with_reducible exact bw_call KLx.out _)))))
          refine wpQuiet_nil ?_
          intro _ hw'
          obtain ⟨q, rfl⟩ := hw'
          go_wp2
          go_roundw
          case rel => exact ⟨k + 1, q, by omega, by go_num, rfl, fun j h hj => by
            by_cases e : j < k
            · exact HNO.out j h e
            · obtain rfl : j = k := by omega
              exact HNX.out.symm⟩
          case measure => simp [intOf]; omega
    · obtain rfl : k = L.length := by omega
      go_wp2
      go_ret
      have hr : res = false := by
        rw [HRES.out, List.any_eq_false]
        intro x hx
        obtain ⟨j, hj, rfl⟩ := List.getElem_of_mem hx
        rw [HNO.out j hj hj]
        decide
      exact ⟨by rw [hr]; rfl, bw_below B2 _⟩

theorem hSel_len1 (h : H3) (Z : Nat → Int) (k : Nat) : (hSel h Z k).length ≤ k := hSel_len h Z k

theorem hSome_take (L : List H3) (Z : Nat → Int) (m k : Nat) (h : k < L.length) : hSome (L.take (k + 1)) Z m = hSome (L.take k) Z m ++ hSel L[k] Z m := by
  unfold hSome
  rw [List.take_succ_eq_append_getElem h, List.flatMap_append]
  simp

theorem hSome_len (Z : Nat → Int) (m : Nat) : ∀ L : List H3, (hSome L Z m).length ≤ L.length * m
  | [] => by simp [hSome]
  | x :: L => by
    have h := hSome_len Z m L
    unfold hSome at *
    rw [List.flatMap_cons, List.length_append, List.length_cons, Nat.succ_mul]
    have := hSel_len x Z m
    omega

set_option maxRecDepth 100000 in
set_option maxHeartbeats 8000000 in
theorem ref14_Among (a : Option Addr) (n cap : Nat) (P : Nat → Pr) (o1 o2 o3 d1 d2 d3 fr : Int) (w : World) (hs : Prims w (.slice a n cap) n P) (ho : I3 (o1, o2, o3)) (hd : I3 (d1, d2, d3)) (hf : I64 fr) (a2 : Option Addr) (m cap2 : Nat) (Z : Nat → Int) (hz : IntSlice w a2 m Z) (hn : n ≤ 1000) (hm : m ≤ 1000) :
    Calls Tryz.prog 8 #[.slice a n cap, .slice a2 m cap2, .agg #[.int .i64 o1, .int .i64 o2, .int .i64 o3, .int .i64 d1, .int .i64 d2, .int .i64 d3, .int .i64 fr]] w fun e w' => e = .returned (.tuple #[.agg #[.int .i64 (hAmong P n Z m (o1, o2, o3) (d1, d2, d3) fr).1.1, .int .i64 (hAmong P n Z m (o1, o2, o3) (d1, d2, d3) fr).1.2.1, .int .i64 (hAmong P n Z m (o1, o2, o3) (d1, d2, d3) fr).1.2.2], .bool (hAmong P n Z m (o1, o2, o3) (d1, d2, d3) fr).2]) ∧ Below w.heap.size w w' := by
  obtain ⟨L, hL⟩ : ∃ L, L = hUp P n (o1, o2, o3) (d1, d2, d3) fr := ⟨_, rfl⟩
  have KA : Hid (∀ X, Prims X (.slice a n cap) n P → Calls Tryz.prog 15 #[.slice a n cap, .agg #[.int .i64 o1, .int .i64 o2, .int .i64 o3, .int .i64 d1, .int .i64 d2, .int .i64 d3, .int .i64 fr]] X fun e w' => ∃ u, e = .returned u ∧ w'.ownsRow X.heap.size 31 3 u L.length (L.flatMap hcells) ∧ Below X.heap.size X w') := Lib.hid (fun X hX => by rw [hL]; exact ref14_All (.slice a n cap) n P o1 o2 o3 d1 d2 d3 fr X hX ho hd hf (by omega))
  have HIL : Hid (∀ x ∈ L, I64 x.1 ∧ I64 x.2.1 ∧ I64 x.2.2) := Lib.hid (by rw [hL]; exact hUp_I64 (by omega))
  have HLN : L.length ≤ n := by rw [hL]; exact hUp_len _ _ _ _ _
  unfold hAmong
  rw [← hL]
  obtain ⟨M, hM⟩ : ∃ M, M = hSome L Z m := ⟨_, rfl⟩
  rw [← hM]
  have hML : M.length ≤ 1000000 := by
    rw [hM]
    have h1 := hSome_len Z m L
    have h2 := Nat.mul_le_mul (show L.length ≤ 1000 by omega) hm
    omega
  have HIM : Hid (∀ x ∈ M, I64 x.1 ∧ I64 x.2.1 ∧ I64 x.2.2) := Lib.hid (fun x hx => by rw [hM] at hx; unfold hSome at hx; rw [List.mem_flatMap] at hx; obtain ⟨y, hy, hx⟩ := hx; unfold hSel at hx; rw [List.mem_flatMap] at hx; obtain ⟨_, _, hx⟩ := hx; split at hx <;> simp at hx; rw [hx]; exact HIL.out _ hy)
  have HM := Lib.hid hM
  have KF : Hid (∀ u X, Hits X u M → Calls Tryz.prog 19 #[u] X fun e w' => e = .returned (.tuple #[.agg #[.int .i64 (hFirst M).1.1, .int .i64 (hFirst M).1.2.1, .int .i64 (hFirst M).1.2.2], .bool (hFirst M).2]) ∧ Below X.heap.size X w') := Lib.hid (fun u X hX => ref14_first u M X hX HIM.out hML)
  generalize hFirst M = F at *
  obtain ⟨⟨f1, f2, f3⟩, fk⟩ := F
  dsimp only at KF ⊢
  have hLB : L.length ≤ 1000 := by omega
  have HZ := Lib.hid hz
  obtain ⟨i0, hi, hz0, hz1, hz2⟩ := info_parts hit_info
  clear hL HLN hn ho hd hf hM hz HIM
  go_enter Tryz.func8, Tryz.ntmps8
  go_upto_region 1 with (fail)
  obtain ⟨W1, hW1⟩ : ∃ W, W = (w.alloc (.cells #[.int .i64 o1, .int .i64 o2, .int .i64 o3, .int .i64 d1, .int .i64 d2, .int .i64 d3, .int .i64 fr] 27)).alloc (.cells #[.int .i64 0, .int .i64 0, .int .i64 0] 31) := ⟨_, rfl⟩
  obtain ⟨k_y, k_r, B1⟩ := st2 hW1
  rw [← hW1]
  clear hW1
  have l_r : w.heap.size < w.heap.size + 1 := by omega
  generalize w.heap.size + 1 = g_r at *
  have hs1 := hs.below B1 (Nat.le_refl _)
  have hzz := intslice_down HZ.out B1
  obtain ⟨c_y_0, c_y_1, c_y_2, c_y_3, c_y_4, c_y_5, c_y_6⟩ := bwc7 (k_y)
  obtain ⟨c_r_0, c_r_1, c_r_2⟩ := bwc3 (k_r)
  obtain ⟨p1, hp1⟩ : ∃ p : BW W1, p.w = W1 := ⟨BW.start W1, rfl⟩
  rw [← hp1]
  clear hp1
  go_upto_region 3 with (first | (go_at_call 15; refine (KA.out _ (hs1.below (BW.h _) (Nat.le_refl _))).mono ?_; rintro e w1 ⟨u, rfl, hu, hb⟩))
  obtain ⟨_, cap3, rfl, hmx, hS⟩ := owns_hits (l := L) (by unfold maxLen; omega) hu
  have B2 : Below w.heap.size w w1 := (bw_below B1 p1).trans (hb.mono (bw_below B1 p1).size)
  have k_r := (k_r.below p1.h).below hb
  have hz2' := intslice_down (intslice_down hzz p1.h) hb
  have HS := Lib.hid hS
  clear hS hu hb B1 k_y hs1 hzz HZ
  clear c_y_0 c_y_1 c_y_2 c_y_3 c_y_4 c_y_5 c_y_6 c_r_0 c_r_1 c_r_2
  obtain ⟨W2, hW2⟩ : ∃ W2, W2 = w1 := ⟨_, rfl⟩
  rw [← hW2] at B2 k_r HS hz2' ⊢
  clear hW2
  have HZ := Lib.hid hz2'
  clear hz2'
  go_wp2
  go_loopw [8, 10] (fun s i wr => ∃ k : Nat, k ≤ L.length ∧ i = .int .i64 k ∧ wr.ownsRow W2.heap.size 31 3 s (hSome (L.take k) Z m).length ((hSome (L.take k) Z m).flatMap hcells) ∧ Below W2.heap.size W2 wr) (fun _ i _ => L.length - (intOf i).toNat)
  case atStart => exact ⟨0, by omega, rfl, World.ownsRow_nil _ _ _ _, Below.refl _ _⟩
  case round =>
    obtain ⟨k, hk, rfl, hown, BO⟩ := hrel
    by_cases hlt : k < L.length
    · obtain ⟨b, off, rfl, hlb, hcell⟩ := HS.out.resolve_left (by omega)
      have f0 : W2.cell? ⟨b, off + k * 3, none⟩ = some (.int .i64 L[k].1) := hcell k hlt 0 (by omega)
      have f1 : W2.cell? ⟨b, off + k * 3 + 1, none⟩ = some (.int .i64 L[k].2.1) := hcell k hlt 1 (by omega)
      have f2 : W2.cell? ⟨b, off + k * 3 + 2, none⟩ = some (.int .i64 L[k].2.2) := hcell k hlt 2 (by omega)
      have HT := Lib.hid (hSome_take L Z m k hlt)
      have hSL := hSome_len Z m (L.take k)
      have hmul := Nat.mul_le_mul (show (L.take k).length ≤ 1000 by simp; omega) hm
      have hTL : (hSome (L.take k) Z m).length ≤ 1000000 := by omega
      clear hSL hmul
      clear hcell
      obtain ⟨z, hz⟩ : ∃ z, z = L[k] := ⟨_, rfl⟩
      rw [← hz] at f0 f1 f2 HT
      clear hz
      obtain ⟨T, hT⟩ : ∃ T, T = hSome (L.take k) Z m := ⟨_, rfl⟩
      rw [← hT] at hown HT hTL
      clear hT
      go_wp2
      go_loopw [8, 11] (fun s j wr => ∃ t : Nat, t ≤ m ∧ j = .int .i64 t ∧ wr.ownsRow W2.heap.size 31 3 s (T ++ hSel z Z t).length ((T ++ hSel z Z t).flatMap hcells) ∧ Below W2.heap.size W2 wr) (fun _ j _ => m - (intOf j).toNat)
      case atStart => exact ⟨0, by omega, rfl, (by rw [show hSel z Z 0 = [] from rfl, List.append_nil]; exact hown), BO⟩
      case round =>
        clear hown BO
        obtain ⟨t, ht, rfl, hown, BO⟩ := hrel
        by_cases hl2 : t < m
        · obtain ⟨b2, off2, rfl, hrow, hlb2⟩ := HZ.out.resolve_left (by omega)
          have y0 : wr.cell? ⟨b2, off2 + t, none⟩ = some (.int .i64 (Z t)) := (BO.cell (p := ⟨b2, off2 + t, none⟩) hlb2).trans (hrow t hl2).1
          have x0 : wr.cell? ⟨b, off + k * 3, none⟩ = some (.int .i64 z.1) := (BO.cell (p := ⟨b, off + k * 3, none⟩) hlb).trans f0
          have x1 : wr.cell? ⟨b, off + k * 3 + 1, none⟩ = some (.int .i64 z.2.1) := (BO.cell (p := ⟨b, off + k * 3 + 1, none⟩) hlb).trans f1
          have x2 : wr.cell? ⟨b, off + k * 3 + 2, none⟩ = some (.int .i64 z.2.2) := (BO.cell (p := ⟨b, off + k * 3 + 2, none⟩) hlb).trans f2
          have hsel := hSel_succ z Z t
          have hsl := hSel_len z Z t
          clear hrow
          obtain ⟨z1, z2, z3⟩ := z
          dsimp only at x0 x1 x2 hsel
          by_cases he : Z t = z1
          · have hd : (Z t == z1) = true := by rw [beq_iff_eq]; exact he
            rw [if_pos he] at hsel
            clear he
            have HSEL := Lib.hid hsel
            clear hsel
            go_upto_region 9 with (fail)
            go_region
            have BD : Below wr.heap.size wr wr.drew := ⟨rfl, rfl, rfl, Nat.le_refl _, fun _ _ => rfl⟩
            have BOd := BO.trans (BD.mono BO.size)
            have hownd := owns_below hown BD
            have x0d : wr.drew.cell? ⟨b, off + k * 3, none⟩ = some (.int .i64 z1) := x0
            have x1d : wr.drew.cell? ⟨b, off + k * 3 + 1, none⟩ = some (.int .i64 z2) := x1
            have x2d : wr.drew.cell? ⟨b, off + k * 3 + 2, none⟩ = some (.int .i64 z3) := x2
            clear BD BO hown x0 x1 x2 y0
            generalize wr.drew = wd at *
            go_wp2_with (at_builtin; refine wpList_append_own _ rfl _ _ 39 rfl W2.heap.size 31 i0 (.agg #[.int .i64 0, .int .i64 0, .int .i64 0]) 3 24 Tryz.underlying39 hi hz0 hz1 hz2 rfl (by decide) _ _ _ rfl (hownd.alloc _) ⟨wd.heap.size, 0, none⟩ 1 1 [.int .i64 z1, .int .i64 z2, .int .i64 z3] rfl rfl ?g1 ?g2 ?g3 ?g4 ?g5 ?_)
            case g2 => first | exact ⟨rfl, rfl, rfl⟩ | (intro u hu; simp only [List.mem_cons, List.not_mem_nil, or_false] at hu; rcases hu with rfl | rfl | rfl <;> rfl)
            case g3 => unfold maxLen; first | omega | (simp only [List.length_append]; omega)
            case g4 => first | omega | (simp only [List.length_append]; omega)
            case g5 => have := BOd.size; first | omega | (simp; omega)
            intro v' w1 hown' hgrow hne
            have hB1 : Below W2.heap.size W2 w1 := (BOd.alloc BOd.size _).grown hgrow (by simp; have := BOd.size; omega) (fun j ej => by have := (hownd.lt j ej).1; omega)
            have HO : Hid (w1.ownsRow W2.heap.size 31 3 v' (T ++ hSel (z1, z2, z3) Z (t + 1)).length ((T ++ hSel (z1, z2, z3) Z (t + 1)).flatMap hcells)) := Lib.hid (by
              rw [HSEL.out]
              have e1 : (T ++ (hSel (z1, z2, z3) Z t ++ [(z1, z2, z3)])).length = T.length + (hSel (z1, z2, z3) Z t).length + 1 := by simp [Nat.add_assoc]
              have e2 : (T ++ (hSel (z1, z2, z3) Z t ++ [(z1, z2, z3)])).flatMap hcells = List.flatMap hcells T ++ (List.flatMap hcells (hSel (z1, z2, z3) Z t) ++ [.int .i64 z1, .int .i64 z2, .int .i64 z3]) := by simp [hcells]
              rw [e1, e2]
              exact hown')
            clear hown' hgrow hne hownd
            go_wp2
            go_roundw
            case rel => exact ⟨t + 1, by omega, by go_num, HO.out, hB1⟩
            case measure => simp [intOf]; omega
          · have hd : (Z t == z1) = false := by rw [beq_eq_false_iff_ne]; exact he
            rw [if_neg he] at hsel
            clear he
            have HSEL := Lib.hid hsel
            clear hsel
            go_upto_region 9 with (fail)
            go_region
            have BD : Below wr.heap.size wr wr.drew := ⟨rfl, rfl, rfl, Nat.le_refl _, fun _ _ => rfl⟩
            have BOd := BO.trans (BD.mono BO.size)
            have hownd := owns_below hown BD
            have x0d : wr.drew.cell? ⟨b, off + k * 3, none⟩ = some (.int .i64 z1) := x0
            have x1d : wr.drew.cell? ⟨b, off + k * 3 + 1, none⟩ = some (.int .i64 z2) := x1
            have x2d : wr.drew.cell? ⟨b, off + k * 3 + 2, none⟩ = some (.int .i64 z3) := x2
            clear BD BO hown x0 x1 x2 y0
            generalize wr.drew = wd at *
            go_wp2
            go_roundw
            case rel => exact ⟨t + 1, by omega, by go_num, (by rw [HSEL.out, List.append_nil]; exact hownd), BOd⟩
            case measure => simp [intOf]; omega
        · obtain rfl : t = m := by omega
          go_wp2
          go_roundw
          case rel => exact ⟨k + 1, by omega, by go_num, (by rw [HT.out]; exact hown), BO⟩
          case measure => simp [intOf]; omega
    · obtain rfl : k = L.length := by omega
      rw [List.take_length, ← HM.out] at hown
      have k_r := k_r.below BO
      have B3 : Below w.heap.size w wr := B2.trans (BO.mono B2.size)
      obtain ⟨c_r_0, c_r_1, c_r_2⟩ := bwc3 (k_r)
      obtain ⟨f_r_0, f_r_1, f_r_2⟩ := bwf3 (k_r)
      obtain ⟨p3, hp3⟩ : ∃ p : BW wr, p.w = wr := ⟨BW.start wr, rfl⟩
      rw [← hp3]
      clear hp3
      have hown2 := owns_below hown p3.h
      go_wp2_with (first | (go_at_call 19; refine (KF.out _ _ (owns_hits (by unfold maxLen; omega) hown2)).mono ?_; rintro e w2 ⟨rfl, hb2⟩; obtain ⟨q, rfl⟩ := bw_take hb2))
      have kr := bkp3 (k_r.below q.h) (.int .i64 f1) (.int .i64 f2) (.int .i64 f3)
      obtain ⟨rc0, rc1, rc2⟩ := rwc3 kr
      exact bodyPost_ret (v := .tuple #[.agg #[.int .i64 f1, .int .i64 f2, .int .i64 f3], .bool fk]) (by simp [results, Tryz.results8, go_sem, rc0, rc1, rc2]) rfl ⟨rfl, blp3 (bw_below B3 q) (by omega)⟩

set_option maxRecDepth 100000 in
set_option maxHeartbeats 8000000 in
theorem law14_same (u v : Value) (L : List H3) (w : World) (hu : Hits w u L) (hv : Hits w v L) (hn : L.length ≤ 1000000) :
    Calls Tryz.prog 13 #[u, v] w fun e w' => e = .returned (.bool true) ∧ Below w.heap.size w w' := by
  obtain ⟨_, cu, rfl, _, hU⟩ := hu
  obtain ⟨_, cv, rfl, _, hV⟩ := hv
  have HU := Lib.hid hU
  have HV := Lib.hid hV
  clear hU hV
  go_enter Tryz.func13, Tryz.ntmps13
  go_wp2
  go_loopw [5] (fun i wr => ∃ k : Nat, k ≤ L.length ∧ i = .int .i64 k ∧ Below w.heap.size w wr) (fun i _ => L.length - (intOf i).toNat)
  case atStart => exact ⟨0, by omega, rfl, Below.refl _ _⟩
  case round =>
    obtain ⟨k, hk, rfl, BO⟩ := hrel
    by_cases hlt : k < L.length
    · obtain ⟨b, off, rfl, hlb, hc⟩ := HU.out.resolve_left (by omega)
      obtain ⟨b2, off2, rfl, hlb2, hc2⟩ := HV.out.resolve_left (by omega)
      have x0 : wr.cell? ⟨b, off + k * 3, none⟩ = some (.int .i64 L[k].1) := (BO.cell (p := ⟨b, off + k * 3, none⟩) hlb).trans (hc k hlt 0 (by omega))
      have x1 : wr.cell? ⟨b, off + k * 3 + 1, none⟩ = some (.int .i64 L[k].2.1) := (BO.cell (p := ⟨b, off + k * 3 + 1, none⟩) hlb).trans (hc k hlt 1 (by omega))
      have x2 : wr.cell? ⟨b, off + k * 3 + 2, none⟩ = some (.int .i64 L[k].2.2) := (BO.cell (p := ⟨b, off + k * 3 + 2, none⟩) hlb).trans (hc k hlt 2 (by omega))
      have y0 : wr.cell? ⟨b2, off2 + k * 3, none⟩ = some (.int .i64 L[k].1) := (BO.cell (p := ⟨b2, off2 + k * 3, none⟩) hlb2).trans (hc2 k hlt 0 (by omega))
      have y1 : wr.cell? ⟨b2, off2 + k * 3 + 1, none⟩ = some (.int .i64 L[k].2.1) := (BO.cell (p := ⟨b2, off2 + k * 3 + 1, none⟩) hlb2).trans (hc2 k hlt 1 (by omega))
      have y2 : wr.cell? ⟨b2, off2 + k * 3 + 2, none⟩ = some (.int .i64 L[k].2.2) := (BO.cell (p := ⟨b2, off2 + k * 3 + 2, none⟩) hlb2).trans (hc2 k hlt 2 (by omega))
      clear hc hc2
      generalize L[k] = z at *
      obtain ⟨z1, z2, z3⟩ := z
      dsimp only at x0 x1 x2 y0 y1 y2
      go_upto_region 6 with (fail)
      go_region
      go_wp2
      go_roundw
      case rel => exact ⟨k + 1, by omega, by go_num, BO.trans ⟨rfl, rfl, rfl, Nat.le_refl _, fun _ _ => rfl⟩⟩
      case measure => simp [intOf]; omega
    · obtain rfl : k = L.length := by omega
      go_wp2
      go_ret
      exact ⟨rfl, BO⟩

def pOf (V : List Value) : Pr :=
  ⟨intOf (V.getD 0 (.bool false)), (intOf (V.getD 1 (.bool false)), intOf (V.getD 2 (.bool false)), intOf (V.getD 3 (.bool false))), (intOf (V.getD 4 (.bool false)), intOf (V.getD 5 (.bool false)), intOf (V.getD 6 (.bool false))), (intOf (V.getD 7 (.bool false)), intOf (V.getD 8 (.bool false)), intOf (V.getD 9 (.bool false))), intOf (V.getD 10 (.bool false)), intOf (V.getD 11 (.bool false))⟩

theorem pOf_pcells (p : Pr) : pOf (pcells p) = p := rfl

theorem prim_row {V : List Value} (h : LeafAll [.int .i64, .int .i64, .int .i64, .int .i64, .int .i64, .int .i64, .int .i64, .int .i64, .int .i64, .int .i64, .int .i64, .int .i64] V) : ∃ p : Pr, V = pcells p ∧ p.I := by
  obtain ⟨_, _, rfl, ⟨x0, rfl, h0⟩, _, _, rfl, ⟨x1, rfl, h1⟩, _, _, rfl, ⟨x2, rfl, h2⟩, _, _, rfl, ⟨x3, rfl, h3⟩, _, _, rfl, ⟨x4, rfl, h4⟩, _, _, rfl, ⟨x5, rfl, h5⟩, _, _, rfl, ⟨x6, rfl, h6⟩, _, _, rfl, ⟨x7, rfl, h7⟩, _, _, rfl, ⟨x8, rfl, h8⟩, _, _, rfl, ⟨x9, rfl, h9⟩, _, _, rfl, ⟨x10, rfl, h10⟩, _, r, rfl, ⟨x11, rfl, h11⟩, he⟩ := h
  have he' : r = [] := he
  subst he'
  exact ⟨⟨x0, (x1, x2, x3), (x4, x5, x6), (x7, x8, x9), x10, x11⟩, rfl, ⟨I64.of_wf h0, ⟨I64.of_wf h1, I64.of_wf h2, I64.of_wf h3⟩, ⟨I64.of_wf h4, I64.of_wf h5, I64.of_wf h6⟩, ⟨I64.of_wf h7, I64.of_wf h8, I64.of_wf h9⟩, I64.of_wf h10, I64.of_wf h11⟩⟩

set_option maxRecDepth 100000 in
theorem open_prims {H : Type} {enc : TypeId × Value → H} {W : World} {r : Reach} {b0 : Nat} {v : Value} {d : DataW H} {p : List MemPlace} (hv : Value.okWide Tryz.prog W r b0 22 v)
    (h : DataW.Trod enc Tryz.prog W 0 (fun _ => true) true 22 v d p) : ∃ (a : Option Addr) (len cap : Nat) (P : Nat → Pr), v = .slice a len cap ∧ Prims W (.slice a len cap) len P := by
  obtain ⟨a, len, cap, V, rfl, hm, hr⟩ := open_rows (n := 5) (ks := [.int .i64, .int .i64, .int .i64, .int .i64, .int .i64, .int .i64, .int .i64, .int .i64, .int .i64, .int .i64, .int .i64, .int .i64]) Tryz.underlying22 (by kernel_rfl) (by kernel_rfl) (by simp) hv h
  refine ⟨a, len, cap, fun i => pOf (V i), rfl, ?_⟩
  rcases hr with rfl | ⟨b, off, rfl, hR, hb⟩
  · exact ⟨⟨a, cap, rfl, hm, .inl rfl⟩, fun i hi => absurd hi (by omega)⟩
  · refine ⟨⟨_, cap, rfl, hm, .inr ⟨b, off, rfl, hb, fun k hk j hj => ?_⟩⟩, fun k hk => ?_⟩
    · obtain ⟨p, e, _⟩ := prim_row (hR k hk).1
      have c : W.cell? ⟨b, off + k * 12 + j, none⟩ = (V k)[j]? := (hR k hk).2 j hj
      dsimp only
      rw [c, e, pOf_pcells]
    · obtain ⟨p, e, hI⟩ := prim_row (hR k hk).1
      dsimp only
      rw [e, pOf_pcells]
      exact hI

end
end Go.Proofs.YtokkankfaofooaaGreat
