/- The walk of the statement PlainFirst. -/
import Derived.Test.YtokkankfaofooaaPlain14
import Derived.Test.YtokkankfaofooaaAwake14
import Derived.Test.YtokkankfaofooaaRef03
import Derived.Test.YtokkankfaofooaaRecs
import Derived.Test.YtokkankfaofooaaOpen
import Derived.Test.YtokkankfaofooaaMem14
import Derived.Test.YtokkankfaofooaaRowp14
import Derived.Test.YtokkankfaofooaaRow
import Derived.Deep.DeepCutAuto
namespace Go.Proofs.Ytokkankfaofooaa
open Go.RowKit Go.Proofs.Sky
set_option linter.unusedVariables false

theorem owns_hits14 {w : World} {B : Nat} {v : Value} {l : List H3} (hm : l.length ≤ maxLen) (h : w.ownsRow B 33 3 v l.length (l.flatMap hcells)) : Hits w v l := owns_sll hcells_len (by decide) rfl hm h

set_option maxRecDepth 100000 in
set_option maxHeartbeats 8000000 in
theorem first_core (a : Option Addr) (n cap : Nat) (P Q : Nat → Pr) (a1 a2 a3 a4 a5 a6 a7 a8 a9 a10 a11 a12 o1 o2 o3 d1 d2 d3 fr m e f1 f2 f3 i1 i2 i3 j1 j2 j3 : Int) (fk ik jk fl hj : Bool) (L : List H3) (w : World) (hn : n ≤ 12) (he : 1 ≤ e) (hL : L.length ≤ 1000000) (KC : Hid (∀ X, Below w.heap.size w X → Calls Try.prog 5 #[.slice a n cap, .agg #[.int .i64 o1, .int .i64 o2, .int .i64 o3, .int .i64 d1, .int .i64 d2, .int .i64 d3, .int .i64 fr]] X fun e w' => e = .returned (.tuple #[.agg #[.int .i64 f1, .int .i64 f2, .int .i64 f3], .bool fk]) ∧ Below X.heap.size X w')) (KL : Hid (∀ X, Below w.heap.size w X → Calls Try.prog 6 #[.slice a n cap, .agg #[.int .i64 o1, .int .i64 o2, .int .i64 o3, .int .i64 d1, .int .i64 d2, .int .i64 d3, .int .i64 fr]] X fun e w' => ∃ u, e = .returned u ∧ w'.ownsRow X.heap.size 33 3 u L.length (L.flatMap hcells) ∧ Below X.heap.size X w')) (KB : Hid (∀ z ∈ L, ∀ X, Calls Try.prog 7 #[.agg #[.int .i64 z.1, .int .i64 (z.2.1), .int .i64 (z.2.2)], .agg #[.int .i64 f1, .int .i64 f2, .int .i64 f3]] X fun e w' => e = .returned (.bool false) ∧ Below X.heap.size X w')) (KN0 : Hid (∀ X, Below w.heap.size w X → Calls Try.prog 8 #[.slice a n cap, .agg #[.int .i64 o1, .int .i64 o2, .int .i64 o3, .int .i64 d1, .int .i64 d2, .int .i64 d3, .int .i64 fr], .agg #[.int .i64 0, .int .i64 0]] X fun e w' => e = .returned (.bool fk) ∧ Below X.heap.size X w')) (KN : Hid (∀ X, Below w.heap.size w X → Calls Try.prog 8 #[.slice a n cap, .agg #[.int .i64 o1, .int .i64 o2, .int .i64 o3, .int .i64 d1, .int .i64 d2, .int .i64 d3, .int .i64 fr], .agg #[.int .i64 m, .int .i64 e]] X fun e w' => e = .returned (.bool (fk && fl)) ∧ Below X.heap.size X w')) (KF : Hid (∀ X, Calls Try.prog 9 #[.agg #[.int .i64 f2, .int .i64 f3], .agg #[.int .i64 m, .int .i64 e]] X fun e w' => e = .returned (.bool fl) ∧ Below X.heap.size X w')) (KM : Hid (∀ X o cp, Prims X (.slice o (n + 1) cp) (n + 1) Q → Calls Try.prog 5 #[.slice o (n + 1) cp, .agg #[.int .i64 o1, .int .i64 o2, .int .i64 o3, .int .i64 d1, .int .i64 d2, .int .i64 d3, .int .i64 fr]] X fun e w' => e = .returned (.tuple #[.agg #[.int .i64 i1, .int .i64 i2, .int .i64 i3], .bool ik]) ∧ Below X.heap.size X w')) (KA : Hid (∀ X o cp g, Prims X (.slice o (n + 1) cp) (n + 1) Q → Bk X g 3 #[.int .i64 n] → Calls Try.prog 10 #[.slice o (n + 1) cp, .slice (some ⟨g, 0, none⟩) 1 1, .agg #[.int .i64 o1, .int .i64 o2, .int .i64 o3, .int .i64 d1, .int .i64 d2, .int .i64 d3, .int .i64 fr]] X fun e w' => e = .returned (.tuple #[.agg #[.int .i64 j1, .int .i64 j2, .int .i64 j3], .bool jk]) ∧ Below X.heap.size X w')) (KJ : Hid (∀ X, Calls Try.prog 7 #[.agg #[.int .i64 j1, .int .i64 j2, .int .i64 j3], .agg #[.int .i64 f1, .int .i64 f2, .int .i64 f3]] X fun e w' => e = .returned (.bool hj) ∧ Below X.heap.size X w')) (KW : Hid (∀ X, Calls Try.prog 4 #[] X fun e w' => e = .returned (.bool true) ∧ Below X.heap.size X w')) (hl : Prims w (.slice a n cap) n P) (hI : ∀ i, i < n + 1 → (Q i).I) (hQ : rowP Q (n + 1) = rowP P n ++ #[.int .i64 a1, .int .i64 a2, .int .i64 a3, .int .i64 a4, .int .i64 a5, .int .i64 a6, .int .i64 a7, .int .i64 a8, .int .i64 a9, .int .i64 a10, .int .i64 a11, .int .i64 a12].toList) (hok : ∀ z ∈ L, 1 ≤ z.2.1 ∧ 1 ≤ z.2.2) (hsome : L.any (fun x => decide (x = (f1, f2, f3))) = fk) (hlen : decide ((0 : Int) < L.length) = fk) (huni : ∀ z ∈ L, z ≠ (f1, f2, f3) → z.1 ≠ f1) (HD : Hid ((jk = false ∧ (i1, i2, i3) = (f1, f2, f3) ∧ ik = fk) ∨ (jk = true ∧ ik = true ∧ ((fk = false ∧ (i1, i2, i3) = (j1, j2, j3)) ∨ (fk = true ∧ hj = true ∧ (i1, i2, i3) = (j1, j2, j3)) ∨ (fk = true ∧ hj = false ∧ (i1, i2, i3) = (f1, f2, f3)))))) :
    Calls Try.prog 3 #[.slice a n cap, .agg #[.int .i64 a1, .int .i64 a2, .int .i64 a3, .int .i64 a4, .int .i64 a5, .int .i64 a6, .int .i64 a7, .int .i64 a8, .int .i64 a9, .int .i64 a10, .int .i64 a11, .int .i64 a12], .agg #[.int .i64 o1, .int .i64 o2, .int .i64 o3, .int .i64 d1, .int .i64 d2, .int .i64 d3, .int .i64 fr], .agg #[.int .i64 m, .int .i64 e]] w fun e w' => e = .returned (.bool true) ∧ Below w.heap.size w w' := by
  have t1 : decide ((12 : Int) < n) = false := decide_eq_false (by omega)
  have t2 : decide (e < 1) = false := decide_eq_false (by omega)
  have HN := Lib.hid hn
  have HLL := Lib.hid hL
  have HLP := Lib.hid hl
  have HIQ := Lib.hid hI
  have HRQ := Lib.hid hQ
  have HOK := Lib.hid hok
  have HSOME := Lib.hid hsome
  have HLEN := Lib.hid hlen
  have HUNI := Lib.hid huni
  obtain ⟨i0, hi, hz0, hz1, hz2⟩ := info_parts prim_info
  clear hn he hL hl hI hQ hok hsome hlen huni
  go_enter Try.func3, Try.ntmps3
  go_upto_region 1 with (fail)
  obtain ⟨W1, hW1⟩ : ∃ W, W = ((w.alloc (.cells #[.int .i64 a1, .int .i64 a2, .int .i64 a3, .int .i64 a4, .int .i64 a5, .int .i64 a6, .int .i64 a7, .int .i64 a8, .int .i64 a9, .int .i64 a10, .int .i64 a11, .int .i64 a12] 26)).alloc (.cells #[.int .i64 o1, .int .i64 o2, .int .i64 o3, .int .i64 d1, .int .i64 d2, .int .i64 d3, .int .i64 fr] 28)).alloc (.cells #[.int .i64 m, .int .i64 e] 30) := ⟨_, rfl⟩
  obtain ⟨k_p, k_y, k_m, B1⟩ := st3 hW1
  rw [← hW1]
  clear hW1
  have l_y : w.heap.size < w.heap.size + 1 := by omega
  have l_m : w.heap.size + 1 < w.heap.size + 1 + 1 := by omega
  generalize w.heap.size + 1 + 1 = g_m at *
  generalize w.heap.size + 1 = g_y at *
  obtain ⟨c_p_0, c_p_1, c_p_2, c_p_3, c_p_4, c_p_5, c_p_6, c_p_7, c_p_8, c_p_9, c_p_10, c_p_11⟩ := bwc12 (k_p)
  obtain ⟨c_y_0, c_y_1, c_y_2, c_y_3, c_y_4, c_y_5, c_y_6⟩ := bwc7 (k_y)
  obtain ⟨c_m_0, c_m_1⟩ := bwc2 (k_m)
  obtain ⟨p1, hp1⟩ : ∃ p : BW W1, p.w = W1 := ⟨BW.start W1, rfl⟩
  rw [← hp1]
  clear hp1
  go_upto_region 4 with (go_at_call 5; (with_reducible refine (KC.out _ (bw_below B1 _)).mono ?_); rintro e w1 ⟨rfl, hb⟩; obtain ⟨q, rfl⟩ := bw_take hb)
  obtain ⟨W2, hW2⟩ : ∃ W, W = q.w.alloc (.cells #[.int .i64 f1, .int .i64 f2, .int .i64 f3] 33) := ⟨_, rfl⟩
  have B2 : Below w.heap.size w W2 := by rw [hW2]; exact (bw_below B1 q).alloc (bw_below B1 q).size _
  have l_h : g_m < q.w.heap.size := (k_m.below q.h).lt
  have o_h : w.heap.size ≤ q.w.heap.size := (bw_below B1 q).size
  have k_p := bka hW2 (k_p.below q.h)
  have k_y := bka hW2 (k_y.below q.h)
  have k_m := bka hW2 (k_m.below q.h)
  have k_h := bkn hW2
  rw [← hW2]
  clear hW2
  clear B1
  clear c_p_0 c_p_1 c_p_2 c_p_3 c_p_4 c_p_5 c_p_6 c_p_7 c_p_8 c_p_9 c_p_10 c_p_11 c_y_0 c_y_1 c_y_2 c_y_3 c_y_4 c_y_5 c_y_6 c_m_0 c_m_1
  generalize q.w.heap.size = g_h at *
  obtain ⟨c_p_0, c_p_1, c_p_2, c_p_3, c_p_4, c_p_5, c_p_6, c_p_7, c_p_8, c_p_9, c_p_10, c_p_11⟩ := bwc12 (k_p)
  obtain ⟨c_y_0, c_y_1, c_y_2, c_y_3, c_y_4, c_y_5, c_y_6⟩ := bwc7 (k_y)
  obtain ⟨c_m_0, c_m_1⟩ := bwc2 (k_m)
  obtain ⟨c_h_0, c_h_1, c_h_2⟩ := bwc3 (k_h)
  obtain ⟨p2, hp2⟩ : ∃ p : BW W2, p.w = W2 := ⟨BW.start W2, rfl⟩
  rw [← hp2]
  clear hp2
  go_upto_region 5 with (go_at_call 6; (with_reducible refine (KL.out _ (bw_below B2 _)).mono ?_); rintro e w1 ⟨u1, rfl, hu1, hb⟩; obtain ⟨q, rfl⟩ := bw_take hb)
  obtain ⟨_, cpu, rfl, _, hS⟩ := owns_hits14 (by unfold maxLen; have := HLL.out; omega) hu1
  clear hu1 hb
  have k_p := k_p.below q.h
  have k_y := k_y.below q.h
  have k_m := k_m.below q.h
  have k_h := k_h.below q.h
  have B3 := bw_below B2 q
  clear B2 c_p_0 c_p_1 c_p_2 c_p_3 c_p_4 c_p_5 c_p_6 c_p_7 c_p_8 c_p_9 c_p_10 c_p_11 c_y_0 c_y_1 c_y_2 c_y_3 c_y_4 c_y_5 c_y_6 c_m_0 c_m_1 c_h_0 c_h_1 c_h_2
  generalize q.w = W3 at *
  have HS := Lib.hid hS
  clear hS
  obtain ⟨c_p_0, c_p_1, c_p_2, c_p_3, c_p_4, c_p_5, c_p_6, c_p_7, c_p_8, c_p_9, c_p_10, c_p_11⟩ := bwc12 (k_p)
  obtain ⟨c_y_0, c_y_1, c_y_2, c_y_3, c_y_4, c_y_5, c_y_6⟩ := bwc7 (k_y)
  obtain ⟨c_m_0, c_m_1⟩ := bwc2 (k_m)
  obtain ⟨c_h_0, c_h_1, c_h_2⟩ := bwc3 (k_h)
  obtain ⟨p3, hp3⟩ : ∃ p : BW W3, p.w = W3 := ⟨BW.start W3, rfl⟩
  rw [← hp3]
  clear hp3
  go_wp2
  go_loopw [12, 13] (fun s i wr => ∃ (k : Nat) (q : BW W3), k ≤ L.length ∧ i = .int .i64 k ∧ s = .bool ((L.take k).any (fun x => decide (x = (f1, f2, f3)))) ∧ wr = q.w) (fun _ i _ => L.length - (intOf i).toNat)
  case atStart => exact ⟨0, p3, by omega, rfl, rfl, rfl⟩
  case round =>
    obtain ⟨k, p9, hk, rfl, rfl, rfl⟩ := hrel
    have hLB := HLL.out
    by_cases hlt : k < L.length
    · obtain ⟨b, off, rfl, hlb, hcell⟩ := HS.out.resolve_left (by omega)
      have f0 : W3.cell? ⟨b, off + k * 3, none⟩ = some (.int .i64 L[k].1) := hcell k hlt 0 (by omega)
      have f1' : W3.cell? ⟨b, off + k * 3 + 1, none⟩ = some (.int .i64 L[k].2.1) := hcell k hlt 1 (by omega)
      have f2' : W3.cell? ⟨b, off + k * 3 + 2, none⟩ = some (.int .i64 L[k].2.2) := hcell k hlt 2 (by omega)
      have hmem := List.getElem_mem hlt
      have hokz := HOK.out _ hmem
      have huz := HUNI.out _ hmem
      have KBz := Lib.hid (KB.out _ hmem)
      have hT : (L.take (k + 1)).any (fun x => decide (x = (f1, f2, f3))) = ((L.take k).any (fun x => decide (x = (f1, f2, f3))) || decide (L[k] = (f1, f2, f3))) := by
        rw [List.take_succ_eq_append_getElem hlt, List.any_append]
        simp
      clear hcell hmem
      generalize L[k] = z at *
      generalize (L.take k).any (fun x => decide (x = (f1, f2, f3))) = s at *
      obtain ⟨z1, z2, z3⟩ := z
      dsimp only at f0 f1' f2' hokz huz KBz
      have t4 : decide (z3 < 1) = false := decide_eq_false (by omega)
      have t5 : decide (z2 < 1) = false := decide_eq_false (by omega)
      have HT := Lib.hid hT
      clear hT hokz
      have c_z_0 : ∀ p : BW W3, p.w.cell? ⟨b, off + k * 3, none⟩ = some (.int .i64 z1) := bw_cell f0
      have c_z_1 : ∀ p : BW W3, p.w.cell? ⟨b, off + k * 3 + 1, none⟩ = some (.int .i64 z2) := bw_cell f1'
      have c_z_2 : ∀ p : BW W3, p.w.cell? ⟨b, off + k * 3 + 2, none⟩ = some (.int .i64 z3) := bw_cell f2'
      have HU := Lib.hid huz
      clear huz
      go_upto_region 9 with (fail)
      refine wp_region_bw (by kernel_rfl) (by kernel_rfl) ?_
      repeat (go_big_quiet_step (first
        | (go_at_call 7; (first | (with_reducible exact bw_call KBz.out _)))))
      refine wpQuiet_nil ?_
      intro _ hw'
      obtain ⟨q, rfl⟩ := hw'
      go_upto_region 11 with (fail)
      cases s with
      | true =>
        refine wp_region_bw (by kernel_rfl) (by kernel_rfl) ?_
        repeat (go_big_quiet_step (first
          | fail))
        refine wpQuiet_nil ?_
        intro _ hw'
        obtain ⟨q, rfl⟩ := hw'
        go_wp2
        go_roundw
        case rel => exact ⟨k + 1, q, by omega, by go_num, by rw [HT.out]; rfl, rfl⟩
        case measure => simp [intOf]; omega
      | false =>
        by_cases hzf : (z1, z2, z3) = (f1, f2, f3)
        · cases hzf
          refine wp_region_bw (by kernel_rfl) (by kernel_rfl) ?_
          repeat (go_big_quiet_step (first
            | fail))
          refine wpQuiet_nil ?_
          intro _ hw'
          obtain ⟨q, rfl⟩ := hw'
          go_wp2
          go_roundw
          case rel => exact ⟨k + 1, q, by omega, by go_num, by rw [HT.out]; simp, rfl⟩
          case measure => simp [intOf]; omega
        · have hne := HU.out hzf
          have HZF := Lib.hid hzf
          clear hzf
          refine wp_region_bw (by kernel_rfl) (by kernel_rfl) ?_
          repeat (go_big_quiet_step (first
            | fail))
          refine wpQuiet_nil ?_
          intro _ hw'
          obtain ⟨q, rfl⟩ := hw'
          go_wp2
          go_roundw
          case rel => exact ⟨k + 1, q, by omega, by go_num, by rw [HT.out]; rw [decide_eq_false HZF.out]; rfl, rfl⟩
          case measure => simp [intOf]; omega
    · obtain rfl : k = L.length := by omega
      rw [List.take_length, HSOME.out]
      have hln := HLEN.out
      clear hlt hk
      cases fk with
      | false =>
        have hl2 : ¬ 0 < L.length := by have := of_decide_eq_false hln; omega
        have hl3 : decide (0 < L.length) = false := decide_eq_false hl2
        generalize L.length = ln at hln hl2 hl3 ⊢
        go_upto_region 14 with (first
          | (go_at_call 8; (first | (with_reducible refine (KN0.out _ (bw_below B3 _)).mono ?_) | (with_reducible refine (KN.out _ (bw_below B3 _)).mono ?_)); rintro e w1 ⟨rfl, hb⟩; obtain ⟨q, rfl⟩ := bw_take hb)
          | (go_at_call 9; (with_reducible refine (KF.out _).mono ?_); rintro e w1 ⟨rfl, hb⟩; obtain ⟨q, rfl⟩ := bw_take hb))
        have hpq := HLP.out.below (bw_below B3 q) (Nat.le_refl _)
        go_wp2_with (at_builtin; refine wpList_append_row rfl _ _ 22 rfl q.w.heap.size 26 i0 (.agg #[.int .i64 0, .int .i64 0, .int .i64 0, .int .i64 0, .int .i64 0, .int .i64 0, .int .i64 0, .int .i64 0, .int .i64 0, .int .i64 0, .int .i64 0, .int .i64 0]) 12 96 Try.underlying22 hi hz0 hz1 hz2 rfl (by decide) rfl a n cap (rowP P n) rfl (rowP_len P n) (prims_row hpq) (rowP_one P n) ?g3 ?g4 (Nat.le_refl _) ?_)
        case g3 => have := HN.out; unfold maxLen; omega
        case g4 => have := HN.out; omega
        intro v1 w1 hown1 hgrow1
        have hbq : Below q.w.heap.size q.w w1 := (Below.refl _ _).grown hgrow1 (Nat.le_refl _) (fun j ej => by cases ej)
        obtain ⟨q1, rfl⟩ := bw_take hbq
        have hsq := hbq.size
        have hWq := q.h.size
        clear hgrow1 hpq
        go_wp2_with (at_builtin; refine wpList_append_own _ rfl _ _ 22 rfl q.w.heap.size 26 i0 (.agg #[.int .i64 0, .int .i64 0, .int .i64 0, .int .i64 0, .int .i64 0, .int .i64 0, .int .i64 0, .int .i64 0, .int .i64 0, .int .i64 0, .int .i64 0, .int .i64 0]) 12 96 Try.underlying22 hi hz0 hz1 hz2 rfl (by decide) _ _ _ rfl (hown1.alloc _) ⟨q1.w.heap.size, 0, none⟩ 1 1 [.int .i64 a1, .int .i64 a2, .int .i64 a3, .int .i64 a4, .int .i64 a5, .int .i64 a6, .int .i64 a7, .int .i64 a8, .int .i64 a9, .int .i64 a10, .int .i64 a11, .int .i64 a12] rfl rfl ?g1 ?g2 ?g3 ?g4 ?g5 ?_)
        case g1 => intro j u hj; have := (Bk.new q1.w #[.int .i64 a1, .int .i64 a2, .int .i64 a3, .int .i64 a4, .int .i64 a5, .int .i64 a6, .int .i64 a7, .int .i64 a8, .int .i64 a9, .int .i64 a10, .int .i64 a11, .int .i64 a12] 26).cell (i := j) (v := u) (by simpa using hj); by_cases h0 : j = 0 <;> (first | (subst h0; exact this) | simpa [Addr.add, h0] using this)
        case g2 => intro u hu; simp only [List.mem_cons, List.not_mem_nil, or_false] at hu; rcases hu with rfl | rfl | rfl | rfl | rfl | rfl | rfl | rfl | rfl | rfl | rfl | rfl <;> rfl
        case g3 => have := HN.out; unfold maxLen; omega
        case g4 => have := HN.out; omega
        case g5 => first | omega | (simp; omega)
        intro v2 w2 hown2 hgrow2 hnil2
        have hbW : Below W3.heap.size W3 w2 := (q1.h.alloc q1.h.size _).grown hgrow2 (by have := q1.h.size; simp; omega) (fun j ej => by have := (hown1.lt j ej).1; omega)
        have hown3 : w2.ownsRow q.w.heap.size 26 12 v2 (n + 1) (rowP Q (n + 1)) := by rw [HRQ.out]; exact hown2
        obtain ⟨o, cp, rfl, hpr⟩ := owns_prims hown3 HIQ.out (by have := HN.out; unfold maxLen; omega)
        clear hown1 hown2 hown3 hgrow2 hnil2 hbq hsq hWq
        obtain ⟨q2, rfl⟩ : ∃ q2 : BW W3, w2 = q2.w := ⟨⟨w2, hbW⟩, rfl⟩
        clear hbW
        go_upto_region 18 with (go_at_call 5; (with_reducible refine (KM.out _ _ _ hpr).mono ?_); rintro e w3 ⟨rfl, hb⟩; have hpr2 := hpr.below hb (Nat.le_refl _); obtain ⟨q3, rfl⟩ := bw_take hb)
        have hprA := hpr2.below ((Below.refl _ _).alloc (Nat.le_refl _) (.cells #[.int .i64 i1, .int .i64 i2, .int .i64 i3] 33)) (Nat.le_refl _)
        clear hpr hpr2
        obtain ⟨W4, hW4⟩ : ∃ W, W = q3.w.alloc (.cells #[.int .i64 i1, .int .i64 i2, .int .i64 i3] 33) := ⟨_, rfl⟩
        have B4 : Below w.heap.size w W4 := by rw [hW4]; exact (bw_below B3 q3).alloc (bw_below B3 q3).size _
        have l_i : g_h < q3.w.heap.size := (k_h.below q3.h).lt
        have o_i : w.heap.size ≤ q3.w.heap.size := (bw_below B3 q3).size
        have k_p := bka hW4 (k_p.below q3.h)
        have k_y := bka hW4 (k_y.below q3.h)
        have k_m := bka hW4 (k_m.below q3.h)
        have k_h := bka hW4 (k_h.below q3.h)
        have k_i := bkn hW4
        rw [← hW4] at hprA ⊢
        clear hW4
        clear B3
        clear c_p_0 c_p_1 c_p_2 c_p_3 c_p_4 c_p_5 c_p_6 c_p_7 c_p_8 c_p_9 c_p_10 c_p_11 c_y_0 c_y_1 c_y_2 c_y_3 c_y_4 c_y_5 c_y_6 c_m_0 c_m_1 c_h_0 c_h_1 c_h_2
        generalize q3.w.heap.size = g_i at *
        obtain ⟨c_p_0, c_p_1, c_p_2, c_p_3, c_p_4, c_p_5, c_p_6, c_p_7, c_p_8, c_p_9, c_p_10, c_p_11⟩ := bwc12 (k_p)
        obtain ⟨c_y_0, c_y_1, c_y_2, c_y_3, c_y_4, c_y_5, c_y_6⟩ := bwc7 (k_y)
        obtain ⟨c_m_0, c_m_1⟩ := bwc2 (k_m)
        obtain ⟨c_h_0, c_h_1, c_h_2⟩ := bwc3 (k_h)
        obtain ⟨c_i_0, c_i_1, c_i_2⟩ := bwc3 (k_i)
        obtain ⟨p4, hp4⟩ : ∃ p : BW W4, p.w = W4 := ⟨BW.start W4, rfl⟩
        rw [← hp4]
        clear hp4
        obtain ⟨cy0, cy1, cy2, cy3, cy4, cy5, cy6⟩ := rwc7 ((k_y.below p4.h).alloc (.cells #[.int .i64 n] 3))
        go_upto_region 19 with (go_at_call 10; (with_reducible refine (KA.out _ _ _ _ (hprA.below ((p4.h).alloc (p4.h).size _) (Nat.le_refl _)) (Bk.new _ _ _)).mono ?_); rintro e w4 ⟨rfl, hb⟩; obtain ⟨q4, rfl⟩ := bw_take (((Below.refl _ _).alloc (Nat.le_refl _) _).trans (hb.mono (by simp))))
        clear hprA hb cy0 cy1 cy2 cy3 cy4 cy5 cy6
        obtain ⟨W5, hW5⟩ : ∃ W, W = q4.w.alloc (.cells #[.int .i64 j1, .int .i64 j2, .int .i64 j3] 33) := ⟨_, rfl⟩
        have B5 : Below w.heap.size w W5 := by rw [hW5]; exact (bw_below B4 q4).alloc (bw_below B4 q4).size _
        have l_j : g_i < q4.w.heap.size := (k_i.below q4.h).lt
        have o_j : w.heap.size ≤ q4.w.heap.size := (bw_below B4 q4).size
        have k_p := bka hW5 (k_p.below q4.h)
        have k_y := bka hW5 (k_y.below q4.h)
        have k_m := bka hW5 (k_m.below q4.h)
        have k_h := bka hW5 (k_h.below q4.h)
        have k_i := bka hW5 (k_i.below q4.h)
        have k_j := bkn hW5
        rw [← hW5]
        clear hW5
        clear B4
        clear c_p_0 c_p_1 c_p_2 c_p_3 c_p_4 c_p_5 c_p_6 c_p_7 c_p_8 c_p_9 c_p_10 c_p_11 c_y_0 c_y_1 c_y_2 c_y_3 c_y_4 c_y_5 c_y_6 c_m_0 c_m_1 c_h_0 c_h_1 c_h_2 c_i_0 c_i_1 c_i_2
        generalize q4.w.heap.size = g_j at *
        obtain ⟨c_p_0, c_p_1, c_p_2, c_p_3, c_p_4, c_p_5, c_p_6, c_p_7, c_p_8, c_p_9, c_p_10, c_p_11⟩ := bwc12 (k_p)
        obtain ⟨c_y_0, c_y_1, c_y_2, c_y_3, c_y_4, c_y_5, c_y_6⟩ := bwc7 (k_y)
        obtain ⟨c_m_0, c_m_1⟩ := bwc2 (k_m)
        obtain ⟨c_h_0, c_h_1, c_h_2⟩ := bwc3 (k_h)
        obtain ⟨c_i_0, c_i_1, c_i_2⟩ := bwc3 (k_i)
        obtain ⟨c_j_0, c_j_1, c_j_2⟩ := bwc3 (k_j)
        obtain ⟨p5, hp5⟩ : ∃ p : BW W5, p.w = W5 := ⟨BW.start W5, rfl⟩
        rw [← hp5]
        clear hp5
        rcases HD.out with ⟨h1, h2, h3⟩ | ⟨h1, h2, (⟨_, h4⟩ | ⟨h3, _⟩ | ⟨h3, _⟩)⟩
        · subst h1; subst h3; cases h2
          go_wp2_with (first | (go_at_call 7; (with_reducible refine (KJ.out _).mono ?_); rintro e w1 ⟨rfl, hb⟩; obtain ⟨q, rfl⟩ := bw_take hb) | (go_at_call 4; (with_reducible refine (KW.out _).mono ?_); rintro e w1 ⟨rfl, hb⟩; obtain ⟨q, rfl⟩ := bw_take hb))
          go_ret
          exact ⟨rfl, bw_below B5 _⟩
        · subst h1; subst h2; cases h4
          go_wp2_with (first | (go_at_call 7; (with_reducible refine (KJ.out _).mono ?_); rintro e w1 ⟨rfl, hb⟩; obtain ⟨q, rfl⟩ := bw_take hb) | (go_at_call 4; (with_reducible refine (KW.out _).mono ?_); rintro e w1 ⟨rfl, hb⟩; obtain ⟨q, rfl⟩ := bw_take hb))
          go_ret
          exact ⟨rfl, bw_below B5 _⟩
        · cases h3
        · cases h3
      | true =>
        have hl2 : 0 < L.length := by have := of_decide_eq_true hln; omega
        have hl3 : decide (0 < L.length) = true := decide_eq_true hl2
        generalize L.length = ln at hln hl2 hl3 ⊢
        go_upto_region 14 with (first
          | (go_at_call 8; (first | (with_reducible refine (KN0.out _ (bw_below B3 _)).mono ?_) | (with_reducible refine (KN.out _ (bw_below B3 _)).mono ?_)); rintro e w1 ⟨rfl, hb⟩; obtain ⟨q, rfl⟩ := bw_take hb)
          | (go_at_call 9; (with_reducible refine (KF.out _).mono ?_); rintro e w1 ⟨rfl, hb⟩; obtain ⟨q, rfl⟩ := bw_take hb))
        have hpq := HLP.out.below (bw_below B3 q) (Nat.le_refl _)
        go_wp2_with (at_builtin; refine wpList_append_row rfl _ _ 22 rfl q.w.heap.size 26 i0 (.agg #[.int .i64 0, .int .i64 0, .int .i64 0, .int .i64 0, .int .i64 0, .int .i64 0, .int .i64 0, .int .i64 0, .int .i64 0, .int .i64 0, .int .i64 0, .int .i64 0]) 12 96 Try.underlying22 hi hz0 hz1 hz2 rfl (by decide) rfl a n cap (rowP P n) rfl (rowP_len P n) (prims_row hpq) (rowP_one P n) ?g3 ?g4 (Nat.le_refl _) ?_)
        case g3 => have := HN.out; unfold maxLen; omega
        case g4 => have := HN.out; omega
        intro v1 w1 hown1 hgrow1
        have hbq : Below q.w.heap.size q.w w1 := (Below.refl _ _).grown hgrow1 (Nat.le_refl _) (fun j ej => by cases ej)
        obtain ⟨q1, rfl⟩ := bw_take hbq
        have hsq := hbq.size
        have hWq := q.h.size
        clear hgrow1 hpq
        go_wp2_with (at_builtin; refine wpList_append_own _ rfl _ _ 22 rfl q.w.heap.size 26 i0 (.agg #[.int .i64 0, .int .i64 0, .int .i64 0, .int .i64 0, .int .i64 0, .int .i64 0, .int .i64 0, .int .i64 0, .int .i64 0, .int .i64 0, .int .i64 0, .int .i64 0]) 12 96 Try.underlying22 hi hz0 hz1 hz2 rfl (by decide) _ _ _ rfl (hown1.alloc _) ⟨q1.w.heap.size, 0, none⟩ 1 1 [.int .i64 a1, .int .i64 a2, .int .i64 a3, .int .i64 a4, .int .i64 a5, .int .i64 a6, .int .i64 a7, .int .i64 a8, .int .i64 a9, .int .i64 a10, .int .i64 a11, .int .i64 a12] rfl rfl ?g1 ?g2 ?g3 ?g4 ?g5 ?_)
        case g1 => intro j u hj; have := (Bk.new q1.w #[.int .i64 a1, .int .i64 a2, .int .i64 a3, .int .i64 a4, .int .i64 a5, .int .i64 a6, .int .i64 a7, .int .i64 a8, .int .i64 a9, .int .i64 a10, .int .i64 a11, .int .i64 a12] 26).cell (i := j) (v := u) (by simpa using hj); by_cases h0 : j = 0 <;> (first | (subst h0; exact this) | simpa [Addr.add, h0] using this)
        case g2 => intro u hu; simp only [List.mem_cons, List.not_mem_nil, or_false] at hu; rcases hu with rfl | rfl | rfl | rfl | rfl | rfl | rfl | rfl | rfl | rfl | rfl | rfl <;> rfl
        case g3 => have := HN.out; unfold maxLen; omega
        case g4 => have := HN.out; omega
        case g5 => first | omega | (simp; omega)
        intro v2 w2 hown2 hgrow2 hnil2
        have hbW : Below W3.heap.size W3 w2 := (q1.h.alloc q1.h.size _).grown hgrow2 (by have := q1.h.size; simp; omega) (fun j ej => by have := (hown1.lt j ej).1; omega)
        have hown3 : w2.ownsRow q.w.heap.size 26 12 v2 (n + 1) (rowP Q (n + 1)) := by rw [HRQ.out]; exact hown2
        obtain ⟨o, cp, rfl, hpr⟩ := owns_prims hown3 HIQ.out (by have := HN.out; unfold maxLen; omega)
        clear hown1 hown2 hown3 hgrow2 hnil2 hbq hsq hWq
        obtain ⟨q2, rfl⟩ : ∃ q2 : BW W3, w2 = q2.w := ⟨⟨w2, hbW⟩, rfl⟩
        clear hbW
        go_upto_region 18 with (go_at_call 5; (with_reducible refine (KM.out _ _ _ hpr).mono ?_); rintro e w3 ⟨rfl, hb⟩; have hpr2 := hpr.below hb (Nat.le_refl _); obtain ⟨q3, rfl⟩ := bw_take hb)
        have hprA := hpr2.below ((Below.refl _ _).alloc (Nat.le_refl _) (.cells #[.int .i64 i1, .int .i64 i2, .int .i64 i3] 33)) (Nat.le_refl _)
        clear hpr hpr2
        obtain ⟨W4, hW4⟩ : ∃ W, W = q3.w.alloc (.cells #[.int .i64 i1, .int .i64 i2, .int .i64 i3] 33) := ⟨_, rfl⟩
        have B4 : Below w.heap.size w W4 := by rw [hW4]; exact (bw_below B3 q3).alloc (bw_below B3 q3).size _
        have l_i : g_h < q3.w.heap.size := (k_h.below q3.h).lt
        have o_i : w.heap.size ≤ q3.w.heap.size := (bw_below B3 q3).size
        have k_p := bka hW4 (k_p.below q3.h)
        have k_y := bka hW4 (k_y.below q3.h)
        have k_m := bka hW4 (k_m.below q3.h)
        have k_h := bka hW4 (k_h.below q3.h)
        have k_i := bkn hW4
        rw [← hW4] at hprA ⊢
        clear hW4
        clear B3
        clear c_p_0 c_p_1 c_p_2 c_p_3 c_p_4 c_p_5 c_p_6 c_p_7 c_p_8 c_p_9 c_p_10 c_p_11 c_y_0 c_y_1 c_y_2 c_y_3 c_y_4 c_y_5 c_y_6 c_m_0 c_m_1 c_h_0 c_h_1 c_h_2
        generalize q3.w.heap.size = g_i at *
        obtain ⟨c_p_0, c_p_1, c_p_2, c_p_3, c_p_4, c_p_5, c_p_6, c_p_7, c_p_8, c_p_9, c_p_10, c_p_11⟩ := bwc12 (k_p)
        obtain ⟨c_y_0, c_y_1, c_y_2, c_y_3, c_y_4, c_y_5, c_y_6⟩ := bwc7 (k_y)
        obtain ⟨c_m_0, c_m_1⟩ := bwc2 (k_m)
        obtain ⟨c_h_0, c_h_1, c_h_2⟩ := bwc3 (k_h)
        obtain ⟨c_i_0, c_i_1, c_i_2⟩ := bwc3 (k_i)
        obtain ⟨p4, hp4⟩ : ∃ p : BW W4, p.w = W4 := ⟨BW.start W4, rfl⟩
        rw [← hp4]
        clear hp4
        obtain ⟨cy0, cy1, cy2, cy3, cy4, cy5, cy6⟩ := rwc7 ((k_y.below p4.h).alloc (.cells #[.int .i64 n] 3))
        go_upto_region 19 with (go_at_call 10; (with_reducible refine (KA.out _ _ _ _ (hprA.below ((p4.h).alloc (p4.h).size _) (Nat.le_refl _)) (Bk.new _ _ _)).mono ?_); rintro e w4 ⟨rfl, hb⟩; obtain ⟨q4, rfl⟩ := bw_take (((Below.refl _ _).alloc (Nat.le_refl _) _).trans (hb.mono (by simp))))
        clear hprA hb cy0 cy1 cy2 cy3 cy4 cy5 cy6
        obtain ⟨W5, hW5⟩ : ∃ W, W = q4.w.alloc (.cells #[.int .i64 j1, .int .i64 j2, .int .i64 j3] 33) := ⟨_, rfl⟩
        have B5 : Below w.heap.size w W5 := by rw [hW5]; exact (bw_below B4 q4).alloc (bw_below B4 q4).size _
        have l_j : g_i < q4.w.heap.size := (k_i.below q4.h).lt
        have o_j : w.heap.size ≤ q4.w.heap.size := (bw_below B4 q4).size
        have k_p := bka hW5 (k_p.below q4.h)
        have k_y := bka hW5 (k_y.below q4.h)
        have k_m := bka hW5 (k_m.below q4.h)
        have k_h := bka hW5 (k_h.below q4.h)
        have k_i := bka hW5 (k_i.below q4.h)
        have k_j := bkn hW5
        rw [← hW5]
        clear hW5
        clear B4
        clear c_p_0 c_p_1 c_p_2 c_p_3 c_p_4 c_p_5 c_p_6 c_p_7 c_p_8 c_p_9 c_p_10 c_p_11 c_y_0 c_y_1 c_y_2 c_y_3 c_y_4 c_y_5 c_y_6 c_m_0 c_m_1 c_h_0 c_h_1 c_h_2 c_i_0 c_i_1 c_i_2
        generalize q4.w.heap.size = g_j at *
        obtain ⟨c_p_0, c_p_1, c_p_2, c_p_3, c_p_4, c_p_5, c_p_6, c_p_7, c_p_8, c_p_9, c_p_10, c_p_11⟩ := bwc12 (k_p)
        obtain ⟨c_y_0, c_y_1, c_y_2, c_y_3, c_y_4, c_y_5, c_y_6⟩ := bwc7 (k_y)
        obtain ⟨c_m_0, c_m_1⟩ := bwc2 (k_m)
        obtain ⟨c_h_0, c_h_1, c_h_2⟩ := bwc3 (k_h)
        obtain ⟨c_i_0, c_i_1, c_i_2⟩ := bwc3 (k_i)
        obtain ⟨c_j_0, c_j_1, c_j_2⟩ := bwc3 (k_j)
        obtain ⟨p5, hp5⟩ : ∃ p : BW W5, p.w = W5 := ⟨BW.start W5, rfl⟩
        rw [← hp5]
        clear hp5
        rcases HD.out with ⟨h1, h2, h3⟩ | ⟨h1, h2, (⟨h3, _⟩ | ⟨_, h5, h4⟩ | ⟨_, h5, h4⟩)⟩
        · subst h1; subst h3; cases h2
          go_wp2_with (first | (go_at_call 7; (with_reducible refine (KJ.out _).mono ?_); rintro e w1 ⟨rfl, hb⟩; obtain ⟨q, rfl⟩ := bw_take hb) | (go_at_call 4; (with_reducible refine (KW.out _).mono ?_); rintro e w1 ⟨rfl, hb⟩; obtain ⟨q, rfl⟩ := bw_take hb))
          go_ret
          exact ⟨rfl, bw_below B5 _⟩
        · cases h3
        · subst h1; subst h2; subst h5; cases h4
          go_wp2_with (first | (go_at_call 7; (with_reducible refine (KJ.out _).mono ?_); rintro e w1 ⟨rfl, hb⟩; obtain ⟨q, rfl⟩ := bw_take hb) | (go_at_call 4; (with_reducible refine (KW.out _).mono ?_); rintro e w1 ⟨rfl, hb⟩; obtain ⟨q, rfl⟩ := bw_take hb))
          go_ret
          exact ⟨rfl, bw_below B5 _⟩
        · subst h1; subst h2; subst h5; cases h4
          go_wp2_with (first | (go_at_call 7; (with_reducible refine (KJ.out _).mono ?_); rintro e w1 ⟨rfl, hb⟩; obtain ⟨q, rfl⟩ := bw_take hb) | (go_at_call 4; (with_reducible refine (KW.out _).mono ?_); rintro e w1 ⟨rfl, hb⟩; obtain ⟨q, rfl⟩ := bw_take hb))
          go_ret
          exact ⟨rfl, bw_below B5 _⟩

set_option maxRecDepth 100000 in
set_option maxHeartbeats 8000000 in
theorem first_no1 (a : Option Addr) (n cap : Nat) (a1 a2 a3 a4 a5 a6 a7 a8 a9 a10 a11 a12 o1 o2 o3 d1 d2 d3 fr m e : Int) (w : World) (hn : 12 < n) :
    Calls Try.prog 3 #[.slice a n cap, .agg #[.int .i64 a1, .int .i64 a2, .int .i64 a3, .int .i64 a4, .int .i64 a5, .int .i64 a6, .int .i64 a7, .int .i64 a8, .int .i64 a9, .int .i64 a10, .int .i64 a11, .int .i64 a12], .agg #[.int .i64 o1, .int .i64 o2, .int .i64 o3, .int .i64 d1, .int .i64 d2, .int .i64 d3, .int .i64 fr], .agg #[.int .i64 m, .int .i64 e]] w fun e w' => e = .returned (.bool true) ∧ Below w.heap.size w w' := by
  have KW := Lib.hid (fun w => awake14 w)
  have t1 : decide ((12 : Int) < n) = true := decide_eq_true (by omega)
  clear hn
  go_enter Try.func3, Try.ntmps3
  go_upto_region 1 with (fail)
  obtain ⟨W1, hW1⟩ : ∃ W, W = ((w.alloc (.cells #[.int .i64 a1, .int .i64 a2, .int .i64 a3, .int .i64 a4, .int .i64 a5, .int .i64 a6, .int .i64 a7, .int .i64 a8, .int .i64 a9, .int .i64 a10, .int .i64 a11, .int .i64 a12] 26)).alloc (.cells #[.int .i64 o1, .int .i64 o2, .int .i64 o3, .int .i64 d1, .int .i64 d2, .int .i64 d3, .int .i64 fr] 28)).alloc (.cells #[.int .i64 m, .int .i64 e] 30) := ⟨_, rfl⟩
  obtain ⟨k_p, k_y, k_m, B1⟩ := st3 hW1
  rw [← hW1]
  clear hW1
  have l_y : w.heap.size < w.heap.size + 1 := by omega
  have l_m : w.heap.size + 1 < w.heap.size + 1 + 1 := by omega
  generalize w.heap.size + 1 + 1 = g_m at *
  generalize w.heap.size + 1 = g_y at *
  obtain ⟨c_p_0, c_p_1, c_p_2, c_p_3, c_p_4, c_p_5, c_p_6, c_p_7, c_p_8, c_p_9, c_p_10, c_p_11⟩ := bwc12 (k_p)
  obtain ⟨c_y_0, c_y_1, c_y_2, c_y_3, c_y_4, c_y_5, c_y_6⟩ := bwc7 (k_y)
  obtain ⟨c_m_0, c_m_1⟩ := bwc2 (k_m)
  obtain ⟨p1, hp1⟩ : ∃ p : BW W1, p.w = W1 := ⟨BW.start W1, rfl⟩
  rw [← hp1]
  clear hp1
  go_wp2_with (go_at_call 4; (with_reducible refine (KW.out _).mono ?_); rintro e w1 ⟨rfl, hb⟩; obtain ⟨q, rfl⟩ := bw_take hb)
  go_ret
  exact ⟨rfl, bw_below B1 _⟩

set_option maxRecDepth 100000 in
set_option maxHeartbeats 8000000 in
theorem first_no2 (a : Option Addr) (n cap : Nat) (a1 a2 a3 a4 a5 a6 a7 a8 a9 a10 a11 a12 o1 o2 o3 d1 d2 d3 fr m e : Int) (w : World) (hn : n ≤ 12) (he : e < 1) :
    Calls Try.prog 3 #[.slice a n cap, .agg #[.int .i64 a1, .int .i64 a2, .int .i64 a3, .int .i64 a4, .int .i64 a5, .int .i64 a6, .int .i64 a7, .int .i64 a8, .int .i64 a9, .int .i64 a10, .int .i64 a11, .int .i64 a12], .agg #[.int .i64 o1, .int .i64 o2, .int .i64 o3, .int .i64 d1, .int .i64 d2, .int .i64 d3, .int .i64 fr], .agg #[.int .i64 m, .int .i64 e]] w fun e w' => e = .returned (.bool true) ∧ Below w.heap.size w w' := by
  have KW := Lib.hid (fun w => awake14 w)
  have t1 : decide ((12 : Int) < n) = false := decide_eq_false (by omega)
  have t2 : decide (e < 1) = true := decide_eq_true (by omega)
  clear hn he
  go_enter Try.func3, Try.ntmps3
  go_upto_region 1 with (fail)
  obtain ⟨W1, hW1⟩ : ∃ W, W = ((w.alloc (.cells #[.int .i64 a1, .int .i64 a2, .int .i64 a3, .int .i64 a4, .int .i64 a5, .int .i64 a6, .int .i64 a7, .int .i64 a8, .int .i64 a9, .int .i64 a10, .int .i64 a11, .int .i64 a12] 26)).alloc (.cells #[.int .i64 o1, .int .i64 o2, .int .i64 o3, .int .i64 d1, .int .i64 d2, .int .i64 d3, .int .i64 fr] 28)).alloc (.cells #[.int .i64 m, .int .i64 e] 30) := ⟨_, rfl⟩
  obtain ⟨k_p, k_y, k_m, B1⟩ := st3 hW1
  rw [← hW1]
  clear hW1
  have l_y : w.heap.size < w.heap.size + 1 := by omega
  have l_m : w.heap.size + 1 < w.heap.size + 1 + 1 := by omega
  generalize w.heap.size + 1 + 1 = g_m at *
  generalize w.heap.size + 1 = g_y at *
  obtain ⟨c_p_0, c_p_1, c_p_2, c_p_3, c_p_4, c_p_5, c_p_6, c_p_7, c_p_8, c_p_9, c_p_10, c_p_11⟩ := bwc12 (k_p)
  obtain ⟨c_y_0, c_y_1, c_y_2, c_y_3, c_y_4, c_y_5, c_y_6⟩ := bwc7 (k_y)
  obtain ⟨c_m_0, c_m_1⟩ := bwc2 (k_m)
  obtain ⟨p1, hp1⟩ : ∃ p : BW W1, p.w = W1 := ⟨BW.start W1, rfl⟩
  rw [← hp1]
  clear hp1
  go_wp2_with (go_at_call 4; (with_reducible refine (KW.out _).mono ?_); rintro e w1 ⟨rfl, hb⟩; obtain ⟨q, rfl⟩ := bw_take hb)
  go_ret
  exact ⟨rfl, bw_below B1 _⟩

def pOf14 (V : List Value) : Pr :=
  ⟨intOf (V.getD 0 (.bool false)), (intOf (V.getD 1 (.bool false)), intOf (V.getD 2 (.bool false)), intOf (V.getD 3 (.bool false))), (intOf (V.getD 4 (.bool false)), intOf (V.getD 5 (.bool false)), intOf (V.getD 6 (.bool false))), (intOf (V.getD 7 (.bool false)), intOf (V.getD 8 (.bool false)), intOf (V.getD 9 (.bool false))), intOf (V.getD 10 (.bool false)), intOf (V.getD 11 (.bool false))⟩

theorem pOf14_pcells (p : Pr) : pOf14 (pcells p) = p := rfl

theorem prim_row14 {V : List Value} (h : LeafAll [.int .i64, .int .i64, .int .i64, .int .i64, .int .i64, .int .i64, .int .i64, .int .i64, .int .i64, .int .i64, .int .i64, .int .i64] V) : ∃ p : Pr, V = pcells p ∧ p.I := by
  obtain ⟨_, _, rfl, ⟨x0, rfl, h0⟩, _, _, rfl, ⟨x1, rfl, h1⟩, _, _, rfl, ⟨x2, rfl, h2⟩, _, _, rfl, ⟨x3, rfl, h3⟩, _, _, rfl, ⟨x4, rfl, h4⟩, _, _, rfl, ⟨x5, rfl, h5⟩, _, _, rfl, ⟨x6, rfl, h6⟩, _, _, rfl, ⟨x7, rfl, h7⟩, _, _, rfl, ⟨x8, rfl, h8⟩, _, _, rfl, ⟨x9, rfl, h9⟩, _, _, rfl, ⟨x10, rfl, h10⟩, _, r, rfl, ⟨x11, rfl, h11⟩, he⟩ := h
  have he' : r = [] := he
  subst he'
  exact ⟨⟨x0, (x1, x2, x3), (x4, x5, x6), (x7, x8, x9), x10, x11⟩, rfl, ⟨I64.of_wf h0, ⟨I64.of_wf h1, I64.of_wf h2, I64.of_wf h3⟩, ⟨I64.of_wf h4, I64.of_wf h5, I64.of_wf h6⟩, ⟨I64.of_wf h7, I64.of_wf h8, I64.of_wf h9⟩, I64.of_wf h10, I64.of_wf h11⟩⟩

set_option maxRecDepth 100000 in
theorem open_prims14 {H : Type} {enc : TypeId × Value → H} {W : World} {r : Reach} {b0 : Nat} {v : Value} {d : DataW H} {p : List MemPlace} (hv : Value.okWide Try.prog W r b0 22 v)
    (h : DataW.Trod enc Try.prog W 0 (fun _ => true) true 22 v d p) : ∃ (a : Option Addr) (len cap : Nat) (P : Nat → Pr), v = .slice a len cap ∧ Prims W (.slice a len cap) len P := by
  obtain ⟨a, len, cap, V, rfl, hm, hr⟩ := open_rows (n := 5) (ks := [.int .i64, .int .i64, .int .i64, .int .i64, .int .i64, .int .i64, .int .i64, .int .i64, .int .i64, .int .i64, .int .i64, .int .i64]) Try.underlying22 (by kernel_rfl) (by kernel_rfl) (by simp) hv h
  refine ⟨a, len, cap, fun i => pOf14 (V i), rfl, ?_⟩
  rcases hr with rfl | ⟨b, off, rfl, hR, hb⟩
  · exact ⟨⟨a, cap, rfl, hm, .inl rfl⟩, fun i hi => absurd hi (by omega)⟩
  · refine ⟨⟨_, cap, rfl, hm, .inr ⟨b, off, rfl, hb, fun k hk j hj => ?_⟩⟩, fun k hk => ?_⟩
    · obtain ⟨p, e, _⟩ := prim_row14 (hR k hk).1
      have c : W.cell? ⟨b, off + k * 12 + j, none⟩ = (V k)[j]? := (hR k hk).2 j hj
      dsimp only
      rw [c, e, pOf14_pcells]
    · obtain ⟨p, e, hI⟩ := prim_row14 (hR k hk).1
      dsimp only
      rw [e, pOf14_pcells]
      exact hI

theorem hUp_same {P Q : Nat → Pr} {n : Nat} (h : ∀ i, i < n → Q i = P i) (o d : T3) (fr : Int) : hUp Q n o d fr = hUp P n o d fr := by
  induction n with
  | zero => rfl
  | succ n ih => rw [hUp_succ, hUp_succ, ih (fun i hi => h i (by omega)), h n (by omega)]

theorem hFirst_I64 {l : List H3} (hok : ∀ x ∈ l, Hok x) (hI : ∀ x ∈ l, I64 x.1 ∧ I64 x.2.1 ∧ I64 x.2.2) : I64 (hFirst l).1.1 ∧ I64 (hFirst l).1.2.1 ∧ I64 (hFirst l).1.2.2 := by
  rcases hFirst_spec hok with ⟨_, h⟩ | ⟨_, _, h, _⟩
  · rw [h]; refine ⟨?_, ?_, ?_⟩ <;> (unfold I64; dsimp only; omega)
  · exact hI _ h

/-- What the closest one is, and what it is with one more behind: all that the walk asks. -/
theorem first_facts {L t : List H3} (ht : t = [] ∨ ∃ x, t = [x]) (hok : ∀ x ∈ L ++ t, Hok x) (hu : ∀ x ∈ L ++ t, ∀ y ∈ L ++ t, x.1 = y.1 → x = y) :
    ((hFirst t).2 = false ∧ (hFirst (L ++ t)).1 = (hFirst L).1 ∧ (hFirst (L ++ t)).2 = (hFirst L).2) ∨ ((hFirst t).2 = true ∧ (hFirst (L ++ t)).2 = true ∧ (((hFirst L).2 = false ∧ (hFirst (L ++ t)).1 = (hFirst t).1) ∨ ((hFirst L).2 = true ∧ hb (hFirst t).1 (hFirst L).1 = true ∧ (hFirst (L ++ t)).1 = (hFirst t).1) ∨ ((hFirst L).2 = true ∧ hb (hFirst t).1 (hFirst L).1 = false ∧ (hFirst (L ++ t)).1 = (hFirst L).1))) := by
  rcases ht with rfl | ⟨x, rfl⟩
  · left
    rw [List.append_nil]
    exact ⟨rfl, rfl, rfl⟩
  · right
    have hx : hFirst [x] = (x, true) := (first_more (l := []) (j := x) (fun y hy => hok y (by simp at hy ⊢; exact .inr hy)) (fun y hy z hz => hu y (by simp at hy ⊢; exact .inr hy) z (by simp at hz ⊢; exact .inr hz))).1 (.inl rfl)
    obtain ⟨m1, m2⟩ := first_more (l := L) (j := x) hok hu
    rw [hx]
    dsimp only
    cases hk : (hFirst L).2 with
    | false =>
      have h := m1 (.inl hk)
      rw [h]
      exact ⟨rfl, rfl, .inl ⟨rfl, rfl⟩⟩
    | true =>
      cases hj : hb x (hFirst L).1 with
      | true =>
        have h := m1 (.inr hj)
        rw [h]
        exact ⟨rfl, rfl, .inr (.inl ⟨rfl, rfl, rfl⟩)⟩
      | false =>
        have h := m2 hk hj
        rw [h]
        exact ⟨rfl, rfl, .inr (.inr ⟨rfl, rfl, rfl⟩)⟩

theorem law_PlainFirst (a : Option Addr) (n cap : Nat) (P : Nat → Pr) (a1 a2 a3 a4 a5 a6 a7 a8 a9 a10 a11 a12 o1 o2 o3 d1 d2 d3 fr m e : Int) (w : World) (hs : Prims w (.slice a n cap) n P) (hone : Pr.I (Pr.mk a1 (a2, a3, a4) (a5, a6, a7) (a8, a9, a10) a11 a12))
    (ho : I3 (o1, o2, o3)) (hd : I3 (d1, d2, d3)) (hf : I64 fr) (hm : I64 m) (he : I64 e) :
    Calls Try.prog 3 #[.slice a n cap, .agg #[.int .i64 a1, .int .i64 a2, .int .i64 a3, .int .i64 a4, .int .i64 a5, .int .i64 a6, .int .i64 a7, .int .i64 a8, .int .i64 a9, .int .i64 a10, .int .i64 a11, .int .i64 a12], .agg #[.int .i64 o1, .int .i64 o2, .int .i64 o3, .int .i64 d1, .int .i64 d2, .int .i64 d3, .int .i64 fr], .agg #[.int .i64 m, .int .i64 e]] w fun e w' => e = .returned (.bool true) ∧ Below w.heap.size w w' := by
  by_cases h1 : 12 < n
  · exact first_no1 a n cap a1 a2 a3 a4 a5 a6 a7 a8 a9 a10 a11 a12 o1 o2 o3 d1 d2 d3 fr m e w h1
  by_cases h2 : e < 1
  · exact first_no2 a n cap a1 a2 a3 a4 a5 a6 a7 a8 a9 a10 a11 a12 o1 o2 o3 d1 d2 d3 fr m e w (by omega) h2
  have hl : ∀ {X}, Below w.heap.size w X → Prims X (.slice a n cap) n P := fun hX => hs.below hX (Nat.le_refl _)
  obtain ⟨Q, hQd⟩ : ∃ Q : Nat → Pr, Q = fun i => if i < n then P i else (Pr.mk a1 (a2, a3, a4) (a5, a6, a7) (a8, a9, a10) a11 a12) := ⟨_, rfl⟩
  have hQ1 : ∀ i, i < n → Q i = P i := fun i hi => by rw [hQd]; exact if_pos hi
  have hQ2 : Q n = (Pr.mk a1 (a2, a3, a4) (a5, a6, a7) (a8, a9, a10) a11 a12) := by rw [hQd]; exact if_neg (by omega)
  have hQI : ∀ i, i < n + 1 → (Q i).I := fun i hi => by
    by_cases h : i < n
    · rw [hQ1 i h]; exact hs.2 i h
    · obtain rfl : i = n := by omega
      rw [hQ2]; exact hone
  have hrow : rowP Q (n + 1) = rowP P n ++ pcells (Pr.mk a1 (a2, a3, a4) (a5, a6, a7) (a8, a9, a10) a11 a12) := by rw [rowP_succ, hQ2, rowP_congr hQ1]
  have hUQ : hUp Q (n + 1) (o1, o2, o3) (d1, d2, d3) fr = hUp P n (o1, o2, o3) (d1, d2, d3) fr ++ hitAt (Pr.mk a1 (a2, a3, a4) (a5, a6, a7) (a8, a9, a10) a11 a12) n (o1, o2, o3) (d1, d2, d3) fr := by rw [hUp_succ, hQ2, hUp_same hQ1]
  have hlen : (hUp P n (o1, o2, o3) (d1, d2, d3) fr).length ≤ n := hUp_len _ _ _ _ _
  have hidx : ∀ x ∈ hUp P n (o1, o2, o3) (d1, d2, d3) fr, x.1 < (n : Int) := fun x hx => (hUp_idx hx).2
  have htx : ∀ x ∈ hitAt (Pr.mk a1 (a2, a3, a4) (a5, a6, a7) (a8, a9, a10) a11 a12) n (o1, o2, o3) (d1, d2, d3) fr, x.1 = (n : Int) := fun x hx => by
    unfold hitAt at hx
    split at hx
    · have : x = ((n : Int), (pHit (Pr.mk a1 (a2, a3, a4) (a5, a6, a7) (a8, a9, a10) a11 a12) n (o1, o2, o3) (d1, d2, d3) fr).1) := by simpa using hx
      rw [this]
    · simp at hx
  have ht1 : hitAt (Pr.mk a1 (a2, a3, a4) (a5, a6, a7) (a8, a9, a10) a11 a12) n (o1, o2, o3) (d1, d2, d3) fr = [] ∨ ∃ x, hitAt (Pr.mk a1 (a2, a3, a4) (a5, a6, a7) (a8, a9, a10) a11 a12) n (o1, o2, o3) (d1, d2, d3) fr = [x] := by
    unfold hitAt
    split
    · exact .inr ⟨_, rfl⟩
    · exact .inl rfl
  have okU : ∀ x ∈ hUp Q (n + 1) (o1, o2, o3) (d1, d2, d3) fr, Hok x := hUp_ok
  have unU : ∀ x ∈ hUp Q (n + 1) (o1, o2, o3) (d1, d2, d3) fr, ∀ y ∈ hUp Q (n + 1) (o1, o2, o3) (d1, d2, d3) fr, x.1 = y.1 → x = y := hUp_unique
  have iU : ∀ x ∈ hUp Q (n + 1) (o1, o2, o3) (d1, d2, d3) fr, I64 x.1 ∧ I64 x.2.1 ∧ I64 x.2.2 := hUp_I64 (by omega)
  have hA : hAmong Q (n + 1) (fun _ => (n : Int)) 1 (o1, o2, o3) (d1, d2, d3) fr = hFirst (hitAt (Pr.mk a1 (a2, a3, a4) (a5, a6, a7) (a8, a9, a10) a11 a12) n (o1, o2, o3) (d1, d2, d3) fr) := by
    unfold hAmong
    rw [hUQ, some_last hidx htx]
  have hC : hClosest Q (n + 1) (o1, o2, o3) (d1, d2, d3) fr = hFirst (hUp P n (o1, o2, o3) (d1, d2, d3) fr ++ hitAt (Pr.mk a1 (a2, a3, a4) (a5, a6, a7) (a8, a9, a10) a11 a12) n (o1, o2, o3) (d1, d2, d3) fr) := by unfold hClosest; rw [hUQ]
  have hC0 : hClosest P n (o1, o2, o3) (d1, d2, d3) fr = hFirst (hUp P n (o1, o2, o3) (d1, d2, d3) fr) := rfl
  have KCh := fun X hX => plain_Closest a n cap P o1 o2 o3 d1 d2 d3 fr X (hl hX) ho hd hf (by omega)
  have KLh := fun X hX => plain_All a n cap P o1 o2 o3 d1 d2 d3 fr X (hl hX) ho hd hf (by omega)
  have KN0h := fun X hX => plain_Any a n cap P o1 o2 o3 d1 d2 d3 fr X (hl hX) ho hd hf (by omega) 0 0 (by unfold I64; omega) (by unfold I64; omega)
  have KNh := fun X hX => plain_Any a n cap P o1 o2 o3 d1 d2 d3 fr X (hl hX) ho hd hf (by omega) m e hm he
  have KMh := fun X (o : Option Addr) (cp : Nat) (hX : Prims X (.slice o (n + 1) cp) (n + 1) Q) => plain_Closest o (n + 1) cp Q o1 o2 o3 d1 d2 d3 fr X hX ho hd hf (by omega)
  have KAh := fun X (o : Option Addr) (cp g : Nat) (hX : Prims X (.slice o (n + 1) cp) (n + 1) Q) (hg : Bk X g 3 #[.int .i64 n]) => plain_Among o (n + 1) cp Q o1 o2 o3 d1 d2 d3 fr X hX ho hd hf (by omega) (some ⟨g, 0, none⟩) 1 1 (fun _ => (n : Int)) (.inr ⟨g, 0, rfl, fun k hk => ⟨by rw [show k = 0 by omega]; exact hg.cell rfl, by show I64 (n : Int); unfold I64; omega⟩, hg.lt⟩) (by omega)
  have e0 : hAny P n (o1, o2, o3) (d1, d2, d3) fr 0 0 = (hFirst (hUp P n (o1, o2, o3) (d1, d2, d3) fr)).2 := any_all hUp_ok
  have e1 : hAny P n (o1, o2, o3) (d1, d2, d3) fr m e = ((hFirst (hUp P n (o1, o2, o3) (d1, d2, d3) fr)).2 && fless (hFirst (hUp P n (o1, o2, o3) (d1, d2, d3) fr)).1.2.1 (hFirst (hUp P n (o1, o2, o3) (d1, d2, d3) fr)).1.2.2 m e) := any_first hUp_ok (by omega)
  rw [hUQ] at okU unU iU
  simp only [hC0] at KCh
  simp only [e0] at KN0h
  simp only [e1] at KNh
  simp only [hC] at KMh
  simp only [hA] at KAh
  clear hC hA hC0 e0 e1 hUQ hidx htx
  generalize hUp P n (o1, o2, o3) (d1, d2, d3) fr = L at *
  generalize hitAt (Pr.mk a1 (a2, a3, a4) (a5, a6, a7) (a8, a9, a10) a11 a12) n (o1, o2, o3) (d1, d2, d3) fr = t at *
  have okL : ∀ x ∈ L, Hok x := fun x hx => okU x (by simp [hx])
  have okt : ∀ x ∈ t, Hok x := fun x hx => okU x (by simp [hx])
  have iF := hFirst_I64 okL (fun x hx => iU x (by simp [hx]))
  have iG := hFirst_I64 okt (fun x hx => iU x (by simp [hx]))
  have spec := hFirst_spec okL
  have facts := first_facts ht1 okU unU
  have hB : ∀ z ∈ L, hb z (hFirst L).1 = false := fun z hz => by
    rcases spec with ⟨h, _⟩ | ⟨_, _, _, h⟩
    · rw [h] at hz; cases hz
    · exact hBest_true.1 h z hz
  refine first_core a n cap P Q a1 a2 a3 a4 a5 a6 a7 a8 a9 a10 a11 a12 o1 o2 o3 d1 d2 d3 fr m e _ _ _ _ _ _ _ _ _ _ _ _ _ (hb (hFirst t).1 (hFirst L).1) L w (by omega) (by omega) (by omega) (Lib.hid KCh) (Lib.hid KLh)
    (Lib.hid (fun z hz X => by
      have h := plain_Better z.1 z.2.1 z.2.2 (hFirst L).1.1 (hFirst L).1.2.1 (hFirst L).1.2.2 X (iU z (by simp [hz])).2.1 (iU z (by simp [hz])).2.2 iF.2.1 iF.2.2
      rw [show hb (z.1, z.2.1, z.2.2) ((hFirst L).1.1, (hFirst L).1.2.1, (hFirst L).1.2.2) = false from hB z hz] at h
      exact h))
    (Lib.hid KN0h) (Lib.hid KNh) (Lib.hid (fun X => ref3_Less _ _ m e X iF.2.1 iF.2.2 hm he)) (Lib.hid KMh) (Lib.hid KAh)
    (Lib.hid (fun X => plain_Better _ _ _ _ _ _ X iG.2.1 iG.2.2 iF.2.1 iF.2.2)) (Lib.hid (fun X => awake14 X)) hs hQI hrow (fun z hz => okL z hz) ?_ ?_ ?_ (Lib.hid facts)
  · rcases spec with ⟨h, hf⟩ | ⟨_, h, hm, _⟩
    · rw [hf, h]; rfl
    · rw [h]
      exact List.any_eq_true.2 ⟨_, hm, decide_eq_true rfl⟩
  · rcases spec with ⟨h, hf⟩ | ⟨hne, h, _, _⟩
    · rw [hf, h]; rfl
    · rw [h]
      refine decide_eq_true ?_
      cases L with
      | nil => exact absurd rfl hne
      | cons x L => simp
  · intro z hz hne e
    rcases spec with ⟨h, _⟩ | ⟨_, _, hm, _⟩
    · rw [h] at hz; cases hz
    · exact hne (unU z (by simp [hz]) _ (by simp [hm]) e)

end Go.Proofs.Ytokkankfaofooaa
