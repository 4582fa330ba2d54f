/- The statements' own same, layer 16: two trees of equal contents. -/
import Derived.Test.YtomlcglnkdfemaaGreatTb41
import Derived.Test.YtomlcglnkdfemaaGreatTb40


namespace Go.Proofs.YtomlcglnkdfemaaGreat
section

open Go.RowKit Go.Proofs.Sky

set_option linter.unusedVariables false

set_option linter.unusedSimpArgs false

set_option maxRecDepth 100000 in
set_option maxHeartbeats 8000000 in
theorem law16_same (u v a b : Option Addr) (n m cu cv ca cb : Nat) (ns : List Nd) (ord : List Int) (w : World) (hnn : n = ns.length) (hN : Nodes w (.slice u n cu) ns) (hM : Nodes w (.slice v n cv) ns) (ho : IntSlice w a m (fun i => ord.getD i 0)) (hp : IntSlice w b m (fun i => ord.getD i 0)) (hn : n ≤ 1048576) (hm : m ≤ 1048576) :
    Calls Tryz.prog 5 #[.agg #[.slice u n cu, .slice a m ca], .agg #[.slice v n cv, .slice b m cb]] w fun en w' => en = .returned (.bool true) ∧ Below w.heap.size w w' := by
  have HN := Lib.hid hN
  have HM := Lib.hid hM
  have HO := Lib.hid ho
  have HP := Lib.hid hp
  have HNN := Lib.hid hnn
  clear hN hM ho hp hnn
  go_enter Tryz.func5, Tryz.ntmps5
  go_upto_region 1 with (fail)
  obtain ⟨W1, hW1⟩ : ∃ W, W = (w.alloc (.cells #[.slice u n cu, .slice a m ca] 28)).alloc (.cells #[.slice v n cv, .slice b m cb] 28) := ⟨_, rfl⟩
  obtain ⟨k_x, k_y, B1⟩ := st2 hW1
  rw [← hW1]
  clear hW1
  have l_y : w.heap.size < w.heap.size + 1 := by omega
  generalize w.heap.size + 1 = g_y at *
  obtain ⟨c_x_0, c_x_1⟩ := bwc2 (k_x)
  obtain ⟨c_y_0, c_y_1⟩ := bwc2 (k_y)
  obtain ⟨p1, hp1⟩ : ∃ p : BW W1, p.w = W1 := ⟨BW.start W1, rfl⟩
  rw [← hp1]
  clear hp1
  go_wp2
  go_loopw [5] (fun i wr => ∃ k : Nat, k ≤ n ∧ i = .int .i64 k ∧ Bk wr w.heap.size 28 #[.slice u n cu, .slice a m ca] ∧ Bk wr g_y 28 #[.slice v n cv, .slice b m cb] ∧ Below w.heap.size w wr) (fun i _ => n - (intOf i).toNat)
  case atStart => exact ⟨0, by omega, rfl, k_x.below p1.h, k_y.below p1.h, bw_below B1 p1⟩
  case round =>
    clear k_x k_y
    obtain ⟨k, hk, rfl, k_x, k_y, BO⟩ := hrel
    have B1 := BO
    by_cases hlt : k < n
    · have hkl : k < ns.length := by rw [← HNN.out]; exact hlt
      obtain ⟨bb, off, eu, hbb, x0, x1, x2, x3, x4, x5, x6, x7, x8⟩ := nodes_at HN.out hkl
      obtain ⟨bc, ofc, ev, hbc, y0, y1, y2, y3, y4, y5, y6, y7, y8⟩ := nodes_at HM.out hkl
      subst eu ev
      generalize ns[k] = nd at *
      obtain ⟨⟨⟨n1, n2, n3⟩, n4, n5, n6⟩, fi, cn, ri⟩ := nd
      dsimp only at x0 x1 x2 x3 x4 x5 x6 x7 x8 y0 y1 y2 y3 y4 y5 y6 y7 y8
      obtain ⟨c_x_0, c_x_1⟩ := bwc2 (k_x)
      obtain ⟨c_y_0, c_y_1⟩ := bwc2 (k_y)
      have c_x0 : ∀ p : BW wr, p.w.cell? ⟨bb, off + k * 9, none⟩ = some (.int .i64 n1) := bw_cell ((B1.cell (p := ⟨bb, off + k * 9, none⟩) hbb).trans x0)
      have c_x1 : ∀ p : BW wr, p.w.cell? ⟨bb, off + k * 9 + 1, none⟩ = some (.int .i64 n2) := bw_cell ((B1.cell (p := ⟨bb, off + k * 9 + 1, none⟩) hbb).trans x1)
      have c_x2 : ∀ p : BW wr, p.w.cell? ⟨bb, off + k * 9 + 2, none⟩ = some (.int .i64 n3) := bw_cell ((B1.cell (p := ⟨bb, off + k * 9 + 2, none⟩) hbb).trans x2)
      have c_x3 : ∀ p : BW wr, p.w.cell? ⟨bb, off + k * 9 + 3, none⟩ = some (.int .i64 n4) := bw_cell ((B1.cell (p := ⟨bb, off + k * 9 + 3, none⟩) hbb).trans x3)
      have c_x4 : ∀ p : BW wr, p.w.cell? ⟨bb, off + k * 9 + 4, none⟩ = some (.int .i64 n5) := bw_cell ((B1.cell (p := ⟨bb, off + k * 9 + 4, none⟩) hbb).trans x4)
      have c_x5 : ∀ p : BW wr, p.w.cell? ⟨bb, off + k * 9 + 5, none⟩ = some (.int .i64 n6) := bw_cell ((B1.cell (p := ⟨bb, off + k * 9 + 5, none⟩) hbb).trans x5)
      have c_x6 : ∀ p : BW wr, p.w.cell? ⟨bb, off + k * 9 + 6, none⟩ = some (.int .i64 fi) := bw_cell ((B1.cell (p := ⟨bb, off + k * 9 + 6, none⟩) hbb).trans x6)
      have c_x7 : ∀ p : BW wr, p.w.cell? ⟨bb, off + k * 9 + 7, none⟩ = some (.int .i64 cn) := bw_cell ((B1.cell (p := ⟨bb, off + k * 9 + 7, none⟩) hbb).trans x7)
      have c_x8 : ∀ p : BW wr, p.w.cell? ⟨bb, off + k * 9 + 8, none⟩ = some (.int .i64 ri) := bw_cell ((B1.cell (p := ⟨bb, off + k * 9 + 8, none⟩) hbb).trans x8)
      have c_y0 : ∀ p : BW wr, p.w.cell? ⟨bc, ofc + k * 9, none⟩ = some (.int .i64 n1) := bw_cell ((B1.cell (p := ⟨bc, ofc + k * 9, none⟩) hbc).trans y0)
      have c_y1 : ∀ p : BW wr, p.w.cell? ⟨bc, ofc + k * 9 + 1, none⟩ = some (.int .i64 n2) := bw_cell ((B1.cell (p := ⟨bc, ofc + k * 9 + 1, none⟩) hbc).trans y1)
      have c_y2 : ∀ p : BW wr, p.w.cell? ⟨bc, ofc + k * 9 + 2, none⟩ = some (.int .i64 n3) := bw_cell ((B1.cell (p := ⟨bc, ofc + k * 9 + 2, none⟩) hbc).trans y2)
      have c_y3 : ∀ p : BW wr, p.w.cell? ⟨bc, ofc + k * 9 + 3, none⟩ = some (.int .i64 n4) := bw_cell ((B1.cell (p := ⟨bc, ofc + k * 9 + 3, none⟩) hbc).trans y3)
      have c_y4 : ∀ p : BW wr, p.w.cell? ⟨bc, ofc + k * 9 + 4, none⟩ = some (.int .i64 n5) := bw_cell ((B1.cell (p := ⟨bc, ofc + k * 9 + 4, none⟩) hbc).trans y4)
      have c_y5 : ∀ p : BW wr, p.w.cell? ⟨bc, ofc + k * 9 + 5, none⟩ = some (.int .i64 n6) := bw_cell ((B1.cell (p := ⟨bc, ofc + k * 9 + 5, none⟩) hbc).trans y5)
      have c_y6 : ∀ p : BW wr, p.w.cell? ⟨bc, ofc + k * 9 + 6, none⟩ = some (.int .i64 fi) := bw_cell ((B1.cell (p := ⟨bc, ofc + k * 9 + 6, none⟩) hbc).trans y6)
      have c_y7 : ∀ p : BW wr, p.w.cell? ⟨bc, ofc + k * 9 + 7, none⟩ = some (.int .i64 cn) := bw_cell ((B1.cell (p := ⟨bc, ofc + k * 9 + 7, none⟩) hbc).trans y7)
      have c_y8 : ∀ p : BW wr, p.w.cell? ⟨bc, ofc + k * 9 + 8, none⟩ = some (.int .i64 ri) := bw_cell ((B1.cell (p := ⟨bc, ofc + k * 9 + 8, none⟩) hbc).trans y8)
      obtain ⟨p1, hp1⟩ : ∃ p : BW wr, p.w = wr := ⟨BW.start wr, rfl⟩
      rw [← hp1]
      clear hp1
      go_upto_region 6 with (fail)
      refine wp_region_bw (by kernel_rfl) (by kernel_rfl) ?_
      repeat (go_big_quiet_step (fail))
      refine wpQuiet_nil ?_
      intro _ hw'
      obtain ⟨q, rfl⟩ := hw'
      go_wp2
      go_roundw
      case rel => exact ⟨k + 1, by omega, by go_num, k_x.below q.h, k_y.below q.h, bw_below B1 q⟩
      case measure => simp [intOf]; omega
    · obtain rfl : k = n := by omega
      obtain ⟨c_x_0, c_x_1⟩ := bwc2 (k_x)
      obtain ⟨c_y_0, c_y_1⟩ := bwc2 (k_y)
      obtain ⟨p1, hp1⟩ : ∃ p : BW wr, p.w = wr := ⟨BW.start wr, rfl⟩
      rw [← hp1]
      clear hp1
      go_wp2
      go_loopw [6] (fun i wr => ∃ j : Nat, j ≤ m ∧ i = .int .i64 j ∧ Bk wr w.heap.size 28 #[.slice u k cu, .slice a m ca] ∧ Bk wr g_y 28 #[.slice v k cv, .slice b m cb] ∧ Below w.heap.size w wr) (fun i _ => m - (intOf i).toNat)
      case atStart => exact ⟨0, by omega, rfl, k_x.below p1.h, k_y.below p1.h, bw_below B1 p1⟩
      case round =>
        clear k_x k_y
        obtain ⟨j, hj, rfl, k_x, k_y, BO2⟩ := hrel
        have B1 := BO2
        by_cases hlt : j < m
        · obtain ⟨ba, oa, ea, ha, hba⟩ : ∃ ba oa, a = some ⟨ba, oa, none⟩ ∧ (∀ i, i < m → w.cell? ⟨ba, oa + i, none⟩ = some (.int .i64 (ord.getD i 0))) ∧ ba < w.heap.size := by
            rcases HO.out with h0 | ⟨g, f, e, hc, hb⟩
            · omega
            · exact ⟨g, f, e, fun i hi => (hc i hi).1, hb⟩
          obtain ⟨bd, od, eb, hd, hbd⟩ : ∃ ba oa, b = some ⟨ba, oa, none⟩ ∧ (∀ i, i < m → w.cell? ⟨ba, oa + i, none⟩ = some (.int .i64 (ord.getD i 0))) ∧ ba < w.heap.size := by
            rcases HP.out with h0 | ⟨g, f, e, hc, hb⟩
            · omega
            · exact ⟨g, f, e, fun i hi => (hc i hi).1, hb⟩
          subst ea eb
          have z0 := ha j hlt
          have z1 := hd j hlt
          generalize ord.getD j 0 = zz at z0 z1
          clear ha hd
          obtain ⟨c_x_0, c_x_1⟩ := bwc2 (k_x)
          obtain ⟨c_y_0, c_y_1⟩ := bwc2 (k_y)
          have c_z0 : ∀ p : BW wr, p.w.cell? ⟨ba, oa + j, none⟩ = some (.int .i64 zz) := bw_cell ((B1.cell (p := ⟨ba, oa + j, none⟩) hba).trans z0)
          have c_z1 : ∀ p : BW wr, p.w.cell? ⟨bd, od + j, none⟩ = some (.int .i64 zz) := bw_cell ((B1.cell (p := ⟨bd, od + j, none⟩) hbd).trans z1)
          obtain ⟨p1, hp1⟩ : ∃ p : BW wr, p.w = wr := ⟨BW.start wr, rfl⟩
          rw [← hp1]
          clear hp1
          go_upto_region 11 with (fail)
          refine wp_region_bw (by kernel_rfl) (by kernel_rfl) ?_
          repeat (go_big_quiet_step (fail))
          refine wpQuiet_nil ?_
          intro _ hw'
          obtain ⟨q, rfl⟩ := hw'
          go_wp2
          go_roundw
          case rel => exact ⟨j + 1, by omega, by go_num, k_x.below q.h, k_y.below q.h, bw_below B1 q⟩
          case measure => simp [intOf]; omega
        · obtain rfl : j = m := by omega
          obtain ⟨c_x_0, c_x_1⟩ := bwc2 (k_x)
          obtain ⟨c_y_0, c_y_1⟩ := bwc2 (k_y)
          obtain ⟨p1, hp1⟩ : ∃ p : BW wr, p.w = wr := ⟨BW.start wr, rfl⟩
          rw [← hp1]
          clear hp1
          go_wp2
          go_ret
          exact ⟨rfl, bw_below B1 _⟩

end
end Go.Proofs.YtomlcglnkdfemaaGreat
