/- The statements' comparison of rows. -/
import Derived.Test.YtlhamgcmkodjeaaDoorAwake18
import Derived.Test.YtlhamgcmkodjeaaDoorFloats
import Derived.Test.YtlhamgcmkodjeaaDoorRefv18
import Derived.Test.YtlhamgcmkodjeaaDoorRefn18
namespace Go.Proofs.YtlhamgcmkodjeaaDoor
open Go.RowKit Go.Shelf Go.Proofs.Sky
set_option linter.unusedVariables false
set_option linter.unusedSimpArgs false

/-- A row of rows, one by one. -/
theorem rows_cells {w : World} {v : Value} {rs : List Rw} (h : RowsAt18 w v rs) :
    ∃ (a : Option Addr) (c : Nat), v = .slice a rs.length c ∧ ∀ i (hi : i < rs.length), ∃ b off b2 off2 a2 c2, a = some ⟨b, off, none⟩ ∧ b < w.heap.size ∧ w.cell? ⟨b, off + i * 3, none⟩ = some (.int .i64 ((rs[i]).line : Int)) ∧ w.cell? ⟨b, off + i * 3 + 1, none⟩ = some (.int .i64 ((rs[i]).fin : Int)) ∧ w.cell? ⟨b, off + i * 3 + 2, none⟩ = some (.slice a2 (rs[i]).ws.length c2) ∧
      ∀ k (hk : k < (rs[i]).ws.length), a2 = some ⟨b2, off2, none⟩ ∧ b2 < w.heap.size ∧ w.cell? ⟨b2, off2 + k * 3, none⟩ = some (sval ((rs[i]).ws[k]).2) ∧ w.cell? ⟨b2, off2 + k * 3 + 1, none⟩ = some (.int .i64 ((rs[i]).line : Int)) ∧ w.cell? ⟨b2, off2 + k * 3 + 2, none⟩ = some (.int .i64 ((((rs[i]).ws[k]).1 : Int) + 1)) := by
  obtain ⟨L, rfl, h1, h2⟩ := h
  obtain ⟨a, c, rfl, _, hS⟩ := h1
  refine ⟨a, c, by simp, fun i hi => ?_⟩
  have hiL : i < L.length := by simpa using hi
  obtain ⟨b, off, rfl, hb, hc⟩ := hS.resolve_left (by omega)
  have c0 := hc i hiL 0 (by omega)
  have c1 := hc i hiL 1 (by omega)
  have c2 := hc i hiL 2 (by omega)
  obtain ⟨a2, k2, e2, _, hT⟩ := h2 L[i] (List.getElem_mem hiL)
  have er : (L.map (·.1))[i] = L[i].1 := by simp
  rw [er]
  refine ⟨b, off, (match a2 with | some x => x.block | none => 0), (match a2 with | some x => x.off | none => 0), a2, k2, rfl, hb, by simpa [rcells] using c0, by simpa [rcells] using c1, ?_, fun k hk => ?_⟩
  · have := c2; simp [rcells, e2] at this; simpa using this
  · obtain ⟨b2, off2, rfl, hb2, hc2⟩ := hT.resolve_left (by omega)
    have d0 := hc2 k hk 0 (by omega)
    have d1 := hc2 k hk 1 (by omega)
    have d2 := hc2 k hk 2 (by omega)
    exact ⟨rfl, hb2, by simpa [tcells] using d0, by simpa [tcells] using d1, by simpa [tcells] using d2⟩

set_option maxRecDepth 100000 in
set_option maxHeartbeats 16000000 in
theorem law18_same (va vb : Value) (rs : List Rw) (w : World) (ha : RowsAt18 w va rs) (hb : RowsAt18 w vb rs) (hn : rs.length ≤ 1000000) (hm : ∀ i (h : i < rs.length), (rs[i]).ws.length ≤ 1000000) :
    Calls Tryd.prog 11 #[va, vb] w fun e w' => e = .returned (.bool true) ∧ Below w.heap.size w w' := by
  obtain ⟨aa, ca, rfl, hA⟩ := rows_cells ha
  obtain ⟨ab, cb, rfl, hB⟩ := rows_cells hb
  have HA := Lib.hid hA
  have HB := Lib.hid hB
  have HM := Lib.hid hm
  obtain ⟨n, hnn⟩ : ∃ n, n = rs.length := ⟨_, rfl⟩
  have HN := Lib.hid hnn
  rw [← hnn] at hn ⊢
  clear ha hb hA hB hm hnn
  go_enter Tryd.func11, Tryd.ntmps11
  go_wp2
  go_loopw [5] (fun i wr => ∃ k : Nat, k ≤ n ∧ i = .int .i64 k ∧ Below w.heap.size w wr) (fun i _ => n - (intOf i).toNat)
  case atStart => exact ⟨0, by omega, rfl, Below.refl _ _⟩
  case round =>
    obtain ⟨k, hk, rfl, BO⟩ := hrel
    by_cases hlt : k < n
    · have hkl : k < rs.length := by have := HN.out; omega
      obtain ⟨b1, o1, b2, o2, a2, c2, rfl, ib1, x0, x1, x2, X⟩ := HA.out k hkl
      obtain ⟨b3, o3, b4, o4, a4, c4, rfl, ib3, y0, y1, y2, Y⟩ := HB.out k hkl
      have hmk := HM.out k hkl
      have HX := Lib.hid X
      have HY := Lib.hid Y
      clear X Y
      obtain ⟨m, hmm⟩ : ∃ m, m = (rs[k]).ws.length := ⟨_, rfl⟩
      have HMM := Lib.hid hmm
      rw [← hmm] at x2 y2 hmk
      clear hmm
      generalize (rs[k]).fin = fi at *
      obtain ⟨li, hli⟩ : ∃ li, li = (rs[k]).line := ⟨_, rfl⟩
      have HLI := Lib.hid hli
      rw [← hli] at x0 y0
      clear hli
      have c_x0 : ∀ p : BW wr, p.w.cell? ⟨b1, o1 + k * 3, none⟩ = some (.int .i64 (li : Int)) := bw_cell ((BO.cell (p := ⟨b1, o1 + k * 3, none⟩) ib1).trans x0)
      have c_x1 : ∀ p : BW wr, p.w.cell? ⟨b1, o1 + k * 3 + 1, none⟩ = some (.int .i64 (fi : Int)) := bw_cell ((BO.cell (p := ⟨b1, o1 + k * 3 + 1, none⟩) ib1).trans x1)
      have c_x2 : ∀ p : BW wr, p.w.cell? ⟨b1, o1 + k * 3 + 2, none⟩ = some (.slice a2 m c2) := bw_cell ((BO.cell (p := ⟨b1, o1 + k * 3 + 2, none⟩) ib1).trans x2)
      have c_y0 : ∀ p : BW wr, p.w.cell? ⟨b3, o3 + k * 3, none⟩ = some (.int .i64 (li : Int)) := bw_cell ((BO.cell (p := ⟨b3, o3 + k * 3, none⟩) ib3).trans y0)
      have c_y1 : ∀ p : BW wr, p.w.cell? ⟨b3, o3 + k * 3 + 1, none⟩ = some (.int .i64 (fi : Int)) := bw_cell ((BO.cell (p := ⟨b3, o3 + k * 3 + 1, none⟩) ib3).trans y1)
      have c_y2 : ∀ p : BW wr, p.w.cell? ⟨b3, o3 + k * 3 + 2, none⟩ = some (.slice a4 m c4) := bw_cell ((BO.cell (p := ⟨b3, o3 + k * 3 + 2, none⟩) ib3).trans y2)
      obtain ⟨p1, hp1⟩ : ∃ p : BW wr, p.w = wr := ⟨BW.start wr, rfl⟩
      rw [← hp1]
      clear hp1
      go_upto_region 6 with (fail)
      refine wp_region_bw (by kernel_rfl) (by kernel_rfl) ?_
      repeat (go_big_quiet_step (first | fail))
      refine wpQuiet_nil ?_
      intro _ hw'
      obtain ⟨q, rfl⟩ := hw'
      go_wp2
      rename World => wq
      go_loopw [6] (fun jv wr => ∃ (j : Nat) (r : BW wq), j ≤ m ∧ jv = .int .i64 j ∧ wr = r.w) (fun jv _ => m - (intOf jv).toNat)
      case atStart => exact ⟨0, q, by omega, rfl, rfl⟩
      case round =>
        obtain ⟨j, r, hj, rfl, rfl⟩ := hrel
        by_cases hjm : j < m
        · have hjw : j < (rs[k]).ws.length := by have := HMM.out; omega
          obtain ⟨rfl, ib2, u0, u1, u2⟩ := HX.out j hjw
          obtain ⟨rfl, ib4, v0, v1, v2⟩ := HY.out j hjw
          rw [← HLI.out] at u1 v1
          unfold sval at u0 v0
          have hself : ((ByteArray.mk ((rs[k]).ws[j]).2.toArray).toList == (ByteArray.mk ((rs[k]).ws[j]).2.toArray).toList) = true := by simp
          generalize (⟨((rs[k]).ws[j]).2.toArray⟩ : ByteArray) = tx at *
          generalize ((rs[k]).ws[j]).1 = pl at *
          have d_u0 : ∀ p : BW wq, p.w.cell? ⟨b2, o2 + j * 3, none⟩ = some (.string tx) := bw_cell ((BO.cell (p := ⟨b2, o2 + j * 3, none⟩) ib2).trans u0)
          have d_u1 : ∀ p : BW wq, p.w.cell? ⟨b2, o2 + j * 3 + 1, none⟩ = some (.int .i64 (li : Int)) := bw_cell ((BO.cell (p := ⟨b2, o2 + j * 3 + 1, none⟩) ib2).trans u1)
          have d_u2 : ∀ p : BW wq, p.w.cell? ⟨b2, o2 + j * 3 + 2, none⟩ = some (.int .i64 ((pl : Int) + 1)) := bw_cell ((BO.cell (p := ⟨b2, o2 + j * 3 + 2, none⟩) ib2).trans u2)
          have d_v0 : ∀ p : BW wq, p.w.cell? ⟨b4, o4 + j * 3, none⟩ = some (.string tx) := bw_cell ((BO.cell (p := ⟨b4, o4 + j * 3, none⟩) ib4).trans v0)
          have d_v1 : ∀ p : BW wq, p.w.cell? ⟨b4, o4 + j * 3 + 1, none⟩ = some (.int .i64 (li : Int)) := bw_cell ((BO.cell (p := ⟨b4, o4 + j * 3 + 1, none⟩) ib4).trans v1)
          have d_v2 : ∀ p : BW wq, p.w.cell? ⟨b4, o4 + j * 3 + 2, none⟩ = some (.int .i64 ((pl : Int) + 1)) := bw_cell ((BO.cell (p := ⟨b4, o4 + j * 3 + 2, none⟩) ib4).trans v2)
          go_upto_region 11 with (fail)
          refine wp_region_floatS 104 [⟨⟨16, 7, 45, #[.string ⟨#[]⟩, .int .i64 0, .int .i64 0]⟩, 18, 76, .agg #[.string tx, .int .i64 (li : Int), .int .i64 ((pl : Int) + 1)], #[.string tx, .int .i64 (li : Int), .int .i64 ((pl : Int) + 1)]⟩, ⟨⟨17, 8, 57, #[.string ⟨#[]⟩, .int .i64 0, .int .i64 0]⟩, 19, 84, .agg #[.string tx, .int .i64 (li : Int), .int .i64 ((pl : Int) + 1)], #[.string tx, .int .i64 (li : Int), .int .i64 ((pl : Int) + 1)]⟩] (by kernel_rfl) (by kernel_rfl) (by kernel_rfl) (by kernel_rfl) (by kernel_rfl) (by simp [msk]) (by simp [fvs]) (by kernel_rfl) (by kernel_rfl) ?_ ?_
          · refine ⟨⟨⟨_, rfl, fun ev wx => by simp [execOp, go_sem]⟩, ⟨_, rfl, fun ax wx gx h1 h2 h3 => ?_⟩⟩, ⟨⟨_, rfl, fun ev wx => by simp [execOp, go_sem]⟩, ⟨_, rfl, fun ax wx gx h1 h2 h3 => ?_⟩⟩, trivial⟩
            · exact store_whole rfl h1 h2 h3 (by kernel_rfl) rfl (by simp [Value.oneCell'])
            · exact store_whole rfl h1 h2 h3 (by kernel_rfl) rfl (by simp [Value.oneCell'])
          apply Exists.intro
          refine ⟨?_, ?_, ?_⟩
          · intro wb' hwb'
            have f_c_x2 : ∀ p : BW wb', p.w.cell? ⟨b1, o1 + k * 3 + 2, none⟩ = some (.slice (some ⟨b2, o2, none⟩) m c2) := fun p => c_x2 ⟨p.w, hwb'.trans (p.h.mono hwb'.size)⟩
            have f_c_y2 : ∀ p : BW wb', p.w.cell? ⟨b3, o3 + k * 3 + 2, none⟩ = some (.slice (some ⟨b4, o4, none⟩) m c4) := fun p => c_y2 ⟨p.w, hwb'.trans (p.h.mono hwb'.size)⟩
            have f_d_u0 : ∀ p : BW wb', p.w.cell? ⟨b2, o2 + j * 3, none⟩ = some (.string tx) := fun p => d_u0 ⟨p.w, hwb'.trans (p.h.mono hwb'.size)⟩
            have f_d_u1 : ∀ p : BW wb', p.w.cell? ⟨b2, o2 + j * 3 + 1, none⟩ = some (.int .i64 (li : Int)) := fun p => d_u1 ⟨p.w, hwb'.trans (p.h.mono hwb'.size)⟩
            have f_d_u2 : ∀ p : BW wb', p.w.cell? ⟨b2, o2 + j * 3 + 2, none⟩ = some (.int .i64 ((pl : Int) + 1)) := fun p => d_u2 ⟨p.w, hwb'.trans (p.h.mono hwb'.size)⟩
            have f_d_v0 : ∀ p : BW wb', p.w.cell? ⟨b4, o4 + j * 3, none⟩ = some (.string tx) := fun p => d_v0 ⟨p.w, hwb'.trans (p.h.mono hwb'.size)⟩
            have f_d_v1 : ∀ p : BW wb', p.w.cell? ⟨b4, o4 + j * 3 + 1, none⟩ = some (.int .i64 (li : Int)) := fun p => d_v1 ⟨p.w, hwb'.trans (p.h.mono hwb'.size)⟩
            have f_d_v2 : ∀ p : BW wb', p.w.cell? ⟨b4, o4 + j * 3 + 2, none⟩ = some (.int .i64 ((pl : Int) + 1)) := fun p => d_v2 ⟨p.w, hwb'.trans (p.h.mono hwb'.size)⟩
            simp only [msk, List.map_cons, List.map_nil, List.cons_append, List.nil_append, maskL, List.foldr_cons, List.foldr_nil, List.length_cons, List.length_nil, Nat.zero_add, Nat.reduceAdd, maskAt, List.take_succ_cons, List.take_zero]
            repeat (go_big_quiet_step (first
              | fail))
            refine wpQuiet_nil ?_
            exact rfl
          · intro v hv
            simp only [List.mem_cons, List.not_mem_nil, or_false] at hv
            rcases hv with rfl | rfl <;> rfl
          intro W5 st hW hst hne
          obtain ⟨g_x, e_x, hg_x, k_x⟩ := hst 0 _ rfl
          obtain ⟨g_y, e_y, hg_y, k_y⟩ := hst 1 _ rfl
          simp only [fvs, List.map_cons, List.map_nil, putAll, Nat.zero_add, Nat.reduceAdd, e_x, e_y, putO, Act.put, List.setIfInBounds_toArray, List.set_cons_zero, List.set_cons_succ]
          clear c_x0 c_x1 c_x2 c_y0 c_y1 c_y2 d_u0 d_u1 d_u2 d_v0 d_v1 d_v2 u0 u1 u2 v0 v1 v2 x0 x1 x2 y0 y1 y2 hst hne e_x e_y
          obtain ⟨gx0, gx1, gx2⟩ := rwc3 k_x
          obtain ⟨gy0, gy1, gy2⟩ := rwc3 k_y
          go_upto_region 12 with (fail)
          go_wp2
          go_roundw
          case rel => exact ⟨j + 1, ⟨W5, hW⟩, by omega, by go_num, rfl⟩
          case measure => simp [intOf]; omega
        · obtain rfl : j = m := by omega
          go_wp2
          go_roundw
          case rel => exact ⟨k + 1, by omega, by go_num, BO.trans (r.h.mono BO.size)⟩
          case measure => simp [intOf]; omega
    · obtain rfl : k = n := by omega
      go_wp2
      go_ret
      exact ⟨rfl, BO⟩

end Go.Proofs.YtlhamgcmkodjeaaDoor
