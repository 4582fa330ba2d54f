/- The statements' own of and same, layer 16. -/
import Derived.Test.YtomlcglnkdfemaaGreatTb21
import Derived.Test.YtomlcglnkdfemaaGreatTb33
import Derived.Test.YtomlcglnkdfemaaGreatTb27


namespace Go.Proofs.YtomlcglnkdfemaaGreat
section

open Go.RowKit Go.Proofs.Sky

set_option linter.unusedVariables false

set_option linter.unusedSimpArgs false

/-- A row of ints that a call made. -/
def OrdRow (w : World) (B : Nat) (v : Value) (ord : List Int) : Prop := w.ownsRow B 3 1 v ord.length (ord.map (Value.int .i64))

theorem ints_ord {w : World} {B : Nat} {v : Value} {l : List Nat} (h : Ints w B v l) : OrdRow w B v (l.map (fun k : Nat => (k : Int))) := by
  unfold OrdRow
  rw [List.length_map, List.map_map]
  exact h

theorem OrdRow.below {w w' : World} {B : Nat} {v : Value} {ord : List Int} (h : OrdRow w B v ord) (hb : Below w.heap.size w w') : OrdRow w' B v ord := owns_below h hb

theorem ordrow_slice {w : World} {B : Nat} {v : Value} {ord : List Int} (h : OrdRow w B v ord) (hi : ∀ x ∈ ord, I64 x) : ∃ a cap, v = .slice a ord.length cap ∧ ord.length ≤ cap ∧ IntSlice w a ord.length (fun i => ord.getD i 0) := by
  obtain ⟨hl, h⟩ := h
  rcases h with ⟨rfl, hz⟩ | ⟨g, cap, cur, rfl, hB, hg, hn, hms, hs, hx⟩
  · exact ⟨none, 0, by rw [hz], by omega, .inl hz⟩
  · refine ⟨_, cap, rfl, hn, .inr ⟨g, 0, rfl, fun k hlt => ?_, (Array.getElem?_eq_some_iff.1 hg).1⟩⟩
    have e : ord.getD k 0 = ord[k] := getD_at hlt
    have e1 : (ord.map (Value.int .i64))[k]? = some (.int .i64 ord[k]) := by rw [List.getElem?_map, List.getElem?_eq_getElem hlt]; rfl
    refine ⟨?_, by dsimp only; rw [e]; exact hi _ (List.getElem_mem _)⟩
    rw [← hx, List.getElem?_take, if_pos (by omega)] at e1
    show w.cell? ⟨g, 0 + k, none⟩ = some (.int .i64 (ord.getD k 0))
    rw [Nat.zero_add, e]
    simp only [World.cell?, hg]
    simpa using e1

theorem intslice_row {w : World} {a : Option Addr} {ord : List Int} (h : IntSlice w a ord.length (fun i => ord.getD i 0)) : ord.length = 0 ∨ ∃ ad, a = some ad ∧ ∀ j u, (ord.map (Value.int .i64))[j]? = some u → w.cell? (ad.add j) = some u := by
  rcases h with h | ⟨b, off, rfl, hc, hb⟩
  · exact .inl h
  · refine .inr ⟨_, rfl, fun j u hj => ?_⟩
    rw [List.getElem?_map] at hj
    have hlt : j < ord.length := by
      rcases Nat.lt_or_ge j ord.length with q | q
      · exact q
      · rw [List.getElem?_eq_none q] at hj; cases hj
    rw [List.getElem?_eq_getElem hlt] at hj
    cases hj
    have h1 := (hc j hlt).1
    dsimp only at h1
    rw [getD_at hlt] at h1
    by_cases h0 : j = 0
    · subst h0; exact h1
    · simpa [Addr.add, h0] using h1

set_option maxRecDepth 100000 in
set_option maxHeartbeats 8000000 in
theorem law16_of (tv : Value) (ns : List Nd) (a : Option Addr) (ord : List Int) (ca : Nat) (w : World) (hN : Nodes w tv ns) (ho : IntSlice w a ord.length (fun i => ord.getD i 0)) (hn : ns.length ≤ 1048576) (hm : ord.length ≤ 1048576) :
    Calls Tryz.prog 7 #[.agg #[tv, .slice a ord.length ca]] w fun e w' => ∃ u v, e = .returned (.agg #[u, v]) ∧ NodRow w' w.heap.size u ns ∧ OrdRow w' w.heap.size v ord ∧ Below w.heap.size w w' := by
  obtain ⟨av, ct, rfl⟩ := nodes_val hN
  have HN := Lib.hid hN
  have HO := Lib.hid ho
  clear hN ho
  obtain ⟨i0, hi0, hz0, hz1, hz2⟩ := info_parts node_info
  obtain ⟨i1, hi1, hy0, hy1, hy2⟩ := info_parts int_info15
  obtain ⟨n, hnn⟩ : ∃ n, n = ns.length := ⟨_, rfl⟩
  obtain ⟨m, hmm⟩ : ∃ m, m = ord.length := ⟨_, rfl⟩
  rw [← hnn] at hn ⊢
  rw [← hmm] at hm ⊢
  have HNN := Lib.hid hnn
  have HMM := Lib.hid hmm
  clear hnn hmm
  go_enter Tryz.func7, Tryz.ntmps7
  go_upto_region 1 with (fail)
  obtain ⟨W1, hW1⟩ : ∃ W, W = (w.alloc (.cells #[.slice av n ct, .slice a m ca] 33)).alloc (.cells #[.slice none 0 0, .slice none 0 0] 28) := ⟨_, rfl⟩
  obtain ⟨k_t, k_r, B1⟩ := st2 hW1
  rw [← hW1]
  clear hW1
  have l_r : w.heap.size < w.heap.size + 1 := by omega
  generalize w.heap.size + 1 = g_r at *
  obtain ⟨c_t_0, c_t_1⟩ := bwc2 (k_t)
  obtain ⟨c_r_0, c_r_1⟩ := bwc2 (k_r)
  obtain ⟨p1, hp1⟩ : ∃ p : BW W1, p.w = W1 := ⟨BW.start W1, rfl⟩
  rw [← hp1]
  clear hp1
  go_upto_region 2 with (fail)
  obtain ⟨W2, hW2⟩ : ∃ W, W = p1.w.alloc (.cells #[.slice none 0 0, .slice none 0 0] 28) := ⟨_, rfl⟩
  have B2 : Below w.heap.size w W2 := by rw [hW2]; exact (bw_below B1 p1).alloc (bw_below B1 p1).size _
  have l_o : g_r < p1.w.heap.size := (k_r.below p1.h).lt
  have o_o : w.heap.size ≤ p1.w.heap.size := (bw_below B1 p1).size
  have l_o_t : w.heap.size < p1.w.heap.size := (k_t.below p1.h).lt
  have k_t := bka hW2 (k_t.below p1.h)
  have k_r := bka hW2 (k_r.below p1.h)
  have k_o := bkn hW2
  rw [← hW2]
  clear hW2
  clear B1
  clear c_t_0 c_t_1 c_r_0 c_r_1
  generalize p1.w.heap.size = g_o at *
  obtain ⟨c_t_0, c_t_1⟩ := bwc2 (k_t)
  obtain ⟨c_r_0, c_r_1⟩ := bwc2 (k_r)
  obtain ⟨c_o_0, c_o_1⟩ := bwc2 (k_o)
  obtain ⟨p2, hp2⟩ : ∃ p : BW W2, p.w = W2 := ⟨BW.start W2, rfl⟩
  rw [← hp2]
  clear hp2
  go_wp2
  go_loopw [4] (fun i wr => ∃ (k : Nat) (un : Value), k ≤ n ∧ i = .int .i64 k ∧ NodRow wr w.heap.size un (ns.take k) ∧ Bk wr w.heap.size 33 #[.slice av n ct, .slice a m ca] ∧ Bk wr g_r 28 #[.slice none 0 0, .slice none 0 0] ∧ Bk wr g_o 28 #[un, .slice none 0 0] ∧ Below w.heap.size w wr) (fun i _ => n - (intOf i).toNat)
  case atStart => exact ⟨0, _, by omega, rfl, World.ownsRow_nil _ _ _ _, k_t.below p2.h, k_r.below p2.h, k_o.below p2.h, bw_below B2 p2⟩
  case round =>
    clear k_t k_r k_o
    obtain ⟨k, un, hk, rfl, hu, k_t, k_r, k_o, BO⟩ := hrel
    have B1 := BO
    obtain ⟨au, cu, hua⟩ := owns_val hu
    by_cases hlt : k < n
    · have hkl : k < ns.length := by rw [← HNN.out]; exact hlt
      have hl : (ns.take k).length = k := by rw [List.length_take]; omega
      rw [hl] at hua
      subst hua
      have hT : ns.take (k + 1) = ns.take k ++ [ns[k]] := by rw [List.take_add_one, List.getElem?_eq_getElem hkl]; rfl
      obtain ⟨bb, off, hav, hbb, x0, x1, x2, x3, x4, x5, x6, x7, x8⟩ := nodes_at (a := av) (n := n) (cap := ct) (ns := ns) (by rw [HNN.out]; exact HN.out) hkl
      subst hav
      generalize ns[k] = nd at *
      have HT := Lib.hid hT
      clear hT hkl
      obtain ⟨⟨⟨n1, n2, n3⟩, n4, n5, n6⟩, fi, cn, ri⟩ := nd
      dsimp only at x0 x1 x2 x3 x4 x5 x6 x7 x8
      generalize ns.take k = L at *
      obtain ⟨c_t_0, c_t_1⟩ := bwc2 (k_t)
      obtain ⟨c_r_0, c_r_1⟩ := bwc2 (k_r)
      obtain ⟨c_o_0, c_o_1⟩ := bwc2 (k_o)
      have c_x0 : ∀ p : BW wr, p.w.cell? ⟨bb, off + k * 9, none⟩ = some (.int .i64 n1) := bw_cell ((B1.cell (p := ⟨bb, off + k * 9, none⟩) hbb).trans x0)
      have c_x1 : ∀ p : BW wr, p.w.cell? ⟨bb, off + k * 9 + 1, none⟩ = some (.int .i64 n2) := bw_cell ((B1.cell (p := ⟨bb, off + k * 9 + 1, none⟩) hbb).trans x1)
      have c_x2 : ∀ p : BW wr, p.w.cell? ⟨bb, off + k * 9 + 2, none⟩ = some (.int .i64 n3) := bw_cell ((B1.cell (p := ⟨bb, off + k * 9 + 2, none⟩) hbb).trans x2)
      have c_x3 : ∀ p : BW wr, p.w.cell? ⟨bb, off + k * 9 + 3, none⟩ = some (.int .i64 n4) := bw_cell ((B1.cell (p := ⟨bb, off + k * 9 + 3, none⟩) hbb).trans x3)
      have c_x4 : ∀ p : BW wr, p.w.cell? ⟨bb, off + k * 9 + 4, none⟩ = some (.int .i64 n5) := bw_cell ((B1.cell (p := ⟨bb, off + k * 9 + 4, none⟩) hbb).trans x4)
      have c_x5 : ∀ p : BW wr, p.w.cell? ⟨bb, off + k * 9 + 5, none⟩ = some (.int .i64 n6) := bw_cell ((B1.cell (p := ⟨bb, off + k * 9 + 5, none⟩) hbb).trans x5)
      have c_x6 : ∀ p : BW wr, p.w.cell? ⟨bb, off + k * 9 + 6, none⟩ = some (.int .i64 fi) := bw_cell ((B1.cell (p := ⟨bb, off + k * 9 + 6, none⟩) hbb).trans x6)
      have c_x7 : ∀ p : BW wr, p.w.cell? ⟨bb, off + k * 9 + 7, none⟩ = some (.int .i64 cn) := bw_cell ((B1.cell (p := ⟨bb, off + k * 9 + 7, none⟩) hbb).trans x7)
      have c_x8 : ∀ p : BW wr, p.w.cell? ⟨bb, off + k * 9 + 8, none⟩ = some (.int .i64 ri) := bw_cell ((B1.cell (p := ⟨bb, off + k * 9 + 8, none⟩) hbb).trans x8)
      obtain ⟨p1, hp1⟩ : ∃ p : BW wr, p.w = wr := ⟨BW.start wr, rfl⟩
      rw [← hp1]
      clear hp1
      go_upto_region 6 with (fail)
      obtain ⟨W2, hW2⟩ : ∃ W, W = p1.w.alloc (.cells #[.int .i64 n1, .int .i64 n2, .int .i64 n3, .int .i64 n4, .int .i64 n5, .int .i64 n6, .int .i64 fi, .int .i64 cn, .int .i64 ri] 60) := ⟨_, rfl⟩
      have B2 : Below w.heap.size w W2 := by rw [hW2]; exact (bw_below B1 p1).alloc (bw_below B1 p1).size _
      have l_d : g_o < p1.w.heap.size := (k_o.below p1.h).lt
      have o_d : w.heap.size ≤ p1.w.heap.size := (bw_below B1 p1).size
      have l_d_t : w.heap.size < p1.w.heap.size := (k_t.below p1.h).lt
      have l_d_r : g_r < p1.w.heap.size := (k_r.below p1.h).lt
      have k_t := bka hW2 (k_t.below p1.h)
      have k_r := bka hW2 (k_r.below p1.h)
      have k_o := bka hW2 (k_o.below p1.h)
      have hu := nodrow_alloc hW2 (hu.below p1.h)
      have k_d := bkn hW2
      rw [← hW2]
      clear hW2
      clear B1
      clear c_t_0 c_t_1 c_r_0 c_r_1 c_o_0 c_o_1 c_x0 c_x1 c_x2 c_x3 c_x4 c_x5 c_x6 c_x7 c_x8
      generalize p1.w.heap.size = g_d at *
      obtain ⟨c_t_0, c_t_1⟩ := bwc2 (k_t)
      obtain ⟨c_r_0, c_r_1⟩ := bwc2 (k_r)
      obtain ⟨c_o_0, c_o_1⟩ := bwc2 (k_o)
      obtain ⟨f_o_0, f_o_1⟩ := bwf2 (k_o)
      obtain ⟨c_d_0, c_d_1, c_d_2, c_d_3, c_d_4, c_d_5, c_d_6, c_d_7, c_d_8⟩ := bwc9 (k_d)
      obtain ⟨p2, hp2⟩ : ∃ p : BW W2, p.w = W2 := ⟨BW.start W2, rfl⟩
      rw [← hp2]
      clear hp2
      go_wp2_with (at_builtin; refine wpList_append_at rfl _ _ 25 rfl w.heap.size 43 i0 _ 9 72 Tryz.underlying25 hi0 hz0 hz1 hz2 rfl (by decide) _ k (L.flatMap ncells) rfl (World.ownsRow.alloc (by have h := hu.below (BW.h p2); unfold NodRow at h; rw [hl] at h; exact h) _) ⟨_, 0, none⟩ 1 1 (ncells ((((n1, n2, n3), n4, n5, n6), fi, cn, ri) : Nd)) rfl rfl ?g1 ?g2 ?g3 ?g4 ?g5 ?_)
      case g1 => exact cells_new _ #[.int .i64 n1, .int .i64 n2, .int .i64 n3, .int .i64 n4, .int .i64 n5, .int .i64 n6, .int .i64 fi, .int .i64 cn, .int .i64 ri] _
      case g2 => exact ncells_one _
      case g3 => unfold maxLen; omega
      case g4 => omega
      case g5 => have := (bw_below B2 p2).size; simp; omega
      intro vn w1 hown hgrow hat
      obtain ⟨an, cn2, rfl⟩ := owns_val hown
      have hu0 := nodrow_alloc (o := .cells #[.int .i64 n1, .int .i64 n2, .int .i64 n3, .int .i64 n4, .int .i64 n5, .int .i64 n6, .int .i64 fi, .int .i64 cn, .int .i64 ri] 43) rfl (hu.below (BW.h p2))
      have hrow : NodRow w1 w.heap.size (.slice an (k + 1) cn2) (L ++ [(((n1, n2, n3), n4, n5, n6), fi, cn, ri)]) := by unfold NodRow; rw [List.length_append, hl, List.flatMap_append, List.flatMap_cons, List.flatMap_nil, List.append_nil]; exact hown
      have hsz := (bw_below B2 p2).size
      have hb1 : Below w.heap.size w w1 := ((bw_below B2 p2).alloc hsz _).grown hgrow (by simp; omega) (fun j ej => (World.ownsRow.lt hu0 j ej).1)
      have kr1 := grown_bk hu0 ((k_r.below (BW.h p2)).alloc _) (by decide) hgrow
      have kt1 := grown_bk hu0 ((k_t.below (BW.h p2)).alloc _) (by decide) hgrow
      have ko1 := grown_bk hu0 ((k_o.below (BW.h p2)).alloc _) (by decide) hgrow
      have q0 := ko1.cell (i := 0) rfl
      have q1 := ko1.frozen 0
      go_wp2
      go_roundw
      case rel => exact ⟨k + 1, .slice an (k + 1) cn2, by omega, by go_num, by rw [HT.out]; exact owns_setbk hrow (a := ⟨g_o, 0, none⟩) (owns_bk hrow ko1 (by decide)) _, kt1.other (a := ⟨g_o, 0, none⟩) (by show ¬ w.heap.size = g_o; omega) _, kr1.other (a := ⟨g_o, 0, none⟩) (by show ¬ g_r = g_o; omega) _, (ko1.set 0 _).cast (by simp), hb1.setCell (p := ⟨g_o, 0, none⟩) (by show w.heap.size ≤ g_o; omega) _⟩
      case measure => simp [intOf]; omega
    · obtain rfl : k = n := by omega
      have hl : (ns.take k).length = k := by rw [List.length_take, ← HNN.out]; omega
      rw [hl] at hua
      subst hua
      have hT : ns.take k = ns := by rw [HNN.out]; exact List.take_length
      rw [hT] at hu
      obtain ⟨c_t_0, c_t_1⟩ := bwc2 (k_t)
      obtain ⟨c_r_0, c_r_1⟩ := bwc2 (k_r)
      obtain ⟨f_r_0, f_r_1⟩ := bwf2 (k_r)
      obtain ⟨c_o_0, c_o_1⟩ := bwc2 (k_o)
      obtain ⟨f_o_0, f_o_1⟩ := bwf2 (k_o)
      obtain ⟨p1, hp1⟩ : ∃ p : BW wr, p.w = wr := ⟨BW.start wr, rfl⟩
      rw [← hp1]
      clear hp1
      have hoW : IntSlice p1.w a ord.length (fun i => ord.getD i 0) := intslice_down15 HO.out (bw_below B1 p1)
      go_wp2_with (at_builtin; refine wpList_append_row16 rfl _ _ 26 rfl w.heap.size 3 i1 (.int .i64 0) 1 8 Tryz.underlying26 hi1 hy0 hy1 hy2 rfl (by decide) rfl a m ca (ord.map (Value.int .i64)) rfl (by rw [List.length_map, HMM.out, Nat.mul_one]) ?g1 ?g2 ?g3 ?g4 ?g5 ?_)
      case g1 => have h := intslice_row hoW; rw [← HMM.out] at h; exact h
      case g2 => intro u hu; obtain ⟨k, _, rfl⟩ := List.mem_map.1 hu; rfl
      case g3 => unfold maxLen; omega
      case g4 => omega
      case g5 => exact (bw_below B1 p1).size
      intro vo w1 hown hgrow
      obtain ⟨ao2, co2, rfl⟩ := owns_val hown
      have hrow : OrdRow w1 w.heap.size (.slice ao2 m co2) ord := by unfold OrdRow; rw [← HMM.out]; exact hown
      have hu1 := owns_grown (hu.below p1.h) hgrow (fun j _ e => by cases e)
      have kt1 := (k_t.below p1.h).grown hgrow (fun e => by cases e)
      have kr1 := (k_r.below p1.h).grown hgrow (fun e => by cases e)
      have ko1 := (k_o.below p1.h).grown hgrow (fun e => by cases e)
      have hb1 : Below w.heap.size w w1 := (bw_below B1 p1).grown hgrow (bw_below B1 p1).size (fun j ej => by cases ej)
      have q0 := ko1.cell (i := 0) rfl
      have q1 := ko1.cell (i := 1) rfl
      have q2 := ko1.frozen 1
      have q3 := kr1.cell (i := 0) rfl
      have q4 := kr1.cell (i := 1) rfl
      have q5 := kr1.frozen 0
      have q6 := kr1.frozen 1
      go_wp2
      have kr2 := bkp2 (kr1.other (a := ⟨g_o, 1, none⟩) (by show ¬ g_r = g_o; omega) (.slice ao2 m co2)) (.slice au k cu) (.slice ao2 m co2)
      obtain ⟨rc0, rc1⟩ := rwc2 kr2
      have hu2 := owns_setbk (owns_setbk (owns_setbk hu1 (a := ⟨g_o, 1, none⟩) (owns_bk hu1 ko1 (by decide)) (.slice ao2 m co2)) (a := ⟨g_r, 0, none⟩) (owns_bk hu1 kr1 (by decide)) (.slice au k cu)) (a := ⟨g_r, 1, none⟩) (owns_bk hu1 kr1 (by decide)) (.slice ao2 m co2)
      have ho2 := owns_setbk (owns_setbk (owns_setbk hrow (a := ⟨g_o, 1, none⟩) (owns_bk hrow ko1 (by decide)) (.slice ao2 m co2)) (a := ⟨g_r, 0, none⟩) (owns_bk hrow kr1 (by decide)) (.slice au k cu)) (a := ⟨g_r, 1, none⟩) (owns_bk hrow kr1 (by decide)) (.slice ao2 m co2)
      exact bodyPost_ret (v := .agg #[.slice au k cu, .slice ao2 m co2]) (by simp [results, Tryz.results7, go_sem, rc0, rc1]) rfl ⟨_, _, rfl, hu2, ho2, blp2 (hb1.setCell (p := ⟨g_o, 1, none⟩) (by show w.heap.size ≤ g_o; omega) _) (by omega)⟩

end
end Go.Proofs.YtomlcglnkdfemaaGreat
