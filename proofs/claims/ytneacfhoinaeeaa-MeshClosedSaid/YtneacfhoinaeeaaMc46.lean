/- The statements' own helper, layer 19: apart. -/
import Derived.Test.YtneacfhoinaeeaaMc28
import Derived.Test.YtneacfhoinaeeaaMc30
import Derived.Test.YtneacfhoinaeeaaMc15
import Derived.Test.YtneacfhoinaeeaaMc33
import Derived.Test.YtneacfhoinaeeaaMc10


namespace Go.Proofs.Ytneacfhoinaeeaa
section

open Go.RowKit Go.Proofs.Sky

set_option linter.unusedVariables false

set_option linter.unusedSimpArgs false

def metJ (L : List T3) (a b c : T3) (j : Nat) : List T3 := ([a, b, c].take j).foldl addM L

theorem met_next {l : List Pr} {k : Nat} (h : k < l.length) : mMet (l.take (k + 1)) = metJ (mMet (l.take k)) l[k].a l[k].b l[k].c 3 := by
  unfold mMet
  rw [List.take_add_one, List.getElem?_eq_getElem h, List.foldl_append]
  rfl

theorem addM_len (L : List T3) (v : T3) : (addM L v).length ≤ L.length + 1 := by
  unfold addM
  split <;> simp

theorem mem_next {L : List T3} {v : T3} {m : Nat} (h : m < L.length) : decide (v ∈ L.take (m + 1)) = (decide (v ∈ L.take m) || decide (L[m] = v)) := by
  rw [List.take_add_one, List.getElem?_eq_getElem h]
  show decide (v ∈ L.take m ++ [L[m]]) = _
  by_cases h1 : v ∈ L.take m
  · rw [decide_eq_true h1, decide_eq_true (List.mem_append_left _ h1)]; rfl
  · by_cases h2 : L[m] = v
    · rw [decide_eq_true h2, Bool.or_true, decide_eq_true (List.mem_append_right _ (by rw [← h2]; exact List.mem_singleton_self _))]
    · rw [decide_eq_false h1, decide_eq_false h2, decide_eq_false (fun hm => by
        rcases List.mem_append.1 hm with h3 | h3
        · exact h1 h3
        · exact h2 (List.mem_singleton.1 h3).symm)]
      rfl

theorem vrow_sll {w : World} {B : Nat} {v : Value} {l : List T3} (h : VRow w B v l) (hn : l.length ≤ 1000000) : Sll w v 3 vcells l :=
  owns_sll (f := vcells) (l := l) (fun _ => rfl) (by decide) rfl (by unfold maxLen; omega) h

theorem index_thr19 (g k : Nat) (hk : k < 3) (w : World) : (Instr.indexAt 71 (.pointer (some ⟨g, 0, none⟩)) (.int .i64 (k : Int))).run Try.prog w = .ok (.pointer (some ⟨g, k * 3, none⟩)) w := by
  obtain rfl | rfl | rfl : k = 0 ∨ k = 1 ∨ k = 2 := by omega
  all_goals kernel_rfl

theorem quiet_value19 {P : Program} {ops : Array Oper} {C : World → Prop} {Q : Act → Prop} {a : Act} {o : Oper} {rest : List Oper} (v : Value) (hw : Region.wanted o (yielded ops a.tmps) = true) (hr : ∀ w, (execOp a.eval o).run P w = .ok (.value v) w) (h : wpQuiet P ops C Q rest (a.put o.dst v)) : wpQuiet P ops C Q (o :: rest) a := by
  unfold wpQuiet
  rw [if_pos hw]
  exact ⟨v, fun w _ => by unfold Oper.quietAt; rw [hr]; exact ⟨rfl, rfl⟩, h⟩

set_option maxRecDepth 100000 in
set_option maxHeartbeats 8000000 in
theorem law19_apart (v : Value) (l : List Pr) (N : Int) (w : World) (hs : Sll w v 12 pcells l) (hn : l.length ≤ 1000) :
    Calls Try.prog 18 #[v, .int .i64 N] w fun en w' => en = .returned (.bool (((mMet l).length : Int) == N)) ∧ Below w.heap.size w w' := by
  obtain ⟨i0, hi0, hz0, hz1, hz2⟩ := info_parts vec_info19
  obtain ⟨a, cap, rfl, hmx, hS⟩ := hs
  obtain ⟨n, hnn⟩ : ∃ n, n = l.length := ⟨_, rfl⟩
  have HNN := Lib.hid hnn
  rw [← hnn] at hn ⊢
  have HS := Lib.hid hS
  clear hS hnn hmx
  go_enter Try.func18, Try.ntmps18
  go_wp2
  go_loopw [5, 6] (fun u i wr => ∃ (k : Nat) (L : List T3), k ≤ n ∧ i = .int .i64 k ∧ VRow wr w.heap.size u L ∧ Below w.heap.size w wr ∧ L.length ≤ 3 * k ∧ Hid (L = mMet (l.take k))) (fun _ i _ => n - (intOf i).toNat)
  case atStart => exact ⟨0, [], by omega, rfl, vrow_nil _ _, Below.refl _ _, by simp, Lib.hid rfl⟩
  case round =>
    obtain ⟨k, L, hk, rfl, hrow, B10, hL3, hmet⟩ := hrel
    obtain ⟨al, cl, rfl⟩ := owns_val19 hrow
    by_cases hlt : k < n
    · have hkl : k < l.length := by rw [← HNN.out]; exact hlt
      obtain ⟨gb, off, rfl, hb, hcell⟩ := HS.out.resolve_left (by omega)
      have hx := hcell k hkl
      have x0 : w.cell? ⟨gb, off + k * 12, none⟩ = some (.int .i64 (l[k]).k) := hx 0 (by omega)
      have x1 : w.cell? ⟨gb, off + k * 12 + 1, none⟩ = some (.int .i64 (l[k]).a.1) := hx 1 (by omega)
      have x2 : w.cell? ⟨gb, off + k * 12 + 2, none⟩ = some (.int .i64 (l[k]).a.2.1) := hx 2 (by omega)
      have x3 : w.cell? ⟨gb, off + k * 12 + 3, none⟩ = some (.int .i64 (l[k]).a.2.2) := hx 3 (by omega)
      have x4 : w.cell? ⟨gb, off + k * 12 + 4, none⟩ = some (.int .i64 (l[k]).b.1) := hx 4 (by omega)
      have x5 : w.cell? ⟨gb, off + k * 12 + 5, none⟩ = some (.int .i64 (l[k]).b.2.1) := hx 5 (by omega)
      have x6 : w.cell? ⟨gb, off + k * 12 + 6, none⟩ = some (.int .i64 (l[k]).b.2.2) := hx 6 (by omega)
      have x7 : w.cell? ⟨gb, off + k * 12 + 7, none⟩ = some (.int .i64 (l[k]).c.1) := hx 7 (by omega)
      have x8 : w.cell? ⟨gb, off + k * 12 + 8, none⟩ = some (.int .i64 (l[k]).c.2.1) := hx 8 (by omega)
      have x9 : w.cell? ⟨gb, off + k * 12 + 9, none⟩ = some (.int .i64 (l[k]).c.2.2) := hx 9 (by omega)
      have x10 : w.cell? ⟨gb, off + k * 12 + 10, none⟩ = some (.int .i64 (l[k]).r) := hx 10 (by omega)
      have x11 : w.cell? ⟨gb, off + k * 12 + 11, none⟩ = some (.int .i64 (l[k]).m) := hx 11 (by omega)
      have hmn := met_next hkl
      rw [← hmet.out] at hmn
      clear hx hcell
      generalize l[k] = pk at *
      obtain ⟨kk, ⟨a1, a2, a3⟩, ⟨b1, b2, b3⟩, ⟨c1, c2, c3⟩, r, m⟩ := pk
      dsimp only at x0 x1 x2 x3 x4 x5 x6 x7 x8 x9 x10 x11 hmn
      have HMN := Lib.hid hmn
      clear hmn
      have c_x0 : ∀ p : BW wr, p.w.cell? ⟨gb, off + k * 12, none⟩ = some (.int .i64 kk) := bw_cell ((B10.cell (p := ⟨gb, off + k * 12, none⟩) hb).trans x0)
      have c_x1 : ∀ p : BW wr, p.w.cell? ⟨gb, off + k * 12 + 1, none⟩ = some (.int .i64 a1) := bw_cell ((B10.cell (p := ⟨gb, off + k * 12 + 1, none⟩) hb).trans x1)
      have c_x2 : ∀ p : BW wr, p.w.cell? ⟨gb, off + k * 12 + 2, none⟩ = some (.int .i64 a2) := bw_cell ((B10.cell (p := ⟨gb, off + k * 12 + 2, none⟩) hb).trans x2)
      have c_x3 : ∀ p : BW wr, p.w.cell? ⟨gb, off + k * 12 + 3, none⟩ = some (.int .i64 a3) := bw_cell ((B10.cell (p := ⟨gb, off + k * 12 + 3, none⟩) hb).trans x3)
      have c_x4 : ∀ p : BW wr, p.w.cell? ⟨gb, off + k * 12 + 4, none⟩ = some (.int .i64 b1) := bw_cell ((B10.cell (p := ⟨gb, off + k * 12 + 4, none⟩) hb).trans x4)
      have c_x5 : ∀ p : BW wr, p.w.cell? ⟨gb, off + k * 12 + 5, none⟩ = some (.int .i64 b2) := bw_cell ((B10.cell (p := ⟨gb, off + k * 12 + 5, none⟩) hb).trans x5)
      have c_x6 : ∀ p : BW wr, p.w.cell? ⟨gb, off + k * 12 + 6, none⟩ = some (.int .i64 b3) := bw_cell ((B10.cell (p := ⟨gb, off + k * 12 + 6, none⟩) hb).trans x6)
      have c_x7 : ∀ p : BW wr, p.w.cell? ⟨gb, off + k * 12 + 7, none⟩ = some (.int .i64 c1) := bw_cell ((B10.cell (p := ⟨gb, off + k * 12 + 7, none⟩) hb).trans x7)
      have c_x8 : ∀ p : BW wr, p.w.cell? ⟨gb, off + k * 12 + 8, none⟩ = some (.int .i64 c2) := bw_cell ((B10.cell (p := ⟨gb, off + k * 12 + 8, none⟩) hb).trans x8)
      have c_x9 : ∀ p : BW wr, p.w.cell? ⟨gb, off + k * 12 + 9, none⟩ = some (.int .i64 c3) := bw_cell ((B10.cell (p := ⟨gb, off + k * 12 + 9, none⟩) hb).trans x9)
      have c_x10 : ∀ p : BW wr, p.w.cell? ⟨gb, off + k * 12 + 10, none⟩ = some (.int .i64 r) := bw_cell ((B10.cell (p := ⟨gb, off + k * 12 + 10, none⟩) hb).trans x10)
      have c_x11 : ∀ p : BW wr, p.w.cell? ⟨gb, off + k * 12 + 11, none⟩ = some (.int .i64 m) := bw_cell ((B10.cell (p := ⟨gb, off + k * 12 + 11, none⟩) hb).trans x11)
      obtain ⟨p10, hp10⟩ : ∃ p : BW wr, p.w = wr := ⟨BW.start wr, rfl⟩
      rw [← hp10]
      clear hp10
      go_upto_region 5 with (fail)
      refine wp_region_floatS 66 [⟨⟨16, 7, 71, #[.int .i64 0, .int .i64 0, .int .i64 0, .int .i64 0, .int .i64 0, .int .i64 0, .int .i64 0, .int .i64 0, .int .i64 0]⟩, 17, 32, .agg #[.int .i64 a1, .int .i64 a2, .int .i64 a3, .int .i64 b1, .int .i64 b2, .int .i64 b3, .int .i64 c1, .int .i64 c2, .int .i64 c3], #[.int .i64 a1, .int .i64 a2, .int .i64 a3, .int .i64 b1, .int .i64 b2, .int .i64 b3, .int .i64 c1, .int .i64 c2, .int .i64 c3]⟩] (by kernel_rfl) (by kernel_rfl) (by kernel_rfl) (by kernel_rfl) (by kernel_rfl) (by simp [msk]) (by simp [fvs]) (by kernel_rfl) (by kernel_rfl) ?_ ?_
      · refine ⟨⟨⟨_, rfl, fun ev wx => by simp [execOp, go_sem]⟩, ⟨_, rfl, fun ax wx gx h1 h2 h3 => ?_⟩⟩, trivial⟩
        · exact store_whole rfl h1 h2 h3 (by kernel_rfl) rfl (by simp [Value.oneCell'])
      apply Exists.intro
      refine ⟨?_, ?_, ?_⟩
      · intro wb' hwb'
        have d_x0 : ∀ q : BW wb', q.w.cell? ⟨gb, off + k * 12, none⟩ = some (.int .i64 kk) := bw_cell ((hwb'.cell (p := ⟨gb, off + k * 12, none⟩) (Nat.lt_of_lt_of_le hb B10.size)).trans ((B10.cell (p := ⟨gb, off + k * 12, none⟩) hb).trans x0))
        have d_x1 : ∀ q : BW wb', q.w.cell? ⟨gb, off + k * 12 + 1, none⟩ = some (.int .i64 a1) := bw_cell ((hwb'.cell (p := ⟨gb, off + k * 12 + 1, none⟩) (Nat.lt_of_lt_of_le hb B10.size)).trans ((B10.cell (p := ⟨gb, off + k * 12 + 1, none⟩) hb).trans x1))
        have d_x2 : ∀ q : BW wb', q.w.cell? ⟨gb, off + k * 12 + 2, none⟩ = some (.int .i64 a2) := bw_cell ((hwb'.cell (p := ⟨gb, off + k * 12 + 2, none⟩) (Nat.lt_of_lt_of_le hb B10.size)).trans ((B10.cell (p := ⟨gb, off + k * 12 + 2, none⟩) hb).trans x2))
        have d_x3 : ∀ q : BW wb', q.w.cell? ⟨gb, off + k * 12 + 3, none⟩ = some (.int .i64 a3) := bw_cell ((hwb'.cell (p := ⟨gb, off + k * 12 + 3, none⟩) (Nat.lt_of_lt_of_le hb B10.size)).trans ((B10.cell (p := ⟨gb, off + k * 12 + 3, none⟩) hb).trans x3))
        have d_x4 : ∀ q : BW wb', q.w.cell? ⟨gb, off + k * 12 + 4, none⟩ = some (.int .i64 b1) := bw_cell ((hwb'.cell (p := ⟨gb, off + k * 12 + 4, none⟩) (Nat.lt_of_lt_of_le hb B10.size)).trans ((B10.cell (p := ⟨gb, off + k * 12 + 4, none⟩) hb).trans x4))
        have d_x5 : ∀ q : BW wb', q.w.cell? ⟨gb, off + k * 12 + 5, none⟩ = some (.int .i64 b2) := bw_cell ((hwb'.cell (p := ⟨gb, off + k * 12 + 5, none⟩) (Nat.lt_of_lt_of_le hb B10.size)).trans ((B10.cell (p := ⟨gb, off + k * 12 + 5, none⟩) hb).trans x5))
        have d_x6 : ∀ q : BW wb', q.w.cell? ⟨gb, off + k * 12 + 6, none⟩ = some (.int .i64 b3) := bw_cell ((hwb'.cell (p := ⟨gb, off + k * 12 + 6, none⟩) (Nat.lt_of_lt_of_le hb B10.size)).trans ((B10.cell (p := ⟨gb, off + k * 12 + 6, none⟩) hb).trans x6))
        have d_x7 : ∀ q : BW wb', q.w.cell? ⟨gb, off + k * 12 + 7, none⟩ = some (.int .i64 c1) := bw_cell ((hwb'.cell (p := ⟨gb, off + k * 12 + 7, none⟩) (Nat.lt_of_lt_of_le hb B10.size)).trans ((B10.cell (p := ⟨gb, off + k * 12 + 7, none⟩) hb).trans x7))
        have d_x8 : ∀ q : BW wb', q.w.cell? ⟨gb, off + k * 12 + 8, none⟩ = some (.int .i64 c2) := bw_cell ((hwb'.cell (p := ⟨gb, off + k * 12 + 8, none⟩) (Nat.lt_of_lt_of_le hb B10.size)).trans ((B10.cell (p := ⟨gb, off + k * 12 + 8, none⟩) hb).trans x8))
        have d_x9 : ∀ q : BW wb', q.w.cell? ⟨gb, off + k * 12 + 9, none⟩ = some (.int .i64 c3) := bw_cell ((hwb'.cell (p := ⟨gb, off + k * 12 + 9, none⟩) (Nat.lt_of_lt_of_le hb B10.size)).trans ((B10.cell (p := ⟨gb, off + k * 12 + 9, none⟩) hb).trans x9))
        have d_x10 : ∀ q : BW wb', q.w.cell? ⟨gb, off + k * 12 + 10, none⟩ = some (.int .i64 r) := bw_cell ((hwb'.cell (p := ⟨gb, off + k * 12 + 10, none⟩) (Nat.lt_of_lt_of_le hb B10.size)).trans ((B10.cell (p := ⟨gb, off + k * 12 + 10, none⟩) hb).trans x10))
        have d_x11 : ∀ q : BW wb', q.w.cell? ⟨gb, off + k * 12 + 11, none⟩ = some (.int .i64 m) := bw_cell ((hwb'.cell (p := ⟨gb, off + k * 12 + 11, none⟩) (Nat.lt_of_lt_of_le hb B10.size)).trans ((B10.cell (p := ⟨gb, off + k * 12 + 11, none⟩) hb).trans x11))
        simp only [msk, List.map_cons, List.map_nil, List.cons_append, List.nil_append, maskL, List.foldr_cons, List.foldr_nil, List.length_cons, List.length_nil, Nat.zero_add, Nat.reduceAdd, maskAt, List.take_succ_cons, List.take_zero]
        repeat (go_big_quiet_step (first
          | fail))
        refine wpQuiet_nil ?_
        exact rfl
      · intro v hv
        simp only [List.mem_cons, List.not_mem_nil, or_false] at hv
        subst hv; rfl
      intro W11 st hW hst hne
      obtain ⟨g_v, e_v, hg_v, k_v⟩ := hst 0 _ rfl
      have B11 : Below w.heap.size w W11 := B10.trans (hW.mono B10.size)
      have hrow := hrow.below hW
      simp only [fvs, List.map_cons, List.map_nil, putAll, Nat.zero_add, Nat.reduceAdd, e_v, putO, Act.put, List.setIfInBounds_toArray, List.set_cons_zero, List.set_cons_succ]
      have lw_v : w.heap.size ≤ g_v := by have := B10.size; omega
      clear hW hst hne B10 hg_v e_v
      clear c_x0 c_x1 c_x2 c_x3 c_x4 c_x5 c_x6 c_x7 c_x8 c_x9 c_x10 c_x11
      clear x0 x1 x2 x3 x4 x5 x6 x7 x8 x9 x10 x11
      go_wp2
      go_loopw [5, 8] (fun u i wr => ∃ (j : Nat) (L2 : List T3), j ≤ 3 ∧ i = .int .i64 j ∧ VRow wr w.heap.size u L2 ∧ Bk wr g_v 71 #[.int .i64 a1, .int .i64 a2, .int .i64 a3, .int .i64 b1, .int .i64 b2, .int .i64 b3, .int .i64 c1, .int .i64 c2, .int .i64 c3] ∧ Below w.heap.size w wr ∧ L2.length ≤ 3 * k + j ∧ Hid (L2 = metJ L (a1, a2, a3) (b1, b2, b3) (c1, c2, c3) j)) (fun _ i _ => 3 - (intOf i).toNat)
      case atStart => exact ⟨0, L, by omega, rfl, hrow, k_v, B11, by omega, Lib.hid rfl⟩
      case round =>
        clear hrow k_v B11
        obtain ⟨j, L2, hj, rfl, hrow, k_v, B12, hL2, hmj⟩ := hrel
        obtain ⟨am, cm, rfl⟩ := owns_val19 hrow
        by_cases hlj : j < 3
        · have hvn : ∃ q : T3, metJ L (a1, a2, a3) (b1, b2, b3) (c1, c2, c3) (j + 1) = addM (metJ L (a1, a2, a3) (b1, b2, b3) (c1, c2, c3) j) q ∧ wr.cell? ⟨g_v, j * 3, none⟩ = some (.int .i64 q.1) ∧ wr.cell? ⟨g_v, j * 3 + 1, none⟩ = some (.int .i64 q.2.1) ∧ wr.cell? ⟨g_v, j * 3 + 2, none⟩ = some (.int .i64 q.2.2) := by
            obtain rfl | rfl | rfl : j = 0 ∨ j = 1 ∨ j = 2 := by omega
            · exact ⟨(a1, a2, a3), rfl, k_v.cell (i := 0) rfl, k_v.cell (i := 1) rfl, k_v.cell (i := 2) rfl⟩
            · exact ⟨(b1, b2, b3), rfl, k_v.cell (i := 3) rfl, k_v.cell (i := 4) rfl, k_v.cell (i := 5) rfl⟩
            · exact ⟨(c1, c2, c3), rfl, k_v.cell (i := 6) rfl, k_v.cell (i := 7) rfl, k_v.cell (i := 8) rfl⟩
          obtain ⟨⟨v1, v2, v3⟩, hq, y0, y1, y2⟩ := hvn
          rw [← hmj.out] at hq
          dsimp only at y0 y1 y2
          have HQ := Lib.hid hq
          have hx : ∀ w, (Instr.indexAt 71 (.pointer (some ⟨g_v, 0, none⟩)) (.int .i64 (j : Int))).run Try.prog w = .ok (.pointer (some ⟨g_v, j * 3, none⟩)) w := fun w => index_thr19 g_v j hlj w
          obtain ⟨a0, c0, e0, _, hSV⟩ := vrow_sll hrow (by omega)
          cases e0
          have HSV := Lib.hid hSV
          clear hSV hq
          obtain ⟨q12, hq12⟩ : ∃ p : BW wr, p.w = wr := ⟨BW.start wr, rfl⟩
          rw [← hq12]
          have c_y0 : ∀ p : BW wr, p.w.cell? ⟨g_v, j * 3, none⟩ = some (.int .i64 v1) := bw_cell y0
          have c_y1 : ∀ p : BW wr, p.w.cell? ⟨g_v, j * 3 + 1, none⟩ = some (.int .i64 v2) := bw_cell y1
          have c_y2 : ∀ p : BW wr, p.w.cell? ⟨g_v, j * 3 + 2, none⟩ = some (.int .i64 v3) := bw_cell y2
          clear y0 y1 y2 hq12
          go_wp2
          go_loopw [9, 10] (fun z i wq => ∃ (m : Nat) (zz : Bool) (q : BW wr), m ≤ L2.length ∧ z = .bool zz ∧ i = .int .i64 m ∧ wq = q.w ∧ Hid (zz = decide ((v1, v2, v3) ∈ L2.take m))) (fun _ i _ => L2.length - (intOf i).toNat)
          case atStart => exact ⟨0, false, q12, by omega, rfl, rfl, rfl, Lib.hid (by simp)⟩
          case round =>
            obtain ⟨m, zz, q0, hm, rfl, rfl, rfl, hzm⟩ := hrel
            by_cases hlm : m < L2.length
            · obtain ⟨gm, om, rfl, hgm, hcm⟩ := HSV.out.resolve_left (by omega)
              have hx0 := hcm m hlm
              have z0 : wr.cell? ⟨gm, om + m * 3, none⟩ = some (.int .i64 (L2[m]).1) := hx0 0 (by omega)
              have z1 : wr.cell? ⟨gm, om + m * 3 + 1, none⟩ = some (.int .i64 (L2[m]).2.1) := hx0 1 (by omega)
              have z2 : wr.cell? ⟨gm, om + m * 3 + 2, none⟩ = some (.int .i64 (L2[m]).2.2) := hx0 2 (by omega)
              have hmt := mem_next (v := (v1, v2, v3)) hlm
              rw [← hzm.out] at hmt
              clear hx0 hcm
              generalize L2[m] = um at *
              obtain ⟨u1, u2, u3⟩ := um
              dsimp only at z0 z1 z2 hmt
              obtain ⟨ze, hze⟩ : ∃ z, z = decide ((u1, u2, u3) = (v1, v2, v3)) := ⟨_, rfl⟩
              rw [← hze] at hmt
              have HZ := Lib.hid hze
              have HMT := Lib.hid hmt
              clear hze hmt
              have c_z0 : ∀ p : BW wr, p.w.cell? ⟨gm, om + m * 3, none⟩ = some (.int .i64 u1) := bw_cell z0
              have c_z1 : ∀ p : BW wr, p.w.cell? ⟨gm, om + m * 3 + 1, none⟩ = some (.int .i64 u2) := bw_cell z1
              have c_z2 : ∀ p : BW wr, p.w.cell? ⟨gm, om + m * 3 + 2, none⟩ = some (.int .i64 u3) := bw_cell z2
              clear z0 z1 z2
              go_upto_region 13 with (fail)
              refine wp_region_bw (by kernel_rfl) (by kernel_rfl) ?_
              cases zz with
              | true =>
                repeat (go_big_quiet_step (fail))
                refine wpQuiet_nil ?_
                intro _ hw'
                obtain ⟨q, rfl⟩ := hw'
                go_wp2
                go_roundw
                case rel => exact ⟨m + 1, true, q, by omega, rfl, by go_num, rfl, Lib.hid (by rw [HMT.out]; rfl)⟩
                case measure => simp [intOf]; omega
              | false =>
                repeat (go_big_quiet_step (fail))
                refine quiet_value19 (.bool ze) (by rfl) (fun w => by rw [HZ.out]; exact vec_eql19 u1 u2 u3 v1 v2 v3 _ _ w _ _ _ _ _ _ rfl rfl) ?_
                simp only [Act.put, List.setIfInBounds_toArray, List.set_cons_zero, List.set_cons_succ]
                repeat (go_big_quiet_step (fail))
                refine wpQuiet_nil ?_
                intro _ hw'
                obtain ⟨q, rfl⟩ := hw'
                go_wp2
                go_roundw
                case rel => exact ⟨m + 1, ze, q, by omega, rfl, by go_num, rfl, Lib.hid (by rw [HMT.out]; rfl)⟩
                case measure => simp [intOf]; omega
            · have hme : m = L2.length := by omega
              have hzz : zz = decide ((v1, v2, v3) ∈ L2) := by rw [hzm.out, hme, List.take_length]
              have hal := addM_len L2 (v1, v2, v3)
              cases zz with
              | true =>
                have hm2 : (v1, v2, v3) ∈ L2 := of_decide_eq_true hzz.symm
                have HE : Hid (L2 = metJ L (a1, a2, a3) (b1, b2, b3) (c1, c2, c3) (j + 1)) := Lib.hid (by rw [HQ.out]; unfold addM; rw [if_pos hm2])
                clear hzz hm2 hme hal
                go_wp2
                go_roundw
                case rel => exact ⟨j + 1, L2, by omega, by go_num, hrow.below q0.h, k_v.below q0.h, bw_below B12 q0, by omega, HE⟩
                case measure => simp [intOf]; omega
              | false =>
                have hm2 : ¬ (v1, v2, v3) ∈ L2 := of_decide_eq_false hzz.symm
                have HE : Hid (L2 ++ [(v1, v2, v3)] = metJ L (a1, a2, a3) (b1, b2, b3) (c1, c2, c3) (j + 1)) := Lib.hid (by rw [HQ.out]; unfold addM; rw [if_neg hm2])
                clear hzz hm2 hme hal
                go_wp2_with (at_builtin; refine wpList_append_at rfl _ _ 48 rfl w.heap.size 23 i0 _ 3 24 Try.underlying48 hi0 hz0 hz1 hz2 rfl (by decide) _ L2.length (L2.flatMap vcells) rfl (World.ownsRow.alloc (by have h := hrow.below q0.h; unfold VRow at h; exact h) _) ⟨_, 0, none⟩ 1 1 (vcells (v1, v2, v3)) rfl rfl ?g1 ?g2 ?g3 ?g4 ?g5 ?_)
                case g1 => exact cells_new _ #[.int .i64 v1, .int .i64 v2, .int .i64 v3] _
                case g2 => exact vcells_one _
                case g3 => unfold maxLen; omega
                case g4 => omega
                case g5 => have := (bw_below B12 q0).size; simp; omega
                intro v' w1 hown hgrow hat
                have hca : World.ownsRow (q0.w.alloc (.cells #[.int .i64 v1, .int .i64 v2, .int .i64 v3] 23)) w.heap.size 23 3 (.slice am L2.length cm) L2.length (L2.flatMap vcells) := World.ownsRow.alloc (by have h := hrow.below q0.h; unfold VRow at h; exact h) _
                have hb1 : Below w.heap.size w w1 := ((bw_below B12 q0).alloc (bw_below B12 q0).size _).grown hgrow (by have := (bw_below B12 q0).size; simp; omega) (fun j ej => (World.ownsRow.lt hca j ej).1)
                have k_v1 := bk_grown19 hca ((k_v.below q0.h).alloc _) (by decide) hgrow
                have hrow1 : VRow w1 w.heap.size v' (L2 ++ [(v1, v2, v3)]) := by unfold VRow; rw [List.length_append, List.flatMap_append, List.flatMap_cons, List.flatMap_nil, List.append_nil]; exact hown
                clear hgrow hat hown hca
                go_wp2
                go_roundw
                case rel => exact ⟨j + 1, L2 ++ [(v1, v2, v3)], by omega, by go_num, hrow1, k_v1, hb1, by rw [List.length_append, List.length_singleton]; omega, HE⟩
                case measure => simp [intOf]; omega
        · have hje : j = 3 := by omega
          have HE : Hid (L2 = mMet (l.take (k + 1))) := Lib.hid (by rw [HMN.out, hmj.out, hje])
          clear hje
          go_wp2
          go_roundw
          case rel => exact ⟨k + 1, L2, by omega, by go_num, hrow, B12, by omega, HE⟩
          case measure => simp [intOf]; omega
    · have hke : k = n := by omega
      have hR : L.length = (mMet l).length := by rw [hmet.out, hke, HNN.out, List.take_length]
      have HR := Lib.hid hR
      clear hR hke
      go_wp2
      go_ret
      exact ⟨by rw [← HR.out]; rfl, B10⟩

end
end Go.Proofs.Ytneacfhoinaeeaa
