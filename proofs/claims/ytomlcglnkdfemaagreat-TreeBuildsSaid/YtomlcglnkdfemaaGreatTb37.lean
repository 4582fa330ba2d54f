/- Contracts of the landed tree: once, halves, least. -/
import Derived.Test.YtomlcglnkdfemaaGreatTb36


namespace Go.Proofs.YtomlcglnkdfemaaGreat
section

open Go.RowKit Go.Proofs.Sky

set_option linter.unusedVariables false

set_option linter.unusedSimpArgs false

/-- The marks behind the first k of an order. -/
def fnd (ord : List Int) (n k : Nat) : List Value := (List.range n).map (fun j : Nat => Value.bool (decide ((j : Int) ∈ ord.take k)))

theorem fnd_at (ord : List Int) {n k j : Nat} (hj : j < n) : (fnd ord n k)[j]? = some (.bool (decide ((j : Int) ∈ ord.take k))) := by
  unfold fnd
  rw [List.getElem?_map, List.getElem?_range hj]
  rfl

theorem fnd_zero (ord : List Int) (n : Nat) : fnd ord n 0 = List.replicate n (.bool false) := by
  unfold fnd
  apply List.ext_getElem?
  intro j
  by_cases hj : j < n
  · rw [List.getElem?_map, List.getElem?_range hj, List.getElem?_replicate, if_pos hj]; simp
  · rw [List.getElem?_eq_none (by simp; omega), List.getElem?_eq_none (by simp; omega)]

theorem fnd_next {ord : List Int} {n k j : Nat} (hk : k < ord.length) (hx : ord.getD k 0 = (j : Int)) : (fnd ord n k).set j (.bool true) = fnd ord n (k + 1) := by
  unfold fnd
  rw [take_snoc hk, hx]
  apply List.ext_getElem?
  intro i
  rw [List.getElem?_set]
  by_cases hi : i < n
  · rw [List.getElem?_map, List.getElem?_map, List.getElem?_range hi]
    by_cases e : j = i
    · subst e
      rw [if_pos rfl, if_pos (by simpa using hi)]
      simp
    · rw [if_neg e]
      have e2 : ¬ ((i : Int) = (j : Int)) := by omega
      simp [e2]
  · have h1 : ((List.range n).map (fun j : Nat => Value.bool (decide ((j : Int) ∈ ord.take k))))[i]? = none := List.getElem?_eq_none (by simp; omega)
    have h2 : ((List.range n).map (fun a : Nat => Value.bool (decide ((a : Int) ∈ ord.take k ++ [(j : Int)]))))[i]? = none := List.getElem?_eq_none (by simp; omega)
    rw [h1, h2]
    by_cases e : j = i
    · rw [if_pos e, if_neg (by simp; omega)]
    · rw [if_neg e]

theorem bool_info16 : (Tryz.prog.info? 4).map (fun i => (i.zero, i.size, i.bytes)) = some (some (.bool false), 1, 1) := by kernel_rfl

set_option maxRecDepth 100000 in
set_option maxHeartbeats 8000000 in
theorem tree_once (a : Option Addr) (ord : List Int) (ca n : Nat) (w : World) (ho : IntSlice w a ord.length (fun i => ord.getD i 0)) (hm : ord.length ≤ 1048576) (hn : n ≤ 1048576) :
    Calls Tryz.prog 21 #[.slice a ord.length ca, .int .i64 (n : Int)] w fun en w' => en = .returned (.bool (mOnce ord n)) ∧ Below w.heap.size w w' := by
  have HO := Lib.hid ho
  obtain ⟨i0, hi0, hz0, hz1, hz2⟩ := info_parts bool_info16
  clear ho
  by_cases hl : ord.length = n
  · have HM : mOnce ord n = mSeen ord n n := by unfold mOnce; rw [decide_eq_true hl, Bool.true_and, hl]
    rw [HM]
    have HLO := Lib.hid hl
    rw [hl] at HO ⊢
    clear HM hl hm
    have HSN := Lib.hid (fun k => mSeen_succ ord n k)
    have HNO := Lib.hid (fun k (h : mSeen ord n (k + 1) = false) (hk : k < n) => mSeen_no h hk)
    go_enter Tryz.func21, Tryz.ntmps21
    go_wp2_with (at_make; refine wpList_make_full _ rfl _ _ 93 rfl w.heap.size 4 i0 (.bool false) 1 Tryz.underlying93 hi0 hz0 hz1 .i64 .i64 _ _ n rfl rfl rfl rfl ?b1 ?b2 ?b3 ?_)
    case b1 => rw [hz2]; omega
    case b2 => unfold maxLen; omega
    case b3 => exact Nat.le_refl _
    intro W1 hown hgrow
    have B0 : Below w.heap.size w W1 := (Below.refl _ _).grown hgrow (Nat.le_refl _) (fun j ej => by cases ej)
    have hu : W1.ownsRow w.heap.size 4 1 (.slice (some ⟨w.heap.size, 0, none⟩) n n) n (fnd ord n 0) := by
      rw [fnd_zero, ← toList_madeCells_one]
      simpa using hown
    clear hown hgrow
    go_wp2
    go_loopw [16] (fun i wr => ∃ k : Nat, k ≤ n ∧ i = .int .i64 k ∧ mSeen ord n k = true ∧ wr.ownsRow w.heap.size 4 1 (.slice (some ⟨w.heap.size, 0, none⟩) n n) n (fnd ord n k) ∧ Below w.heap.size w wr) (fun i _ => n - (intOf i).toNat)
    case atStart => exact ⟨0, by omega, rfl, rfl, hu, B0⟩
    case round =>
      clear hu B0
      obtain ⟨k, hk, rfl, hs, hu, BO⟩ := hrel
      have HS := Lib.hid hs
      clear hs
      by_cases hlt : k < n
      · obtain ⟨bb, ob, rfl, hcb, hbb⟩ := HO.out.resolve_left (by omega)
        have y0 : w.cell? ⟨bb, ob + k, none⟩ = some (.int .i64 (ord.getD k 0)) := (hcb k hlt).1
        have HX := Lib.hid (fun j => fnd_next (n := n) (j := j) (show k < ord.length by rw [HLO.out]; exact hlt))
        have hSN := HSN.out k
        clear hcb
        generalize ord.getD k 0 = x at *
        rw [HS.out, Bool.true_and] at hSN
        have B1 := BO
        have c_y : ∀ p : BW wr, p.w.cell? ⟨bb, ob + k, none⟩ = some (.int .i64 x) := bw_cell ((B1.cell (p := ⟨bb, ob + k, none⟩) hbb).trans y0)
        by_cases hx0 : x < 0
        · have HE := Lib.hid (HNO.out k (by rw [hSN]; exact decide_eq_false (by omega)) hlt)
          have t1 : decide (x < 0) = true := decide_eq_true hx0
          clear hx0 hSN
          obtain ⟨p1, hp1⟩ : ∃ p : BW wr, p.w = wr := ⟨BW.start wr, rfl⟩
          rw [← hp1]
          clear hp1
          go_wp2
          go_ret
          exact ⟨by rw [HE.out]; rfl, bw_below B1 p1⟩
        · have t1 : decide (x < 0) = false := decide_eq_false hx0
          by_cases hx1 : (n : Int) ≤ x
          · have HE := Lib.hid (HNO.out k (by rw [hSN]; exact decide_eq_false (by omega)) hlt)
            have t2 : decide ((n : Int) ≤ x) = true := decide_eq_true hx1
            clear hx0 hx1 hSN
            obtain ⟨p1, hp1⟩ : ∃ p : BW wr, p.w = wr := ⟨BW.start wr, rfl⟩
            rw [← hp1]
            clear hp1
            go_wp2
            go_ret
            exact ⟨by rw [HE.out]; rfl, bw_below B1 p1⟩
          · obtain ⟨j, rfl⟩ : ∃ j : Nat, x = (j : Int) := ⟨x.toNat, by omega⟩
            have hj : j < n := by omega
            clear t1 hx0 hx1
            have f0 : wr.cell? ⟨w.heap.size, j, none⟩ = some (.bool (decide ((j : Int) ∈ ord.take k))) := by
              rw [World.ownsRow.cellAt hu j (by omega)]
              exact fnd_at ord hj
            have f1 := World.ownsRow.frozenAt hu j
            have hst := World.ownsRow.stored hu j (.bool true)
            rw [HX.out j rfl] at hst
            have HST := Lib.hid hst
            clear hst
            have hSN2 : mSeen ord n (k + 1) = !decide ((j : Int) ∈ ord.take k) := by
              rw [hSN]
              by_cases q : (j : Int) ∈ ord.take k
              · rw [decide_eq_true q]; exact decide_eq_false (fun e => e.2.2 q)
              · rw [decide_eq_false q]; exact decide_eq_true ⟨by omega, by omega, q⟩
            clear hSN
            obtain ⟨z, hz⟩ : ∃ z, z = decide ((j : Int) ∈ ord.take k) := ⟨_, rfl⟩
            rw [← hz] at f0 hSN2
            clear hz
            have c_f := bw_cell f0
            cases z with
            | true =>
              have HE := Lib.hid (HNO.out k hSN2 hlt)
              clear hSN2 f0
              obtain ⟨p1, hp1⟩ : ∃ p : BW wr, p.w = wr := ⟨BW.start wr, rfl⟩
              rw [← hp1]
              clear hp1
              go_wp2
              go_ret
              exact ⟨by rw [HE.out]; rfl, bw_below B1 p1⟩
            | false =>
              have HE := Lib.hid hSN2
              clear hSN2 c_f c_y
              have y1 : wr.cell? ⟨bb, ob + k, none⟩ = some (.int .i64 (j : Int)) := (BO.cell (p := ⟨bb, ob + k, none⟩) hbb).trans y0
              go_wp2
              go_roundw
              case rel => exact ⟨k + 1, by omega, by go_num, HE.out, HST.out.1, BO.setCell (p := ⟨w.heap.size, j, none⟩) (Nat.le_refl _) _⟩
              case measure => simp [intOf]; omega
      · obtain rfl : k = n := by omega
        go_wp2
        go_ret
        exact ⟨by rw [HS.out]; rfl, BO⟩
  · have HM : mOnce ord n = false := by unfold mOnce; rw [decide_eq_false hl, Bool.false_and]
    rw [HM]
    have t0 : ((ord.length : Int) == (n : Int)) = false := by rw [beq_eq_false_iff_ne]; omega
    generalize ord.length = m at *
    clear HM hl
    go_enter Tryz.func21, Tryz.ntmps21
    go_wp2
    go_ret
    exact ⟨rfl, Below.refl _ _⟩

theorem mnV_i64 (V : Nat → Bx) (n : Nat) (ax : Int) : I64 (mnV V n ax) ∧ I64 (mxV V n ax) := by
  have := mnV_in V n ax
  unfold I64
  omega

theorem bBest_i64 (V : Nat → Bx) (n : Nat) : I64 (bBest V n).1.1 ∧ I64 (bBest V n).1.2.2.1 ∧ I64 (bBest V n).1.2.2.2 := by
  rcases bBest_spec V n with e | ⟨a, k, ha, e, _⟩
  · rw [e]; unfold I64; dsimp only; omega
  · rw [e]
    have := mnV_i64 V n a
    refine ⟨?_, this.1, this.2⟩
    unfold I64; dsimp only; omega

set_option maxRecDepth 100000 in
set_option maxHeartbeats 8000000 in
theorem tree_halves (a b : Option Addr) (ca cb : Nat) (wl : List Nat) (V : Nat → Bx) (w : World) (ha : IntSlice w a wl.length (fun i => ((wl.getD i 0 : Nat) : Int))) (hb : Boxes w (.slice b wl.length cb) wl.length V) (hn : wl.length ≤ 1024) :
    Calls Tryz.prog 16 #[.slice a wl.length ca, .slice b wl.length cb] w fun e w' => ∃ u v, e = .returned (.tuple #[u, v, .bool (decide (2 < wl.length) && (bBest V wl.length).2)]) ∧ ((decide (2 < wl.length) && (bBest V wl.length).2) = true → Ints w' w.heap.size u (wAt wl (ix (isL (bBest V wl.length).1.1 (bBest V wl.length).1.2.2.1 (bBest V wl.length).1.2.2.2 (bBest V wl.length).1.2.1) V wl.length)) ∧ Ints w' w.heap.size v (wAt wl (ix (fun b => !isL (bBest V wl.length).1.1 (bBest V wl.length).1.2.2.1 (bBest V wl.length).1.2.2.2 (bBest V wl.length).1.2.1 b) V wl.length))) ∧ Below w.heap.size w w' := by
  have HA := Lib.hid ha
  have HB := Lib.hid hb
  have KB := Lib.hid (fun X (hX : Below w.heap.size w X) => bins_Best b wl.length cb V X (hb.below hX (Nat.le_refl _)))
  have KS := Lib.hid (fun X (hX : Below w.heap.size w X) => bins_Sides b wl.length cb V (bBest V wl.length).1.1 (bBest V wl.length).1.2.1 (bBest V wl.length).1.2.2.1 (bBest V wl.length).1.2.2.2 X (hb.below hX (Nat.le_refl _)) (bBest_i64 V wl.length).1 (bBest_i64 V wl.length).2.1 (bBest_i64 V wl.length).2.2 hn)
  have HQ1 := Lib.hid (fun k (h : k ∈ ix (isL (bBest V wl.length).1.1 (bBest V wl.length).1.2.2.1 (bBest V wl.length).1.2.2.2 (bBest V wl.length).1.2.1) V wl.length) => ix_lt h)
  have HQ2 := Lib.hid (fun k (h : k ∈ ix (fun b => !isL (bBest V wl.length).1.1 (bBest V wl.length).1.2.2.1 (bBest V wl.length).1.2.2.2 (bBest V wl.length).1.2.1 b) V wl.length) => ix_lt h)
  have HL1 := Lib.hid (ix_le (isL (bBest V wl.length).1.1 (bBest V wl.length).1.2.2.1 (bBest V wl.length).1.2.2.2 (bBest V wl.length).1.2.1) V wl.length)
  have HR1 := Lib.hid (ix_le (fun b => !isL (bBest V wl.length).1.1 (bBest V wl.length).1.2.2.1 (bBest V wl.length).1.2.2.2 (bBest V wl.length).1.2.1 b) V wl.length)
  clear ha hb
  generalize ix (isL (bBest V wl.length).1.1 (bBest V wl.length).1.2.2.1 (bBest V wl.length).1.2.2.2 (bBest V wl.length).1.2.1) V wl.length = sl at *
  generalize ix (fun b => !isL (bBest V wl.length).1.1 (bBest V wl.length).1.2.2.1 (bBest V wl.length).1.2.2.2 (bBest V wl.length).1.2.1 b) V wl.length = sr at *
  obtain ⟨⟨⟨s1, s2, s3, s4⟩, ok⟩, hR⟩ : ∃ R, R = bBest V wl.length := ⟨_, rfl⟩
  rw [← hR] at KB KS ⊢
  clear hR HB
  dsimp only at KB KS ⊢
  obtain ⟨n, hn0⟩ : ∃ n, n = wl.length := ⟨_, rfl⟩
  rw [← hn0] at HA KB KS hn HQ1 HQ2 HL1 HR1 ⊢
  have HN0 := Lib.hid hn0
  clear hn0
  by_cases h2 : n ≤ 2
  · have t2 : decide (2 < n) = false := decide_eq_false (by omega)
    rw [t2, Bool.false_and]
    clear t2
    go_enter Tryz.func16, Tryz.ntmps16
    go_wp2
    exact bodyPost_ret (v := .tuple #[.slice none 0 0, .slice none 0 0, .bool false]) (by simp [results, Tryz.results16, go_sem]) rfl ⟨_, _, rfl, (fun e => by cases e), Below.refl _ _⟩
  have h2' : 2 < n := by omega
  rw [decide_eq_true h2', Bool.true_and]
  go_enter Tryz.func16, Tryz.ntmps16
  go_upto_region 4 with (go_at_call 26; (with_reducible refine (KB.out _ (Below.refl _ _)).mono ?_); rintro e w1 ⟨rfl, hb1⟩)
  obtain ⟨W1, hW1⟩ : ∃ W, W = w1.alloc (.cells #[.int .i64 s1, .int .i64 s2, .int .i64 s3, .int .i64 s4] 74) := ⟨_, rfl⟩
  have B1 : Below w.heap.size w W1 := by rw [hW1]; exact hb1.alloc hb1.size _
  have k_s : Bk W1 w1.heap.size 74 #[.int .i64 s1, .int .i64 s2, .int .i64 s3, .int .i64 s4] := by rw [hW1]; exact Bk.new _ _ _
  have l_s : w.heap.size ≤ w1.heap.size := hb1.size
  rw [← hW1]
  clear hW1 hb1
  generalize w1.heap.size = g_s at *
  obtain ⟨c_s_0, c_s_1, c_s_2, c_s_3⟩ := bwc4 (k_s)
  obtain ⟨p1, hp1⟩ : ∃ p : BW W1, p.w = W1 := ⟨BW.start W1, rfl⟩
  rw [← hp1]
  clear hp1
  cases ok with
  | false =>
    go_wp2
    exact bodyPost_ret (v := .tuple #[.slice none 0 0, .slice none 0 0, .bool false]) (by simp [results, Tryz.results16, go_sem]) rfl ⟨_, _, rfl, (fun e => by cases e), bw_below B1 _⟩
  | true =>
    go_upto_region 7 with (go_at_call 27; (with_reducible refine (KS.out _ (bw_below B1 _)).mono ?_); rintro e w2 ⟨u, v, rfl, hu, hv, hb2⟩)
    obtain ⟨q, rfl⟩ := bw_take hb2
    obtain ⟨W3, hW3⟩ : ∃ W, W = q.w := ⟨_, rfl⟩
    have B3 : Below w.heap.size w W3 := by rw [hW3]; exact bw_below B1 q
    rw [← hW3] at hu hv ⊢
    clear hW3 hb2 B1
    have l1 := HL1.out
    have l2 := HR1.out
    obtain ⟨ou, cu, rfl, su⟩ := hu.slice (fun k hk => by have := HQ1.out k hk; omega)
    obtain ⟨ov, cv, rfl, sv⟩ := hv.slice (fun k hk => by have := HQ2.out k hk; omega)
    have K1 := Lib.hid (fun X (hX : Below W3.heap.size W3 X) => tree_chosen_int a ou ca cu wl sl X (by rw [← HN0.out]; exact intslice_down15 HA.out (B3.trans (hX.mono B3.size))) (intslice_down15 su hX) (by rw [← HN0.out]; exact HQ1.out) (by omega))
    have K2 := Lib.hid (fun X (hX : Below W3.heap.size W3 X) => tree_chosen_int a ov ca cv wl sr X (by rw [← HN0.out]; exact intslice_down15 HA.out (B3.trans (hX.mono B3.size))) (intslice_down15 sv hX) (by rw [← HN0.out]; exact HQ2.out) (by omega))
    rw [← HN0.out] at K1 K2
    clear su sv hu hv HA KS KB
    obtain ⟨p3, hp3⟩ : ∃ p : BW W3, p.w = W3 := ⟨BW.start W3, rfl⟩
    rw [← hp3]
    clear hp3
    go_wp2_with (first
      | (go_at_call 28; (with_reducible refine (K1.out _ (BW.h _)).mono ?_); rintro e w4 ⟨x, rfl, hx, hb4⟩; obtain ⟨q4, rfl⟩ := bw_take hb4)
      | (go_at_call 28; (with_reducible refine (K2.out _ (BW.h _)).mono ?_); rintro e w5 ⟨y, rfl, hy, hb5⟩))
    have s3 := (bw_below B3 p3).size
    have s4 := (bw_below B3 q4).size
    exact bodyPost_ret (v := .tuple #[x, y, .bool true]) (by simp [results, Tryz.results16, go_sem]) rfl ⟨_, _, rfl, ⟨(hx.mono s3).below hb5, hy.mono s4⟩, (bw_below B3 q4).trans (hb5.mono s4)⟩

set_option maxRecDepth 100000 in
set_option maxHeartbeats 8000000 in
theorem least_leaf (bo oo : Nat) (b : Option Addr) (bb off n cap m ca nb cb j f c : Nat) (n1 n2 n3 n4 n5 n6 ri r1 r2 r3 r4 r5 r6 : Int) (w : World) (hj : j < n) (hbb : bb < w.heap.size) (x0 : w.cell? ⟨bb, off + j * 9, none⟩ = some (.int .i64 n1)) (x1 : w.cell? ⟨bb, off + j * 9 + 1, none⟩ = some (.int .i64 n2)) (x2 : w.cell? ⟨bb, off + j * 9 + 2, none⟩ = some (.int .i64 n3)) (x3 : w.cell? ⟨bb, off + j * 9 + 3, none⟩ = some (.int .i64 n4)) (x4 : w.cell? ⟨bb, off + j * 9 + 4, none⟩ = some (.int .i64 n5)) (x5 : w.cell? ⟨bb, off + j * 9 + 5, none⟩ = some (.int .i64 n6)) (x6 : w.cell? ⟨bb, off + j * 9 + 6, none⟩ = some (.int .i64 (f : Int))) (x7 : w.cell? ⟨bb, off + j * 9 + 7, none⟩ = some (.int .i64 (c : Int))) (x8 : w.cell? ⟨bb, off + j * 9 + 8, none⟩ = some (.int .i64 ri)) (hc : 0 < c) (hfc : f + c ≤ m) (hm : m ≤ ca) (hm1 : m ≤ 1048576) (hn1 : n ≤ 1048576)
    (KC : Hid (∀ X, Below w.heap.size w X → Calls Tryz.prog 15 #[.slice b nb cb, .slice (some ⟨bo, oo + f, none⟩) c (ca - f)] X fun e w' => ∃ u, e = .returned u ∧ Hid (∀ Y, Below w'.heap.size w' Y → Calls Tryz.prog 17 #[u] Y fun e w' => e = .returned (.agg #[.int .i64 r1, .int .i64 r2, .int .i64 r3, .int .i64 r4, .int .i64 r5, .int .i64 r6]) ∧ Below Y.heap.size Y w') ∧ Below X.heap.size X w')) :
    Calls Tryz.prog 23 #[.agg #[.slice (some ⟨bb, off, none⟩) n cap, .slice (some ⟨bo, oo, none⟩) m ca], .int .i64 (j : Int), .slice b nb cb] w fun en w' => en = .returned (.agg #[.int .i64 r1, .int .i64 r2, .int .i64 r3, .int .i64 r4, .int .i64 r5, .int .i64 r6]) ∧ Below w.heap.size w w' := by
  go_enter Tryz.func23, Tryz.ntmps23
  go_upto_region 1 with (fail)
  obtain ⟨W1, hW1⟩ : ∃ W, W = (w.alloc (.cells #[.slice (some ⟨bb, off, none⟩) n cap, .slice (some ⟨bo, oo, none⟩) m ca] 28)).alloc (.cells #[.int .i64 0, .int .i64 0, .int .i64 0, .int .i64 0, .int .i64 0, .int .i64 0] 41) := ⟨_, rfl⟩
  obtain ⟨k_t, k_r, B1⟩ := st2 hW1
  rw [← hW1]
  clear hW1
  have l_r : w.heap.size < w.heap.size + 1 := by omega
  generalize w.heap.size + 1 = g_r at *
  obtain ⟨c_t_0, c_t_1⟩ := bwc2 (k_t)
  obtain ⟨c_r_0, c_r_1, c_r_2, c_r_3, c_r_4, c_r_5⟩ := bwc6 (k_r)
  have c_x0 : ∀ p : BW W1, p.w.cell? ⟨bb, off + j * 9, none⟩ = some (.int .i64 n1) := bw_cell ((B1.cell (p := ⟨bb, off + j * 9, none⟩) hbb).trans x0)
  have c_x1 : ∀ p : BW W1, p.w.cell? ⟨bb, off + j * 9 + 1, none⟩ = some (.int .i64 n2) := bw_cell ((B1.cell (p := ⟨bb, off + j * 9 + 1, none⟩) hbb).trans x1)
  have c_x2 : ∀ p : BW W1, p.w.cell? ⟨bb, off + j * 9 + 2, none⟩ = some (.int .i64 n3) := bw_cell ((B1.cell (p := ⟨bb, off + j * 9 + 2, none⟩) hbb).trans x2)
  have c_x3 : ∀ p : BW W1, p.w.cell? ⟨bb, off + j * 9 + 3, none⟩ = some (.int .i64 n4) := bw_cell ((B1.cell (p := ⟨bb, off + j * 9 + 3, none⟩) hbb).trans x3)
  have c_x4 : ∀ p : BW W1, p.w.cell? ⟨bb, off + j * 9 + 4, none⟩ = some (.int .i64 n5) := bw_cell ((B1.cell (p := ⟨bb, off + j * 9 + 4, none⟩) hbb).trans x4)
  have c_x5 : ∀ p : BW W1, p.w.cell? ⟨bb, off + j * 9 + 5, none⟩ = some (.int .i64 n6) := bw_cell ((B1.cell (p := ⟨bb, off + j * 9 + 5, none⟩) hbb).trans x5)
  have c_x6 : ∀ p : BW W1, p.w.cell? ⟨bb, off + j * 9 + 6, none⟩ = some (.int .i64 (f : Int)) := bw_cell ((B1.cell (p := ⟨bb, off + j * 9 + 6, none⟩) hbb).trans x6)
  have c_x7 : ∀ p : BW W1, p.w.cell? ⟨bb, off + j * 9 + 7, none⟩ = some (.int .i64 (c : Int)) := bw_cell ((B1.cell (p := ⟨bb, off + j * 9 + 7, none⟩) hbb).trans x7)
  have c_x8 : ∀ p : BW W1, p.w.cell? ⟨bb, off + j * 9 + 8, none⟩ = some (.int .i64 ri) := bw_cell ((B1.cell (p := ⟨bb, off + j * 9 + 8, none⟩) hbb).trans x8)
  obtain ⟨p1, hp1⟩ : ∃ p : BW W1, p.w = W1 := ⟨BW.start W1, rfl⟩
  rw [← hp1]
  clear hp1
  go_upto_region 2 with (fail)
  obtain ⟨W2, hW2⟩ : ∃ W, W = p1.w.alloc (.cells #[.int .i64 n1, .int .i64 n2, .int .i64 n3, .int .i64 n4, .int .i64 n5, .int .i64 n6, .int .i64 (f : Int), .int .i64 (c : Int), .int .i64 ri] 43) := ⟨_, rfl⟩
  have B2 : Below w.heap.size w W2 := by rw [hW2]; exact (bw_below B1 p1).alloc (bw_below B1 p1).size _
  have l_d : g_r < p1.w.heap.size := (k_r.below p1.h).lt
  have o_d : w.heap.size ≤ p1.w.heap.size := (bw_below B1 p1).size
  have k_t := bka hW2 (k_t.below p1.h)
  have k_r := bka hW2 (k_r.below p1.h)
  have k_d := bkn hW2
  rw [← hW2]
  clear hW2
  clear B1
  clear c_t_0 c_t_1 c_r_0 c_r_1 c_r_2 c_r_3 c_r_4 c_r_5 c_x0 c_x1 c_x2 c_x3 c_x4 c_x5 c_x6 c_x7 c_x8
  generalize p1.w.heap.size = g_d at *
  obtain ⟨c_t_0, c_t_1⟩ := bwc2 (k_t)
  obtain ⟨c_r_0, c_r_1, c_r_2, c_r_3, c_r_4, c_r_5⟩ := bwc6 (k_r)
  obtain ⟨f_r_0, f_r_1, f_r_2, f_r_3, f_r_4, f_r_5⟩ := bwf6 (k_r)
  obtain ⟨c_d_0, c_d_1, c_d_2, c_d_3, c_d_4, c_d_5, c_d_6, c_d_7, c_d_8⟩ := bwc9 (k_d)
  obtain ⟨p2, hp2⟩ : ∃ p : BW W2, p.w = W2 := ⟨BW.start W2, rfl⟩
  rw [← hp2]
  clear hp2
  have t0 : decide (0 < (c : Int)) = true := decide_eq_true (by omega)
  go_upto_region 3 with (fail)
  go_wp2_with (first
    | (go_at_call 15; (with_reducible refine (KC.out _ (bw_below B2 _)).mono ?_); rintro e w2 ⟨u, rfl, KA, hb2⟩; obtain ⟨q, rfl⟩ := bw_take hb2)
    | (go_at_call 17; (with_reducible refine (KA.out _ (Below.refl _ _)).mono ?_); rintro e w3 ⟨rfl, hb3⟩; obtain ⟨q, rfl⟩ := bw_take hb3))
  have kr := bkp6 (k_r.below q.h) (.int .i64 r1) (.int .i64 r2) (.int .i64 r3) (.int .i64 r4) (.int .i64 r5) (.int .i64 r6)
  obtain ⟨rc0, rc1, rc2, rc3, rc4, rc5⟩ := rwc6 kr
  exact bodyPost_ret (v := .agg #[.int .i64 r1, .int .i64 r2, .int .i64 r3, .int .i64 r4, .int .i64 r5, .int .i64 r6]) (by simp [results, Tryz.results23, go_sem, rc0, rc1, rc2, rc3, rc4, rc5]) rfl ⟨rfl, blp6 (bw_below B2 q) (by omega)⟩

set_option maxRecDepth 100000 in
set_option maxHeartbeats 8000000 in
theorem least_node (o b : Option Addr) (bb off n cap m ca nb cb j k : Nat) (n1 n2 n3 n4 n5 n6 fi v1 v2 v3 v4 v5 v6 a1 a2 a3 a4 a5 a6 r1 r2 r3 r4 r5 r6 : Int) (w : World) (hj : j + 1 < n) (hk : k < n) (hbb : bb < w.heap.size) (x0 : w.cell? ⟨bb, off + j * 9, none⟩ = some (.int .i64 n1)) (x1 : w.cell? ⟨bb, off + j * 9 + 1, none⟩ = some (.int .i64 n2)) (x2 : w.cell? ⟨bb, off + j * 9 + 2, none⟩ = some (.int .i64 n3)) (x3 : w.cell? ⟨bb, off + j * 9 + 3, none⟩ = some (.int .i64 n4)) (x4 : w.cell? ⟨bb, off + j * 9 + 4, none⟩ = some (.int .i64 n5)) (x5 : w.cell? ⟨bb, off + j * 9 + 5, none⟩ = some (.int .i64 n6)) (x6 : w.cell? ⟨bb, off + j * 9 + 6, none⟩ = some (.int .i64 fi)) (x7 : w.cell? ⟨bb, off + j * 9 + 7, none⟩ = some (.int .i64 0)) (x8 : w.cell? ⟨bb, off + j * 9 + 8, none⟩ = some (.int .i64 (k : Int))) (y0 : w.cell? ⟨bb, off + (j + 1) * 9, none⟩ = some (.int .i64 v1)) (y1 : w.cell? ⟨bb, off + (j + 1) * 9 + 1, none⟩ = some (.int .i64 v2)) (y2 : w.cell? ⟨bb, off + (j + 1) * 9 + 2, none⟩ = some (.int .i64 v3)) (y3 : w.cell? ⟨bb, off + (j + 1) * 9 + 3, none⟩ = some (.int .i64 v4)) (y4 : w.cell? ⟨bb, off + (j + 1) * 9 + 4, none⟩ = some (.int .i64 v5)) (y5 : w.cell? ⟨bb, off + (j + 1) * 9 + 5, none⟩ = some (.int .i64 v6)) (z0 : w.cell? ⟨bb, off + k * 9, none⟩ = some (.int .i64 a1)) (z1 : w.cell? ⟨bb, off + k * 9 + 1, none⟩ = some (.int .i64 a2)) (z2 : w.cell? ⟨bb, off + k * 9 + 2, none⟩ = some (.int .i64 a3)) (z3 : w.cell? ⟨bb, off + k * 9 + 3, none⟩ = some (.int .i64 a4)) (z4 : w.cell? ⟨bb, off + k * 9 + 4, none⟩ = some (.int .i64 a5)) (z5 : w.cell? ⟨bb, off + k * 9 + 5, none⟩ = some (.int .i64 a6)) (hn1 : n ≤ 1048576) (KJ : Hid (∀ w, Calls Tryz.prog 29 #[.agg #[.int .i64 v1, .int .i64 v2, .int .i64 v3, .int .i64 v4, .int .i64 v5, .int .i64 v6], .agg #[.int .i64 a1, .int .i64 a2, .int .i64 a3, .int .i64 a4, .int .i64 a5, .int .i64 a6]] w fun en w' => en = .returned (.agg #[.int .i64 r1, .int .i64 r2, .int .i64 r3, .int .i64 r4, .int .i64 r5, .int .i64 r6]) ∧ Below w.heap.size w w')) :
    Calls Tryz.prog 23 #[.agg #[.slice (some ⟨bb, off, none⟩) n cap, .slice o m ca], .int .i64 (j : Int), .slice b nb cb] w fun en w' => en = .returned (.agg #[.int .i64 r1, .int .i64 r2, .int .i64 r3, .int .i64 r4, .int .i64 r5, .int .i64 r6]) ∧ Below w.heap.size w w' := by
  go_enter Tryz.func23, Tryz.ntmps23
  go_upto_region 1 with (fail)
  obtain ⟨W1, hW1⟩ : ∃ W, W = (w.alloc (.cells #[.slice (some ⟨bb, off, none⟩) n cap, .slice o m ca] 28)).alloc (.cells #[.int .i64 0, .int .i64 0, .int .i64 0, .int .i64 0, .int .i64 0, .int .i64 0] 41) := ⟨_, rfl⟩
  obtain ⟨k_t, k_r, B1⟩ := st2 hW1
  rw [← hW1]
  clear hW1
  have l_r : w.heap.size < w.heap.size + 1 := by omega
  generalize w.heap.size + 1 = g_r at *
  obtain ⟨c_t_0, c_t_1⟩ := bwc2 (k_t)
  obtain ⟨c_r_0, c_r_1, c_r_2, c_r_3, c_r_4, c_r_5⟩ := bwc6 (k_r)
  have c_x0 : ∀ p : BW W1, p.w.cell? ⟨bb, off + j * 9, none⟩ = some (.int .i64 n1) := bw_cell ((B1.cell (p := ⟨bb, off + j * 9, none⟩) hbb).trans x0)
  have c_x1 : ∀ p : BW W1, p.w.cell? ⟨bb, off + j * 9 + 1, none⟩ = some (.int .i64 n2) := bw_cell ((B1.cell (p := ⟨bb, off + j * 9 + 1, none⟩) hbb).trans x1)
  have c_x2 : ∀ p : BW W1, p.w.cell? ⟨bb, off + j * 9 + 2, none⟩ = some (.int .i64 n3) := bw_cell ((B1.cell (p := ⟨bb, off + j * 9 + 2, none⟩) hbb).trans x2)
  have c_x3 : ∀ p : BW W1, p.w.cell? ⟨bb, off + j * 9 + 3, none⟩ = some (.int .i64 n4) := bw_cell ((B1.cell (p := ⟨bb, off + j * 9 + 3, none⟩) hbb).trans x3)
  have c_x4 : ∀ p : BW W1, p.w.cell? ⟨bb, off + j * 9 + 4, none⟩ = some (.int .i64 n5) := bw_cell ((B1.cell (p := ⟨bb, off + j * 9 + 4, none⟩) hbb).trans x4)
  have c_x5 : ∀ p : BW W1, p.w.cell? ⟨bb, off + j * 9 + 5, none⟩ = some (.int .i64 n6) := bw_cell ((B1.cell (p := ⟨bb, off + j * 9 + 5, none⟩) hbb).trans x5)
  have c_x6 : ∀ p : BW W1, p.w.cell? ⟨bb, off + j * 9 + 6, none⟩ = some (.int .i64 fi) := bw_cell ((B1.cell (p := ⟨bb, off + j * 9 + 6, none⟩) hbb).trans x6)
  have c_x7 : ∀ p : BW W1, p.w.cell? ⟨bb, off + j * 9 + 7, none⟩ = some (.int .i64 0) := bw_cell ((B1.cell (p := ⟨bb, off + j * 9 + 7, none⟩) hbb).trans x7)
  have c_x8 : ∀ p : BW W1, p.w.cell? ⟨bb, off + j * 9 + 8, none⟩ = some (.int .i64 (k : Int)) := bw_cell ((B1.cell (p := ⟨bb, off + j * 9 + 8, none⟩) hbb).trans x8)
  obtain ⟨p1, hp1⟩ : ∃ p : BW W1, p.w = W1 := ⟨BW.start W1, rfl⟩
  rw [← hp1]
  clear hp1
  go_upto_region 2 with (fail)
  obtain ⟨W2, hW2⟩ : ∃ W, W = p1.w.alloc (.cells #[.int .i64 n1, .int .i64 n2, .int .i64 n3, .int .i64 n4, .int .i64 n5, .int .i64 n6, .int .i64 fi, .int .i64 0, .int .i64 (k : Int)] 43) := ⟨_, rfl⟩
  have B2 : Below w.heap.size w W2 := by rw [hW2]; exact (bw_below B1 p1).alloc (bw_below B1 p1).size _
  have l_d : g_r < p1.w.heap.size := (k_r.below p1.h).lt
  have o_d : w.heap.size ≤ p1.w.heap.size := (bw_below B1 p1).size
  have k_t := bka hW2 (k_t.below p1.h)
  have k_r := bka hW2 (k_r.below p1.h)
  have k_d := bkn hW2
  rw [← hW2]
  clear hW2
  clear B1
  clear c_t_0 c_t_1 c_r_0 c_r_1 c_r_2 c_r_3 c_r_4 c_r_5 c_x0 c_x1 c_x2 c_x3 c_x4 c_x5 c_x6 c_x7 c_x8
  generalize p1.w.heap.size = g_d at *
  obtain ⟨c_t_0, c_t_1⟩ := bwc2 (k_t)
  obtain ⟨c_r_0, c_r_1, c_r_2, c_r_3, c_r_4, c_r_5⟩ := bwc6 (k_r)
  obtain ⟨f_r_0, f_r_1, f_r_2, f_r_3, f_r_4, f_r_5⟩ := bwf6 (k_r)
  obtain ⟨c_d_0, c_d_1, c_d_2, c_d_3, c_d_4, c_d_5, c_d_6, c_d_7, c_d_8⟩ := bwc9 (k_d)
  have c_y0 : ∀ p : BW W2, p.w.cell? ⟨bb, off + (j + 1) * 9, none⟩ = some (.int .i64 v1) := bw_cell ((B2.cell (p := ⟨bb, off + (j + 1) * 9, none⟩) hbb).trans y0)
  have c_y1 : ∀ p : BW W2, p.w.cell? ⟨bb, off + (j + 1) * 9 + 1, none⟩ = some (.int .i64 v2) := bw_cell ((B2.cell (p := ⟨bb, off + (j + 1) * 9 + 1, none⟩) hbb).trans y1)
  have c_y2 : ∀ p : BW W2, p.w.cell? ⟨bb, off + (j + 1) * 9 + 2, none⟩ = some (.int .i64 v3) := bw_cell ((B2.cell (p := ⟨bb, off + (j + 1) * 9 + 2, none⟩) hbb).trans y2)
  have c_y3 : ∀ p : BW W2, p.w.cell? ⟨bb, off + (j + 1) * 9 + 3, none⟩ = some (.int .i64 v4) := bw_cell ((B2.cell (p := ⟨bb, off + (j + 1) * 9 + 3, none⟩) hbb).trans y3)
  have c_y4 : ∀ p : BW W2, p.w.cell? ⟨bb, off + (j + 1) * 9 + 4, none⟩ = some (.int .i64 v5) := bw_cell ((B2.cell (p := ⟨bb, off + (j + 1) * 9 + 4, none⟩) hbb).trans y4)
  have c_y5 : ∀ p : BW W2, p.w.cell? ⟨bb, off + (j + 1) * 9 + 5, none⟩ = some (.int .i64 v6) := bw_cell ((B2.cell (p := ⟨bb, off + (j + 1) * 9 + 5, none⟩) hbb).trans y5)
  have c_z0 : ∀ p : BW W2, p.w.cell? ⟨bb, off + k * 9, none⟩ = some (.int .i64 a1) := bw_cell ((B2.cell (p := ⟨bb, off + k * 9, none⟩) hbb).trans z0)
  have c_z1 : ∀ p : BW W2, p.w.cell? ⟨bb, off + k * 9 + 1, none⟩ = some (.int .i64 a2) := bw_cell ((B2.cell (p := ⟨bb, off + k * 9 + 1, none⟩) hbb).trans z1)
  have c_z2 : ∀ p : BW W2, p.w.cell? ⟨bb, off + k * 9 + 2, none⟩ = some (.int .i64 a3) := bw_cell ((B2.cell (p := ⟨bb, off + k * 9 + 2, none⟩) hbb).trans z2)
  have c_z3 : ∀ p : BW W2, p.w.cell? ⟨bb, off + k * 9 + 3, none⟩ = some (.int .i64 a4) := bw_cell ((B2.cell (p := ⟨bb, off + k * 9 + 3, none⟩) hbb).trans z3)
  have c_z4 : ∀ p : BW W2, p.w.cell? ⟨bb, off + k * 9 + 4, none⟩ = some (.int .i64 a5) := bw_cell ((B2.cell (p := ⟨bb, off + k * 9 + 4, none⟩) hbb).trans z4)
  have c_z5 : ∀ p : BW W2, p.w.cell? ⟨bb, off + k * 9 + 5, none⟩ = some (.int .i64 a6) := bw_cell ((B2.cell (p := ⟨bb, off + k * 9 + 5, none⟩) hbb).trans z5)
  obtain ⟨p2, hp2⟩ : ∃ p : BW W2, p.w = W2 := ⟨BW.start W2, rfl⟩
  rw [← hp2]
  clear hp2
  go_upto_region 4 with (fail)
  refine wp_region_bw_tail 15 (by kernel_rfl) (by kernel_rfl) (by kernel_rfl) ?_
  simp only [List.take_succ_cons, List.take_zero, List.drop_succ_cons, List.drop_zero]
  repeat (go_big_quiet_step (first
    | (go_at_call 29; (first | (with_reducible exact bw_call KJ.out _)))))
  refine wpQuiet_nil ?_
  intro _ hw'
  obtain ⟨q, rfl⟩ := hw'
  go_wp2
  have kr := bkp6 (k_r.below q.h) (.int .i64 r1) (.int .i64 r2) (.int .i64 r3) (.int .i64 r4) (.int .i64 r5) (.int .i64 r6)
  obtain ⟨rc0, rc1, rc2, rc3, rc4, rc5⟩ := rwc6 kr
  exact bodyPost_ret (v := .agg #[.int .i64 r1, .int .i64 r2, .int .i64 r3, .int .i64 r4, .int .i64 r5, .int .i64 r6]) (by simp [results, Tryz.results23, go_sem, rc0, rc1, rc2, rc3, rc4, rc5]) rfl ⟨rfl, blp6 (bw_below B2 q) (by omega)⟩

theorem tree_least (tv : Value) (ns : List Nd) (a : Option Addr) (ord : List Int) (ca : Nat) (b : Option Addr) (cb n j : Nat) (P : Nat → Pr) (w : World) (hN : Nodes w tv ns) (ho : IntSlice w a ord.length (fun i => ord.getD i 0)) (hb : Boxes w (.slice b n cb) n (fun k => pBox (P k))) (hj : j < ns.length) (hw : (mWhole ns ord.length).2.2.2.2 = true) (hon : mOnce ord n = true) (hca : ord.length ≤ ca) (hm : ord.length ≤ 1024) (hns : ns.length ≤ 1048576) :
    Calls Tryz.prog 23 #[.agg #[tv, .slice a ord.length ca], .int .i64 (j : Int), .slice b n cb] w fun en w' => en = .returned (.agg #[.int .i64 (mLeast ns P ord ns[j] j).1.1, .int .i64 (mLeast ns P ord ns[j] j).1.2.1, .int .i64 (mLeast ns P ord ns[j] j).1.2.2, .int .i64 (mLeast ns P ord ns[j] j).2.1, .int .i64 (mLeast ns P ord ns[j] j).2.2.1, .int .i64 (mLeast ns P ord ns[j] j).2.2.2]) ∧ Below w.heap.size w w' := by
  obtain ⟨av, cv, rfl⟩ := nodes_val hN
  obtain ⟨bb, off, rfl, hbb, x0, x1, x2, x3, x4, x5, x6, x7, x8⟩ := nodes_at hN hj
  by_cases hc : ns[j].2.2.1 = 0
  · obtain ⟨k, e1, e2, e3, e4, e5, e6, e7, e8, e9, e10⟩ := node_two hw hj hc
    obtain ⟨_, _, q1, _, y0, y1, y2, y3, y4, y5, _⟩ := nodes_at hN (show j + 1 < ns.length by omega)
    cases q1
    obtain ⟨_, _, q2, _, z0, z1, z2, z3, z4, z5, _⟩ := nodes_at hN e3
    cases q2
    have hL : mLeast ns P ord ns[j] j = bJoin ns[j + 1].1 ns[k].1 := by
      unfold mLeast
      rw [if_neg (by omega), e1, getD_at (show j + 1 < ns.length by omega), show ((k : Int)).toNat = k by omega, getD_at e3]
    rw [hL]
    rw [hc] at x7
    rw [e1] at x8
    generalize ns[j + 1] = d1 at *
    generalize ns[k] = d2 at *
    obtain ⟨⟨⟨v1, v2, v3⟩, v4, v5, v6⟩, _⟩ := d1
    obtain ⟨⟨⟨a1, a2, a3⟩, a4, a5, a6⟩, _⟩ := d2
    exact least_node a b bb off ns.length cv ord.length ca n cb j k _ _ _ _ _ _ _ v1 v2 v3 v4 v5 v6 a1 a2 a3 a4 a5 a6 _ _ _ _ _ _ w (by omega) e3 hbb x0 x1 x2 x3 x4 x5 x6 x7 x8 y0 y1 y2 y3 y4 y5 z0 z1 z2 z3 z4 z5 hns (Lib.hid fun w => box_Join v1 v2 v3 v4 v5 v6 a1 a2 a3 a4 a5 a6 w)
  · obtain ⟨e1, e2, e3, e4, e5⟩ := node_leaf hw hj hc
    obtain ⟨bo, oo, rfl, hoc, hob⟩ := ho.resolve_left (by omega)
    obtain ⟨f, hf⟩ : ∃ f : Nat, ns[j].2.1 = (f : Int) := ⟨ns[j].2.1.toNat, by omega⟩
    obtain ⟨c, hcc⟩ : ∃ c : Nat, ns[j].2.2.1 = (c : Int) := ⟨ns[j].2.2.1.toNat, by omega⟩
    have hfc : f + c ≤ ord.length := by omega
    have hL : mLeast ns P ord ns[j] j = bAll (fun k => pBox (P (ord.getD (f + k) 0).toNat)) c := by
      unfold mLeast mAt mBox
      rw [if_pos e1, hf, hcc, show ((f : Int)).toNat = f by omega, show ((f : Int) + (c : Int) - (f : Int)).toNat = c by omega]
    rw [hL]
    rw [hf] at x6
    rw [hcc] at x7
    refine least_leaf bo oo b bb off ns.length cv ord.length ca n cb j f c _ _ _ _ _ _ _ _ _ _ _ _ _ w hj hbb x0 x1 x2 x3 x4 x5 x6 x7 x8 (by omega) hfc hca (by omega) hns (Lib.hid fun X hX => ?_)
    refine (tree_chosen_box b (some ⟨bo, oo + f, none⟩) n cb c (ca - f) (fun k => pBox (P k)) (fun k => ord.getD (f + k) 0) X (hb.below hX (Nat.le_refl _)) (.inr ⟨bo, oo + f, rfl, fun k hk => ?_, Nat.lt_of_lt_of_le hob hX.size⟩) (fun k hk => mOnce_in hon (f + k) (by omega)) (by omega)).mono fun e w' h => ?_
    · have := hoc (f + k) (by omega)
      rw [Nat.add_assoc]
      exact ⟨(hX.cell (p := ⟨bo, oo + (f + k), none⟩) hob).trans this.1, this.2⟩
    · obtain ⟨u, rfl, hu, hB⟩ := h
      refine ⟨u, rfl, Lib.hid fun Y hY => ?_, hB⟩
      obtain ⟨hbx, au, cu, rfl⟩ := boxrow_boxes (hu.below hY) (by omega)
      exact tree_around au c cu (fun k => pBox (P (ord.getD (f + k) 0).toNat)) Y hbx (by omega) (by omega)

end
end Go.Proofs.YtomlcglnkdfemaaGreat
