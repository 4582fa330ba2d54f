/- Contracts of the landed mesh: a frame placed. -/
import Derived.Test.YtneacfhoinaeeaaMc28
import Derived.Test.YtneacfhoinaeeaaMc36
import Derived.Test.YtneacfhoinaeeaaMc26
import Derived.Test.YtneacfhoinaeeaaMc10
import Derived.Deep.DeepCutAuto


namespace Go.Proofs.Ytneacfhoinaeeaa
section

open Go.RowKit Go.Proofs.Sky

set_option linter.unusedVariables false

set_option linter.unusedSimpArgs false

theorem vrow_at {w : World} {B N : Nat} {a : Option Addr} {cap n : Nat} {U : Nat → T3} (h : VRow w B (.slice a n cap) ((List.range N).map U)) (hn : n = N) (h0 : 0 < N) (hm : N ≤ 1000) : ∃ g f, a = some ⟨g, f, none⟩ ∧ g < w.heap.size ∧ VcRow w g f N U := by
  subst hn
  have hl : ((List.range n).map U).length = n := by simp
  obtain ⟨a', c', e, _, hS⟩ := owns_sll (f := vcells) (l := (List.range n).map U) (fun _ => rfl) (by decide) rfl (by rw [hl]; unfold maxLen; omega) h
  rw [hl] at e
  cases e
  rcases hS with h0 | ⟨b, off, rfl, hb, hc⟩
  · rw [hl] at h0; omega
  · refine ⟨b, off, rfl, hb, fun i hi => ?_⟩
    have e : ((List.range n).map U)[i]'(by rw [hl]; exact hi) = U i := by simp
    have h1 := hc i (by rw [hl]; exact hi) 0 (by omega)
    have h2 := hc i (by rw [hl]; exact hi) 1 (by omega)
    have h3 := hc i (by rw [hl]; exact hi) 2 (by omega)
    rw [e] at h1 h2 h3
    exact ⟨h1, h2, h3⟩

theorem trow_at {w : World} {B n : Nat} {a : Option Addr} {cap : Nat} {l : List Tg} (h : TRow w B (.slice a n cap) l) (hm : l.length ≤ 1000) {k : Nat} (hk : k < l.length) : ∃ g f, a = some ⟨g, f, none⟩ ∧ g < w.heap.size ∧ w.cell? ⟨g, f + k * 3, none⟩ = some (.int .i64 ((l[k]).1 : Int)) ∧ w.cell? ⟨g, f + k * 3 + 1, none⟩ = some (.int .i64 ((l[k]).2.1 : Int)) ∧ w.cell? ⟨g, f + k * 3 + 2, none⟩ = some (.int .i64 ((l[k]).2.2 : Int)) := by
  obtain ⟨a', c', e, _, hS⟩ := owns_sll (f := tcells) (l := l) (fun _ => rfl) (by decide) rfl (by unfold maxLen; omega) h
  cases e
  rcases hS with h0 | ⟨b, off, rfl, hb, hc⟩
  · omega
  · exact ⟨b, off, rfl, hb, hc k hk 0 (by omega), hc k hk 1 (by omega), hc k hk 2 (by omega)⟩

theorem placed_5 {U : Nat → T3} {N : Nat} {tr : List Tg} {m : Int} {j : Nat} (hj : j < N) (h : plc (U j) = false) : mPlaced U N tr m = ([], 5) := by
  unfold mPlaced
  rw [if_neg]
  intro e
  rw [List.all_eq_true] at e
  have := e j (List.mem_range.2 hj)
  rw [h] at this; cases this

theorem placed_7 {U : Nat → T3} {N : Nat} {tr : List Tg} {m : Int} {t : Tg} (ha : ∀ j, j < N → plc (U j) = true) (ht : t ∈ tr) (h : tUp U t = false) : mPlaced U N tr m = ([], 7) := by
  unfold mPlaced
  rw [if_pos (List.all_eq_true.2 fun i hi => ha i (List.mem_range.1 hi)), if_neg]
  intro e
  rw [List.all_eq_true] at e
  have := e t ht
  rw [h] at this; cases this

theorem placed_0 {U : Nat → T3} {N : Nat} {tr : List Tg} {m : Int} (ha : ∀ j, j < N → plc (U j) = true) (hb : ∀ t ∈ tr, tUp U t = true) : mPlaced U N tr m = (tr.map (mTri m U), 0) := by
  unfold mPlaced
  rw [if_pos (List.all_eq_true.2 fun i hi => ha i (List.mem_range.1 hi)), if_pos (List.all_eq_true.2 hb)]

theorem take_next19 {α : Type} (l : List α) (k : Nat) (hk : k < l.length) : l.take (k + 1) = l.take k ++ [l[k]] := by
  rw [List.take_add_one, List.getElem?_eq_getElem hk]; rfl

theorem plc_I3 {v : T3} (h : plc v = true) : I3 v := by
  rw [plc_iff] at h
  exact ⟨⟨by omega, by omega⟩, ⟨by omega, by omega⟩, ⟨by omega, by omega⟩⟩

set_option maxRecDepth 100000 in
set_option maxHeartbeats 8000000 in
theorem mesh_placed (a1 a2 a3 a4 a5 a6 a7 a8 a9 a10 a11 a12 m : Int) (B N : Nat) (V : Nat → T3) (TL : List Tg) (uc ut : Value) (w : World) (hc : VRow w B uc ((List.range N).map V)) (ht : TRow w B ut TL) (hN0 : 0 < N) (hN : N ≤ 1000) (hT : TL.length ≤ 1000) (huse : ∀ t ∈ TL, t.1 < N ∧ t.2.1 < N ∧ t.2.2 < N) :
    Calls Try.prog 21 #[.agg #[uc, ut], .agg #[.int .i64 a1, .int .i64 a2, .int .i64 a3, .int .i64 a4, .int .i64 a5, .int .i64 a6, .int .i64 a7, .int .i64 a8, .int .i64 a9, .int .i64 a10, .int .i64 a11, .int .i64 a12], .int .i64 m] w fun e w' => ∃ v, e = .returned (.tuple #[v, .int .i64 (mPlaced (fun i => pPut ((a1, a2, a3), (a4, a5, a6), (a7, a8, a9), (a10, a11, a12)) (V i)) N TL m).2]) ∧ PRow w' w.heap.size v (mPlaced (fun i => pPut ((a1, a2, a3), (a4, a5, a6), (a7, a8, a9), (a10, a11, a12)) (V i)) N TL m).1 ∧ Below w.heap.size w w' := by
  obtain ⟨i0, hi0, hz0, hz1, hz2⟩ := info_parts prim_info19
  obtain ⟨ac, cc, rfl⟩ := owns_val19 hc
  obtain ⟨at_, ct, rfl⟩ := owns_val19 ht
  have hlc : ((List.range N).map V).length = N := by simp
  obtain ⟨gc, oc, rfl, hgc, hrow⟩ := vrow_at hc hlc hN0 hN
  rw [hlc]
  obtain ⟨TN, hTN⟩ : ∃ TN, TN = TL.length := ⟨_, rfl⟩
  have ht' : TRow w B (.slice at_ TN ct) TL := by rw [hTN]; exact ht
  rw [← hTN] at hT ⊢
  have KA : Hid (∀ X, Below w.heap.size w X → Calls Try.prog 36 #[.agg #[.int .i64 a1, .int .i64 a2, .int .i64 a3, .int .i64 a4, .int .i64 a5, .int .i64 a6, .int .i64 a7, .int .i64 a8, .int .i64 a9, .int .i64 a10, .int .i64 a11, .int .i64 a12], .slice (some ⟨gc, oc, none⟩) N cc] X fun e w' => ∃ a cap, e = .returned (.slice a N cap) ∧ VRow w' X.heap.size (.slice a N cap) ((List.range N).map (fun i => pPut ((a1, a2, a3), (a4, a5, a6), (a7, a8, a9), (a10, a11, a12)) (V i))) ∧ Below X.heap.size X w') := Lib.hid (fun X hX => (pose_All a1 a2 a3 a4 a5 a6 a7 a8 a9 a10 a11 a12 gc oc cc N V X (hrow.below hX hgc) (Nat.lt_of_lt_of_le hgc hX.size) (by omega)).mono (by
    rintro e w' ⟨v, rfl, hv, hb⟩
    obtain ⟨a, cap, rfl⟩ := owns_val19 hv
    refine ⟨a, cap, rfl, ?_, hb⟩
    unfold VRow
    rw [List.length_map, List.length_range, List.flatMap_map]
    exact hv))
  have H5 : Hid (∀ j, j < N → plc (pPut ((a1, a2, a3), (a4, a5, a6), (a7, a8, a9), (a10, a11, a12)) (V j)) = false → mPlaced (fun i => pPut ((a1, a2, a3), (a4, a5, a6), (a7, a8, a9), (a10, a11, a12)) (V i)) N TL m = ([], 5)) := Lib.hid (fun j hj h => placed_5 hj h)
  have H7 : Hid (∀ t, (∀ j, j < N → plc (pPut ((a1, a2, a3), (a4, a5, a6), (a7, a8, a9), (a10, a11, a12)) (V j)) = true) → t ∈ TL → tUp (fun i => pPut ((a1, a2, a3), (a4, a5, a6), (a7, a8, a9), (a10, a11, a12)) (V i)) t = false → mPlaced (fun i => pPut ((a1, a2, a3), (a4, a5, a6), (a7, a8, a9), (a10, a11, a12)) (V i)) N TL m = ([], 7)) := Lib.hid (fun t ha ht h => placed_7 ha ht h)
  have H0 : Hid ((∀ j, j < N → plc (pPut ((a1, a2, a3), (a4, a5, a6), (a7, a8, a9), (a10, a11, a12)) (V j)) = true) → (∀ t ∈ TL, tUp (fun i => pPut ((a1, a2, a3), (a4, a5, a6), (a7, a8, a9), (a10, a11, a12)) (V i)) t = true) → mPlaced (fun i => pPut ((a1, a2, a3), (a4, a5, a6), (a7, a8, a9), (a10, a11, a12)) (V i)) N TL m = (TL.map (mTri m (fun i => pPut ((a1, a2, a3), (a4, a5, a6), (a7, a8, a9), (a10, a11, a12)) (V i))), 0)) := Lib.hid (fun ha h => placed_0 ha h)
  obtain ⟨U, hU⟩ : ∃ U : Nat → T3, U = fun i => pPut ((a1, a2, a3), (a4, a5, a6), (a7, a8, a9), (a10, a11, a12)) (V i) := ⟨_, rfl⟩
  have hUj : ∀ j, pPut ((a1, a2, a3), (a4, a5, a6), (a7, a8, a9), (a10, a11, a12)) (V j) = U j := fun j => by rw [hU]
  simp only [hUj] at KA H5 H7 H0 ⊢
  change Hid (∀ j, j < N → plc (U j) = false → mPlaced U N TL m = ([], 5)) at H5
  change Hid (∀ t, (∀ j, j < N → plc (U j) = true) → t ∈ TL → tUp U t = false → mPlaced U N TL m = ([], 7)) at H7
  change Hid ((∀ j, j < N → plc (U j) = true) → (∀ t ∈ TL, tUp U t = true) → mPlaced U N TL m = (TL.map (mTri m U), 0)) at H0
  change Calls _ _ _ _ (fun e w' => ∃ v, e = .returned (.tuple #[v, .int .i64 (mPlaced U N TL m).2]) ∧ PRow w' w.heap.size v (mPlaced U N TL m).1 ∧ Below w.heap.size w w')
  generalize mPlaced U N TL m = R at *
  have HU := Lib.hid huse
  have HTN := Lib.hid hTN
  have HTR := Lib.hid ht'
  clear hU hUj huse hTN ht ht' hc hrow hlc
  go_enter Try.func21, Try.ntmps21
  go_upto_region 1 with (fail)
  obtain ⟨W1, hW1⟩ : ∃ W, W = (w.alloc (.cells #[.slice (some ⟨gc, oc, none⟩) N cc, .slice at_ TN ct] 51)).alloc (.cells #[.int .i64 a1, .int .i64 a2, .int .i64 a3, .int .i64 a4, .int .i64 a5, .int .i64 a6, .int .i64 a7, .int .i64 a8, .int .i64 a9, .int .i64 a10, .int .i64 a11, .int .i64 a12] 31) := ⟨_, rfl⟩
  obtain ⟨k_f, k_p, B1⟩ := st2 hW1
  rw [← hW1]
  clear hW1
  have l_p : w.heap.size < w.heap.size + 1 := by omega
  generalize w.heap.size + 1 = g_p at *
  obtain ⟨c_f_0, c_f_1⟩ := bwc2 (k_f)
  obtain ⟨c_p_0, c_p_1, c_p_2, c_p_3, c_p_4, c_p_5, c_p_6, c_p_7, c_p_8, c_p_9, c_p_10, c_p_11⟩ := bwc12 (k_p)
  obtain ⟨p1, hp1⟩ : ∃ p : BW W1, p.w = W1 := ⟨BW.start W1, rfl⟩
  rw [← hp1]
  clear hp1
  go_wp2_with (go_at_call 36; (with_reducible refine (KA.out _ (bw_below B1 _)).mono ?_); rintro e w2 ⟨ab, cb, rfl, hv, hb2⟩; obtain ⟨q, rfl⟩ := bw_take hb2)
  obtain ⟨gb, ob, rfl, hgb, hrow⟩ := vrow_at hv rfl hN0 hN
  obtain ⟨W2, hW2⟩ : ∃ W, W = q.w := ⟨_, rfl⟩
  have B2 : Below w.heap.size w W2 := by rw [hW2]; exact bw_below B1 q
  have k_f : Bk W2 w.heap.size 51 #[.slice (some ⟨gc, oc, none⟩) N cc, .slice at_ TN ct] := by rw [hW2]; exact k_f.below q.h
  rw [← hW2] at hrow hgb ⊢
  clear hW2 KA hv hb2 k_p c_f_0 c_f_1 c_p_0 c_p_1 c_p_2 c_p_3 c_p_4 c_p_5 c_p_6 c_p_7 c_p_8 c_p_9 c_p_10 c_p_11 B1
  have HROW : Hid (VcRow W2 gb ob N U) := Lib.hid hrow
  clear hrow
  have HTR2 : Hid (TRow W2 B (.slice at_ TN ct) TL) := Lib.hid (HTR.out.below B2)
  clear HTR
  go_loopw [23] (fun i wr => ∃ (k : Nat) (q : BW W2), k ≤ N ∧ i = .int .i64 k ∧ wr = q.w ∧ Hid (∀ j, j < k → plc (U j) = true)) (fun i _ => N - (intOf i).toNat)
  case atStart => exact ⟨0, BW.start W2, by omega, rfl, rfl, Lib.hid (fun j hj => by omega)⟩
  case round =>
    obtain ⟨k, q0, hk, rfl, rfl, hall⟩ := hrel
    by_cases hlt : k < N
    · have B10 : Below W2.heap.size W2 q0.w := q0.h
      have KP0 := Lib.hid (fun x y z w => tri_Place x y z w)
      obtain ⟨x0, x1, x2⟩ := HROW.out k hlt
      have hUk : ∀ X, Hid (∀ w, Calls Try.prog 37 #[.agg #[.int .i64 (U k).1, .int .i64 (U k).2.1, .int .i64 (U k).2.2]] w fun en w' => en = .returned (.bool X) ∧ Below w.heap.size w w') ∨ plc (U k) ≠ X := fun X => by
        by_cases e : plc (U k) = X
        · exact .inl (Lib.hid (fun w => by rw [← e]; exact tri_Place _ _ _ w))
        · exact .inr e
      obtain ⟨uk, huk⟩ : ∃ uk, uk = U k := ⟨_, rfl⟩
      have HUK := Lib.hid huk
      rw [← huk] at x0 x1 x2 hUk
      clear KP0 huk
      obtain ⟨u1, u2, u3⟩ := uk
      dsimp only at x0 x1 x2 hUk
      generalize q0.w = wr at *
      cases hpl : plc (u1, u2, u3) with
      | false =>
        have KP := (hUk false).resolve_right (fun h => h hpl)
        have hR := H5.out k hlt (by rw [← HUK.out]; exact hpl)
        have HR := Lib.hid hR
        clear hR hUk hpl
        have c_x0 : ∀ p : BW wr, p.w.cell? ⟨gb, ob + k * 3, none⟩ = some (.int .i64 u1) := bw_cell ((B10.cell (p := ⟨gb, ob + k * 3, none⟩) hgb).trans x0)
        have c_x1 : ∀ p : BW wr, p.w.cell? ⟨gb, ob + k * 3 + 1, none⟩ = some (.int .i64 u2) := bw_cell ((B10.cell (p := ⟨gb, ob + k * 3 + 1, none⟩) hgb).trans x1)
        have c_x2 : ∀ p : BW wr, p.w.cell? ⟨gb, ob + k * 3 + 2, none⟩ = some (.int .i64 u3) := bw_cell ((B10.cell (p := ⟨gb, ob + k * 3 + 2, none⟩) hgb).trans x2)
        obtain ⟨p10, hp10⟩ : ∃ p : BW wr, p.w = wr := ⟨BW.start wr, rfl⟩
        rw [← hp10]
        clear hp10
        go_upto_region 5 with (fail)
        obtain ⟨W11, hW11⟩ : ∃ W, W = p10.w.alloc (.cells #[.int .i64 u1, .int .i64 u2, .int .i64 u3] 23) := ⟨_, rfl⟩
        have B11 : Below W2.heap.size W2 W11 := by rw [hW11]; exact (bw_below B10 p10).alloc (bw_below B10 p10).size _
        have o_d : W2.heap.size ≤ p10.w.heap.size := (bw_below B10 p10).size
        have k_d := bkn hW11
        rw [← hW11]
        clear hW11
        clear B10
        clear c_x0 c_x1 c_x2
        generalize p10.w.heap.size = g_d at *
        obtain ⟨c_d_0, c_d_1, c_d_2⟩ := bwc3 (k_d)
        obtain ⟨p11, hp11⟩ : ∃ p : BW W11, p.w = W11 := ⟨BW.start W11, rfl⟩
        rw [← hp11]
        clear hp11
        go_wp2_with (first
          | (go_at_call 37; (first | (with_reducible refine (bw_call KP.out _).mono ?_)); rintro e w' ⟨rfl, q, rfl⟩))
        exact bodyPost_ret (v := .tuple #[.slice none 0 0, .int .i64 5]) (by simp [results, Try.results21, go_sem]) rfl ⟨_, by rw [HR.out], by rw [HR.out]; exact prow_nil _ _, B2.trans ((bw_below B11 q).mono B2.size)⟩
      | true =>
        have KP := (hUk true).resolve_right (fun h => h hpl)
        have hnew : Hid (∀ j, j < k + 1 → plc (U j) = true) := Lib.hid (fun j hj => by
          by_cases e : j = k
          · rw [e, ← HUK.out]; exact hpl
          · exact hall.out j (by omega))
        clear hUk hpl
        have c_x0 : ∀ p : BW wr, p.w.cell? ⟨gb, ob + k * 3, none⟩ = some (.int .i64 u1) := bw_cell ((B10.cell (p := ⟨gb, ob + k * 3, none⟩) hgb).trans x0)
        have c_x1 : ∀ p : BW wr, p.w.cell? ⟨gb, ob + k * 3 + 1, none⟩ = some (.int .i64 u2) := bw_cell ((B10.cell (p := ⟨gb, ob + k * 3 + 1, none⟩) hgb).trans x1)
        have c_x2 : ∀ p : BW wr, p.w.cell? ⟨gb, ob + k * 3 + 2, none⟩ = some (.int .i64 u3) := bw_cell ((B10.cell (p := ⟨gb, ob + k * 3 + 2, none⟩) hgb).trans x2)
        obtain ⟨p10, hp10⟩ : ∃ p : BW wr, p.w = wr := ⟨BW.start wr, rfl⟩
        rw [← hp10]
        clear hp10
        go_upto_region 5 with (fail)
        obtain ⟨W11, hW11⟩ : ∃ W, W = p10.w.alloc (.cells #[.int .i64 u1, .int .i64 u2, .int .i64 u3] 23) := ⟨_, rfl⟩
        have B11 : Below W2.heap.size W2 W11 := by rw [hW11]; exact (bw_below B10 p10).alloc (bw_below B10 p10).size _
        have o_d : W2.heap.size ≤ p10.w.heap.size := (bw_below B10 p10).size
        have k_d := bkn hW11
        rw [← hW11]
        clear hW11
        clear B10
        clear c_x0 c_x1 c_x2
        generalize p10.w.heap.size = g_d at *
        obtain ⟨c_d_0, c_d_1, c_d_2⟩ := bwc3 (k_d)
        obtain ⟨p11, hp11⟩ : ∃ p : BW W11, p.w = W11 := ⟨BW.start W11, rfl⟩
        rw [← hp11]
        clear hp11
        go_wp2_with (first
          | (go_at_call 37; (first | (with_reducible refine (bw_call KP.out _).mono ?_)); rintro e w' ⟨rfl, q, rfl⟩))
        go_roundw
        case rel => exact ⟨k + 1, ⟨q.w, bw_below B11 q⟩, by omega, by go_num, rfl, hnew⟩
        case measure => simp [intOf]; omega
    · have hke : k = N := by omega
      rw [hke] at hall
      clear hke
      have B10 : Below W2.heap.size W2 q0.w := q0.h
      have k_f10 := k_f.below q0.h
      obtain ⟨p1, hp1⟩ : ∃ p : BW W2, p = q0 := ⟨_, rfl⟩
      obtain ⟨c_f_0, c_f_1⟩ := bwc2 k_f
      clear k_f10 hp1
      go_wp2
      go_loopw [11, 34] (fun u i wr => ∃ (k : Nat), k ≤ TN ∧ i = .int .i64 k ∧ PRow wr W2.heap.size u ((TL.take k).map (mTri m U)) ∧ Below W2.heap.size W2 wr ∧ Hid (∀ t ∈ TL.take k, tUp U t = true)) (fun _ i _ => TN - (intOf i).toNat)
      case atStart => exact ⟨0, by omega, rfl, prow_nil _ _, B10, Lib.hid (fun t ht => by simp at ht)⟩
      case round =>
        clear c_f_0 c_f_1 B10
        obtain ⟨k2, hk2, rfl, hrow, B10, hup⟩ := hrel
        by_cases hlt2 : k2 < TN
        · have hkl : k2 < TL.length := by rw [← HTN.out]; exact hlt2
          obtain ⟨gt, ot, rfl, hgt, t0, t1, t2⟩ := trow_at HTR2.out (by rw [← HTN.out]; exact hT) hkl
          obtain ⟨hb1, hb2, hb3⟩ := HU.out (TL[k2]) (List.getElem_mem hkl)
          have htk := take_next19 TL k2 hkl
          have HMEM := Lib.hid (List.getElem_mem hkl)
          obtain ⟨t, ht⟩ : ∃ t, t = TL[k2] := ⟨_, rfl⟩
          rw [← ht] at t0 t1 t2 hb1 hb2 hb3 htk HMEM
          clear ht
          obtain ⟨j1, j2, j3⟩ := t
          dsimp only at t0 t1 t2 hb1 hb2 hb3
          obtain ⟨x0, x1, x2⟩ := HROW.out j1 hb1
          obtain ⟨y0, y1, y2⟩ := HROW.out j2 hb2
          obtain ⟨z0, z1, z2⟩ := HROW.out j3 hb3
          have hI1 := plc_I3 (hall.out j1 hb1)
          have hI2 := plc_I3 (hall.out j2 hb2)
          have hI3 := plc_I3 (hall.out j3 hb3)
          have KF := fun w => tri_Flat (U j1).1 (U j1).2.1 (U j1).2.2 (U j2).1 (U j2).2.1 (U j2).2.2 (U j3).1 (U j3).2.1 (U j3).2.2 w hI1 hI2 hI3
          change ∀ w, Calls Try.prog 38 #[_, _, _] w (fun en w' => en = .returned (.bool (tFlat (U j1) (U j2) (U j3))) ∧ Below w.heap.size w w') at KF
          have hUP : tUp U (j1, j2, j3) = !tFlat (U j1) (U j2) (U j3) := rfl
          have hTRI : mTri m U (j1, j2, j3) = ⟨1, U j1, U j2, U j3, 0, m⟩ := rfl
          have H7k := H7.out (j1, j2, j3) hall.out HMEM.out
          rw [hUP] at H7k
          have hlen : ((TL.take k2).map (mTri m U)).length = k2 := by rw [List.length_map, List.length_take]; omega
          have HS : Hid ((TL.take (k2 + 1)).map (mTri m U) = (TL.take k2).map (mTri m U) ++ [⟨1, U j1, U j2, U j3, 0, m⟩]) := Lib.hid (by rw [htk, List.map_append, List.map_cons, List.map_nil, hTRI])
          have HN : Hid ((!tFlat (U j1) (U j2) (U j3)) = true → ∀ t ∈ TL.take (k2 + 1), tUp U t = true) := Lib.hid (fun h t ht => by
            rw [htk] at ht
            rcases List.mem_append.1 ht with h1 | h1
            · exact hup.out t h1
            · rw [List.mem_singleton] at h1
              rw [h1, hUP]
              exact h)
          have HKF := Lib.hid KF
          have H7K := Lib.hid H7k
          clear KF H7k hUP hTRI htk hI1 hI2 hI3 HMEM
          generalize U j1 = ua at *
          generalize U j2 = ub at *
          generalize U j3 = ud at *
          obtain ⟨u1, u2, u3⟩ := ua
          obtain ⟨u4, u5, u6⟩ := ub
          obtain ⟨u7, u8, u9⟩ := ud
          dsimp only at x0 x1 x2 y0 y1 y2 z0 z1 z2 HKF
          obtain ⟨L, hL⟩ : ∃ L, L = (TL.take k2).map (mTri m U) := ⟨_, rfl⟩
          rw [← hL] at hrow hlen HS
          clear hL
          obtain ⟨al, cl, rfl⟩ := owns_val19 hrow
          rw [hlen]
          have hrow : PRow wr W2.heap.size (.slice al k2 cl) L := by rw [← hlen]; rw [hlen] at hrow ⊢; exact hrow
          have c_t0 : ∀ p : BW wr, p.w.cell? ⟨gt, ot + k2 * 3, none⟩ = some (.int .i64 (j1 : Int)) := bw_cell ((B10.cell (p := ⟨gt, ot + k2 * 3, none⟩) hgt).trans t0)
          have c_t1 : ∀ p : BW wr, p.w.cell? ⟨gt, ot + k2 * 3 + 1, none⟩ = some (.int .i64 (j2 : Int)) := bw_cell ((B10.cell (p := ⟨gt, ot + k2 * 3 + 1, none⟩) hgt).trans t1)
          have c_t2 : ∀ p : BW wr, p.w.cell? ⟨gt, ot + k2 * 3 + 2, none⟩ = some (.int .i64 (j3 : Int)) := bw_cell ((B10.cell (p := ⟨gt, ot + k2 * 3 + 2, none⟩) hgt).trans t2)
          obtain ⟨p10, hp10⟩ : ∃ p : BW wr, p.w = wr := ⟨BW.start wr, rfl⟩
          rw [← hp10]
          clear hp10
          go_upto_region 12 with (fail)
          have hrow := hrow.below p10.h
          obtain ⟨W11, hW11⟩ : ∃ W, W = p10.w.alloc (.cells #[.int .i64 (j1 : Int), .int .i64 (j2 : Int), .int .i64 (j3 : Int)] 74) := ⟨_, rfl⟩
          have B11 : Below W2.heap.size W2 W11 := by rw [hW11]; exact (bw_below B10 p10).alloc (bw_below B10 p10).size _
          have o_d : W2.heap.size ≤ p10.w.heap.size := (bw_below B10 p10).size
          have hrow := prow_alloc hW11 hrow
          have k_d := bkn hW11
          rw [← hW11]
          clear hW11
          clear B10
          clear c_t0 c_t1 c_t2
          generalize p10.w.heap.size = g_d at *
          obtain ⟨c_d_0, c_d_1, c_d_2⟩ := bwc3 (k_d)
          have c_x0 : ∀ p : BW W11, p.w.cell? ⟨gb, ob + j1 * 3, none⟩ = some (.int .i64 u1) := bw_cell ((B11.cell (p := ⟨gb, ob + j1 * 3, none⟩) hgb).trans x0)
          have c_x1 : ∀ p : BW W11, p.w.cell? ⟨gb, ob + j1 * 3 + 1, none⟩ = some (.int .i64 u2) := bw_cell ((B11.cell (p := ⟨gb, ob + j1 * 3 + 1, none⟩) hgb).trans x1)
          have c_x2 : ∀ p : BW W11, p.w.cell? ⟨gb, ob + j1 * 3 + 2, none⟩ = some (.int .i64 u3) := bw_cell ((B11.cell (p := ⟨gb, ob + j1 * 3 + 2, none⟩) hgb).trans x2)
          have c_y0 : ∀ p : BW W11, p.w.cell? ⟨gb, ob + j2 * 3, none⟩ = some (.int .i64 u4) := bw_cell ((B11.cell (p := ⟨gb, ob + j2 * 3, none⟩) hgb).trans y0)
          have c_y1 : ∀ p : BW W11, p.w.cell? ⟨gb, ob + j2 * 3 + 1, none⟩ = some (.int .i64 u5) := bw_cell ((B11.cell (p := ⟨gb, ob + j2 * 3 + 1, none⟩) hgb).trans y1)
          have c_y2 : ∀ p : BW W11, p.w.cell? ⟨gb, ob + j2 * 3 + 2, none⟩ = some (.int .i64 u6) := bw_cell ((B11.cell (p := ⟨gb, ob + j2 * 3 + 2, none⟩) hgb).trans y2)
          have c_z0 : ∀ p : BW W11, p.w.cell? ⟨gb, ob + j3 * 3, none⟩ = some (.int .i64 u7) := bw_cell ((B11.cell (p := ⟨gb, ob + j3 * 3, none⟩) hgb).trans z0)
          have c_z1 : ∀ p : BW W11, p.w.cell? ⟨gb, ob + j3 * 3 + 1, none⟩ = some (.int .i64 u8) := bw_cell ((B11.cell (p := ⟨gb, ob + j3 * 3 + 1, none⟩) hgb).trans z1)
          have c_z2 : ∀ p : BW W11, p.w.cell? ⟨gb, ob + j3 * 3 + 2, none⟩ = some (.int .i64 u9) := bw_cell ((B11.cell (p := ⟨gb, ob + j3 * 3 + 2, none⟩) hgb).trans z2)
          obtain ⟨p11, hp11⟩ : ∃ p : BW W11, p.w = W11 := ⟨BW.start W11, rfl⟩
          rw [← hp11]
          clear hp11
          refine wp_region_floatS 67 [⟨⟨15, 14, 23, #[.int .i64 0, .int .i64 0, .int .i64 0]⟩, 18, 42, .agg #[.int .i64 u1, .int .i64 u2, .int .i64 u3], #[.int .i64 u1, .int .i64 u2, .int .i64 u3]⟩, ⟨⟨16, 15, 23, #[.int .i64 0, .int .i64 0, .int .i64 0]⟩, 19, 47, .agg #[.int .i64 u4, .int .i64 u5, .int .i64 u6], #[.int .i64 u4, .int .i64 u5, .int .i64 u6]⟩, ⟨⟨17, 16, 23, #[.int .i64 0, .int .i64 0, .int .i64 0]⟩, 20, 52, .agg #[.int .i64 u7, .int .i64 u8, .int .i64 u9], #[.int .i64 u7, .int .i64 u8, .int .i64 u9]⟩] (by kernel_rfl) (by kernel_rfl) (by kernel_rfl) (by kernel_rfl) (by kernel_rfl) (by simp [msk]) (by simp [fvs]) (by kernel_rfl) (by kernel_rfl) ?_ ?_
          · refine ⟨⟨⟨_, rfl, fun ev wx => by simp [execOp, go_sem]⟩, ⟨_, rfl, fun ax wx gx h1 h2 h3 => ?_⟩⟩, ⟨⟨_, rfl, fun ev wx => by simp [execOp, go_sem]⟩, ⟨_, rfl, fun ax wx gx h1 h2 h3 => ?_⟩⟩, ⟨⟨_, rfl, fun ev wx => by simp [execOp, go_sem]⟩, ⟨_, rfl, fun ax wx gx h1 h2 h3 => ?_⟩⟩, trivial⟩
            · exact store_whole rfl h1 h2 h3 (by kernel_rfl) rfl (by simp [Value.oneCell'])
            · exact store_whole rfl h1 h2 h3 (by kernel_rfl) rfl (by simp [Value.oneCell'])
            · exact store_whole rfl h1 h2 h3 (by kernel_rfl) rfl (by simp [Value.oneCell'])
          apply Exists.intro
          refine ⟨?_, ?_, ?_⟩
          · intro wb' hwb'
            obtain ⟨d_d_0, d_d_1, d_d_2⟩ := bwc3 (k_d.below hwb')
            have d_x0 : ∀ q : BW wb', q.w.cell? ⟨gb, ob + j1 * 3, none⟩ = some (.int .i64 u1) := bw_cell ((hwb'.cell (p := ⟨gb, ob + j1 * 3, none⟩) (Nat.lt_of_lt_of_le hgb B11.size)).trans ((B11.cell (p := ⟨gb, ob + j1 * 3, none⟩) hgb).trans x0))
            have d_x1 : ∀ q : BW wb', q.w.cell? ⟨gb, ob + j1 * 3 + 1, none⟩ = some (.int .i64 u2) := bw_cell ((hwb'.cell (p := ⟨gb, ob + j1 * 3 + 1, none⟩) (Nat.lt_of_lt_of_le hgb B11.size)).trans ((B11.cell (p := ⟨gb, ob + j1 * 3 + 1, none⟩) hgb).trans x1))
            have d_x2 : ∀ q : BW wb', q.w.cell? ⟨gb, ob + j1 * 3 + 2, none⟩ = some (.int .i64 u3) := bw_cell ((hwb'.cell (p := ⟨gb, ob + j1 * 3 + 2, none⟩) (Nat.lt_of_lt_of_le hgb B11.size)).trans ((B11.cell (p := ⟨gb, ob + j1 * 3 + 2, none⟩) hgb).trans x2))
            have d_y0 : ∀ q : BW wb', q.w.cell? ⟨gb, ob + j2 * 3, none⟩ = some (.int .i64 u4) := bw_cell ((hwb'.cell (p := ⟨gb, ob + j2 * 3, none⟩) (Nat.lt_of_lt_of_le hgb B11.size)).trans ((B11.cell (p := ⟨gb, ob + j2 * 3, none⟩) hgb).trans y0))
            have d_y1 : ∀ q : BW wb', q.w.cell? ⟨gb, ob + j2 * 3 + 1, none⟩ = some (.int .i64 u5) := bw_cell ((hwb'.cell (p := ⟨gb, ob + j2 * 3 + 1, none⟩) (Nat.lt_of_lt_of_le hgb B11.size)).trans ((B11.cell (p := ⟨gb, ob + j2 * 3 + 1, none⟩) hgb).trans y1))
            have d_y2 : ∀ q : BW wb', q.w.cell? ⟨gb, ob + j2 * 3 + 2, none⟩ = some (.int .i64 u6) := bw_cell ((hwb'.cell (p := ⟨gb, ob + j2 * 3 + 2, none⟩) (Nat.lt_of_lt_of_le hgb B11.size)).trans ((B11.cell (p := ⟨gb, ob + j2 * 3 + 2, none⟩) hgb).trans y2))
            have d_z0 : ∀ q : BW wb', q.w.cell? ⟨gb, ob + j3 * 3, none⟩ = some (.int .i64 u7) := bw_cell ((hwb'.cell (p := ⟨gb, ob + j3 * 3, none⟩) (Nat.lt_of_lt_of_le hgb B11.size)).trans ((B11.cell (p := ⟨gb, ob + j3 * 3, none⟩) hgb).trans z0))
            have d_z1 : ∀ q : BW wb', q.w.cell? ⟨gb, ob + j3 * 3 + 1, none⟩ = some (.int .i64 u8) := bw_cell ((hwb'.cell (p := ⟨gb, ob + j3 * 3 + 1, none⟩) (Nat.lt_of_lt_of_le hgb B11.size)).trans ((B11.cell (p := ⟨gb, ob + j3 * 3 + 1, none⟩) hgb).trans z1))
            have d_z2 : ∀ q : BW wb', q.w.cell? ⟨gb, ob + j3 * 3 + 2, none⟩ = some (.int .i64 u9) := bw_cell ((hwb'.cell (p := ⟨gb, ob + j3 * 3 + 2, none⟩) (Nat.lt_of_lt_of_le hgb B11.size)).trans ((B11.cell (p := ⟨gb, ob + j3 * 3 + 2, none⟩) hgb).trans z2))
            simp only [msk, List.map_cons, List.map_nil, List.cons_append, List.nil_append, maskL, List.foldr_cons, List.foldr_nil, List.length_cons, List.length_nil, Nat.zero_add, Nat.reduceAdd, maskAt, List.take_succ_cons, List.take_zero]
            repeat (go_big_quiet_step (first
              | fail))
            refine wpQuiet_nil ?_
            exact rfl
          · intro v hv
            simp only [List.mem_cons, List.not_mem_nil, or_false] at hv
            rcases hv with rfl | rfl | rfl <;> rfl
          intro W12 st hW hst hne
          obtain ⟨g_a, e_a, hg_a, k_a⟩ := hst 0 _ rfl
          obtain ⟨g_b, e_b, hg_b, k_b⟩ := hst 1 _ rfl
          obtain ⟨g_c, e_c, hg_c, k_c⟩ := hst 2 _ rfl
          have B12 : Below W2.heap.size W2 W12 := B11.trans (hW.mono B11.size)
          have hrow := hrow.below hW
          have k_d := k_d.below hW
          simp only [fvs, List.map_cons, List.map_nil, putAll, Nat.zero_add, Nat.reduceAdd, e_a, e_b, e_c, putO, Act.put, List.setIfInBounds_toArray, List.set_cons_zero, List.set_cons_succ]
          clear hW hst hne B11 hg_a e_a hg_b e_b hg_c e_c
          clear c_d_0 c_d_1 c_d_2 c_x0 c_x1 c_x2 c_y0 c_y1 c_y2 c_z0 c_z1 c_z2
          clear x0 x1 x2 y0 y1 y2 z0 z1 z2 t0 t1 t2
          obtain ⟨c_d_0, c_d_1, c_d_2⟩ := bwc3 (k_d)
          obtain ⟨c_a_0, c_a_1, c_a_2⟩ := bwc3 (k_a)
          obtain ⟨c_b_0, c_b_1, c_b_2⟩ := bwc3 (k_b)
          obtain ⟨c_c_0, c_c_1, c_c_2⟩ := bwc3 (k_c)
          obtain ⟨p12, hp12⟩ : ∃ p : BW W12, p.w = W12 := ⟨BW.start W12, rfl⟩
          rw [← hp12]
          clear hp12
          cases hfl : tFlat (u1, u2, u3) (u4, u5, u6) (u7, u8, u9) with
          | true =>
            rw [hfl] at HKF H7K
            have HR := Lib.hid (H7K.out rfl)
            clear hfl
            go_wp2_with (go_at_call 38; (with_reducible refine (bw_call HKF.out _).mono ?_); rintro e w' ⟨rfl, q, rfl⟩)
            exact bodyPost_ret (v := .tuple #[.slice none 0 0, .int .i64 7]) (by simp [results, Try.results21, go_sem]) rfl ⟨_, by rw [HR.out], by rw [HR.out]; exact prow_nil _ _, B2.trans ((bw_below B12 q).mono B2.size)⟩
          | false =>
            rw [hfl] at HKF HN
            have HUP := Lib.hid (HN.out rfl)
            clear hfl
            go_wp2_with (first
              | (go_at_call 38; (with_reducible refine (bw_call HKF.out _).mono ?_); rintro e w' ⟨rfl, q, rfl⟩)
              | (at_builtin; refine wpList_append_at rfl _ _ 26 rfl W2.heap.size 45 i0 _ 12 96 Try.underlying26 hi0 hz0 hz1 hz2 rfl (by decide) _ k2 (L.flatMap pcells) rfl (World.ownsRow.alloc (by have h := hrow.below q.h; unfold PRow at h; rw [hlen] at h; exact h) _) ⟨_, 0, none⟩ 1 1 (pcells ⟨1, (u1, u2, u3), (u4, u5, u6), (u7, u8, u9), 0, m⟩) rfl rfl ?g1 ?g2 ?g3 ?g4 ?g5 ?_))
            case g1 => exact cells_new _ #[.int .i64 1, .int .i64 u1, .int .i64 u2, .int .i64 u3, .int .i64 u4, .int .i64 u5, .int .i64 u6, .int .i64 u7, .int .i64 u8, .int .i64 u9, .int .i64 0, .int .i64 m] _
            case g2 => exact pcells_one _
            case g3 => unfold maxLen; omega
            case g4 => omega
            case g5 => have := (bw_below B12 q).size; simp; omega
            intro v' w1 hown hgrow hat
            have hca : World.ownsRow (q.w.alloc (.cells #[.int .i64 1, .int .i64 u1, .int .i64 u2, .int .i64 u3, .int .i64 u4, .int .i64 u5, .int .i64 u6, .int .i64 u7, .int .i64 u8, .int .i64 u9, .int .i64 0, .int .i64 m] 45)) W2.heap.size 45 12 (.slice al k2 cl) k2 (L.flatMap pcells) := World.ownsRow.alloc (by have h := hrow.below q.h; unfold PRow at h; rw [hlen] at h; exact h) _
            have hb1 : Below W2.heap.size W2 w1 := ((bw_below B12 q).alloc (bw_below B12 q).size _).grown hgrow (by have := (bw_below B12 q).size; simp; omega) (fun j ej => (World.ownsRow.lt hca j ej).1)
            have hrow1 : PRow w1 W2.heap.size v' (L ++ [⟨1, (u1, u2, u3), (u4, u5, u6), (u7, u8, u9), 0, m⟩]) := by unfold PRow; rw [List.length_append, hlen, List.flatMap_append, List.flatMap_cons, List.flatMap_nil, List.append_nil]; exact hown
            clear hgrow hat hown hca
            go_wp2
            go_roundw
            case rel => exact ⟨k2 + 1, by omega, by go_num, (by rw [HS.out]; exact hrow1), hb1, HUP⟩
            case measure => simp [intOf]; omega
        · have hke2 : k2 = TN := by omega
          rw [hke2, HTN.out, List.take_length] at hrow hup
          have HR := Lib.hid (H0.out hall.out hup.out)
          clear hke2
          obtain ⟨al, cl, rfl⟩ := owns_val19 hrow
          go_wp2
          exact bodyPost_ret (v := .tuple #[.slice al (TL.map (mTri m U)).length cl, .int .i64 0]) (by simp [results, Try.results21, go_sem]) rfl ⟨_, by rw [HR.out], by rw [HR.out]; exact owns_mono hrow B2.size, B2.trans (B10.mono B2.size)⟩

end
end Go.Proofs.Ytneacfhoinaeeaa
