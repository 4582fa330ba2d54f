/- Contracts of the document's own answers, layer 19: may, face, corner, put. -/
import Derived.Test.YtneacfhoinaeeaaMa31
import Derived.Test.YtneacfhoinaeeaaMa24
import Derived.Test.YtneacfhoinaeeaaMa27
import Derived.Test.YtneacfhoinaeeaaMa9
import Derived.Deep.DeepCutAuto
import Derived.IntWalk


namespace Go.Proofs.Ytneacfhoinaeeaa
section

open Go.RowKit Go.Proofs.Sky

set_option linter.unusedVariables false

set_option linter.unusedSimpArgs false

def faceL (a b c d : T3) : List T3 := [a, b, c, a, c, d]

def cor3 (V : Nat → T3) (t : Tg) : List T3 := [V t.1, V t.2.1, V t.2.2]

theorem flat_at19 {α β : Type} (f : α → List β) (c : Nat) (hf : ∀ x, (f x).length = c) : ∀ (l : List α) (i : Nat) (h : i < l.length) (j : Nat), j < c → (l.flatMap f)[i * c + j]? = (f l[i])[j]?
  | [], i, h, j, hj => by simp at h
  | x :: l, 0, h, j, hj => by
    rw [List.flatMap_cons, Nat.zero_mul, Nat.zero_add, List.getElem?_append_left (by rw [hf]; exact hj)]
    rfl
  | x :: l, i + 1, h, j, hj => by
    have h' : i < l.length := by simpa using h
    rw [List.flatMap_cons, List.getElem?_append_right (by rw [hf, Nat.succ_mul]; omega), hf, show (i + 1) * c + j - c = i * c + j by rw [Nat.succ_mul]; omega]
    exact flat_at19 f c hf l i h' j hj

theorem put_5 {U : Nat → T3} {tr : List Tg} {m : Int} {t : Tg} (ht : t ∈ tr) (h : tPlc U t = false) : mPut U tr m = ([], 5) := by
  unfold mPut
  rw [if_neg]
  intro e
  rw [List.all_eq_true] at e
  have := e t ht
  rw [h] at this; cases this

theorem put_7 {U : Nat → T3} {tr : List Tg} {m : Int} {t : Tg} (ha : ∀ t ∈ tr, tPlc U t = true) (ht : t ∈ tr) (h : tUp U t = false) : mPut U tr m = ([], 7) := by
  unfold mPut
  rw [if_pos (List.all_eq_true.2 ha), if_neg]
  intro e
  rw [List.all_eq_true] at e
  have := e t ht
  rw [h] at this; cases this

theorem put_0 {U : Nat → T3} {tr : List Tg} {m : Int} (ha : ∀ t ∈ tr, tPlc U t = true) (hb : ∀ t ∈ tr, tUp U t = true) : mPut U tr m = (tr.map (mTri m U), 0) := by
  unfold mPut
  rw [if_pos (List.all_eq_true.2 ha), if_pos (List.all_eq_true.2 hb)]

theorem take_succ19 {α : Type} (l : List α) (k : Nat) (hk : k < l.length) : l.take (k + 1) = l.take k ++ [l[k]] := by
  rw [List.take_add_one, List.getElem?_eq_getElem hk]; rfl

/-- The corners, one by one, of the triangles. -/
def corX (V : Nat → T3) (tr : List Tg) (j : Nat) : T3 := (tr.flatMap (cor3 V)).getD j (0, 0, 0)

theorem corX_at (V : Nat → T3) (tr : List Tg) (k : Nat) (hk : k < tr.length) : corX V tr (k * 3) = V (tr[k]).1 ∧ corX V tr (k * 3 + 1) = V (tr[k]).2.1 ∧ corX V tr (k * 3 + 2) = V (tr[k]).2.2 := by
  have h := flat_at19 (cor3 V) 3 (fun _ => rfl) tr k hk
  unfold corX
  simp only [List.getD_eq_getElem?_getD]
  have h0 := h 0 (by omega)
  have h1 := h 1 (by omega)
  have h2 := h 2 (by omega)
  rw [Nat.add_zero] at h0
  rw [h0, h1, h2]
  exact ⟨rfl, rfl, rfl⟩

theorem corX_row {w : World} {B n cap : Nat} {a : Option Addr} {V : Nat → T3} {tr : List Tg} (h : VRow w B (.slice a n cap) (tr.flatMap (cor3 V))) (hT : tr.length ≤ 1000) : n = tr.length * 3 ∧ (tr.length * 3 = 0 ∨ ∃ g f, a = some ⟨g, f, none⟩ ∧ g < w.heap.size ∧ VcRow w g f (tr.length * 3) (corX V tr)) := by
  have hl : (tr.flatMap (cor3 V)).length = tr.length * 3 := flat_len_const _ 3 _ (fun _ _ => rfl)
  obtain ⟨a', c', e, _, hS⟩ := owns_sll (f := vcells) (l := tr.flatMap (cor3 V)) (fun _ => rfl) (by decide) rfl (by rw [hl]; unfold maxLen; omega) h
  rw [hl] at e
  cases e
  refine ⟨rfl, ?_⟩
  rcases hS with h0 | ⟨b, off, rfl, hb, hc⟩
  · rw [hl] at h0; exact .inl h0
  · refine .inr ⟨b, off, rfl, hb, fun i hi => ?_⟩
    have hi' : i < (tr.flatMap (cor3 V)).length := by rw [hl]; exact hi
    have e : (tr.flatMap (cor3 V))[i] = corX V tr i := by unfold corX; rw [List.getD_eq_getElem?_getD, List.getElem?_eq_getElem hi']; rfl
    have h1 := hc i hi' 0 (by omega)
    have h2 := hc i hi' 1 (by omega)
    have h3 := hc i hi' 2 (by omega)
    rw [e] at h1 h2 h3
    exact ⟨h1, h2, h3⟩

theorem plc_all (V : Nat → T3) (tr : List Tg) (p : P4) (h : ∀ j, j < tr.length * 3 → plc (pPut p (corX V tr j)) = true) : ∀ t ∈ tr, tPlc (fun i => pPut p (V i)) t = true := by
  intro t ht
  obtain ⟨k, hk, rfl⟩ := List.getElem_of_mem ht
  obtain ⟨e0, e1, e2⟩ := corX_at V tr k hk
  have h0 := h (k * 3) (by omega)
  have h1 := h (k * 3 + 1) (by omega)
  have h2 := h (k * 3 + 2) (by omega)
  rw [e0] at h0; rw [e1] at h1; rw [e2] at h2
  unfold tPlc
  dsimp only
  rw [h0, h1, h2]; rfl

theorem plc_one (V : Nat → T3) (tr : List Tg) (p : P4) {j : Nat} (hj : j < tr.length * 3) (h : plc (pPut p (corX V tr j)) = false) : ∃ t ∈ tr, tPlc (fun i => pPut p (V i)) t = false := by
  have hk : j / 3 < tr.length := by omega
  refine ⟨tr[j / 3], List.getElem_mem hk, ?_⟩
  obtain ⟨e0, e1, e2⟩ := corX_at V tr (j / 3) hk
  unfold tPlc
  dsimp only
  have hc : j = j / 3 * 3 ∨ j = j / 3 * 3 + 1 ∨ j = j / 3 * 3 + 2 := by omega
  rcases hc with e | e | e
  · rw [e, e0] at h; rw [h]; rfl
  · rw [e, e1] at h; rw [h]; simp
  · rw [e, e2] at h; rw [h]; simp

set_option maxRecDepth 100000 in
set_option maxHeartbeats 8000000 in
theorem ref19_may (a1 a2 a3 a4 a5 a6 a7 a8 a9 a10 a11 a12 m : Int) (w : World) (hm : I64 m) :
    Calls Try.prog 23 #[.agg #[.int .i64 a1, .int .i64 a2, .int .i64 a3, .int .i64 a4, .int .i64 a5, .int .i64 a6, .int .i64 a7, .int .i64 a8, .int .i64 a9, .int .i64 a10, .int .i64 a11, .int .i64 a12], .int .i64 m] w fun en w' => en = .returned (.bool (mFit ((a1, a2, a3), (a4, a5, a6), (a7, a8, a9), (a10, a11, a12)) m)) ∧ Below w.heap.size w w' := by
  have KR := Lib.hid (fun w => ref8_Right a1 a2 a3 a4 a5 a6 a7 a8 a9 a10 a11 a12 w)
  have HF : Hid (mFit ((a1, a2, a3), (a4, a5, a6), (a7, a8, a9), (a10, a11, a12)) m = (qRight ((a1, a2, a3), (a4, a5, a6), (a7, a8, a9), (a10, a11, a12)) && (decide (0 ≤ m) && decide (m ≤ 63)))) := Lib.hid rfl
  generalize mFit ((a1, a2, a3), (a4, a5, a6), (a7, a8, a9), (a10, a11, a12)) m = F at *
  generalize qRight ((a1, a2, a3), (a4, a5, a6), (a7, a8, a9), (a10, a11, a12)) = R at *
  obtain ⟨m1, m2⟩ := hm
  have ways : R = false ∨ (R = true ∧ decide (0 ≤ m) = false) ∨ (R = true ∧ decide (0 ≤ m) = true ∧ decide (m ≤ 63) = false) ∨ (R = true ∧ decide (0 ≤ m) = true ∧ decide (m ≤ 63) = true) := by
    cases R <;> cases decide (0 ≤ m) <;> cases decide (m ≤ 63) <;> simp
  rcases ways with rfl | ⟨rfl, t1⟩ | ⟨rfl, t1, t2⟩ | ⟨rfl, t1, t2⟩
  · have HE : Hid (F = false) := Lib.hid (by rw [HF.out]; rfl)
    clear HF
    go_enter Try.func23, Try.ntmps23
    go_upto_region 1 with (fail)
    obtain ⟨W1, hW1⟩ : ∃ W, W = w.alloc (.cells #[.int .i64 a1, .int .i64 a2, .int .i64 a3, .int .i64 a4, .int .i64 a5, .int .i64 a6, .int .i64 a7, .int .i64 a8, .int .i64 a9, .int .i64 a10, .int .i64 a11, .int .i64 a12] 25) := ⟨_, rfl⟩
    obtain ⟨k_p, B1⟩ := st1 hW1
    rw [← hW1]
    clear hW1
    obtain ⟨c_p_0, c_p_1, c_p_2, c_p_3, c_p_4, c_p_5, c_p_6, c_p_7, c_p_8, c_p_9, c_p_10, c_p_11⟩ := bwc12 (k_p)
    obtain ⟨p1, hp1⟩ : ∃ p : BW W1, p.w = W1 := ⟨BW.start W1, rfl⟩
    rw [← hp1]
    clear hp1
    go_wp2_with (go_at_call 16; (with_reducible refine (bw_call KR.out _).mono ?_); rintro e w' ⟨rfl, q, rfl⟩)
    go_ret
    exact ⟨by rw [HE.out]; rfl, bw_below B1 q⟩
  · have HE : Hid (F = false) := Lib.hid (by rw [HF.out]; rw [t1]; rfl)
    clear HF
    go_enter Try.func23, Try.ntmps23
    go_upto_region 1 with (fail)
    obtain ⟨W1, hW1⟩ : ∃ W, W = w.alloc (.cells #[.int .i64 a1, .int .i64 a2, .int .i64 a3, .int .i64 a4, .int .i64 a5, .int .i64 a6, .int .i64 a7, .int .i64 a8, .int .i64 a9, .int .i64 a10, .int .i64 a11, .int .i64 a12] 25) := ⟨_, rfl⟩
    obtain ⟨k_p, B1⟩ := st1 hW1
    rw [← hW1]
    clear hW1
    obtain ⟨c_p_0, c_p_1, c_p_2, c_p_3, c_p_4, c_p_5, c_p_6, c_p_7, c_p_8, c_p_9, c_p_10, c_p_11⟩ := bwc12 (k_p)
    obtain ⟨p1, hp1⟩ : ∃ p : BW W1, p.w = W1 := ⟨BW.start W1, rfl⟩
    rw [← hp1]
    clear hp1
    go_wp2_with (go_at_call 16; (with_reducible refine (bw_call KR.out _).mono ?_); rintro e w' ⟨rfl, q, rfl⟩)
    go_ret
    exact ⟨by rw [HE.out]; rfl, bw_below B1 q⟩
  · have HE : Hid (F = false) := Lib.hid (by rw [HF.out]; rw [t1, t2]; rfl)
    clear HF
    go_enter Try.func23, Try.ntmps23
    go_upto_region 1 with (fail)
    obtain ⟨W1, hW1⟩ : ∃ W, W = w.alloc (.cells #[.int .i64 a1, .int .i64 a2, .int .i64 a3, .int .i64 a4, .int .i64 a5, .int .i64 a6, .int .i64 a7, .int .i64 a8, .int .i64 a9, .int .i64 a10, .int .i64 a11, .int .i64 a12] 25) := ⟨_, rfl⟩
    obtain ⟨k_p, B1⟩ := st1 hW1
    rw [← hW1]
    clear hW1
    obtain ⟨c_p_0, c_p_1, c_p_2, c_p_3, c_p_4, c_p_5, c_p_6, c_p_7, c_p_8, c_p_9, c_p_10, c_p_11⟩ := bwc12 (k_p)
    obtain ⟨p1, hp1⟩ : ∃ p : BW W1, p.w = W1 := ⟨BW.start W1, rfl⟩
    rw [← hp1]
    clear hp1
    go_wp2_with (go_at_call 16; (with_reducible refine (bw_call KR.out _).mono ?_); rintro e w' ⟨rfl, q, rfl⟩)
    go_ret
    exact ⟨by rw [HE.out]; rfl, bw_below B1 q⟩
  · have HE : Hid (F = true) := Lib.hid (by rw [HF.out]; rw [t1, t2]; rfl)
    clear HF
    go_enter Try.func23, Try.ntmps23
    go_upto_region 1 with (fail)
    obtain ⟨W1, hW1⟩ : ∃ W, W = w.alloc (.cells #[.int .i64 a1, .int .i64 a2, .int .i64 a3, .int .i64 a4, .int .i64 a5, .int .i64 a6, .int .i64 a7, .int .i64 a8, .int .i64 a9, .int .i64 a10, .int .i64 a11, .int .i64 a12] 25) := ⟨_, rfl⟩
    obtain ⟨k_p, B1⟩ := st1 hW1
    rw [← hW1]
    clear hW1
    obtain ⟨c_p_0, c_p_1, c_p_2, c_p_3, c_p_4, c_p_5, c_p_6, c_p_7, c_p_8, c_p_9, c_p_10, c_p_11⟩ := bwc12 (k_p)
    obtain ⟨p1, hp1⟩ : ∃ p : BW W1, p.w = W1 := ⟨BW.start W1, rfl⟩
    rw [← hp1]
    clear hp1
    go_wp2_with (go_at_call 16; (with_reducible refine (bw_call KR.out _).mono ?_); rintro e w' ⟨rfl, q, rfl⟩)
    go_ret
    exact ⟨by rw [HE.out]; rfl, bw_below B1 q⟩

set_option maxRecDepth 100000 in
set_option maxHeartbeats 8000000 in
theorem ref19_face (a1 a2 a3 b1 b2 b3 c1 c2 c3 d1 d2 d3 : Int) (w : World) :
    Calls Try.prog 24 #[.agg #[.int .i64 a1, .int .i64 a2, .int .i64 a3], .agg #[.int .i64 b1, .int .i64 b2, .int .i64 b3], .agg #[.int .i64 c1, .int .i64 c2, .int .i64 c3], .agg #[.int .i64 d1, .int .i64 d2, .int .i64 d3]] w fun e w' => ∃ g, e = .returned (.slice (some ⟨g, 0, none⟩) 6 6) ∧ w.heap.size ≤ g ∧ Bk w' g 23 ((faceL (a1, a2, a3) (b1, b2, b3) (c1, c2, c3) (d1, d2, d3)).flatMap vcells).toArray ∧ Below w.heap.size w w' := by
  have HT : Hid (((faceL (a1, a2, a3) (b1, b2, b3) (c1, c2, c3) (d1, d2, d3)).flatMap vcells).toArray = #[.int .i64 a1, .int .i64 a2, .int .i64 a3, .int .i64 b1, .int .i64 b2, .int .i64 b3, .int .i64 c1, .int .i64 c2, .int .i64 c3, .int .i64 a1, .int .i64 a2, .int .i64 a3, .int .i64 c1, .int .i64 c2, .int .i64 c3, .int .i64 d1, .int .i64 d2, .int .i64 d3]) := Lib.hid rfl
  generalize ((faceL (a1, a2, a3) (b1, b2, b3) (c1, c2, c3) (d1, d2, d3)).flatMap vcells).toArray = LL at *
  go_enter Try.func24, Try.ntmps24
  go_upto_region 1 with (fail)
  obtain ⟨W1, hW1⟩ : ∃ W, W = (((w.alloc (.cells #[.int .i64 a1, .int .i64 a2, .int .i64 a3] 23)).alloc (.cells #[.int .i64 b1, .int .i64 b2, .int .i64 b3] 23)).alloc (.cells #[.int .i64 c1, .int .i64 c2, .int .i64 c3] 23)).alloc (.cells #[.int .i64 d1, .int .i64 d2, .int .i64 d3] 23) := ⟨_, rfl⟩
  obtain ⟨k_a, k_b, k_c, k_d, B1⟩ := st4 hW1
  rw [← hW1]
  clear hW1
  have l_b : w.heap.size < w.heap.size + 1 := by omega
  have l_c : w.heap.size + 1 < w.heap.size + 1 + 1 := by omega
  have l_d : w.heap.size + 1 + 1 < w.heap.size + 1 + 1 + 1 := by omega
  generalize w.heap.size + 1 + 1 + 1 = g_d at *
  generalize w.heap.size + 1 + 1 = g_c at *
  generalize w.heap.size + 1 = g_b at *
  obtain ⟨c_a_0, c_a_1, c_a_2⟩ := bwc3 (k_a)
  obtain ⟨c_b_0, c_b_1, c_b_2⟩ := bwc3 (k_b)
  obtain ⟨c_c_0, c_c_1, c_c_2⟩ := bwc3 (k_c)
  obtain ⟨c_d_0, c_d_1, c_d_2⟩ := bwc3 (k_d)
  obtain ⟨p1, hp1⟩ : ∃ p : BW W1, p.w = W1 := ⟨BW.start W1, rfl⟩
  rw [← hp1]
  clear hp1
  go_wp2
  go_ret
  refine ⟨_, rfl, (bw_below B1 p1).size, ?_, (bw_below B1 p1).alloc (bw_below B1 p1).size _⟩
  rw [HT.out]
  exact Bk.new _ _ _

set_option maxRecDepth 100000 in
set_option maxHeartbeats 8000000 in
theorem ref19_corner (i : Nat) (hi : i < 8) (w : World) :
    Calls Try.prog 25 #[.int .i64 (i : Int)] w fun e w' => e = .returned (.agg #[.int .i64 (cubeV i).1, .int .i64 (cubeV i).2.1, .int .i64 (cubeV i).2.2]) ∧ Below w.heap.size w w' := by
  obtain rfl | rfl | rfl | rfl | rfl | rfl | rfl | rfl : i = 0 ∨ i = 1 ∨ i = 2 ∨ i = 3 ∨ i = 4 ∨ i = 5 ∨ i = 6 ∨ i = 7 := by omega
  · go_enter Try.func25, Try.ntmps25
    go_upto_region 1 with (fail)
    obtain ⟨W1, hW1⟩ : ∃ W, W = w.alloc (.cells #[.int .i64 0, .int .i64 0, .int .i64 0] 23) := ⟨_, rfl⟩
    obtain ⟨k_r, B1⟩ := st1 hW1
    rw [← hW1]
    clear hW1
    obtain ⟨c_r_0, c_r_1, c_r_2⟩ := bwc3 (k_r)
    obtain ⟨f_r_0, f_r_1, f_r_2⟩ := bwf3 (k_r)
    obtain ⟨p1, hp1⟩ : ∃ p : BW W1, p.w = W1 := ⟨BW.start W1, rfl⟩
    rw [← hp1]
    clear hp1
    go_wp2
    have kr := bkp3 (k_r.below p1.h) (.int .i64 (-64)) (.int .i64 (-64)) (.int .i64 (-64))
    obtain ⟨rc0, rc1, rc2⟩ := rwc3 kr
    exact bodyPost_ret (v := .agg #[.int .i64 (-64), .int .i64 (-64), .int .i64 (-64)]) (by simp [results, Try.results25, go_sem, rc0, rc1, rc2]) rfl ⟨rfl, blp3 (bw_below B1 p1) (by omega)⟩
  · go_enter Try.func25, Try.ntmps25
    go_upto_region 1 with (fail)
    obtain ⟨W1, hW1⟩ : ∃ W, W = w.alloc (.cells #[.int .i64 0, .int .i64 0, .int .i64 0] 23) := ⟨_, rfl⟩
    obtain ⟨k_r, B1⟩ := st1 hW1
    rw [← hW1]
    clear hW1
    obtain ⟨c_r_0, c_r_1, c_r_2⟩ := bwc3 (k_r)
    obtain ⟨f_r_0, f_r_1, f_r_2⟩ := bwf3 (k_r)
    obtain ⟨p1, hp1⟩ : ∃ p : BW W1, p.w = W1 := ⟨BW.start W1, rfl⟩
    rw [← hp1]
    clear hp1
    go_wp2
    have kr := bkp3 (k_r.below p1.h) (.int .i64 64) (.int .i64 (-64)) (.int .i64 (-64))
    obtain ⟨rc0, rc1, rc2⟩ := rwc3 kr
    exact bodyPost_ret (v := .agg #[.int .i64 64, .int .i64 (-64), .int .i64 (-64)]) (by simp [results, Try.results25, go_sem, rc0, rc1, rc2]) rfl ⟨rfl, blp3 (bw_below B1 p1) (by omega)⟩
  · go_enter Try.func25, Try.ntmps25
    go_upto_region 1 with (fail)
    obtain ⟨W1, hW1⟩ : ∃ W, W = w.alloc (.cells #[.int .i64 0, .int .i64 0, .int .i64 0] 23) := ⟨_, rfl⟩
    obtain ⟨k_r, B1⟩ := st1 hW1
    rw [← hW1]
    clear hW1
    obtain ⟨c_r_0, c_r_1, c_r_2⟩ := bwc3 (k_r)
    obtain ⟨f_r_0, f_r_1, f_r_2⟩ := bwf3 (k_r)
    obtain ⟨p1, hp1⟩ : ∃ p : BW W1, p.w = W1 := ⟨BW.start W1, rfl⟩
    rw [← hp1]
    clear hp1
    go_wp2
    have kr := bkp3 (k_r.below p1.h) (.int .i64 (-64)) (.int .i64 64) (.int .i64 (-64))
    obtain ⟨rc0, rc1, rc2⟩ := rwc3 kr
    exact bodyPost_ret (v := .agg #[.int .i64 (-64), .int .i64 64, .int .i64 (-64)]) (by simp [results, Try.results25, go_sem, rc0, rc1, rc2]) rfl ⟨rfl, blp3 (bw_below B1 p1) (by omega)⟩
  · go_enter Try.func25, Try.ntmps25
    go_upto_region 1 with (fail)
    obtain ⟨W1, hW1⟩ : ∃ W, W = w.alloc (.cells #[.int .i64 0, .int .i64 0, .int .i64 0] 23) := ⟨_, rfl⟩
    obtain ⟨k_r, B1⟩ := st1 hW1
    rw [← hW1]
    clear hW1
    obtain ⟨c_r_0, c_r_1, c_r_2⟩ := bwc3 (k_r)
    obtain ⟨f_r_0, f_r_1, f_r_2⟩ := bwf3 (k_r)
    obtain ⟨p1, hp1⟩ : ∃ p : BW W1, p.w = W1 := ⟨BW.start W1, rfl⟩
    rw [← hp1]
    clear hp1
    go_wp2
    have kr := bkp3 (k_r.below p1.h) (.int .i64 64) (.int .i64 64) (.int .i64 (-64))
    obtain ⟨rc0, rc1, rc2⟩ := rwc3 kr
    exact bodyPost_ret (v := .agg #[.int .i64 64, .int .i64 64, .int .i64 (-64)]) (by simp [results, Try.results25, go_sem, rc0, rc1, rc2]) rfl ⟨rfl, blp3 (bw_below B1 p1) (by omega)⟩
  · go_enter Try.func25, Try.ntmps25
    go_upto_region 1 with (fail)
    obtain ⟨W1, hW1⟩ : ∃ W, W = w.alloc (.cells #[.int .i64 0, .int .i64 0, .int .i64 0] 23) := ⟨_, rfl⟩
    obtain ⟨k_r, B1⟩ := st1 hW1
    rw [← hW1]
    clear hW1
    obtain ⟨c_r_0, c_r_1, c_r_2⟩ := bwc3 (k_r)
    obtain ⟨f_r_0, f_r_1, f_r_2⟩ := bwf3 (k_r)
    obtain ⟨p1, hp1⟩ : ∃ p : BW W1, p.w = W1 := ⟨BW.start W1, rfl⟩
    rw [← hp1]
    clear hp1
    go_wp2
    have kr := bkp3 (k_r.below p1.h) (.int .i64 (-64)) (.int .i64 (-64)) (.int .i64 64)
    obtain ⟨rc0, rc1, rc2⟩ := rwc3 kr
    exact bodyPost_ret (v := .agg #[.int .i64 (-64), .int .i64 (-64), .int .i64 64]) (by simp [results, Try.results25, go_sem, rc0, rc1, rc2]) rfl ⟨rfl, blp3 (bw_below B1 p1) (by omega)⟩
  · go_enter Try.func25, Try.ntmps25
    go_upto_region 1 with (fail)
    obtain ⟨W1, hW1⟩ : ∃ W, W = w.alloc (.cells #[.int .i64 0, .int .i64 0, .int .i64 0] 23) := ⟨_, rfl⟩
    obtain ⟨k_r, B1⟩ := st1 hW1
    rw [← hW1]
    clear hW1
    obtain ⟨c_r_0, c_r_1, c_r_2⟩ := bwc3 (k_r)
    obtain ⟨f_r_0, f_r_1, f_r_2⟩ := bwf3 (k_r)
    obtain ⟨p1, hp1⟩ : ∃ p : BW W1, p.w = W1 := ⟨BW.start W1, rfl⟩
    rw [← hp1]
    clear hp1
    go_wp2
    have kr := bkp3 (k_r.below p1.h) (.int .i64 64) (.int .i64 (-64)) (.int .i64 64)
    obtain ⟨rc0, rc1, rc2⟩ := rwc3 kr
    exact bodyPost_ret (v := .agg #[.int .i64 64, .int .i64 (-64), .int .i64 64]) (by simp [results, Try.results25, go_sem, rc0, rc1, rc2]) rfl ⟨rfl, blp3 (bw_below B1 p1) (by omega)⟩
  · go_enter Try.func25, Try.ntmps25
    go_upto_region 1 with (fail)
    obtain ⟨W1, hW1⟩ : ∃ W, W = w.alloc (.cells #[.int .i64 0, .int .i64 0, .int .i64 0] 23) := ⟨_, rfl⟩
    obtain ⟨k_r, B1⟩ := st1 hW1
    rw [← hW1]
    clear hW1
    obtain ⟨c_r_0, c_r_1, c_r_2⟩ := bwc3 (k_r)
    obtain ⟨f_r_0, f_r_1, f_r_2⟩ := bwf3 (k_r)
    obtain ⟨p1, hp1⟩ : ∃ p : BW W1, p.w = W1 := ⟨BW.start W1, rfl⟩
    rw [← hp1]
    clear hp1
    go_wp2
    have kr := bkp3 (k_r.below p1.h) (.int .i64 (-64)) (.int .i64 64) (.int .i64 64)
    obtain ⟨rc0, rc1, rc2⟩ := rwc3 kr
    exact bodyPost_ret (v := .agg #[.int .i64 (-64), .int .i64 64, .int .i64 64]) (by simp [results, Try.results25, go_sem, rc0, rc1, rc2]) rfl ⟨rfl, blp3 (bw_below B1 p1) (by omega)⟩
  · go_enter Try.func25, Try.ntmps25
    go_upto_region 1 with (fail)
    obtain ⟨W1, hW1⟩ : ∃ W, W = w.alloc (.cells #[.int .i64 0, .int .i64 0, .int .i64 0] 23) := ⟨_, rfl⟩
    obtain ⟨k_r, B1⟩ := st1 hW1
    rw [← hW1]
    clear hW1
    obtain ⟨c_r_0, c_r_1, c_r_2⟩ := bwc3 (k_r)
    obtain ⟨f_r_0, f_r_1, f_r_2⟩ := bwf3 (k_r)
    obtain ⟨p1, hp1⟩ : ∃ p : BW W1, p.w = W1 := ⟨BW.start W1, rfl⟩
    rw [← hp1]
    clear hp1
    go_wp2
    have kr := bkp3 (k_r.below p1.h) (.int .i64 64) (.int .i64 64) (.int .i64 64)
    obtain ⟨rc0, rc1, rc2⟩ := rwc3 kr
    exact bodyPost_ret (v := .agg #[.int .i64 64, .int .i64 64, .int .i64 64]) (by simp [results, Try.results25, go_sem, rc0, rc1, rc2]) rfl ⟨rfl, blp3 (bw_below B1 p1) (by omega)⟩

set_option maxRecDepth 100000 in
set_option maxHeartbeats 8000000 in
theorem ref19_put (a1 a2 a3 a4 a5 a6 a7 a8 a9 a10 a11 a12 m : Int) (B : Nat) (V : Nat → T3) (tr : List Tg) (ul : Value) (w : World) (hl : VRow w B ul (tr.flatMap (cor3 V))) (hT : tr.length ≤ 1000) :
    Calls Try.prog 26 #[ul, .agg #[.int .i64 a1, .int .i64 a2, .int .i64 a3, .int .i64 a4, .int .i64 a5, .int .i64 a6, .int .i64 a7, .int .i64 a8, .int .i64 a9, .int .i64 a10, .int .i64 a11, .int .i64 a12], .int .i64 m] w fun e w' => ∃ v, e = .returned (.tuple #[v, .int .i64 (mPut (fun i => pPut ((a1, a2, a3), (a4, a5, a6), (a7, a8, a9), (a10, a11, a12)) (V i)) tr m).2]) ∧ PRow w' w.heap.size v (mPut (fun i => pPut ((a1, a2, a3), (a4, a5, a6), (a7, a8, a9), (a10, a11, a12)) (V i)) tr m).1 ∧ Below w.heap.size w w' := by
  obtain ⟨i0, hi0, hz0, hz1, hz2⟩ := info_parts prim_info19
  obtain ⟨al, cl, rfl⟩ := owns_val19 hl
  obtain ⟨hn, hX⟩ := corX_row hl hT
  obtain ⟨T, hTT⟩ : ∃ T, T = tr.length := ⟨_, rfl⟩
  rw [hn, ← hTT]
  have H5 : Hid (∀ j, j < tr.length * 3 → plc (pPut ((a1, a2, a3), (a4, a5, a6), (a7, a8, a9), (a10, a11, a12)) (corX V tr j)) = false → mPut (fun i => pPut ((a1, a2, a3), (a4, a5, a6), (a7, a8, a9), (a10, a11, a12)) (V i)) tr m = ([], 5)) := Lib.hid (fun j hj h => by obtain ⟨t, ht, e⟩ := plc_one V tr ((a1, a2, a3), (a4, a5, a6), (a7, a8, a9), (a10, a11, a12)) hj h; exact put_5 ht e)
  have H7 : Hid (∀ t, (∀ j, j < tr.length * 3 → plc (pPut ((a1, a2, a3), (a4, a5, a6), (a7, a8, a9), (a10, a11, a12)) (corX V tr j)) = true) → t ∈ tr → tUp (fun i => pPut ((a1, a2, a3), (a4, a5, a6), (a7, a8, a9), (a10, a11, a12)) (V i)) t = false → mPut (fun i => pPut ((a1, a2, a3), (a4, a5, a6), (a7, a8, a9), (a10, a11, a12)) (V i)) tr m = ([], 7)) := Lib.hid (fun t ha ht h => put_7 (plc_all V tr ((a1, a2, a3), (a4, a5, a6), (a7, a8, a9), (a10, a11, a12)) ha) ht h)
  have H0 : Hid ((∀ j, j < tr.length * 3 → plc (pPut ((a1, a2, a3), (a4, a5, a6), (a7, a8, a9), (a10, a11, a12)) (corX V tr j)) = true) → (∀ t ∈ tr, tUp (fun i => pPut ((a1, a2, a3), (a4, a5, a6), (a7, a8, a9), (a10, a11, a12)) (V i)) t = true) → mPut (fun i => pPut ((a1, a2, a3), (a4, a5, a6), (a7, a8, a9), (a10, a11, a12)) (V i)) tr m = (tr.map (mTri m (fun i => pPut ((a1, a2, a3), (a4, a5, a6), (a7, a8, a9), (a10, a11, a12)) (V i))), 0)) := Lib.hid (fun ha h => put_0 (plc_all V tr ((a1, a2, a3), (a4, a5, a6), (a7, a8, a9), (a10, a11, a12)) ha) h)
  have HX := Lib.hid hX
  have KP0 := Lib.hid (fun x y z w => ref8_Put a1 a2 a3 a4 a5 a6 a7 a8 a9 a10 a11 a12 x y z w)
  have HTT := Lib.hid hTT
  rw [← hTT] at H5 H7 H0 HX hT
  generalize mPut (fun i => pPut ((a1, a2, a3), (a4, a5, a6), (a7, a8, a9), (a10, a11, a12)) (V i)) tr m = R at *
  have HC := Lib.hid (fun k hk => corX_at V tr k hk)
  obtain ⟨X, hXX⟩ : ∃ X, X = corX V tr := ⟨_, rfl⟩
  rw [← hXX] at H5 H7 H0 HX HC
  clear hXX hl hn hX hTT
  go_enter Try.func26, Try.ntmps26
  go_upto_region 2 with (fail)
  obtain ⟨W1, hW1⟩ : ∃ W, W = w.alloc (.cells #[.int .i64 a1, .int .i64 a2, .int .i64 a3, .int .i64 a4, .int .i64 a5, .int .i64 a6, .int .i64 a7, .int .i64 a8, .int .i64 a9, .int .i64 a10, .int .i64 a11, .int .i64 a12] 25) := ⟨_, rfl⟩
  obtain ⟨k_p, B1⟩ := st1 hW1
  rw [← hW1]
  clear hW1
  go_wp2
  go_loopw [9] (fun i wr => ∃ (k : Nat) (q : BW W1), k ≤ T * 3 ∧ i = .int .i64 k ∧ wr = q.w ∧ Hid (∀ j, j < k → plc (pPut ((a1, a2, a3), (a4, a5, a6), (a7, a8, a9), (a10, a11, a12)) (X j)) = true)) (fun i _ => T * 3 - (intOf i).toNat)
  case atStart => exact ⟨0, BW.start W1, by omega, rfl, rfl, Lib.hid (fun j hj => by omega)⟩
  case round =>
    obtain ⟨k, q0, hk, rfl, rfl, hall⟩ := hrel
    by_cases hlt : k < T * 3
    · obtain ⟨gl, ol, rfl, hgl, hrow⟩ := HX.out.resolve_left (by omega)
      obtain ⟨x0, x1, x2⟩ := hrow k hlt
      have B10 : Below w.heap.size w q0.w := bw_below B1 q0
      have k_p := k_p.below q0.h
      have h5 := H5.out k hlt
      have hal : Hid (plc (pPut ((a1, a2, a3), (a4, a5, a6), (a7, a8, a9), (a10, a11, a12)) (X k)) = true → ∀ j, j < k + 1 → plc (pPut ((a1, a2, a3), (a4, a5, a6), (a7, a8, a9), (a10, a11, a12)) (X j)) = true) := Lib.hid (fun h j hj => by
        by_cases e : j = k
        · rw [e]; exact h
        · exact hall.out j (by omega))
      generalize X k = uk at *
      obtain ⟨u1, u2, u3⟩ := uk
      dsimp only at x0 x1 x2
      have KQ := Lib.hid (fun w => KP0.out u1 u2 u3 w)
      have KP := fun w => ref11_Place (pPut ((a1, a2, a3), (a4, a5, a6), (a7, a8, a9), (a10, a11, a12)) (u1, u2, u3)).1 (pPut ((a1, a2, a3), (a4, a5, a6), (a7, a8, a9), (a10, a11, a12)) (u1, u2, u3)).2.1 (pPut ((a1, a2, a3), (a4, a5, a6), (a7, a8, a9), (a10, a11, a12)) (u1, u2, u3)).2.2 w
      change ∀ w, Calls Try.prog 41 #[_] w (fun en w' => en = .returned (.bool (plc (pPut ((a1, a2, a3), (a4, a5, a6), (a7, a8, a9), (a10, a11, a12)) (u1, u2, u3)))) ∧ Below w.heap.size w w') at KP
      have KP := Lib.hid KP
      have H5k := Lib.hid h5
      clear h5 hrow
      generalize pPut ((a1, a2, a3), (a4, a5, a6), (a7, a8, a9), (a10, a11, a12)) (u1, u2, u3) = pu at *
      obtain ⟨v1, v2, v3⟩ := pu
      dsimp only at KQ KP
      have hq0 := q0.h
      cases hpl : plc (v1, v2, v3) with
      | false =>
        rw [hpl] at KP H5k
        have HR := Lib.hid (H5k.out rfl)
        obtain ⟨W10, hW10⟩ : ∃ W, W = q0.w := ⟨_, rfl⟩
        rw [← hW10] at k_p B10 hq0 ⊢
        obtain ⟨c_p_0, c_p_1, c_p_2, c_p_3, c_p_4, c_p_5, c_p_6, c_p_7, c_p_8, c_p_9, c_p_10, c_p_11⟩ := bwc12 (k_p)
        have c_x0 : ∀ p : BW W10, p.w.cell? ⟨gl, ol + k * 3, none⟩ = some (.int .i64 u1) := bw_cell ((B10.cell (p := ⟨gl, ol + k * 3, none⟩) hgl).trans x0)
        have c_x1 : ∀ p : BW W10, p.w.cell? ⟨gl, ol + k * 3 + 1, none⟩ = some (.int .i64 u2) := bw_cell ((B10.cell (p := ⟨gl, ol + k * 3 + 1, none⟩) hgl).trans x1)
        have c_x2 : ∀ p : BW W10, p.w.cell? ⟨gl, ol + k * 3 + 2, none⟩ = some (.int .i64 u3) := bw_cell ((B10.cell (p := ⟨gl, ol + k * 3 + 2, none⟩) hgl).trans x2)
        obtain ⟨p10, hp10⟩ : ∃ p : BW W10, p.w = W10 := ⟨BW.start W10, rfl⟩
        rw [← hp10]
        clear hp10
        go_upto_region 5 with (fail)
        refine wp_region_bw (by kernel_rfl) (by kernel_rfl) ?_
        repeat (go_big_quiet_step (first
            | (go_at_call 42; (first | (with_reducible exact bw_call KQ.out _)))
            | (go_at_call 41; (first | (with_reducible exact bw_call KP.out _)))))
        refine wpQuiet_nil ?_
        intro _ hw'
        obtain ⟨q, rfl⟩ := hw'
        go_wp2
        exact bodyPost_ret (v := .tuple #[.slice none 0 0, .int .i64 5]) (by simp [results, Try.results26, go_sem]) rfl ⟨_, by rw [HR.out], by rw [HR.out]; exact prow_nil _ _, bw_below B10 q⟩
      | true =>
        rw [hpl] at KP hal
        have hnew := Lib.hid (hal.out rfl)
        obtain ⟨W10, hW10⟩ : ∃ W, W = q0.w := ⟨_, rfl⟩
        rw [← hW10] at k_p B10 hq0 ⊢
        obtain ⟨c_p_0, c_p_1, c_p_2, c_p_3, c_p_4, c_p_5, c_p_6, c_p_7, c_p_8, c_p_9, c_p_10, c_p_11⟩ := bwc12 (k_p)
        have c_x0 : ∀ p : BW W10, p.w.cell? ⟨gl, ol + k * 3, none⟩ = some (.int .i64 u1) := bw_cell ((B10.cell (p := ⟨gl, ol + k * 3, none⟩) hgl).trans x0)
        have c_x1 : ∀ p : BW W10, p.w.cell? ⟨gl, ol + k * 3 + 1, none⟩ = some (.int .i64 u2) := bw_cell ((B10.cell (p := ⟨gl, ol + k * 3 + 1, none⟩) hgl).trans x1)
        have c_x2 : ∀ p : BW W10, p.w.cell? ⟨gl, ol + k * 3 + 2, none⟩ = some (.int .i64 u3) := bw_cell ((B10.cell (p := ⟨gl, ol + k * 3 + 2, none⟩) hgl).trans x2)
        obtain ⟨p10, hp10⟩ : ∃ p : BW W10, p.w = W10 := ⟨BW.start W10, rfl⟩
        rw [← hp10]
        clear hp10
        go_upto_region 5 with (fail)
        refine wp_region_bw (by kernel_rfl) (by kernel_rfl) ?_
        repeat (go_big_quiet_step (first
            | (go_at_call 42; (first | (with_reducible exact bw_call KQ.out _)))
            | (go_at_call 41; (first | (with_reducible exact bw_call KP.out _)))))
        refine wpQuiet_nil ?_
        intro _ hw'
        obtain ⟨q, rfl⟩ := hw'
        go_wp2
        go_roundw
        case rel => exact ⟨k + 1, ⟨q.w, hq0.trans (q.h.mono hq0.size)⟩, by omega, by go_num, rfl, hnew⟩
        case measure => simp [intOf]; omega
    · have hke : k = T * 3 := by omega
      rw [hke] at hall
      clear hke
      have B10 : Below w.heap.size w q0.w := bw_below B1 q0
      have k_p0 := k_p.below q0.h
      clear k_p
      go_wp2
      go_loopw [8, 10] (fun u i wr => ∃ (k : Nat), k ≤ T ∧ i = .int .i64 ((k * 3 : Nat) : Int) ∧ PRow wr w.heap.size u ((tr.take k).map (mTri m (fun i => pPut ((a1, a2, a3), (a4, a5, a6), (a7, a8, a9), (a10, a11, a12)) (V i)))) ∧ Bk wr w.heap.size 25 #[.int .i64 a1, .int .i64 a2, .int .i64 a3, .int .i64 a4, .int .i64 a5, .int .i64 a6, .int .i64 a7, .int .i64 a8, .int .i64 a9, .int .i64 a10, .int .i64 a11, .int .i64 a12] ∧ Below w.heap.size w wr ∧ Hid (∀ t ∈ tr.take k, tUp (fun i => pPut ((a1, a2, a3), (a4, a5, a6), (a7, a8, a9), (a10, a11, a12)) (V i)) t = true)) (fun _ i _ => T * 3 - (intOf i).toNat)
      case atStart => exact ⟨0, by omega, rfl, prow_nil _ _, k_p0, B10, Lib.hid (fun t ht => by simp at ht)⟩
      case round =>
        clear k_p0 B10 B1
        obtain ⟨k2, hk2, rfl, hrow, k_p, B10, hup⟩ := hrel
        by_cases hlt2 : k2 < T
        · have hkl : k2 < tr.length := by rw [← HTT.out]; exact hlt2
          obtain ⟨gl, ol, rfl, hgl, hrw⟩ := HX.out.resolve_left (by omega)
          obtain ⟨e1, e2, e3⟩ := HC.out k2 hkl
          obtain ⟨x0, x1, x2⟩ := hrw (k2 * 3) (by omega)
          obtain ⟨y0, y1, y2⟩ := hrw (k2 * 3 + 1) (by omega)
          obtain ⟨z0, z1, z2⟩ := hrw (k2 * 3 + 2) (by omega)
          rw [e1] at x0 x1 x2
          rw [e2] at y0 y1 y2
          rw [e3] at z0 z1 z2
          have htk := take_succ19 tr k2 hkl
          have hmem := List.getElem_mem hkl
          clear e1 e2 e3 hrw
          obtain ⟨t, ht⟩ : ∃ t, t = tr[k2] := ⟨_, rfl⟩
          rw [← ht] at x0 x1 x2 y0 y1 y2 z0 z1 z2 htk hmem
          clear ht
          obtain ⟨j1, j2, j3⟩ := t
          dsimp only at x0 x1 x2 y0 y1 y2 z0 z1 z2
          have H7k := H7.out (j1, j2, j3) hall.out hmem
          have hUP : tUp (fun i => pPut ((a1, a2, a3), (a4, a5, a6), (a7, a8, a9), (a10, a11, a12)) (V i)) (j1, j2, j3) = !tFlat (pPut ((a1, a2, a3), (a4, a5, a6), (a7, a8, a9), (a10, a11, a12)) (V j1)) (pPut ((a1, a2, a3), (a4, a5, a6), (a7, a8, a9), (a10, a11, a12)) (V j2)) (pPut ((a1, a2, a3), (a4, a5, a6), (a7, a8, a9), (a10, a11, a12)) (V j3)) := rfl
          have hTRI : mTri m (fun i => pPut ((a1, a2, a3), (a4, a5, a6), (a7, a8, a9), (a10, a11, a12)) (V i)) (j1, j2, j3) = ⟨1, pPut ((a1, a2, a3), (a4, a5, a6), (a7, a8, a9), (a10, a11, a12)) (V j1), pPut ((a1, a2, a3), (a4, a5, a6), (a7, a8, a9), (a10, a11, a12)) (V j2), pPut ((a1, a2, a3), (a4, a5, a6), (a7, a8, a9), (a10, a11, a12)) (V j3), 0, m⟩ := rfl
          rw [hUP] at H7k
          have hlen : ((tr.take k2).map (mTri m (fun i => pPut ((a1, a2, a3), (a4, a5, a6), (a7, a8, a9), (a10, a11, a12)) (V i)))).length = k2 := by rw [List.length_map, List.length_take]; omega
          have HS : Hid ((tr.take (k2 + 1)).map (mTri m (fun i => pPut ((a1, a2, a3), (a4, a5, a6), (a7, a8, a9), (a10, a11, a12)) (V i))) = (tr.take k2).map (mTri m (fun i => pPut ((a1, a2, a3), (a4, a5, a6), (a7, a8, a9), (a10, a11, a12)) (V i))) ++ [⟨1, pPut ((a1, a2, a3), (a4, a5, a6), (a7, a8, a9), (a10, a11, a12)) (V j1), pPut ((a1, a2, a3), (a4, a5, a6), (a7, a8, a9), (a10, a11, a12)) (V j2), pPut ((a1, a2, a3), (a4, a5, a6), (a7, a8, a9), (a10, a11, a12)) (V j3), 0, m⟩]) := Lib.hid (by rw [htk, List.map_append, List.map_cons, List.map_nil, hTRI])
          have HN : Hid ((!tFlat (pPut ((a1, a2, a3), (a4, a5, a6), (a7, a8, a9), (a10, a11, a12)) (V j1)) (pPut ((a1, a2, a3), (a4, a5, a6), (a7, a8, a9), (a10, a11, a12)) (V j2)) (pPut ((a1, a2, a3), (a4, a5, a6), (a7, a8, a9), (a10, a11, a12)) (V j3))) = true → ∀ t ∈ tr.take (k2 + 1), tUp (fun i => pPut ((a1, a2, a3), (a4, a5, a6), (a7, a8, a9), (a10, a11, a12)) (V i)) t = true) := Lib.hid (fun h t ht => by
            rw [htk] at ht
            rcases List.mem_append.1 ht with h1 | h1
            · exact hup.out t h1
            · rw [List.mem_singleton] at h1
              rw [h1, hUP]
              exact h)
          have H7K := Lib.hid H7k
          clear H7k hUP hTRI htk hmem
          obtain ⟨L, hL⟩ : ∃ L, L = (tr.take k2).map (mTri m (fun i => pPut ((a1, a2, a3), (a4, a5, a6), (a7, a8, a9), (a10, a11, a12)) (V i))) := ⟨_, rfl⟩
          rw [← hL] at hrow hlen HS
          clear hL
          have Q1 := Lib.hid (fun w => KP0.out (V j1).1 (V j1).2.1 (V j1).2.2 w)
          have Q2 := Lib.hid (fun w => KP0.out (V j2).1 (V j2).2.1 (V j2).2.2 w)
          have Q3 := Lib.hid (fun w => KP0.out (V j3).1 (V j3).2.1 (V j3).2.2 w)
          have C1 : ∀ j : Nat, Hid (∀ w, Calls Try.prog 42 #[.agg #[.int .i64 a1, .int .i64 a2, .int .i64 a3, .int .i64 a4, .int .i64 a5, .int .i64 a6, .int .i64 a7, .int .i64 a8, .int .i64 a9, .int .i64 a10, .int .i64 a11, .int .i64 a12], .agg #[.int .i64 (V j).1, .int .i64 (V j).2.1, .int .i64 (V j).2.2]] w fun e w' => e = .returned (.agg #[.int .i64 (pPut ((a1, a2, a3), (a4, a5, a6), (a7, a8, a9), (a10, a11, a12)) (V j)).1, .int .i64 (pPut ((a1, a2, a3), (a4, a5, a6), (a7, a8, a9), (a10, a11, a12)) (V j)).2.1, .int .i64 (pPut ((a1, a2, a3), (a4, a5, a6), (a7, a8, a9), (a10, a11, a12)) (V j)).2.2]) ∧ Below w.heap.size w w') := fun j => Lib.hid (fun w => KP0.out (V j).1 (V j).2.1 (V j).2.2 w)
          have Q1 := C1 j1
          have Q2 := C1 j2
          have Q3 := C1 j3
          have KF := fun w => ref11_Flat (pPut ((a1, a2, a3), (a4, a5, a6), (a7, a8, a9), (a10, a11, a12)) (V j1)).1 (pPut ((a1, a2, a3), (a4, a5, a6), (a7, a8, a9), (a10, a11, a12)) (V j1)).2.1 (pPut ((a1, a2, a3), (a4, a5, a6), (a7, a8, a9), (a10, a11, a12)) (V j1)).2.2 (pPut ((a1, a2, a3), (a4, a5, a6), (a7, a8, a9), (a10, a11, a12)) (V j2)).1 (pPut ((a1, a2, a3), (a4, a5, a6), (a7, a8, a9), (a10, a11, a12)) (V j2)).2.1 (pPut ((a1, a2, a3), (a4, a5, a6), (a7, a8, a9), (a10, a11, a12)) (V j2)).2.2 (pPut ((a1, a2, a3), (a4, a5, a6), (a7, a8, a9), (a10, a11, a12)) (V j3)).1 (pPut ((a1, a2, a3), (a4, a5, a6), (a7, a8, a9), (a10, a11, a12)) (V j3)).2.1 (pPut ((a1, a2, a3), (a4, a5, a6), (a7, a8, a9), (a10, a11, a12)) (V j3)).2.2 w
          change ∀ w, Calls Try.prog 43 #[_, _, _] w (fun en w' => en = .returned (.bool (tFlat (pPut ((a1, a2, a3), (a4, a5, a6), (a7, a8, a9), (a10, a11, a12)) (V j1)) (pPut ((a1, a2, a3), (a4, a5, a6), (a7, a8, a9), (a10, a11, a12)) (V j2)) (pPut ((a1, a2, a3), (a4, a5, a6), (a7, a8, a9), (a10, a11, a12)) (V j3)))) ∧ Below w.heap.size w w') at KF
          have HKF := Lib.hid KF
          clear KF C1
          generalize pPut ((a1, a2, a3), (a4, a5, a6), (a7, a8, a9), (a10, a11, a12)) (V j1) = pa at *
          generalize pPut ((a1, a2, a3), (a4, a5, a6), (a7, a8, a9), (a10, a11, a12)) (V j2) = pb at *
          generalize pPut ((a1, a2, a3), (a4, a5, a6), (a7, a8, a9), (a10, a11, a12)) (V j3) = pc at *
          generalize V j1 = ua at *
          generalize V j2 = ub at *
          generalize V j3 = ud at *
          obtain ⟨u1, u2, u3⟩ := ua
          obtain ⟨u4, u5, u6⟩ := ub
          obtain ⟨u7, u8, u9⟩ := ud
          obtain ⟨v1, v2, v3⟩ := pa
          obtain ⟨v4, v5, v6⟩ := pb
          obtain ⟨v7, v8, v9⟩ := pc
          dsimp only at x0 x1 x2 y0 y1 y2 z0 z1 z2 HKF Q1 Q2 Q3
          obtain ⟨ar, cr, rfl⟩ := owns_val19 hrow
          rw [hlen]
          have hrow : PRow wr w.heap.size (.slice ar k2 cr) L := by rw [← hlen]; rw [hlen] at hrow ⊢; exact hrow
          obtain ⟨M, hM⟩ : ∃ M, M = k2 * 3 := ⟨_, rfl⟩
          rw [← hM] at x0 x1 x2 y0 y1 y2 z0 z1 z2 ⊢
          have hMl : M + 3 ≤ T * 3 := by omega
          have HM := Lib.hid hM
          have hM3 : M + 3 = (k2 + 1) * 3 := by omega
          have HM3 := Lib.hid hM3
          clear hM hM3
          have t2 : decide ((M : Int) + 2 < (T : Int) * 3) = true := decide_eq_true (by omega)
          obtain ⟨n1, n2, n3, n4⟩ : (0 : Int) ≤ (M : Int) + 1 ∧ (0 : Int) ≤ (M : Int) + 2 ∧ ((M : Int) + 1).toNat = M + 1 ∧ ((M : Int) + 2).toNat = M + 2 := ⟨by omega, by omega, by omega, by omega⟩
          obtain ⟨w1, w2⟩ : IntKind.i64.wrap ((M : Int) + 1) = (M : Int) + 1 ∧ IntKind.i64.wrap ((M : Int) + 2) = (M : Int) + 2 := ⟨IntWalk.i64_in _ (by omega), IntWalk.i64_in _ (by omega)⟩
          have HWW := Lib.hid (And.intro w1 w2)
          clear w1 w2
          obtain ⟨c_p_0, c_p_1, c_p_2, c_p_3, c_p_4, c_p_5, c_p_6, c_p_7, c_p_8, c_p_9, c_p_10, c_p_11⟩ := bwc12 (k_p)
          have c_x0 : ∀ p : BW wr, p.w.cell? ⟨gl, ol + M * 3, none⟩ = some (.int .i64 u1) := bw_cell ((B10.cell (p := ⟨gl, ol + M * 3, none⟩) hgl).trans x0)
          have c_x1 : ∀ p : BW wr, p.w.cell? ⟨gl, ol + M * 3 + 1, none⟩ = some (.int .i64 u2) := bw_cell ((B10.cell (p := ⟨gl, ol + M * 3 + 1, none⟩) hgl).trans x1)
          have c_x2 : ∀ p : BW wr, p.w.cell? ⟨gl, ol + M * 3 + 2, none⟩ = some (.int .i64 u3) := bw_cell ((B10.cell (p := ⟨gl, ol + M * 3 + 2, none⟩) hgl).trans x2)
          have c_y0 : ∀ p : BW wr, p.w.cell? ⟨gl, ol + (M + 1) * 3, none⟩ = some (.int .i64 u4) := bw_cell ((B10.cell (p := ⟨gl, ol + (M + 1) * 3, none⟩) hgl).trans y0)
          have c_y1 : ∀ p : BW wr, p.w.cell? ⟨gl, ol + (M + 1) * 3 + 1, none⟩ = some (.int .i64 u5) := bw_cell ((B10.cell (p := ⟨gl, ol + (M + 1) * 3 + 1, none⟩) hgl).trans y1)
          have c_y2 : ∀ p : BW wr, p.w.cell? ⟨gl, ol + (M + 1) * 3 + 2, none⟩ = some (.int .i64 u6) := bw_cell ((B10.cell (p := ⟨gl, ol + (M + 1) * 3 + 2, none⟩) hgl).trans y2)
          have c_z0 : ∀ p : BW wr, p.w.cell? ⟨gl, ol + (M + 2) * 3, none⟩ = some (.int .i64 u7) := bw_cell ((B10.cell (p := ⟨gl, ol + (M + 2) * 3, none⟩) hgl).trans z0)
          have c_z1 : ∀ p : BW wr, p.w.cell? ⟨gl, ol + (M + 2) * 3 + 1, none⟩ = some (.int .i64 u8) := bw_cell ((B10.cell (p := ⟨gl, ol + (M + 2) * 3 + 1, none⟩) hgl).trans z1)
          have c_z2 : ∀ p : BW wr, p.w.cell? ⟨gl, ol + (M + 2) * 3 + 2, none⟩ = some (.int .i64 u9) := bw_cell ((B10.cell (p := ⟨gl, ol + (M + 2) * 3 + 2, none⟩) hgl).trans z2)
          obtain ⟨p10, hp10⟩ : ∃ p : BW wr, p.w = wr := ⟨BW.start wr, rfl⟩
          rw [← hp10]
          clear hp10
          go_upto_region 10 with (fail)
          obtain ⟨w1, w2⟩ := HWW.out
          refine wp_region_float (t := 45) (zs := #[.int .i64 0, .int .i64 0, .int .i64 0, .int .i64 0, .int .i64 0, .int .i64 0, .int .i64 0, .int .i64 0, .int .i64 0, .int .i64 0, .int .i64 0, .int .i64 0]) 23 22 11 67 (by kernel_rfl) (by kernel_rfl) (by kernel_rfl) (by kernel_rfl) (by kernel_rfl) rfl ?_ ?_
          · intro ev wx
            simp [execOp, go_sem]
          apply Exists.intro
          refine ⟨?_, ?_⟩
          · intro wb' hwb'
            obtain ⟨d_p_0, d_p_1, d_p_2, d_p_3, d_p_4, d_p_5, d_p_6, d_p_7, d_p_8, d_p_9, d_p_10, d_p_11⟩ := bwc12 (k_p.below hwb')
            have d_x0 : ∀ q : BW wb', q.w.cell? ⟨gl, ol + M * 3, none⟩ = some (.int .i64 u1) := bw_cell ((hwb'.cell (p := ⟨gl, ol + M * 3, none⟩) (Nat.lt_of_lt_of_le hgl B10.size)).trans ((B10.cell (p := ⟨gl, ol + M * 3, none⟩) hgl).trans x0))
            have d_x1 : ∀ q : BW wb', q.w.cell? ⟨gl, ol + M * 3 + 1, none⟩ = some (.int .i64 u2) := bw_cell ((hwb'.cell (p := ⟨gl, ol + M * 3 + 1, none⟩) (Nat.lt_of_lt_of_le hgl B10.size)).trans ((B10.cell (p := ⟨gl, ol + M * 3 + 1, none⟩) hgl).trans x1))
            have d_x2 : ∀ q : BW wb', q.w.cell? ⟨gl, ol + M * 3 + 2, none⟩ = some (.int .i64 u3) := bw_cell ((hwb'.cell (p := ⟨gl, ol + M * 3 + 2, none⟩) (Nat.lt_of_lt_of_le hgl B10.size)).trans ((B10.cell (p := ⟨gl, ol + M * 3 + 2, none⟩) hgl).trans x2))
            have d_y0 : ∀ q : BW wb', q.w.cell? ⟨gl, ol + (M + 1) * 3, none⟩ = some (.int .i64 u4) := bw_cell ((hwb'.cell (p := ⟨gl, ol + (M + 1) * 3, none⟩) (Nat.lt_of_lt_of_le hgl B10.size)).trans ((B10.cell (p := ⟨gl, ol + (M + 1) * 3, none⟩) hgl).trans y0))
            have d_y1 : ∀ q : BW wb', q.w.cell? ⟨gl, ol + (M + 1) * 3 + 1, none⟩ = some (.int .i64 u5) := bw_cell ((hwb'.cell (p := ⟨gl, ol + (M + 1) * 3 + 1, none⟩) (Nat.lt_of_lt_of_le hgl B10.size)).trans ((B10.cell (p := ⟨gl, ol + (M + 1) * 3 + 1, none⟩) hgl).trans y1))
            have d_y2 : ∀ q : BW wb', q.w.cell? ⟨gl, ol + (M + 1) * 3 + 2, none⟩ = some (.int .i64 u6) := bw_cell ((hwb'.cell (p := ⟨gl, ol + (M + 1) * 3 + 2, none⟩) (Nat.lt_of_lt_of_le hgl B10.size)).trans ((B10.cell (p := ⟨gl, ol + (M + 1) * 3 + 2, none⟩) hgl).trans y2))
            have d_z0 : ∀ q : BW wb', q.w.cell? ⟨gl, ol + (M + 2) * 3, none⟩ = some (.int .i64 u7) := bw_cell ((hwb'.cell (p := ⟨gl, ol + (M + 2) * 3, none⟩) (Nat.lt_of_lt_of_le hgl B10.size)).trans ((B10.cell (p := ⟨gl, ol + (M + 2) * 3, none⟩) hgl).trans z0))
            have d_z1 : ∀ q : BW wb', q.w.cell? ⟨gl, ol + (M + 2) * 3 + 1, none⟩ = some (.int .i64 u8) := bw_cell ((hwb'.cell (p := ⟨gl, ol + (M + 2) * 3 + 1, none⟩) (Nat.lt_of_lt_of_le hgl B10.size)).trans ((B10.cell (p := ⟨gl, ol + (M + 2) * 3 + 1, none⟩) hgl).trans z1))
            have d_z2 : ∀ q : BW wb', q.w.cell? ⟨gl, ol + (M + 2) * 3 + 2, none⟩ = some (.int .i64 u9) := bw_cell ((hwb'.cell (p := ⟨gl, ol + (M + 2) * 3 + 2, none⟩) (Nat.lt_of_lt_of_le hgl B10.size)).trans ((B10.cell (p := ⟨gl, ol + (M + 2) * 3 + 2, none⟩) hgl).trans z2))
            simp only [maskAt, List.take_succ_cons, List.take_zero]
            repeat (go_big_quiet_step (first
              | (go_at_call 42; (first | (with_reducible exact bw_call Q1.out _) | (with_reducible exact bw_call Q2.out _) | (with_reducible exact bw_call Q3.out _)))))
            refine wpQuiet_nil ?_
            exact rfl
          intro W11 g_x hW hg k_x
          have hne : (Value.slice ar k2 cr).ownBlock ≠ some g_x := fun e => by have := (World.ownsRow.lt hrow _ e).2; omega
          have hrow := hrow.below hW
          have B11 : Below w.heap.size w W11 := B10.trans (hW.mono B10.size)
          have o_x : w.heap.size ≤ g_x := Nat.le_trans B10.size hg
          have l_x : w.heap.size < g_x := Nat.lt_of_lt_of_le k_p.lt hg
          have k_p := k_p.below hW
          clear hW hg B10
          clear c_p_0 c_p_1 c_p_2 c_p_3 c_p_4 c_p_5 c_p_6 c_p_7 c_p_8 c_p_9 c_p_10 c_p_11 c_x0 c_x1 c_x2 c_y0 c_y1 c_y2 c_z0 c_z1 c_z2
          simp only [List.drop_succ_cons, List.drop_zero, Act.put, List.setIfInBounds_toArray, List.set_cons_zero, List.set_cons_succ]
          clear w1 w2 n1 n2 n3 n4 x0 x1 x2 y0 y1 y2 z0 z1 z2
          obtain ⟨c_p_0, c_p_1, c_p_2, c_p_3, c_p_4, c_p_5, c_p_6, c_p_7, c_p_8, c_p_9, c_p_10, c_p_11⟩ := bwc12 (k_p)
          obtain ⟨c_x_0, c_x_1, c_x_2, c_x_3, c_x_4, c_x_5, c_x_6, c_x_7, c_x_8, c_x_9, c_x_10, c_x_11⟩ := bwc12 (k_x)
          obtain ⟨f_x_0, f_x_1, f_x_2, f_x_3, f_x_4, f_x_5, f_x_6, f_x_7, f_x_8, f_x_9, f_x_10, f_x_11⟩ := bwf12 (k_x)
          obtain ⟨p11, hp11⟩ : ∃ p : BW W11, p.w = W11 := ⟨BW.start W11, rfl⟩
          rw [← hp11]
          clear hp11
          go_upto_region 11 with (fail)
          obtain ⟨W12, hW12⟩ : ∃ W, W = (((((((((((p11.w.setCell ⟨g_x, 0, none⟩ (.int .i64 1)).setCell ⟨g_x, 1, none⟩ (.int .i64 v1)).setCell ⟨g_x, 2, none⟩ (.int .i64 v2)).setCell ⟨g_x, 3, none⟩ (.int .i64 v3)).setCell ⟨g_x, 4, none⟩ (.int .i64 v4)).setCell ⟨g_x, 5, none⟩ (.int .i64 v5)).setCell ⟨g_x, 6, none⟩ (.int .i64 v6)).setCell ⟨g_x, 7, none⟩ (.int .i64 v7)).setCell ⟨g_x, 8, none⟩ (.int .i64 v8)).setCell ⟨g_x, 9, none⟩ (.int .i64 v9)).setCell ⟨g_x, 10, none⟩ (.int .i64 0)).setCell ⟨g_x, 11, none⟩ (.int .i64 m) := ⟨_, rfl⟩
          have B12 : Below w.heap.size w W12 := by rw [hW12]; exact blp12 (bw_below B11 p11) (by omega)
          have k_p := bkoe12 hW12 (k_p.below p11.h) (by omega)
          have k_x := bkpe12 hW12 (k_x.below p11.h)
          have hrow : PRow W12 w.heap.size (.slice ar k2 cr) L := by rw [hW12]; exact (Go.Proofs.Sky.owns_set (a := ⟨g_x, 11, none⟩) (Go.Proofs.Sky.owns_set (a := ⟨g_x, 10, none⟩) (Go.Proofs.Sky.owns_set (a := ⟨g_x, 9, none⟩) (Go.Proofs.Sky.owns_set (a := ⟨g_x, 8, none⟩) (Go.Proofs.Sky.owns_set (a := ⟨g_x, 7, none⟩) (Go.Proofs.Sky.owns_set (a := ⟨g_x, 6, none⟩) (Go.Proofs.Sky.owns_set (a := ⟨g_x, 5, none⟩) (Go.Proofs.Sky.owns_set (a := ⟨g_x, 4, none⟩) (Go.Proofs.Sky.owns_set (a := ⟨g_x, 3, none⟩) (Go.Proofs.Sky.owns_set (a := ⟨g_x, 2, none⟩) (Go.Proofs.Sky.owns_set (a := ⟨g_x, 1, none⟩) (Go.Proofs.Sky.owns_set (a := ⟨g_x, 0, none⟩) (hrow.below p11.h) hne) hne) hne) hne) hne) hne) hne) hne) hne) hne) hne) hne)
          rw [← hW12]
          clear hW12
          clear B11
          clear c_p_0 c_p_1 c_p_2 c_p_3 c_p_4 c_p_5 c_p_6 c_p_7 c_p_8 c_p_9 c_p_10 c_p_11 c_x_0 c_x_1 c_x_2 c_x_3 c_x_4 c_x_5 c_x_6 c_x_7 c_x_8 c_x_9 c_x_10 c_x_11 f_x_0 f_x_1 f_x_2 f_x_3 f_x_4 f_x_5 f_x_6 f_x_7 f_x_8 f_x_9 f_x_10 f_x_11
          obtain ⟨c_p_0, c_p_1, c_p_2, c_p_3, c_p_4, c_p_5, c_p_6, c_p_7, c_p_8, c_p_9, c_p_10, c_p_11⟩ := bwc12 (k_p)
          obtain ⟨c_x_0, c_x_1, c_x_2, c_x_3, c_x_4, c_x_5, c_x_6, c_x_7, c_x_8, c_x_9, c_x_10, c_x_11⟩ := bwc12 (k_x)
          obtain ⟨p12, hp12⟩ : ∃ p : BW W12, p.w = W12 := ⟨BW.start W12, rfl⟩
          rw [← hp12]
          clear hp12
          cases hfl : tFlat (v1, v2, v3) (v4, v5, v6) (v7, v8, v9) with
          | true =>
            rw [hfl] at HKF H7K
            have HR := Lib.hid (H7K.out rfl)
            clear hfl
            go_wp2_with (go_at_call 43; (with_reducible refine (bw_call HKF.out _).mono ?_); rintro e w' ⟨rfl, q, rfl⟩)
            exact bodyPost_ret (v := .tuple #[.slice none 0 0, .int .i64 7]) (by simp [results, Try.results26, go_sem]) rfl ⟨_, by rw [HR.out], by rw [HR.out]; exact prow_nil _ _, bw_below B12 q⟩
          | false =>
            rw [hfl] at HKF HN
            have HUP := Lib.hid (HN.out rfl)
            clear hfl
            go_wp2_with (first
              | (go_at_call 43; (with_reducible refine (bw_call HKF.out _).mono ?_); rintro e w' ⟨rfl, q, rfl⟩)
              | (at_builtin; refine wpList_append_at rfl _ _ 26 rfl w.heap.size 45 i0 _ 12 96 Try.underlying26 hi0 hz0 hz1 hz2 rfl (by decide) _ k2 (L.flatMap pcells) rfl (World.ownsRow.alloc (by have h := hrow.below q.h; unfold PRow at h; rw [hlen] at h; exact h) _) ⟨_, 0, none⟩ 1 1 (pcells ⟨1, (v1, v2, v3), (v4, v5, v6), (v7, v8, v9), 0, m⟩) rfl rfl ?g1 ?g2 ?g3 ?g4 ?g5 ?_))
            case g1 => exact cells_new _ #[.int .i64 1, .int .i64 v1, .int .i64 v2, .int .i64 v3, .int .i64 v4, .int .i64 v5, .int .i64 v6, .int .i64 v7, .int .i64 v8, .int .i64 v9, .int .i64 0, .int .i64 m] _
            case g2 => exact pcells_one _
            case g3 => unfold maxLen; omega
            case g4 => omega
            case g5 => have := (bw_below B12 q).size; simp; omega
            intro v' w1 hown hgrow hat
            have hca : World.ownsRow (q.w.alloc (.cells #[.int .i64 1, .int .i64 v1, .int .i64 v2, .int .i64 v3, .int .i64 v4, .int .i64 v5, .int .i64 v6, .int .i64 v7, .int .i64 v8, .int .i64 v9, .int .i64 0, .int .i64 m] 45)) w.heap.size 45 12 (.slice ar k2 cr) k2 (L.flatMap pcells) := World.ownsRow.alloc (by have h := hrow.below q.h; unfold PRow at h; rw [hlen] at h; exact h) _
            have hb1 : Below w.heap.size w w1 := ((bw_below B12 q).alloc (bw_below B12 q).size _).grown hgrow (by have := (bw_below B12 q).size; simp; omega) (fun j ej => (World.ownsRow.lt hca j ej).1)
            have hrow1 : PRow w1 w.heap.size v' (L ++ [⟨1, (v1, v2, v3), (v4, v5, v6), (v7, v8, v9), 0, m⟩]) := by unfold PRow; rw [List.length_append, hlen, List.flatMap_append, List.flatMap_cons, List.flatMap_nil, List.append_nil]; exact hown
            have k_p1 := bk_grown19 hca ((k_p.below q.h).alloc _) (by decide) hgrow
            clear hgrow hat hown hca
            go_wp2
            go_roundw
            case rel => exact ⟨k2 + 1, by omega, (by rw [← HM3.out]; go_num), (by rw [HS.out]; exact hrow1), k_p1, hb1, HUP⟩
            case measure => simp [intOf]; omega
        · have hke2 : k2 = T := by omega
          rw [hke2, HTT.out, List.take_length] at hrow hup
          have HR := Lib.hid (H0.out hall.out hup.out)
          have t2 : decide (((k2 * 3 : Nat) : Int) + 2 < (T : Int) * 3) = false := decide_eq_false (by omega)
          clear hke2
          obtain ⟨ar, cr, rfl⟩ := owns_val19 hrow
          go_wp2
          exact bodyPost_ret (v := .tuple #[.slice ar (tr.map (mTri m (fun i => pPut ((a1, a2, a3), (a4, a5, a6), (a7, a8, a9), (a10, a11, a12)) (V i)))).length cr, .int .i64 0]) (by simp [results, Try.results26, go_sem]) rfl ⟨_, by rw [HR.out], by rw [HR.out]; exact hrow, B10⟩

end
end Go.Proofs.Ytneacfhoinaeeaa
