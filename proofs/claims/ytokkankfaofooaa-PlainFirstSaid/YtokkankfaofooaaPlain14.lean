/- Contracts of package plain: the exported functions, and first. -/
import Derived.Test.YtokkankfaofooaaPlaini14
import Derived.Test.YtokkankfaofooaaFrac01
import Derived.Test.YtokkankfaofooaaPrim13
import Derived.Test.YtokkankfaofooaaOpen
import Derived.Deep.DeepCutAuto
import Derived.Deep.RegionHeld3
import Derived.Maps.OwnIn
namespace Go.Proofs.Ytokkankfaofooaa
open Go.RowKit Go.Shelf Go.Proofs.Sky
set_option linter.unusedVariables false

set_option maxRecDepth 100000 in
set_option maxHeartbeats 4000000 in
theorem plain_Better_less (x1 x2 x3 y1 y2 y3 : Int) (w : World)  (KL : Hid (∀ w, Calls Try.prog 15 #[.agg #[.int .i64 x2, .int .i64 x3], .agg #[.int .i64 y2, .int .i64 y3]] w fun en w' => en = .returned (.bool true) ∧ Below w.heap.size w w')) :
    Calls Try.prog 7 #[.agg #[.int .i64 x1, .int .i64 x2, .int .i64 x3], .agg #[.int .i64 y1, .int .i64 y2, .int .i64 y3]] w fun en w' => en = .returned (.bool true) ∧ Below w.heap.size w w' := by
  go_enter Try.func7, Try.ntmps7
  go_upto_region 1 with (fail)
  obtain ⟨W1, hW1⟩ : ∃ W, W = (w.alloc (.cells #[.int .i64 x1, .int .i64 x2, .int .i64 x3] 33)).alloc (.cells #[.int .i64 y1, .int .i64 y2, .int .i64 y3] 33) := ⟨_, rfl⟩
  obtain ⟨k_x, k_y, B1⟩ := st2 hW1
  rw [← hW1]
  clear hW1
  have l_y : w.heap.size < w.heap.size + 1 := by omega
  generalize w.heap.size + 1 = g_y at *
  obtain ⟨c_x_0, c_x_1, c_x_2⟩ := bwc3 (k_x)
  obtain ⟨c_y_0, c_y_1, c_y_2⟩ := bwc3 (k_y)
  obtain ⟨p1, hp1⟩ : ∃ p : BW W1, p.w = W1 := ⟨BW.start W1, rfl⟩
  rw [← hp1]
  clear hp1
  go_wp2_with (first
    | (go_at_call 15; (first | (with_reducible refine (bw_call KL.out _).mono ?_)); rintro e w' ⟨rfl, q, rfl⟩))
  go_ret
  exact ⟨rfl, bw_below B1 _⟩

set_option maxRecDepth 100000 in
set_option maxHeartbeats 4000000 in
theorem plain_Better_unlike (x1 x2 x3 y1 y2 y3 : Int) (w : World)  (KL : Hid (∀ w, Calls Try.prog 15 #[.agg #[.int .i64 x2, .int .i64 x3], .agg #[.int .i64 y2, .int .i64 y3]] w fun en w' => en = .returned (.bool false) ∧ Below w.heap.size w w')) (KS : Hid (∀ w, Calls Try.prog 16 #[.agg #[.int .i64 x2, .int .i64 x3], .agg #[.int .i64 y2, .int .i64 y3]] w fun en w' => en = .returned (.bool false) ∧ Below w.heap.size w w')) :
    Calls Try.prog 7 #[.agg #[.int .i64 x1, .int .i64 x2, .int .i64 x3], .agg #[.int .i64 y1, .int .i64 y2, .int .i64 y3]] w fun en w' => en = .returned (.bool false) ∧ Below w.heap.size w w' := by
  go_enter Try.func7, Try.ntmps7
  go_upto_region 1 with (fail)
  obtain ⟨W1, hW1⟩ : ∃ W, W = (w.alloc (.cells #[.int .i64 x1, .int .i64 x2, .int .i64 x3] 33)).alloc (.cells #[.int .i64 y1, .int .i64 y2, .int .i64 y3] 33) := ⟨_, rfl⟩
  obtain ⟨k_x, k_y, B1⟩ := st2 hW1
  rw [← hW1]
  clear hW1
  have l_y : w.heap.size < w.heap.size + 1 := by omega
  generalize w.heap.size + 1 = g_y at *
  obtain ⟨c_x_0, c_x_1, c_x_2⟩ := bwc3 (k_x)
  obtain ⟨c_y_0, c_y_1, c_y_2⟩ := bwc3 (k_y)
  obtain ⟨p1, hp1⟩ : ∃ p : BW W1, p.w = W1 := ⟨BW.start W1, rfl⟩
  rw [← hp1]
  clear hp1
  go_wp2_with (first
    | (go_at_call 15; (first | (with_reducible refine (bw_call KL.out _).mono ?_)); rintro e w' ⟨rfl, q, rfl⟩)
    | (go_at_call 16; (first | (with_reducible refine (bw_call KS.out _).mono ?_)); rintro e w' ⟨rfl, q, rfl⟩))
  go_ret
  exact ⟨rfl, bw_below B1 _⟩

set_option maxRecDepth 100000 in
set_option maxHeartbeats 4000000 in
theorem plain_Better_same (x1 x2 x3 y1 y2 y3 : Int) (w : World)  (KL : Hid (∀ w, Calls Try.prog 15 #[.agg #[.int .i64 x2, .int .i64 x3], .agg #[.int .i64 y2, .int .i64 y3]] w fun en w' => en = .returned (.bool false) ∧ Below w.heap.size w w')) (KS : Hid (∀ w, Calls Try.prog 16 #[.agg #[.int .i64 x2, .int .i64 x3], .agg #[.int .i64 y2, .int .i64 y3]] w fun en w' => en = .returned (.bool true) ∧ Below w.heap.size w w')) :
    Calls Try.prog 7 #[.agg #[.int .i64 x1, .int .i64 x2, .int .i64 x3], .agg #[.int .i64 y1, .int .i64 y2, .int .i64 y3]] w fun en w' => en = .returned (.bool (decide (x1 < y1))) ∧ Below w.heap.size w w' := by
  go_enter Try.func7, Try.ntmps7
  go_upto_region 1 with (fail)
  obtain ⟨W1, hW1⟩ : ∃ W, W = (w.alloc (.cells #[.int .i64 x1, .int .i64 x2, .int .i64 x3] 33)).alloc (.cells #[.int .i64 y1, .int .i64 y2, .int .i64 y3] 33) := ⟨_, rfl⟩
  obtain ⟨k_x, k_y, B1⟩ := st2 hW1
  rw [← hW1]
  clear hW1
  have l_y : w.heap.size < w.heap.size + 1 := by omega
  generalize w.heap.size + 1 = g_y at *
  obtain ⟨c_x_0, c_x_1, c_x_2⟩ := bwc3 (k_x)
  obtain ⟨c_y_0, c_y_1, c_y_2⟩ := bwc3 (k_y)
  obtain ⟨p1, hp1⟩ : ∃ p : BW W1, p.w = W1 := ⟨BW.start W1, rfl⟩
  rw [← hp1]
  clear hp1
  go_wp2_with (first
    | (go_at_call 15; (first | (with_reducible refine (bw_call KL.out _).mono ?_)); rintro e w' ⟨rfl, q, rfl⟩)
    | (go_at_call 16; (first | (with_reducible refine (bw_call KS.out _).mono ?_)); rintro e w' ⟨rfl, q, rfl⟩))
  go_ret
  exact ⟨rfl, bw_below B1 _⟩

set_option maxRecDepth 100000 in
set_option maxHeartbeats 4000000 in
theorem plain_Better (x1 x2 x3 y1 y2 y3 : Int) (w : World) (i1 : I64 x2) (i2 : I64 x3) (i3 : I64 y2) (i4 : I64 y3) :
    Calls Try.prog 7 #[.agg #[.int .i64 x1, .int .i64 x2, .int .i64 x3], .agg #[.int .i64 y1, .int .i64 y2, .int .i64 y3]] w fun en w' => en = .returned (.bool (hb (x1, x2, x3) (y1, y2, y3))) ∧ Below w.heap.size w w' := by
  have KL := Lib.hid (fun w => frac_Less x2 x3 y2 y3 w i1 i2 i3 i4)
  have KS := Lib.hid (fun w => frac_Same x2 x3 y2 y3 w i1 i2 i3 i4)
  unfold hb
  dsimp only
  cases h1 : fless x2 x3 y2 y3 with
  | true => rw [h1] at KL; exact plain_Better_less x1 x2 x3 y1 y2 y3 w KL
  | false =>
    rw [h1] at KL
    cases h2 : fsame x2 x3 y2 y3 with
    | false => rw [h2] at KS; exact plain_Better_unlike x1 x2 x3 y1 y2 y3 w KL KS
    | true => rw [h2] at KS; rw [Bool.false_or, Bool.true_and]; exact plain_Better_same x1 x2 x3 y1 y2 y3 w KL KS

section
attribute [local go_sem] Oper.semAt_some

abbrev encH (h : H3) : Array Value := #[.agg #[.int .i64 h.1, .int .i64 h.2.1, .int .i64 h.2.2]]

set_option maxRecDepth 100000 in
set_option maxHeartbeats 4000000 in
theorem plain_first (gf : Nat) (lb : Array Value) (xs : List H3) (w : World) (eg : ∀ args w, (callFunc gf args).run Try.prog w = .ok (.enter gf args) w) (hz : GivesTo Try.prog gf lb encH xs w) (hI : ∀ x ∈ xs, I64 x.1 ∧ I64 x.2.1 ∧ I64 x.2.2) :
    Calls Try.prog 11 #[.func (.func gf) #[] lb] w fun e w' => e = .returned (.tuple #[.agg #[.int .i64 (pFirst xs).1.1, .int .i64 (pFirst xs).1.2.1, .int .i64 (pFirst xs).1.2.2], .bool (pFirst xs).2]) ∧ Below w.heap.size w w' := by
  refine (callsIn_wide (n := 0)).1 ?_
  refine callsIn_of_wp_marks Try.func11 rfl trivial ?_ rfl
  simp only [Try.ntmps11, List.size_toArray, List.length_cons, List.length_nil, Nat.reduceAdd, Nat.reduceSub, Array.replicate_succ, Array.replicate_zero, List.push_toArray, List.append_toArray, List.nil_append, List.cons_append]
  have HI := Lib.hid hI
  clear hI
  gi_upto_region 2 with (fail)
  obtain ⟨W1, hW1⟩ : ∃ W, W = ((w.alloc (.cells #[.int .i64 0, .int .i64 0, .int .i64 0] 33)).alloc (.cells #[.int .i64 0, .int .i64 0, .int .i64 0] 33)).alloc (.cells #[.bool false] 4) := ⟨_, rfl⟩
  obtain ⟨k_r, k_b, k_k, B1⟩ := st3 hW1
  rw [← hW1]
  clear hW1
  have l_b : w.heap.size < w.heap.size + 1 := by omega
  have l_k : w.heap.size + 1 < w.heap.size + 1 + 1 := by omega
  generalize w.heap.size + 1 + 1 = g_k at *
  generalize w.heap.size + 1 = g_b at *
  gi_wp2
  have hs1 := B1.size
  have hgb := k_b.lt
  have hgk := k_k.lt
  have hgr := k_r.lt
  refine range_to (gf := gf) (lb := lb) (encs := encH) (xs := xs) (w0 := w) rfl eg hz (fun _ => rfl)
    (fun pre b V => (Bk V w.heap.size 33 #[.int .i64 0, .int .i64 0, .int .i64 0] ∧ Bk V g_b 33 #[.int .i64 (pFirst pre).1.1, .int .i64 (pFirst pre).1.2.1, .int .i64 (pFirst pre).1.2.2] ∧ Bk V g_k 4 #[.bool (pFirst pre).2]) ∧ b = none ∧ Below w.heap.size w V)
    (fun _ _ _ _ => False)
    (fun b => OwnFrom.and (OwnFrom.and (bk_own _) (OwnFrom.and (bk_own _) (bk_own _))) (OwnFrom.and (pure_own _) (ownFrom_below (Nat.le_refl _) hs1)))
    (fun c b => fun _ _ _ _ h _ _ => h)
    (fun s b V h => h.2.2) ⟨⟨k_r, k_b, k_k⟩, rfl, B1⟩ ?round ?done ?stop
  case round =>
    rintro l pre x rest b V hl hx ⟨⟨k_r', k_b', k_k'⟩, rfl, hB⟩ hnl
    clear k_r k_b k_k B1 eg hz
    have HF := Lib.hid (pFirst_snoc pre x)
    have hxi := HI.out x (by rw [hx]; simp)
    have hfi := pFirst_I64 (l := pre) (fun y hy => HI.out y (by rw [hx]; simp [hy]))
    clear hx
    generalize pFirst pre = f at *
    obtain ⟨⟨f1, f2, f3⟩, fk⟩ := f
    obtain ⟨x1, x2, x3⟩ := x
    dsimp only at hxi hfi k_b' k_k'
    have KB := Lib.hid (fun w => plain_Better x1 x2 x3 f1 f2 f3 w hxi.2.1 hxi.2.2 hfi.2.1 hfi.2.2)
    clear hxi hfi
    gi_wp2
    refine ⟨keepsBut_below ((Below.refl _ _).alloc (Nat.le_refl _) _), fun r r' hlr => ?_⟩
    obtain ⟨V2, hV2⟩ : ∃ V2, V2 = (V.alloc (.cells #[.int .i64 x1, .int .i64 x2, .int .i64 x3] 33)).putObj l (.loop r') := ⟨_, rfl⟩
    have k_x : Bk V2 V.heap.size 33 #[.int .i64 x1, .int .i64 x2, .int .i64 x3] := by rw [hV2]; exact bk_put (Bk.new _ _ _) hlr _
    have k_r : Bk V2 w.heap.size 33 #[.int .i64 0, .int .i64 0, .int .i64 0] := by rw [hV2]; exact bk_put (k_r'.alloc _) hlr _
    have k_b : Bk V2 g_b 33 #[.int .i64 f1, .int .i64 f2, .int .i64 f3] := by rw [hV2]; exact bk_put (k_b'.alloc _) hlr _
    have k_k : Bk V2 g_k 4 #[.bool fk] := by rw [hV2]; exact bk_put (k_k'.alloc _) hlr _
    have B1 : Below w.heap.size w V2 := by rw [hV2]; exact (hB.alloc hB.size _).trans (belowK_b (w := w) (Nat.le_refl _) _ _ _ _ (by omega) hlr rfl rfl)
    rw [← hV2]
    clear hV2 hlr hB k_r' k_b' k_k'
    obtain ⟨V0, hV0⟩ : ∃ V0, V0 = V2 := ⟨_, rfl⟩
    refine stops_from hV0 ?_
    have HV0 := Lib.hid hV0
    clear hV0
    generalize V.heap.size = g_x at *
    cases fk with
    | false =>
      obtain ⟨c_r_0, c_r_1, c_r_2⟩ := bwc3 (k_r)
      obtain ⟨c_b_0, c_b_1, c_b_2⟩ := bwc3 (k_b)
      obtain ⟨f_b_0, f_b_1, f_b_2⟩ := bwf3 (k_b)
      have c_k_0 := bwc1 (k_k)
      have f_k_0 := bwf1 (k_k)
      obtain ⟨c_x_0, c_x_1, c_x_2⟩ := bwc3 (k_x)
      obtain ⟨p1, hp1⟩ : ∃ p : BW V2, p.w = V2 := ⟨BW.start V2, rfl⟩
      rw [← hp1]
      clear hp1
      gi_wp2
      refine ⟨trivial, ?_⟩
      gi_wp2
      have hd : ∀ p : BW V2, KeepsBut W1.heap.size none V0 ((((p.w.setCell ⟨g_b, 0, none⟩ (.int .i64 x1)).setCell ⟨g_b, 1, none⟩ (.int .i64 x2)).setCell ⟨g_b, 2, none⟩ (.int .i64 x3)).setCell ⟨g_k, 0, none⟩ (.bool true)) := fun p => by
        rw [HV0.out]
        exact ((((keepsBut_below p.h).trans (keepsBut_set hgb)).trans (keepsBut_set hgb)).trans (keepsBut_set hgb)).trans (keepsBut_set hgk)
      exact ⟨none, hd _, FreshRow.same _ _, ⟨bko1 (bko3 (k_r.below (BW.h _)) (by omega)) (by omega), by rw [HF.out, stepH_none]; exact bko1 (bkp3 (k_b.below (BW.h _)) _ _ _) (by omega), by rw [HF.out, stepH_none]; exact bkp1 (bko3 (k_k.below (BW.h _)) (by omega)) _⟩, rfl, blp1 (blp3 (bw_below B1 _) (by omega)) (by omega)⟩
    | true =>
      cases hx : hb (x1, x2, x3) (f1, f2, f3) with
      | true =>
        rw [hx] at KB
        have HX := Lib.hid hx
        clear hx
        obtain ⟨c_r_0, c_r_1, c_r_2⟩ := bwc3 (k_r)
        obtain ⟨c_b_0, c_b_1, c_b_2⟩ := bwc3 (k_b)
        obtain ⟨f_b_0, f_b_1, f_b_2⟩ := bwf3 (k_b)
        have c_k_0 := bwc1 (k_k)
        have f_k_0 := bwf1 (k_k)
        obtain ⟨c_x_0, c_x_1, c_x_2⟩ := bwc3 (k_x)
        obtain ⟨p1, hp1⟩ : ∃ p : BW V2, p.w = V2 := ⟨BW.start V2, rfl⟩
        rw [← hp1]
        clear hp1
        gi_wp2_with (refine ⟨trivial, rfl, ?_⟩; gi_at_call 7; refine (CallsIn.inRound l (callsIn_wide.2 (bw_call KB.out _))).mono ?_; rintro e w' ⟨rfl, q, rfl⟩)
        have hd : ∀ p : BW V2, KeepsBut W1.heap.size none V0 ((((p.w.setCell ⟨g_b, 0, none⟩ (.int .i64 x1)).setCell ⟨g_b, 1, none⟩ (.int .i64 x2)).setCell ⟨g_b, 2, none⟩ (.int .i64 x3)).setCell ⟨g_k, 0, none⟩ (.bool true)) := fun p => by
          rw [HV0.out]
          exact ((((keepsBut_below p.h).trans (keepsBut_set hgb)).trans (keepsBut_set hgb)).trans (keepsBut_set hgb)).trans (keepsBut_set hgk)
        exact ⟨none, hd _, FreshRow.same _ _, ⟨bko1 (bko3 (k_r.below (BW.h _)) (by omega)) (by omega), by rw [HF.out, stepH_yes HX.out]; exact bko1 (bkp3 (k_b.below (BW.h _)) _ _ _) (by omega), by rw [HF.out, stepH_yes HX.out]; exact bkp1 (bko3 (k_k.below (BW.h _)) (by omega)) _⟩, rfl, blp1 (blp3 (bw_below B1 _) (by omega)) (by omega)⟩
      | false =>
        rw [hx] at KB
        have HX := Lib.hid hx
        clear hx
        obtain ⟨c_r_0, c_r_1, c_r_2⟩ := bwc3 (k_r)
        obtain ⟨c_b_0, c_b_1, c_b_2⟩ := bwc3 (k_b)
        obtain ⟨f_b_0, f_b_1, f_b_2⟩ := bwf3 (k_b)
        have c_k_0 := bwc1 (k_k)
        have f_k_0 := bwf1 (k_k)
        obtain ⟨c_x_0, c_x_1, c_x_2⟩ := bwc3 (k_x)
        obtain ⟨p1, hp1⟩ : ∃ p : BW V2, p.w = V2 := ⟨BW.start V2, rfl⟩
        rw [← hp1]
        clear hp1
        gi_wp2_with (refine ⟨trivial, rfl, ?_⟩; gi_at_call 7; refine (CallsIn.inRound l (callsIn_wide.2 (bw_call KB.out _))).mono ?_; rintro e w' ⟨rfl, q, rfl⟩)
        exact ⟨none, by rw [HV0.out]; exact keepsBut_below (BW.h _), FreshRow.same _ _, ⟨k_r.below (BW.h _), by rw [HF.out, stepH_no HX.out]; exact k_b.below (BW.h _), by rw [HF.out, stepH_no HX.out]; exact k_k.below (BW.h _)⟩, rfl, bw_below B1 _⟩
  case done =>
    rintro D b V hD ⟨⟨k_r', k_b', k_k'⟩, rfl, hB⟩ hK
    clear k_r k_b k_k B1 eg hz
    obtain ⟨f, hf⟩ : ∃ f, f = pFirst xs := ⟨_, rfl⟩
    rw [← hf] at k_b' k_k'
    have HFX := Lib.hid hf
    clear hf
    obtain ⟨⟨f1, f2, f3⟩, fk⟩ := f
    dsimp only at k_b' k_k'
    have hDr : ¬ D = w.heap.size := by omega
    have hDV := (Array.getElem?_eq_some_iff.1 hK).1
    have k_r := k_r'
    have k_b := k_b'
    have k_k := k_k'
    have HK := Lib.hid hK
    have B1 := hB
    clear hK k_r' k_b' k_k' hB
    obtain ⟨c_r_0, c_r_1, c_r_2⟩ := bwc3 (k_r)
    obtain ⟨f_r_0, f_r_1, f_r_2⟩ := bwf3 (k_r)
    obtain ⟨c_b_0, c_b_1, c_b_2⟩ := bwc3 (k_b)
    have c_k_0 := bwc1 (k_k)
    obtain ⟨p1, hp1⟩ : ∃ p : BW V, p.w = V := ⟨BW.start V, rfl⟩
    rw [← hp1]
    clear hp1
    gi_upto_region 6 with (fail)
    refine wpIn_wide.2 ?_
    have n1 : ¬ g_k = w.heap.size := by omega
    have n2 : ¬ g_b = w.heap.size := by omega
    go_region
    have k_r3 : Bk (((p1.w.setCell ⟨w.heap.size, 0, none⟩ (.int .i64 f1)).setCell ⟨w.heap.size, 1, none⟩ (.int .i64 f2)).setCell ⟨w.heap.size, 2, none⟩ (.int .i64 f3)).drew w.heap.size 33 #[.int .i64 f1, .int .i64 f2, .int .i64 f3] := (bkp3 (k_r.below p1.h) _ _ _).drew
    have B3 : Below w.heap.size w (((p1.w.setCell ⟨w.heap.size, 0, none⟩ (.int .i64 f1)).setCell ⟨w.heap.size, 1, none⟩ (.int .i64 f2)).setCell ⟨w.heap.size, 2, none⟩ (.int .i64 f3)).drew := (blp3 (bw_below B1 p1) (by omega)).trans ⟨rfl, rfl, rfl, Nat.le_refl _, fun _ _ => rfl⟩
    have hK3 : (((p1.w.setCell ⟨w.heap.size, 0, none⟩ (.int .i64 f1)).setCell ⟨w.heap.size, 1, none⟩ (.int .i64 f2)).setCell ⟨w.heap.size, 2, none⟩ (.int .i64 f3)).drew.heap[D]? = some (.deferred (some [])) := by
      show (((p1.w.setCell ⟨w.heap.size, 0, none⟩ (.int .i64 f1)).setCell ⟨w.heap.size, 1, none⟩ (.int .i64 f2)).setCell ⟨w.heap.size, 2, none⟩ (.int .i64 f3)).heap[D]? = _
      rw [Below.heap_setCell _ _ _ _ hDr, Below.heap_setCell _ _ _ _ hDr, Below.heap_setCell _ _ _ _ hDr]
      exact (p1.h.block D hDV).trans HK.out
    generalize (((p1.w.setCell ⟨w.heap.size, 0, none⟩ (.int .i64 f1)).setCell ⟨w.heap.size, 1, none⟩ (.int .i64 f2)).setCell ⟨w.heap.size, 2, none⟩ (.int .i64 f3)).drew = V3 at *
    gi_wp2
    try rw [Exit.noGoto_ret]
    refine ⟨by simp, .inl ⟨_, _, rfl, run_takeDeferred hK3, ?_⟩⟩
    have kr := bk_turn k_r3 hK3 rfl (.deferred none)
    obtain ⟨rc0, rc1, rc2⟩ := rwc3 kr
    exact ⟨.tuple #[.agg #[.int .i64 f1, .int .i64 f2, .int .i64 f3], .bool fk], by simp [results, Try.results11, go_sem, rc0, rc1, rc2], by rw [← HFX.out], B3.trans (belowK_b (w := w) (Nat.le_refl _) V3 D _ _ (by omega) hK3 rfl rfl)⟩
  case stop => exact fun D c pre b W _ h => h.elim

theorem row_gives (a : Option Addr) (n cap : Nat) (P : Nat → Pr) (o1 o2 o3 d1 d2 d3 fr : Int) (gf : Nat) (lb : Array Value) (zs : List Int) (gi gl gr : Nat) (w : World) (eg : ∀ args w, (callFunc gf args).run Try.prog w = .ok (.enter gf args) w) (hz : GivesTo Try.prog gf lb (fun x : Int => #[.int .i64 x]) zs w)
    (ki : Bk w gi 49 #[.func (.func gf) #[] lb]) (kl : Bk w gl 22 #[.slice a n cap]) (kr : Bk w gr 28 #[.int .i64 o1, .int .i64 o2, .int .i64 o3, .int .i64 d1, .int .i64 d2, .int .i64 d3, .int .i64 fr])
    (hs : Prims w (.slice a n cap) n P) (hn : n ≤ 1000000) (ho : I3 (o1, o2, o3)) (hd : I3 (d1, d2, d3)) (hf : I64 fr) :
    GivesTo Try.prog 21 #[.pointer (some ⟨gi, 0, none⟩), .pointer (some ⟨gl, 0, none⟩), .pointer (some ⟨gr, 0, none⟩)] encH (hOver P n (o1, o2, o3) (d1, d2, d3) fr zs) w :=
  hits_gives gi gl gr a n cap P o1 o2 o3 d1 d2 d3 fr gf lb zs w eg hz ki kl kr hs (by omega) (fun k w hk => prim_Hit (P k).k (P k).a.1 (P k).a.2.1 (P k).a.2.2 (P k).b.1 (P k).b.2.1 (P k).b.2.2 (P k).c.1 (P k).c.2.1 (P k).c.2.2 (P k).r (P k).m (k : Int) o1 o2 o3 d1 d2 d3 fr w (hs.2 k hk) (by unfold I64; omega) ho hd hf)

theorem all_gives (a : Option Addr) (n cap : Nat) (P : Nat → Pr) (o1 o2 o3 d1 d2 d3 fr : Int) (g gi gl gr : Nat) (w : World) (kg : Bk w g 22 #[.slice a n cap])
    (ki : Bk w gi 49 #[.func (.func 23) #[] #[.pointer (some ⟨g, 0, none⟩)]]) (kl : Bk w gl 22 #[.slice a n cap]) (kr : Bk w gr 28 #[.int .i64 o1, .int .i64 o2, .int .i64 o3, .int .i64 d1, .int .i64 d2, .int .i64 d3, .int .i64 fr])
    (hs : Prims w (.slice a n cap) n P) (hn : n ≤ 1000000) (ho : I3 (o1, o2, o3)) (hd : I3 (d1, d2, d3)) (hf : I64 fr) :
    GivesTo Try.prog 21 #[.pointer (some ⟨gi, 0, none⟩), .pointer (some ⟨gl, 0, none⟩), .pointer (some ⟨gr, 0, none⟩)] encH (hUp P n (o1, o2, o3) (d1, d2, d3) fr) w := by
  rw [← hOver_all]
  exact row_gives a n cap P o1 o2 o3 d1 d2 d3 fr _ _ _ gi gl gr w (enters_of Try.func23 (by kernel_rfl) rfl) (every_gives g a n cap w kg (by omega)) ki kl kr hs hn ho hd hf

theorem first_all (a : Option Addr) (n cap : Nat) (P : Nat → Pr) (o1 o2 o3 d1 d2 d3 fr : Int) (g gi gl gr : Nat) (w : World) (kg : Bk w g 22 #[.slice a n cap]) (ki : Bk w gi 49 #[.func (.func 23) #[] #[.pointer (some ⟨g, 0, none⟩)]]) (kl : Bk w gl 22 #[.slice a n cap]) (kr : Bk w gr 28 #[.int .i64 o1, .int .i64 o2, .int .i64 o3, .int .i64 d1, .int .i64 d2, .int .i64 d3, .int .i64 fr]) (hs : Prims w (.slice a n cap) n P) (hn : n ≤ 1000000) (ho : I3 (o1, o2, o3)) (hd : I3 (d1, d2, d3)) (hf : I64 fr) :
    Calls Try.prog 11 #[.func (.func 21) #[] #[.pointer (some ⟨gi, 0, none⟩), .pointer (some ⟨gl, 0, none⟩), .pointer (some ⟨gr, 0, none⟩)]] w fun e w' => e = .returned (.tuple #[.agg #[.int .i64 (hClosest P n (o1, o2, o3) (d1, d2, d3) fr).1.1, .int .i64 (hClosest P n (o1, o2, o3) (d1, d2, d3) fr).1.2.1, .int .i64 (hClosest P n (o1, o2, o3) (d1, d2, d3) fr).1.2.2], .bool (hClosest P n (o1, o2, o3) (d1, d2, d3) fr).2]) ∧ Below w.heap.size w w' := by
  rw [← pFirst_all, hOver_all]
  exact plain_first _ _ _ w (enters_of Try.func21 (by kernel_rfl) rfl) (all_gives a n cap P o1 o2 o3 d1 d2 d3 fr g gi gl gr w kg ki kl kr hs hn ho hd hf) (hUp_I64 (by omega))

set_option maxRecDepth 100000 in
set_option maxHeartbeats 4000000 in
theorem plain_Closest (a : Option Addr) (n cap : Nat) (P : Nat → Pr) (o1 o2 o3 d1 d2 d3 fr : Int) (w : World) (hs : Prims w (.slice a n cap) n P) (ho : I3 (o1, o2, o3)) (hd : I3 (d1, d2, d3)) (hf : I64 fr) (hn : n ≤ 1000000) :
    Calls Try.prog 5 #[.slice a n cap, .agg #[.int .i64 o1, .int .i64 o2, .int .i64 o3, .int .i64 d1, .int .i64 d2, .int .i64 d3, .int .i64 fr]] w fun e w' => e = .returned (.tuple #[.agg #[.int .i64 (hClosest P n (o1, o2, o3) (d1, d2, d3) fr).1.1, .int .i64 (hClosest P n (o1, o2, o3) (d1, d2, d3) fr).1.2.1, .int .i64 (hClosest P n (o1, o2, o3) (d1, d2, d3) fr).1.2.2], .bool (hClosest P n (o1, o2, o3) (d1, d2, d3) fr).2]) ∧ Below w.heap.size w w' := by
  have KF : Hid (∀ (g gi gl gr : Nat) (w : World) (kg : Bk w g 22 #[.slice a n cap]) (ki : Bk w gi 49 #[.func (.func 23) #[] #[.pointer (some ⟨g, 0, none⟩)]]) (kl : Bk w gl 22 #[.slice a n cap]) (kr : Bk w gr 28 #[.int .i64 o1, .int .i64 o2, .int .i64 o3, .int .i64 d1, .int .i64 d2, .int .i64 d3, .int .i64 fr]) (hs : Prims w (.slice a n cap) n P), Calls Try.prog 11 #[.func (.func 21) #[] #[.pointer (some ⟨gi, 0, none⟩), .pointer (some ⟨gl, 0, none⟩), .pointer (some ⟨gr, 0, none⟩)]] w fun e w' => e = .returned (.tuple #[.agg #[.int .i64 (hClosest P n (o1, o2, o3) (d1, d2, d3) fr).1.1, .int .i64 (hClosest P n (o1, o2, o3) (d1, d2, d3) fr).1.2.1, .int .i64 (hClosest P n (o1, o2, o3) (d1, d2, d3) fr).1.2.2], .bool (hClosest P n (o1, o2, o3) (d1, d2, d3) fr).2]) ∧ Below w.heap.size w w') := Lib.hid (fun g gi gl gr w kg ki kl kr hs => first_all a n cap P o1 o2 o3 d1 d2 d3 fr g gi gl gr w kg ki kl kr hs hn ho hd hf)
  obtain ⟨F, hF⟩ : ∃ F, F = hClosest P n (o1, o2, o3) (d1, d2, d3) fr := ⟨_, rfl⟩
  rw [← hF] at KF ⊢
  have HFX := Lib.hid hF
  clear hF
  obtain ⟨⟨f1, f2, f3⟩, fk⟩ := F
  dsimp only at KF ⊢
  have HS := Lib.hid hs
  have HO := Lib.hid ho
  have HD := Lib.hid hd
  have HF := Lib.hid hf
  have HN := Lib.hid hn
  clear hs ho hd hf hn
  go_enter Try.func5, Try.ntmps5
  go_upto_region 1 with (fail)
  obtain ⟨W1, hW1⟩ : ∃ W, W = (w.alloc (.cells #[.int .i64 o1, .int .i64 o2, .int .i64 o3, .int .i64 d1, .int .i64 d2, .int .i64 d3, .int .i64 fr] 28)).alloc (.cells #[.int .i64 0, .int .i64 0, .int .i64 0] 33) := ⟨_, rfl⟩
  obtain ⟨k_y, k_r, B1⟩ := st2 hW1
  rw [← hW1]
  clear hW1
  have l_r : w.heap.size < w.heap.size + 1 := by omega
  generalize w.heap.size + 1 = g_r at *
  have hs1 := HS.out.below B1 (Nat.le_refl _)
  obtain ⟨c_y_0, c_y_1, c_y_2, c_y_3, c_y_4, c_y_5, c_y_6⟩ := bwc7 (k_y)
  obtain ⟨c_r_0, c_r_1, c_r_2⟩ := bwc3 (k_r)
  obtain ⟨f_r_0, f_r_1, f_r_2⟩ := bwf3 (k_r)
  obtain ⟨p1, hp1⟩ : ∃ p : BW W1, p.w = W1 := ⟨BW.start W1, rfl⟩
  rw [← hp1]
  clear hp1
  go_region_with (first | (go_at_call 13; refine (plain_every _ _ _ _).mono ?_; rintro e w1 ⟨g1, rfl, kg, hb⟩; (first | obtain ⟨q, rfl⟩ := bw_take_drew hb | obtain ⟨q, rfl⟩ := bw_take hb)) | (go_at_call 12; refine (plain_hits _ _ _ _ _ _ o1 o2 o3 d1 d2 d3 fr _).mono ?_; rintro e w2 ⟨gi, gl, gr, rfl, ki, kl, kr, hb⟩; have kg2 := kg.below hb; obtain ⟨q, rfl⟩ := bw_take hb) | (go_at_call 11; refine (KF.out g1 gi gl gr _ kg2 ki kl kr (hs1.below q.h (Nat.le_refl _))).mono ?_; rintro e w3 ⟨rfl, hb⟩; obtain ⟨q, rfl⟩ := bw_take hb) | fail)
  all_goals (
    go_wp2
    have kr := bkp3 (k_r.below q.h) (.int .i64 f1) (.int .i64 f2) (.int .i64 f3)
    obtain ⟨rc0, rc1, rc2⟩ := rwc3 kr
    exact bodyPost_ret (v := .tuple #[.agg #[.int .i64 f1, .int .i64 f2, .int .i64 f3], .bool fk]) (by simp [results, Try.results5, go_sem, rc0, rc1, rc2]) rfl ⟨rfl, blp3 (bw_below B1 q) (by omega)⟩)

theorem hit_info' : (Try.prog.info? 33).map (fun i => (i.zero, i.size, i.bytes)) = some (some (.agg #[.int .i64 0, .int .i64 0, .int .i64 0]), 3, 24) := by kernel_rfl

set_option maxRecDepth 100000 in
set_option maxHeartbeats 4000000 in
theorem append_hits (gf : Nat) (lb : Array Value) (xs : List H3) (w : World) (eg : ∀ args w, (callFunc gf args).run Try.prog w = .ok (.enter gf args) w) (hz : GivesTo Try.prog gf lb encH xs w) (hlen : xs.length ≤ 1000000) :
    Calls Try.prog 24 #[.slice none 0 0, .func (.func gf) #[] lb] w fun e w' => ∃ v, e = .returned v ∧ w'.ownsRow w.heap.size 33 3 v xs.length (xs.flatMap hcells) ∧ Below w.heap.size w w' := by
  refine (callsIn_wide (n := 0)).1 ?_
  obtain ⟨i0, hi, hz0, hz1, hz2⟩ := info_parts hit_info'
  refine callsIn_of_wp_marks Try.func24 rfl trivial ?_ rfl
  simp only [Try.ntmps24, List.size_toArray, List.length_cons, List.length_nil, Nat.reduceAdd, Nat.reduceSub, Array.replicate_succ, Array.replicate_zero, List.push_toArray, List.append_toArray, List.nil_append, List.cons_append]
  gi_wp2
  have bS := Boxed.new w 36 (.slice none 0 0)
  have hB0 : Below w.heap.size w (w.alloc (.cells #[.slice none 0 0] 36)) := (Below.refl _ w).alloc (Nat.le_refl _) _
  have hgS : w.heap.size < (w.alloc (.cells #[.slice none 0 0] 36)).heap.size := by simp
  generalize w.alloc (.cells #[.slice none 0 0] 36) = W1 at *
  refine range_to (gf := gf) (lb := lb) (encs := encH) (xs := xs) (w0 := w) rfl eg hz (fun _ => rfl)
    (fun pre b V => (∃ v, Boxed V w.heap.size 36 v ∧ V.ownsRow w.heap.size 33 3 v pre.length (pre.flatMap hcells) ∧ b = v.ownBlock) ∧ Below w.heap.size w V)
    (fun _ _ _ _ => False)
    (fun b => OwnFrom.and (Own.from (holdsRow_own w.heap.size w.heap.size 36 33 3 (fun pre : List H3 => pre.length) (fun pre : List H3 => pre.flatMap hcells) (fun _ v => b = v.ownBlock)) _) (ownFrom_below (Nat.le_refl _) (by omega)))
    (fun c b => fun _ _ _ _ h _ _ => h)
    (fun s b V h => h.2) ⟨⟨_, bS, World.ownsRow_nil _ _ _ _, rfl⟩, hB0⟩ ?round ?done ?stop
  case round =>
    rintro l pre x rest b V hl hx ⟨⟨v, hv, hrow, rfl⟩, hB⟩ hnl
    have hpl : pre.length < 1000000 := by rw [hx] at hlen; simp at hlen; omega
    clear hx bS hB0 eg hz
    obtain ⟨x1, x2, x3⟩ := x
    gi_wp2
    refine ⟨keepsBut_below ((Below.refl _ _).alloc (Nat.le_refl _) _), fun r r' hlr => ?_⟩
    obtain ⟨V2, hV2⟩ : ∃ V2, V2 = (V.alloc (.cells #[.int .i64 x1, .int .i64 x2, .int .i64 x3] 33)).putObj l (.loop r') := ⟨_, rfl⟩
    have k_x : Bk V2 V.heap.size 33 #[.int .i64 x1, .int .i64 x2, .int .i64 x3] := by rw [hV2]; exact bk_put (Bk.new _ _ _) hlr _
    have k_S : Bk V2 w.heap.size 36 #[v] := by rw [hV2]; exact bk_put (Bk.alloc hv _) hlr _
    have hrow2 := ownsRow_putObj (hrow.alloc (.cells #[.int .i64 x1, .int .i64 x2, .int .i64 x3] 33)) (.loop r') hlr rfl
    have B1 : Below w.heap.size w V2 := by rw [hV2]; exact (hB.alloc hB.size _).trans (belowK_b (w := w) (Nat.le_refl _) _ _ _ _ (by omega) hlr rfl rfl)
    have hsz : V.heap.size ≤ V2.heap.size := by rw [hV2]; simp
    rw [← hV2] at hrow2 ⊢
    clear hV2 hlr hB hv hrow
    obtain ⟨V0, hV0⟩ : ∃ V0, V0 = V2 := ⟨_, rfl⟩
    refine stops_from hV0 ?_
    have HV0 := Lib.hid hV0
    clear hV0
    have c0 : V2.cell? ⟨w.heap.size, 0, none⟩ = some v := k_S.cell rfl
    have c1 : V2.cell? ⟨V.heap.size, 0, none⟩ = some (.int .i64 x1) := k_x.cell rfl
    have c2 : V2.cell? ⟨V.heap.size, 1, none⟩ = some (.int .i64 x2) := k_x.cell rfl
    have c3 : V2.cell? ⟨V.heap.size, 2, none⟩ = some (.int .i64 x3) := k_x.cell rfl
    gi_wp2_with (gi_at_builtin; refine wpListIn_append_own_at _ rfl _ _ 36 rfl w.heap.size 33 i0 (.agg #[.int .i64 0, .int .i64 0, .int .i64 0]) 3 24 Try.underlying36 hi hz0 hz1 hz2 rfl (by decide) _ _ _ rfl (hrow2.alloc _) ⟨V2.heap.size, 0, none⟩ 1 1 [.int .i64 x1, .int .i64 x2, .int .i64 x3] rfl rfl ?g1 ?g2 ?g3 ?g4 ?g5 ?_)
    case g1 => intro j u hj; have := (Bk.new V2 #[.int .i64 x1, .int .i64 x2, .int .i64 x3] 33).cell (i := j) (v := u) (by simpa using hj); by_cases h0 : j = 0 <;> (first | (subst h0; exact this) | simpa [Addr.add, h0] using this)
    case g2 => intro u hu; simp only [List.mem_cons, List.not_mem_nil, or_false] at hu; rcases hu with rfl | rfl | rfl <;> rfl
    case g3 => unfold maxLen; omega
    case g4 => omega
    case g5 => have := B1.size; simp; omega
    intro v' w1 hown' hgrow hnil hat
    obtain ⟨g', cap', rfl⟩ := ownsRow_succ hown'
    obtain ⟨hv1, hv2, hr2, hk2, hb2⟩ := Boxed.appended (show Boxed V2 w.heap.size 36 v from k_S) (by decide) hrow2 B1.size (Nat.le_refl _) hown' hgrow
    have hkb : KeepsBut W1.heap.size v.ownBlock V0 (w1.setCell ⟨w.heap.size, 0, none⟩ (.slice (some ⟨g', 0, none⟩) (pre.length + 1) cap')) := by
      rw [HV0.out]
      exact ((keepsBut_below ((Below.refl _ _).alloc (Nat.le_refl _) _)).trans (keepsBut_grown hgrow)).trans (keepsBut_set hgS)
    have hfr : FreshRow V.heap.size v.ownBlock (some g') := by
      rcases hat with h | h
      · exact .inl h
      · exact .inr ⟨_, h, (by omega)⟩
    have hc1 := hv1.cell
    have hf1 := hv1.frozen
    clear c0 c1 c2 c3 k_x k_S hrow2 hown' hgrow hnil hat hk2 hv1
    gi_wp2
    exact ⟨some g', hkb, hfr, ⟨_, hv2, by simpa [hcells] using hr2, rfl⟩, B1.trans hb2⟩
  case done =>
    rintro D b V hD ⟨⟨v, hv, hrow, rfl⟩, hB⟩ hK
    have hc := hv.cell
    gi_wp2
    refine ⟨by simp, .inl ⟨_, _, rfl, run_takeDeferred hK, ?_⟩⟩
    exact ⟨_, results_tmp rfl _ _ _, v, rfl, ownsRow_putObj hrow _ hK rfl, hB.trans (belowK_b (w := w) (Nat.le_refl _) V D _ _ (by omega) hK rfl rfl)⟩
  case stop => exact fun D c pre b W _ h => h.elim

theorem collect_hits (gf : Nat) (lb : Array Value) (xs : List H3) (w : World) (eg : ∀ args w, (callFunc gf args).run Try.prog w = .ok (.enter gf args) w) (hz : GivesTo Try.prog gf lb encH xs w) (hlen : xs.length ≤ 1000000) :
    Calls Try.prog 14 #[.func (.func gf) #[] lb] w fun e w' => ∃ v, e = .returned v ∧ w'.ownsRow w.heap.size 33 3 v xs.length (xs.flatMap hcells) ∧ Below w.heap.size w w' := by
  go_enter Try.func14, Try.ntmps14
  go_wp2_with (go_at_call 24; refine (append_hits gf lb xs _ eg hz hlen).mono ?_; rintro e w1 ⟨v, rfl, h1, h2⟩)
  go_ret
  exact ⟨_, rfl, h1, h2⟩

theorem collect_all (a : Option Addr) (n cap : Nat) (P : Nat → Pr) (o1 o2 o3 d1 d2 d3 fr : Int) (g gi gl gr : Nat) (w : World) (kg : Bk w g 22 #[.slice a n cap]) (ki : Bk w gi 49 #[.func (.func 23) #[] #[.pointer (some ⟨g, 0, none⟩)]]) (kl : Bk w gl 22 #[.slice a n cap]) (kr : Bk w gr 28 #[.int .i64 o1, .int .i64 o2, .int .i64 o3, .int .i64 d1, .int .i64 d2, .int .i64 d3, .int .i64 fr]) (hs : Prims w (.slice a n cap) n P) (hn : n ≤ 1000000) (ho : I3 (o1, o2, o3)) (hd : I3 (d1, d2, d3)) (hf : I64 fr) :
    Calls Try.prog 14 #[.func (.func 21) #[] #[.pointer (some ⟨gi, 0, none⟩), .pointer (some ⟨gl, 0, none⟩), .pointer (some ⟨gr, 0, none⟩)]] w fun e w' => ∃ v, e = .returned v ∧ w'.ownsRow w.heap.size 33 3 v (hUp P n (o1, o2, o3) (d1, d2, d3) fr).length ((hUp P n (o1, o2, o3) (d1, d2, d3) fr).flatMap hcells) ∧ Below w.heap.size w w' :=
  collect_hits _ _ _ w (enters_of Try.func21 (by kernel_rfl) rfl) (all_gives a n cap P o1 o2 o3 d1 d2 d3 fr g gi gl gr w kg ki kl kr hs hn ho hd hf) (Nat.le_trans (hUp_len _ _ _ _ _) hn)

set_option maxRecDepth 100000 in
set_option maxHeartbeats 4000000 in
theorem plain_All (a : Option Addr) (n cap : Nat) (P : Nat → Pr) (o1 o2 o3 d1 d2 d3 fr : Int) (w : World) (hs : Prims w (.slice a n cap) n P) (ho : I3 (o1, o2, o3)) (hd : I3 (d1, d2, d3)) (hf : I64 fr) (hn : n ≤ 1000000) :
    Calls Try.prog 6 #[.slice a n cap, .agg #[.int .i64 o1, .int .i64 o2, .int .i64 o3, .int .i64 d1, .int .i64 d2, .int .i64 d3, .int .i64 fr]] w fun e w' => ∃ u, e = .returned u ∧ w'.ownsRow w.heap.size 33 3 u (hUp P n (o1, o2, o3) (d1, d2, d3) fr).length ((hUp P n (o1, o2, o3) (d1, d2, d3) fr).flatMap hcells) ∧ Below w.heap.size w w' := by
  have KC : Hid (∀ (g gi gl gr : Nat) (w : World) (kg : Bk w g 22 #[.slice a n cap]) (ki : Bk w gi 49 #[.func (.func 23) #[] #[.pointer (some ⟨g, 0, none⟩)]]) (kl : Bk w gl 22 #[.slice a n cap]) (kr : Bk w gr 28 #[.int .i64 o1, .int .i64 o2, .int .i64 o3, .int .i64 d1, .int .i64 d2, .int .i64 d3, .int .i64 fr]) (hs : Prims w (.slice a n cap) n P), Calls Try.prog 14 #[.func (.func 21) #[] #[.pointer (some ⟨gi, 0, none⟩), .pointer (some ⟨gl, 0, none⟩), .pointer (some ⟨gr, 0, none⟩)]] w fun e w' => ∃ v, e = .returned v ∧ w'.ownsRow w.heap.size 33 3 v (hUp P n (o1, o2, o3) (d1, d2, d3) fr).length ((hUp P n (o1, o2, o3) (d1, d2, d3) fr).flatMap hcells) ∧ Below w.heap.size w w') := Lib.hid (fun g gi gl gr w kg ki kl kr hs => collect_all a n cap P o1 o2 o3 d1 d2 d3 fr g gi gl gr w kg ki kl kr hs hn ho hd hf)
  obtain ⟨L, hL⟩ : ∃ L, L = hUp P n (o1, o2, o3) (d1, d2, d3) fr := ⟨_, rfl⟩
  rw [← hL] at KC ⊢
  clear hL
  have HS := Lib.hid hs
  have HO := Lib.hid ho
  have HD := Lib.hid hd
  have HF := Lib.hid hf
  have HN := Lib.hid hn
  clear hs ho hd hf hn
  go_enter Try.func6, Try.ntmps6
  go_upto_region 1 with (fail)
  obtain ⟨W1, hW1⟩ : ∃ W, W = w.alloc (.cells #[.int .i64 o1, .int .i64 o2, .int .i64 o3, .int .i64 d1, .int .i64 d2, .int .i64 d3, .int .i64 fr] 28) := ⟨_, rfl⟩
  obtain ⟨k_y, B1⟩ := st1 hW1
  rw [← hW1]
  clear hW1
  have hs1 := HS.out.below B1 (Nat.le_refl _)
  obtain ⟨c_y_0, c_y_1, c_y_2, c_y_3, c_y_4, c_y_5, c_y_6⟩ := bwc7 (k_y)
  obtain ⟨p1, hp1⟩ : ∃ p : BW W1, p.w = W1 := ⟨BW.start W1, rfl⟩
  rw [← hp1]
  clear hp1
  go_region_with (first | (go_at_call 13; refine (plain_every _ _ _ _).mono ?_; rintro e w1 ⟨g1, rfl, kg, hb⟩; (first | obtain ⟨q, rfl⟩ := bw_take_drew hb | obtain ⟨q, rfl⟩ := bw_take hb)) | (go_at_call 12; refine (plain_hits _ _ _ _ _ _ o1 o2 o3 d1 d2 d3 fr _).mono ?_; rintro e w2 ⟨gi, gl, gr, rfl, ki, kl, kr, hb⟩; have kg2 := kg.below hb; obtain ⟨q, rfl⟩ := bw_take hb) | (go_at_call 14; refine (KC.out g1 gi gl gr _ kg2 ki kl kr (hs1.below q.h (Nat.le_refl _))).mono ?_; rintro e w3 ⟨u, rfl, hu, hb⟩) | fail)
  all_goals (
    go_wp2
    go_ret
    exact ⟨u, rfl, owns_mono hu (bw_below B1 q).size, (bw_below B1 q).trans (hb.mono (bw_below B1 q).size)⟩)

theorem intslice_below {w w' : World} {a : Option Addr} {n : Nat} {Z : Nat → Int} (h : IntSlice w a n Z) (hb : Below w.heap.size w w') : IntSlice w' a n Z := by
  rcases h with h | ⟨b, off, e, hc, hlt⟩
  · exact .inl h
  · exact .inr ⟨b, off, e, fun k hk => ⟨(hb.cell (p := ⟨b, off + k, none⟩) hlt).trans (hc k hk).1, (hc k hk).2⟩, Nat.lt_of_lt_of_le hlt hb.size⟩

theorem first_some (a : Option Addr) (n cap : Nat) (P : Nat → Pr) (o1 o2 o3 d1 d2 d3 fr : Int) (a2 : Option Addr) (m cap2 : Nat) (Z : Nat → Int) (g gi gl gr : Nat) (w : World) (kg : Bk w g 42 #[.slice a2 m cap2]) (ki : Bk w gi 49 #[.func (.func 28) #[] #[.pointer (some ⟨g, 0, none⟩)]]) (kl : Bk w gl 22 #[.slice a n cap]) (kr : Bk w gr 28 #[.int .i64 o1, .int .i64 o2, .int .i64 o3, .int .i64 d1, .int .i64 d2, .int .i64 d3, .int .i64 fr]) (hs : Prims w (.slice a n cap) n P) (hz : IntSlice w a2 m Z) (hn : n ≤ 1000000) (hm : m ≤ 1000000) (ho : I3 (o1, o2, o3)) (hd : I3 (d1, d2, d3)) (hf : I64 fr) :
    Calls Try.prog 11 #[.func (.func 21) #[] #[.pointer (some ⟨gi, 0, none⟩), .pointer (some ⟨gl, 0, none⟩), .pointer (some ⟨gr, 0, none⟩)]] w fun e w' => e = .returned (.tuple #[.agg #[.int .i64 (hAmong P n Z m (o1, o2, o3) (d1, d2, d3) fr).1.1, .int .i64 (hAmong P n Z m (o1, o2, o3) (d1, d2, d3) fr).1.2.1, .int .i64 (hAmong P n Z m (o1, o2, o3) (d1, d2, d3) fr).1.2.2], .bool (hAmong P n Z m (o1, o2, o3) (d1, d2, d3) fr).2]) ∧ Below w.heap.size w w' := by
  rw [← pFirst_among]
  refine plain_first _ _ _ w (enters_of Try.func21 (by kernel_rfl) rfl) (row_gives a n cap P o1 o2 o3 d1 d2 d3 fr _ _ (rowOf Z m) gi gl gr w (enters_of Try.func28 (by kernel_rfl) rfl) (values_gives g a2 m cap2 Z w kg (by omega) (fun k hk => ?_)) ki kl kr hs hn ho hd hf) (fun x hx => hUp_I64 (by omega) x (hOver_mem.1 hx).1)
  rcases hz with h | ⟨b, off, e, hc, hlt⟩
  · omega
  · exact ⟨b, off, e, hlt, (hc k hk).1⟩

set_option maxRecDepth 100000 in
set_option maxHeartbeats 4000000 in
theorem plain_Among (a : Option Addr) (n cap : Nat) (P : Nat → Pr) (o1 o2 o3 d1 d2 d3 fr : Int) (w : World) (hs : Prims w (.slice a n cap) n P) (ho : I3 (o1, o2, o3)) (hd : I3 (d1, d2, d3)) (hf : I64 fr) (hn : n ≤ 1000000) (a2 : Option Addr) (m cap2 : Nat) (Z : Nat → Int) (hz : IntSlice w a2 m Z) (hm : m ≤ 1000000) :
    Calls Try.prog 10 #[.slice a n cap, .slice a2 m cap2, .agg #[.int .i64 o1, .int .i64 o2, .int .i64 o3, .int .i64 d1, .int .i64 d2, .int .i64 d3, .int .i64 fr]] w fun e w' => e = .returned (.tuple #[.agg #[.int .i64 (hAmong P n Z m (o1, o2, o3) (d1, d2, d3) fr).1.1, .int .i64 (hAmong P n Z m (o1, o2, o3) (d1, d2, d3) fr).1.2.1, .int .i64 (hAmong P n Z m (o1, o2, o3) (d1, d2, d3) fr).1.2.2], .bool (hAmong P n Z m (o1, o2, o3) (d1, d2, d3) fr).2]) ∧ Below w.heap.size w w' := by
  have KF : Hid (∀ (g gi gl gr : Nat) (w : World) (kg : Bk w g 42 #[.slice a2 m cap2]) (ki : Bk w gi 49 #[.func (.func 28) #[] #[.pointer (some ⟨g, 0, none⟩)]]) (kl : Bk w gl 22 #[.slice a n cap]) (kr : Bk w gr 28 #[.int .i64 o1, .int .i64 o2, .int .i64 o3, .int .i64 d1, .int .i64 d2, .int .i64 d3, .int .i64 fr]) (hs : Prims w (.slice a n cap) n P) (hz : IntSlice w a2 m Z), Calls Try.prog 11 #[.func (.func 21) #[] #[.pointer (some ⟨gi, 0, none⟩), .pointer (some ⟨gl, 0, none⟩), .pointer (some ⟨gr, 0, none⟩)]] w fun e w' => e = .returned (.tuple #[.agg #[.int .i64 (hAmong P n Z m (o1, o2, o3) (d1, d2, d3) fr).1.1, .int .i64 (hAmong P n Z m (o1, o2, o3) (d1, d2, d3) fr).1.2.1, .int .i64 (hAmong P n Z m (o1, o2, o3) (d1, d2, d3) fr).1.2.2], .bool (hAmong P n Z m (o1, o2, o3) (d1, d2, d3) fr).2]) ∧ Below w.heap.size w w') := Lib.hid (fun g gi gl gr w kg ki kl kr hs hz => first_some a n cap P o1 o2 o3 d1 d2 d3 fr a2 m cap2 Z g gi gl gr w kg ki kl kr hs hz hn hm ho hd hf)
  obtain ⟨F, hF⟩ : ∃ F, F = hAmong P n Z m (o1, o2, o3) (d1, d2, d3) fr := ⟨_, rfl⟩
  rw [← hF] at KF ⊢
  clear hF
  obtain ⟨⟨f1, f2, f3⟩, fk⟩ := F
  dsimp only at KF ⊢
  have HZ := Lib.hid hz
  clear hz hm
  have HS := Lib.hid hs
  have HO := Lib.hid ho
  have HD := Lib.hid hd
  have HF := Lib.hid hf
  have HN := Lib.hid hn
  clear hs ho hd hf hn
  go_enter Try.func10, Try.ntmps10
  go_upto_region 1 with (fail)
  obtain ⟨W1, hW1⟩ : ∃ W, W = (w.alloc (.cells #[.int .i64 o1, .int .i64 o2, .int .i64 o3, .int .i64 d1, .int .i64 d2, .int .i64 d3, .int .i64 fr] 28)).alloc (.cells #[.int .i64 0, .int .i64 0, .int .i64 0] 33) := ⟨_, rfl⟩
  obtain ⟨k_y, k_r, B1⟩ := st2 hW1
  rw [← hW1]
  clear hW1
  have l_r : w.heap.size < w.heap.size + 1 := by omega
  generalize w.heap.size + 1 = g_r at *
  have hs1 := HS.out.below B1 (Nat.le_refl _)
  have hz1 := intslice_below HZ.out B1
  obtain ⟨c_y_0, c_y_1, c_y_2, c_y_3, c_y_4, c_y_5, c_y_6⟩ := bwc7 (k_y)
  obtain ⟨c_r_0, c_r_1, c_r_2⟩ := bwc3 (k_r)
  obtain ⟨f_r_0, f_r_1, f_r_2⟩ := bwf3 (k_r)
  obtain ⟨p1, hp1⟩ : ∃ p : BW W1, p.w = W1 := ⟨BW.start W1, rfl⟩
  rw [← hp1]
  clear hp1
  go_region_with (first | (go_at_call 20; refine (slices_Values _ _ _ _).mono ?_; rintro e w1 ⟨g1, rfl, kg, hb⟩; (first | obtain ⟨q, rfl⟩ := bw_take_drew hb | obtain ⟨q, rfl⟩ := bw_take hb)) | (go_at_call 12; refine (plain_hits _ _ _ _ _ _ o1 o2 o3 d1 d2 d3 fr _).mono ?_; rintro e w2 ⟨gi, gl, gr, rfl, ki, kl, kr, hb⟩; have kg2 := kg.below hb; obtain ⟨q, rfl⟩ := bw_take hb) | (go_at_call 11; refine (KF.out g1 gi gl gr _ kg2 ki kl kr (hs1.below q.h (Nat.le_refl _)) (intslice_below hz1 q.h)).mono ?_; rintro e w3 ⟨rfl, hb⟩; obtain ⟨q, rfl⟩ := bw_take hb) | fail)
  all_goals (
    go_wp2
    have kr := bkp3 (k_r.below q.h) (.int .i64 f1) (.int .i64 f2) (.int .i64 f3)
    obtain ⟨rc0, rc1, rc2⟩ := rwc3 kr
    exact bodyPost_ret (v := .tuple #[.agg #[.int .i64 f1, .int .i64 f2, .int .i64 f3], .bool fk]) (by simp [results, Try.results10, go_sem, rc0, rc1, rc2]) rfl ⟨rfl, blp3 (bw_below B1 q) (by omega)⟩)

set_option maxRecDepth 100000 in
set_option maxHeartbeats 4000000 in
theorem plain_Any (a : Option Addr) (n cap : Nat) (P : Nat → Pr) (o1 o2 o3 d1 d2 d3 fr : Int) (w : World) (hs : Prims w (.slice a n cap) n P) (ho : I3 (o1, o2, o3)) (hd : I3 (d1, d2, d3)) (hf : I64 fr) (hn : n ≤ 1000000) (m e : Int) (hm : I64 m) (he : I64 e) :
    Calls Try.prog 8 #[.slice a n cap, .agg #[.int .i64 o1, .int .i64 o2, .int .i64 o3, .int .i64 d1, .int .i64 d2, .int .i64 d3, .int .i64 fr], .agg #[.int .i64 m, .int .i64 e]] w fun en w' => en = .returned (.bool (hAny P n (o1, o2, o3) (d1, d2, d3) fr m e)) ∧ Below w.heap.size w w' := by
  have KR := Lib.hid (fun w => frac_Right m e w)
  have KL := Lib.hid (fun x2 x3 (h2 : I64 x2) (h3 : I64 x3) w => frac_Less x2 x3 m e w h2 h3 hm he)
  have HI := Lib.hid (hUp_I64 (P := P) (o := (o1, o2, o3)) (d := (d1, d2, d3)) (fr := fr) (show n ≤ 4611686018427387904 by omega))
  have KG : Hid (∀ (g gi gl gr : Nat) (w : World) (kg : Bk w g 22 #[.slice a n cap]) (ki : Bk w gi 49 #[.func (.func 23) #[] #[.pointer (some ⟨g, 0, none⟩)]]) (kl : Bk w gl 22 #[.slice a n cap]) (kr : Bk w gr 28 #[.int .i64 o1, .int .i64 o2, .int .i64 o3, .int .i64 d1, .int .i64 d2, .int .i64 d3, .int .i64 fr]) (hs : Prims w (.slice a n cap) n P), GivesTo Try.prog 21 #[.pointer (some ⟨gi, 0, none⟩), .pointer (some ⟨gl, 0, none⟩), .pointer (some ⟨gr, 0, none⟩)] encH (hUp P n (o1, o2, o3) (d1, d2, d3) fr) w) := Lib.hid (fun g gi gl gr w kg ki kl kr hs => all_gives a n cap P o1 o2 o3 d1 d2 d3 fr g gi gl gr w kg ki kl kr hs hn ho hd hf)
  obtain ⟨de, hde⟩ : ∃ de, de = decide (1 ≤ e) := ⟨_, rfl⟩
  obtain ⟨res, hres⟩ : ∃ res, res = hAny P n (o1, o2, o3) (d1, d2, d3) fr m e := ⟨_, rfl⟩
  rw [← hres]
  unfold hAny at hres
  rw [← hde] at KR hres
  obtain ⟨L, hL⟩ : ∃ L, L = hUp P n (o1, o2, o3) (d1, d2, d3) fr := ⟨_, rfl⟩
  rw [← hL] at KG hres HI
  have HRES := Lib.hid hres
  have HS := Lib.hid hs
  clear hs ho hd hf hn hm he hres hL hde
  refine (callsIn_wide (n := 0)).1 ?_
  refine callsIn_of_wp_marks Try.func8 rfl trivial ?_ rfl
  simp only [Try.ntmps8, List.size_toArray, List.length_cons, List.length_nil, Nat.reduceAdd, Nat.reduceSub, Array.replicate_succ, Array.replicate_zero, List.push_toArray, List.append_toArray, List.nil_append, List.cons_append]
  refine wpIn_wide.2 ?_
  go_upto_region 1 with (fail)
  obtain ⟨W1, hW1⟩ : ∃ W, W = ((w.alloc (.cells #[.int .i64 o1, .int .i64 o2, .int .i64 o3, .int .i64 d1, .int .i64 d2, .int .i64 d3, .int .i64 fr] 28)).alloc (.cells #[.int .i64 m, .int .i64 e] 30)).alloc (.cells #[.bool false] 4) := ⟨_, rfl⟩
  obtain ⟨k_y, k_f, k_r, B1⟩ := st3 hW1
  rw [← hW1]
  clear hW1
  have l_f : w.heap.size < w.heap.size + 1 := by omega
  have l_r : w.heap.size + 1 < w.heap.size + 1 + 1 := by omega
  generalize w.heap.size + 1 + 1 = g_r at *
  generalize w.heap.size + 1 = g_f at *
  have hs1 := HS.out.below B1 (Nat.le_refl _)
  obtain ⟨c_y_0, c_y_1, c_y_2, c_y_3, c_y_4, c_y_5, c_y_6⟩ := bwc7 (k_y)
  obtain ⟨c_f_0, c_f_1⟩ := bwc2 (k_f)
  have c_r_0 := bwc1 (k_r)
  obtain ⟨p1, hp1⟩ : ∃ p : BW W1, p.w = W1 := ⟨BW.start W1, rfl⟩
  rw [← hp1]
  clear hp1
  go_upto_region 2 with (first
    | (go_at_call 17; (first | (with_reducible refine (bw_call KR.out _).mono ?_)); rintro e w' ⟨rfl, q, rfl⟩))
  have hs2 := hs1.below q.h (Nat.le_refl _)
  have hq := q.h.size
  obtain ⟨W2, hW2⟩ : ∃ W, W = q.w.alloc (.cells #[.bool (!de)] 4) := ⟨_, rfl⟩
  have B2 : Below w.heap.size w W2 := by rw [hW2]; exact (bw_below B1 q).alloc (bw_below B1 q).size _
  have l_u : g_r < q.w.heap.size := (k_r.below q.h).lt
  have o_u : w.heap.size ≤ q.w.heap.size := (bw_below B1 q).size
  have l_u_y : w.heap.size < q.w.heap.size := (k_y.below q.h).lt
  have l_u_f : g_f < q.w.heap.size := (k_f.below q.h).lt
  have k_y := bka hW2 (k_y.below q.h)
  have k_f := bka hW2 (k_f.below q.h)
  have k_r := bka hW2 (k_r.below q.h)
  have k_u := bkn hW2
  rw [← hW2]
  clear hW2
  clear B1
  clear c_y_0 c_y_1 c_y_2 c_y_3 c_y_4 c_y_5 c_y_6 c_f_0 c_f_1 c_r_0
  generalize q.w.heap.size = g_u at *
  obtain ⟨du, hdu⟩ : ∃ du, du = !de := ⟨_, rfl⟩
  rw [← hdu] at k_u
  have HDU := Lib.hid hdu
  clear hdu
  have hs3 := HS.out.below B2 (Nat.le_refl _)
  clear hs1 hs2 hq
  obtain ⟨c_y_0, c_y_1, c_y_2, c_y_3, c_y_4, c_y_5, c_y_6⟩ := bwc7 (k_y)
  obtain ⟨c_f_0, c_f_1⟩ := bwc2 (k_f)
  have c_r_0 := bwc1 (k_r)
  have c_u_0 := bwc1 (k_u)
  obtain ⟨p2, hp2⟩ : ∃ p : BW W2, p.w = W2 := ⟨BW.start W2, rfl⟩
  rw [← hp2]
  clear hp2
  go_region_held3 (fun w' => w'.cell? ⟨w.heap.size, 0, none⟩ = some (.int .i64 o1) ∧ w'.cell? ⟨w.heap.size, 1, none⟩ = some (.int .i64 o2) ∧ w'.cell? ⟨w.heap.size, 2, none⟩ = some (.int .i64 o3) ∧ w'.cell? ⟨w.heap.size, 3, none⟩ = some (.int .i64 d1) ∧ w'.cell? ⟨w.heap.size, 4, none⟩ = some (.int .i64 d2) ∧ w'.cell? ⟨w.heap.size, 5, none⟩ = some (.int .i64 d3) ∧ w'.cell? ⟨w.heap.size, 6, none⟩ = some (.int .i64 fr)) (first | with_reducible exact ⟨c_y_0 _, c_y_1 _, c_y_2 _, c_y_3 _, c_y_4 _, c_y_5 _, c_y_6 _⟩ | go_keep) (first | (go_at_call 13; refine (plain_every _ _ _ _).mono ?_; rintro e w1 ⟨g1, rfl, kg, hb⟩; (first | obtain ⟨q, rfl⟩ := bw_take_drew hb | obtain ⟨q, rfl⟩ := bw_take hb)) | (go_at_call 12; refine (plain_hits _ _ _ _ _ _ o1 o2 o3 d1 d2 d3 fr _).mono ?_; rintro e w2 ⟨gi, gl, gr, rfl, ki, kl, kr, hb⟩; have kg2 := kg.below hb; obtain ⟨q, rfl⟩ := bw_take hb) | fail)
  all_goals (
    go_wp2
    have hz := KG.out g1 gi gl gr _ kg2 ki kl kr (hs3.below q.h (Nat.le_refl _))
    have kf0 := k_f.below q.h
    have kr0 := k_r.below q.h
    have ku0 := k_u.below q.h
    have hB0 := bw_below B2 q
    have hgr := kr0.lt
    refine (wpIn_wide (n := 0)).1 ?_
    refine range_to (gf := 21) (lb := #[.pointer (some ⟨gi, 0, none⟩), .pointer (some ⟨gl, 0, none⟩), .pointer (some ⟨gr, 0, none⟩)]) (encs := encH) (xs := L) (w0 := q.w) rfl (enters_of Try.func21 (by kernel_rfl) rfl) hz (fun _ => rfl)
      (fun pre b V => Below q.w.heap.size q.w V ∧ b = none ∧ ∀ x ∈ pre, (du || fless x.2.1 x.2.2 m e) = false)
      (fun c pre b V => (c = .ret ∧ (∃ rest, L = pre ++ rest) ∧ pre.any (fun x => du || fless x.2.1 x.2.2 m e) = true) ∧ Bk V g_r 4 #[.bool true] ∧ Below w.heap.size w V)
      (fun b => OwnFrom.and (ownFrom_below (Nat.le_refl _) (Nat.le_refl _)) (pure_own _))
      (fun c b => OwnFrom.and (pure_own _) (OwnFrom.and (bk_own _) (ownFrom_below (Nat.le_refl _) hB0.size)))
      (fun s b V h => h.1) ⟨Below.refl _ _, rfl, fun x hx => by cases hx⟩ ?round ?done ?stop
    case round =>
      rintro l pre x rest b V hl hx ⟨hV, rfl, hno⟩ hnl
      clear hz kg2 ki kl kr hs3
      have hxi := HI.out x (by rw [hx]; simp)
      have HX := Lib.hid hx
      have HNO := Lib.hid hno
      clear hx hno
      obtain ⟨x1, x2, x3⟩ := x
      have KLx := Lib.hid (fun w => KL.out x2 x3 hxi.2.1 hxi.2.2 w)
      clear hxi
      obtain ⟨fl, hfl⟩ : ∃ fl, fl = fless x2 x3 m e := ⟨_, rfl⟩
      rw [← hfl] at KLx
      have HFL := Lib.hid hfl
      clear hfl
      gi_wp2
      refine ⟨keepsBut_below ((Below.refl _ _).alloc (Nat.le_refl _) _), fun r' r'' hlr => ?_⟩
      obtain ⟨V2, hV2⟩ : ∃ V2, V2 = (V.alloc (.cells #[.int .i64 x1, .int .i64 x2, .int .i64 x3] 33)).putObj l (.loop r'') := ⟨_, rfl⟩
      have k_x : Bk V2 V.heap.size 33 #[.int .i64 x1, .int .i64 x2, .int .i64 x3] := by rw [hV2]; exact bk_put (Bk.new _ _ _) hlr _
      have hq2 : Below q.w.heap.size q.w V2 := by rw [hV2]; exact (hV.alloc hV.size _).trans (belowK_b (w := q.w) (Nat.le_refl _) _ _ _ _ (by omega) hlr rfl rfl)
      have B1 : Below w.heap.size w V2 := hB0.trans (hq2.mono hB0.size)
      have k_f := kf0.below hq2
      have k_r := kr0.below hq2
      have k_u := ku0.below hq2
      have hgx : g_r < V.heap.size := Nat.lt_of_lt_of_le hgr hV.size
      rw [← hV2]
      clear hV2 hlr
      obtain ⟨V0, hV0⟩ : ∃ V0, V0 = V2 := ⟨_, rfl⟩
      refine stops_from hV0 ?_
      have HV0 := Lib.hid hV0
      clear hV0
      generalize V.heap.size = g_x at *
      cases du with
      | true =>
          obtain ⟨c_f_0, c_f_1⟩ := bwc2 (k_f)
          have c_r_0 := bwc1 (k_r)
          have f_r_0 := bwf1 (k_r)
          have c_u_0 := bwc1 (k_u)
          obtain ⟨c_x_0, c_x_1, c_x_2⟩ := bwc3 (k_x)
          obtain ⟨p1, hp1⟩ : ∃ p : BW V2, p.w = V2 := ⟨BW.start V2, rfl⟩
          rw [← hp1]
          clear hp1
          gi_wp2
          refine ⟨trivial, ?_⟩
          gi_wp2
          exact ⟨none, by rw [HV0.out]; exact (keepsBut_below (BW.h _)).trans (keepsBut_set hgr), FreshRow.same _ _, ⟨rfl, ⟨rest, by rw [HX.out]; simp⟩, any_split (pre := pre) (rest := []) (x := (x1, x2, x3)) rfl⟩, bkp1 (k_r.below (BW.h _)) _, blp1 (bw_below B1 _) (by omega)⟩
      | false =>
        cases fl with
        | true =>
            obtain ⟨c_f_0, c_f_1⟩ := bwc2 (k_f)
            have c_r_0 := bwc1 (k_r)
            have f_r_0 := bwf1 (k_r)
            have c_u_0 := bwc1 (k_u)
            obtain ⟨c_x_0, c_x_1, c_x_2⟩ := bwc3 (k_x)
            obtain ⟨p1, hp1⟩ : ∃ p : BW V2, p.w = V2 := ⟨BW.start V2, rfl⟩
            rw [← hp1]
            clear hp1
            gi_wp2_with (refine ⟨trivial, rfl, ?_⟩; gi_at_call 15; refine (CallsIn.inRound l (callsIn_wide.2 (bw_call KLx.out _))).mono ?_; rintro e w' ⟨rfl, q', rfl⟩)
            exact ⟨none, by rw [HV0.out]; exact (keepsBut_below (BW.h _)).trans (keepsBut_set hgr), FreshRow.same _ _, ⟨rfl, ⟨rest, by rw [HX.out]; simp⟩, any_split (pre := pre) (rest := []) (x := (x1, x2, x3)) (by rw [Bool.false_or]; exact HFL.out.symm)⟩, bkp1 (k_r.below (BW.h _)) _, blp1 (bw_below B1 _) (by omega)⟩
        | false =>
            obtain ⟨c_f_0, c_f_1⟩ := bwc2 (k_f)
            have c_r_0 := bwc1 (k_r)
            have f_r_0 := bwf1 (k_r)
            have c_u_0 := bwc1 (k_u)
            obtain ⟨c_x_0, c_x_1, c_x_2⟩ := bwc3 (k_x)
            obtain ⟨p1, hp1⟩ : ∃ p : BW V2, p.w = V2 := ⟨BW.start V2, rfl⟩
            rw [← hp1]
            clear hp1
            gi_wp2_with (refine ⟨trivial, rfl, ?_⟩; gi_at_call 15; refine (CallsIn.inRound l (callsIn_wide.2 (bw_call KLx.out _))).mono ?_; rintro e w' ⟨rfl, q', rfl⟩)
            exact ⟨none, by rw [HV0.out]; exact keepsBut_below (BW.h _), FreshRow.same _ _, hq2.trans ((BW.h _).mono hq2.size), rfl, fun y hy => by
              rcases List.mem_append.1 hy with hy | hy
              · exact HNO.out y hy
              · have : y = (x1, x2, x3) := by simpa using hy
                rw [this, Bool.false_or]; exact HFL.out.symm⟩
    case done =>
      rintro D b V hD ⟨hV, rfl, hno⟩ hK
      clear hz kg2 ki kl kr hs3
      have hfalse : res = false := by rw [HRES.out, ← HDU.out]; exact any_none hno
      have k_r := kr0.below hV
      have c_r := k_r.cell (i := 0) rfl
      have f_r := k_r.frozen 0
      have hDr : ¬ D = g_r := by omega
      have kr1 := bkp1 k_r (.bool false)
      have hK1 : (V.setCell ⟨g_r, 0, none⟩ (.bool false)).heap[D]? = some (.deferred (some [])) := (Below.heap_setCell _ _ _ _ hDr).trans hK
      have B3 : Below w.heap.size w (V.setCell ⟨g_r, 0, none⟩ (.bool false)) := blp1 (hB0.trans (hV.mono hB0.size)) (by omega)
      go_wp2
      try rw [Exit.noGoto_ret]
      refine ⟨by simp, .inl ⟨_, _, rfl, run_takeDeferred hK1, ?_⟩⟩
      have rc0 := rwc1 (bk_turn kr1 hK1 rfl (.deferred none))
      exact ⟨.bool false, by simp [results, Try.results8, go_sem, rc0], by rw [hfalse], B3.trans (belowK_b (w := w) (Nat.le_refl _) _ D _ _ (by have := hB0.size; omega) hK1 rfl rfl)⟩
    case stop =>
      rintro D c pre b V hD ⟨⟨rfl, ⟨rest, hx⟩, hany⟩, k_r, hB⟩ hK
      clear hz kg2 ki kl kr hs3
      have htrue : res = true := by rw [HRES.out, ← HDU.out, hx, List.any_append, hany, Bool.true_or]
      refine wpIn_wide.2 ?_
      go_wp2
      try rw [Exit.noGoto_ret]
      refine ⟨by simp, .inl ⟨_, _, rfl, run_takeDeferred hK, ?_⟩⟩
      have rc0 := rwc1 (bk_turn k_r hK rfl (.deferred none))
      exact ⟨.bool true, by simp [results, Try.results8, go_sem, rc0], by rw [htrue], hB.trans (belowK_b (w := w) (Nat.le_refl _) _ D _ _ (by have := hB0.size; omega) hK rfl rfl)⟩)

end

end Go.Proofs.Ytokkankfaofooaa
