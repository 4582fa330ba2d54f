/- The document's answers: a text's rows. -/
import Derived.Test.YtlhamgcmkodjeaaDoorRefu18
namespace Go.Proofs.YtlhamgcmkodjeaaDoor
open Go.RowKit Go.Proofs.Sky
set_option linter.unusedVariables false
set_option linter.unusedSimpArgs false

set_option maxRecDepth 100000 in
set_option maxHeartbeats 8000000 in
theorem ref18_Rows (l : List UInt8) (hl : l.length ≤ 100000) (w : World) :
    Calls Tryd.prog 13 #[.string ⟨l.toArray⟩] w fun e w' => ∃ u, e = .returned u ∧ RowsAt18 w' u (rowsOf l) ∧ Below w.heap.size w w' := by
  obtain ⟨i0, hi0, hz0, hz1, hz2⟩ := info_parts rrow_info
  have KL := Lib.hid (fun w => ref18_Lines l hl w)
  obtain ⟨N, hN⟩ : ∃ N, N = (spl nl l).length := ⟨_, rfl⟩
  have hN1 : N ≤ 100001 := by have := (spl_len nl l).2; omega
  have HN := Lib.hid hN
  have KR := Lib.hid (fun (k : Nat) (hk : k < (spl nl l).length) (w : World) => ref18_row (spl nl l)[k] (k + 1) (by have := spl_size nl l _ (List.getElem_mem hk); omega) (by have := (spl_len nl l).2; omega) w)
  have HW := Lib.hid (fun (k : Nat) (hk : k < (spl nl l).length) => (show (toks (spl nl l)[k]).length ≤ 100001 by have := spl_size nl l _ (List.getElem_mem hk); have := toks_len (spl nl l)[k]; omega))
  obtain ⟨R, hR⟩ : ∃ R, R = rowsOf l := ⟨_, rfl⟩
  have HR := Lib.hid (show R = rowsFrom 1 (spl nl l) from hR)
  rw [← hR]
  clear hR hN
  go_enter Tryd.func13, Tryd.ntmps13
  go_upto_region 3 with (go_at_call 26; (with_reducible refine (KL.out _).mono ?_); rintro e W1 ⟨lv, rfl, hs, B1⟩)
  obtain ⟨la, lc, rfl, _, hS⟩ := hs.sll (by have := HN.out; unfold maxLen; omega)
  rw [← HN.out]
  have HS := Lib.hid hS
  clear hS hs KL
  have hB1 := B1.size
  go_wp2
  go_loopw [3, 5] (fun u i wr => ∃ (k : Nat) (L : List (Rw × Value)), k ≤ N ∧ i = .int .i64 k ∧ Hid (L.map (·.1) = rowsFrom 1 ((spl nl l).take k) ∧ L.length ≤ k ∧ ∀ p ∈ L, p.1.ws.length ≤ 100001) ∧ RowRow wr W1.heap.size 56 57 u L ∧ Below W1.heap.size W1 wr) (fun _ i _ => N - (intOf i).toNat)
  case atStart => exact ⟨0, [], by omega, rfl, Lib.hid ⟨rfl, by simp, fun p hp => by cases hp⟩, ⟨World.ownsRow_nil _ _ _ _, fun p hp => by cases hp⟩, Below.refl _ _⟩
  case round =>
    obtain ⟨k, L, hk, rfl, HD, hu, BO⟩ := hrel
    obtain ⟨ua, uc, rfl⟩ := owns_slice hu.1
    by_cases hlt : k < N
    · have hkl : k < (spl nl l).length := by have := HN.out; omega
      obtain ⟨bb, off, rfl, hbb, hcell⟩ := HS.out.resolve_left (by have := HN.out; omega)
      have x0 : W1.cell? ⟨bb, off + k, none⟩ = some (.string ⟨(spl nl l)[k].toArray⟩) := by have := hcell k hkl 0 (by omega); simpa [sval] using this
      have KR : Hid (∀ w, Calls Tryd.prog 27 #[.string ⟨(spl nl l)[k].toArray⟩, .int .i64 ((k : Int) + 1)] w fun e w' => ∃ u, e = .returned (.agg #[.int .i64 ((k : Int) + 1), .int .i64 (endOf (toks (spl nl l)[k]) : Int), u]) ∧ TokRow w' w.heap.size 57 u (k + 1) (toks (spl nl l)[k]) ∧ Below w.heap.size w w') := Lib.hid (fun w => by
        have := KR.out k hkl w
        rw [show ((k + 1 : Nat) : Int) = (k : Int) + 1 by omega] at this
        exact this)
      have HX : Hid (rowsFrom 1 ((spl nl l).take (k + 1)) = rowsFrom 1 ((spl nl l).take k) ++ if toks (spl nl l)[k] = [] then [] else [lineRow (k + 1) (spl nl l)[k]]) := Lib.hid (by
        rw [List.take_add_one, List.getElem?_eq_getElem hkl]
        show rowsFrom 1 ((spl nl l).take k ++ [(spl nl l)[k]]) = _
        rw [rowsFrom_snoc, List.length_take, Nat.min_eq_left (by omega), Nat.add_comm 1 k])
      have hwl := HW.out k hkl
      obtain ⟨x, hx⟩ : ∃ x, x = (spl nl l)[k] := ⟨_, rfl⟩
      rw [← hx] at x0 HX hwl KR
      clear hx hcell
      have y0 := (BO.cell (p := ⟨bb, off + k, none⟩) hbb).trans x0
      clear x0
      have hL := HD.out.2.1
      go_upto_region 7 with (go_at_call 27; (with_reducible refine (KR.out _).mono ?_); rintro e w2 ⟨tv, rfl, htok, hb2⟩; obtain ⟨ta, tc, rfl⟩ := owns_slice htok)
      obtain ⟨ee, hee⟩ : ∃ ee, ee = endOf (toks x) := ⟨_, rfl⟩
      rw [← hee]
      obtain ⟨W3, hW3⟩ : ∃ W, W = w2.alloc (.cells #[.int .i64 ((k : Int) + 1), .int .i64 (ee : Int), .slice ta (toks x).length tc] 56) := ⟨_, rfl⟩
      have B2 : Below W1.heap.size W1 w2 := BO.trans (hb2.mono BO.size)
      have B3 : Below W1.heap.size W1 W3 := by rw [hW3]; exact B2.alloc B2.size _
      have hb3 : Below wr.heap.size wr W3 := by rw [hW3]; exact hb2.alloc hb2.size _
      have hu3 := hu.below hb3
      have ht3 : TokRow W3 W1.heap.size 57 (.slice ta (toks x).length tc) (k + 1) (toks x) := by rw [hW3]; exact owns_mono (World.ownsRow.alloc htok _) BO.size
      have k_t : Bk W3 w2.heap.size 56 #[.int .i64 ((k : Int) + 1), .int .i64 (ee : Int), .slice ta (toks x).length tc] := by rw [hW3]; exact Bk.new _ _ _
      rw [← hW3]
      have HEE := Lib.hid hee
      clear hW3 B2 hb3 hu htok hb2 BO y0 hee
      generalize w2.heap.size = g_t at *
      by_cases h0 : toks x = []
      · have hx0 : (toks x).length = 0 := by rw [h0]; rfl
        have HNX : Hid (L.map (·.1) = rowsFrom 1 ((spl nl l).take (k + 1)) ∧ L.length ≤ k + 1 ∧ ∀ p ∈ L, p.1.ws.length ≤ 100001) := Lib.hid ⟨by rw [HX.out, if_pos h0, List.append_nil]; exact HD.out.1, by omega, HD.out.2.2⟩
        rw [hx0] at k_t
        rw [hx0]
        obtain ⟨c_t_0, c_t_1, c_t_2⟩ := rwc3 k_t
        clear hx0 h0 hwl
        go_wp2
        go_roundw
        case rel => exact ⟨k + 1, L, by omega, by go_num, HNX, hu3, B3⟩
        case measure => simp [intOf]; omega
      · have hx0 : 0 < (toks x).length := List.length_pos_iff.2 h0
        have HNX : Hid ((L ++ [(lineRow (k + 1) x, Value.slice ta (toks x).length tc)]).map (·.1) = rowsFrom 1 ((spl nl l).take (k + 1)) ∧ (L ++ [(lineRow (k + 1) x, Value.slice ta (toks x).length tc)]).length ≤ k + 1 ∧ ∀ p ∈ L ++ [(lineRow (k + 1) x, Value.slice ta (toks x).length tc)], p.1.ws.length ≤ 100001) := Lib.hid ⟨by rw [HX.out, if_neg h0, List.map_append, HD.out.1]; rfl, by simp; omega, fun p hp => by
          rcases List.mem_append.1 hp with hp | hp
          · exact HD.out.2.2 p hp
          · obtain rfl := List.mem_singleton.1 hp; exact hwl⟩
        have hcs : rcells (lineRow (k + 1) x, Value.slice ta (toks x).length tc) = [.int .i64 ((k : Int) + 1), .int .i64 (ee : Int), .slice ta (toks x).length tc] := by
          rw [HEE.out]; unfold rcells lineRow; simp only; rw [show ((k + 1 : Nat) : Int) = (k : Int) + 1 by omega]
        have HC := Lib.hid hcs
        obtain ⟨tn, htn⟩ : ∃ tn, tn = (toks x).length := ⟨_, rfl⟩
        rw [← htn] at hx0 k_t ht3 HNX HC ⊢
        clear h0 hwl hcs htn
        obtain ⟨c_t_0, c_t_1, c_t_2⟩ := bwc3 k_t
        obtain ⟨p1, hp1⟩ : ∃ p : BW W3, p.w = W3 := ⟨BW.start W3, rfl⟩
        have B4 := B3
        rw [← hp1]
        clear hp1
        go_wp2_with (at_builtin; refine wpList_append_at rfl _ _ 31 rfl W1.heap.size 56 i0 _ 3 40 Tryd.underlying31 hi0 hz0 hz1 hz2 rfl (by decide) _ L.length (L.flatMap rcells) rfl (World.ownsRow.alloc (owns_below hu3.1 (BW.h _)) _) ⟨_, 0, none⟩ 1 1 [.int .i64 ((k : Int) + 1), .int .i64 (ee : Int), .slice ta tn tc] rfl rfl ?g1 ?g2 ?g3 ?g4 ?g5 ?_)
        case g1 => exact cells_new _ _ _
        case g2 => intro u hu; simp only [List.mem_cons, List.not_mem_nil, or_false] at hu; rcases hu with rfl | rfl | rfl <;> rfl
        case g3 => unfold maxLen; omega
        case g4 => omega
        case g5 => have := (bw_below B3 p1).size; simp; omega
        intro v' w4 hown hgrow hat
        obtain ⟨va, vc, rfl⟩ := owns_slice hown
        have hbp : Below W3.heap.size W3 (p1.w.alloc (.cells #[.int .i64 ((k : Int) + 1), .int .i64 (ee : Int), .slice ta tn tc] 56)) := p1.h.alloc p1.h.size _
        have hb1 : Below W1.heap.size W1 w4 := (B3.trans (hbp.mono B3.size)).grown hgrow (by have := (B3.trans (hbp.mono B3.size)).size; exact this) (fun j ej => (World.ownsRow.lt hu3.1 _ ej).1)
        have r1 : RowRow w4 W1.heap.size 56 57 (.slice va (L.length + 1) vc) (L ++ [(lineRow (k + 1) x, .slice ta tn tc)]) := (hu3.below hbp).put (by rw [HC.out]; exact hown) hgrow (owns_below ht3 hbp) (by decide)
        clear hown hgrow hat hbp
        go_wp2
        go_roundw
        case rel => exact ⟨k + 1, _, by omega, by go_num, HNX, r1, hb1⟩
        case measure => simp [intOf]; omega
    · obtain rfl : k = N := by omega
      have HE : Hid (L.map (·.1) = R) := Lib.hid (by rw [HD.out.1, HR.out, List.take_of_length_le (by have := HN.out; omega)])
      have hf := hu.at (by have := HD.out.2.1; unfold maxLen; omega) (fun p hp => by have := HD.out.2.2 p hp; unfold maxLen; omega)
      rw [HE.out] at hf
      go_wp2
      go_ret
      exact ⟨_, rfl, hf, B1.trans (BO.mono hB1)⟩

end Go.Proofs.YtlhamgcmkodjeaaDoor
