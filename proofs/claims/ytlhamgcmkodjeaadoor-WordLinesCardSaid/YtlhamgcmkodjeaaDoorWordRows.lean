/- WordRows: the walk. -/
import Derived.Test.YtlhamgcmkodjeaaDoorSame18
import Derived.Test.YtlhamgcmkodjeaaDoorWordNumbers
namespace Go.Proofs.YtlhamgcmkodjeaaDoor
open Go.RowKit Go.Shelf Go.Proofs.Sky
set_option linter.unusedVariables false
set_option linter.unusedSimpArgs false

theorem bw_take18 {wb w1 : World} {p : BW wb} (hb : Below p.w.heap.size p.w w1) : ∃ q : BW wb, w1 = q.w := ⟨p.next w1 hb, rfl⟩

theorem rowsFrom_len (L : List (List UInt8)) : ∀ n, (rowsFrom n L).length ≤ L.length := by
  induction L with
  | nil => intro n; exact Nat.le_refl _
  | cons x L ih =>
    intro n
    rw [rowsFrom_c]
    have := ih (n + 1)
    split
    · simp; omega
    · simp; omega

theorem rowsFrom_ws (L : List (List UInt8)) (B : Nat) (h : ∀ x ∈ L, x.length ≤ B) : ∀ n, ∀ r ∈ rowsFrom n L, r.ws.length ≤ B + 1 := by
  induction L with
  | nil => intro n r hr; cases hr
  | cons x L ih =>
    intro n r hr
    rw [rowsFrom_c] at hr
    have hL := ih (fun y hy => h y (List.mem_cons_of_mem _ hy)) (n + 1)
    split at hr
    · exact hL r hr
    · rcases List.mem_cons.1 hr with rfl | hr
      · have := toks_len x
        have := h x List.mem_cons_self
        show (toks x).length ≤ _
        omega
      · exact hL r hr

theorem rowsOf_small (l : List UInt8) (hl : l.length ≤ 200000) : (rowsOf l).length ≤ 1000000 ∧ ∀ i (h : i < (rowsOf l).length), ((rowsOf l)[i]).ws.length ≤ 1000000 := by
  have h1 := rowsFrom_len (spl nl l) 1
  have h2 := (spl_len nl l).2
  refine ⟨by unfold rowsOf; omega, fun i h => ?_⟩
  have := rowsFrom_ws (spl nl l) l.length (spl_size nl l) 1 _ (List.getElem_mem h)
  omega

set_option maxRecDepth 100000 in
set_option maxHeartbeats 8000000 in
theorem law_WordRows_long (l s : List UInt8) (n : Int) (m : Nat) (hl : 200 < l.length) (W : World) (hL : Laid18 W) :
    Calls Tryd.prog 3 #[.string ⟨l.toArray⟩, .string ⟨s.toArray⟩, .int .i64 n, .int .u64 (m : Int)] W fun e W' => e = .returned (.bool true) ∧ Below W.heap.size W W' := by
  obtain ⟨x, hx⟩ : ∃ x : ByteArray, x = ⟨l.toArray⟩ := ⟨_, rfl⟩
  obtain ⟨y, hy⟩ : ∃ y : ByteArray, y = ⟨s.toArray⟩ := ⟨_, rfl⟩
  rw [← hx, ← hy]
  have hlen := fun ty w => len18 (P := Tryd.prog) Tryd.underlying9 hx ty w
  have hlen2 := fun ty w => len18 (P := Tryd.prog) Tryd.underlying9 hy ty w
  have q : decide (200 < (l.length : Int)) = true := decide_eq_true (by omega)
  have KA := Lib.hid (awake18 W hL)
  clear hx hy hl hL
  generalize l.length = k at *
  generalize s.length = k2 at *
  go_enter Tryd.func3, Tryd.ntmps3
  go_wp2_with (go_at_call 6; (with_reducible refine KA.out.mono ?_); rintro e w1 ⟨rfl, hb1⟩)
  go_ret
  exact ⟨rfl, hb1⟩

set_option maxRecDepth 100000 in
set_option maxHeartbeats 8000000 in
theorem law_WordRows_longs (l s : List UInt8) (n : Int) (m : Nat) (hl : l.length ≤ 200 ∧ 30 < s.length) (W : World) (hL : Laid18 W) :
    Calls Tryd.prog 3 #[.string ⟨l.toArray⟩, .string ⟨s.toArray⟩, .int .i64 n, .int .u64 (m : Int)] W fun e W' => e = .returned (.bool true) ∧ Below W.heap.size W W' := by
  obtain ⟨x, hx⟩ : ∃ x : ByteArray, x = ⟨l.toArray⟩ := ⟨_, rfl⟩
  obtain ⟨y, hy⟩ : ∃ y : ByteArray, y = ⟨s.toArray⟩ := ⟨_, rfl⟩
  rw [← hx, ← hy]
  have hlen := fun ty w => len18 (P := Tryd.prog) Tryd.underlying9 hx ty w
  have hlen2 := fun ty w => len18 (P := Tryd.prog) Tryd.underlying9 hy ty w
  have q : decide (200 < (l.length : Int)) = false := decide_eq_false (by omega)
  have q2 : decide (30 < (s.length : Int)) = true := decide_eq_true (by omega)
  have KA := Lib.hid (awake18 W hL)
  clear hx hy hl hL
  generalize l.length = k at *
  generalize s.length = k2 at *
  go_enter Tryd.func3, Tryd.ntmps3
  go_wp2_with (go_at_call 6; (with_reducible refine KA.out.mono ?_); rintro e w1 ⟨rfl, hb1⟩)
  go_ret
  exact ⟨rfl, hb1⟩

set_option maxRecDepth 100000 in
set_option maxHeartbeats 16000000 in
theorem law_WordRows_short (l s : List UInt8) (n : Int) (m : Nat) (hl : l.length ≤ 200) (hs : s.length ≤ 30) (hn : -9223372036854775808 ≤ n ∧ n ≤ 9223372036854775807) (hm : m < 18446744073709551616) (W : World) (hL : Laid18 W) :
    Calls Tryd.prog 3 #[.string ⟨l.toArray⟩, .string ⟨s.toArray⟩, .int .i64 n, .int .u64 (m : Int)] W fun e W' => e = .returned (.bool true) ∧ Below W.heap.size W W' := by
  have KL : ∀ p : BW W, Laid18 p.w := fun p => hL.below p.h
  have KA := Lib.hid (fun p : BW W => awake18 p.w (KL p))
  have K1 := Lib.hid (fun p : BW W => word_Number s (by omega) p.w (KL p))
  have K2 := Lib.hid (fun p : BW W => ref18_Number s p.w)
  have K3 := Lib.hid (fun p : BW W => word_Big s (by omega) p.w (KL p))
  have K4 := Lib.hid (fun p : BW W => ref18_Big s (by omega) p.w)
  have KD := Lib.hid (fun p : BW W => word_Digits n hn.1 hn.2 p.w (KL p))
  have KE := Lib.hid (fun p : BW W => ref18_Digits n hn.1 hn.2 p.w)
  have KB := Lib.hid (fun p : BW W => word_BigDigits m hm p.w (KL p))
  have KC := Lib.hid (fun p : BW W => ref18_BigDigits m hm p.w)
  have KR := Lib.hid (fun p : BW W => word_Rows l (by omega) p.w)
  have KS := Lib.hid (fun p : BW W => ref18_Rows l (by omega) p.w)
  have KM := Lib.hid (fun (p : BW W) va vb ha hb => law18_same va vb (rowsOf l) p.w ha hb (rowsOf_small l (by omega)).1 (rowsOf_small l (by omega)).2)
  generalize (numOf s).1 = N1 at *
  generalize (numOf s).2 = N2 at *
  generalize (bigOf s).1 = B1 at *
  generalize (bigOf s).2 = B2 at *
  generalize rowsOf l = rs at *
  have e1 : ((Lib.itoa n) == (Lib.itoa n)) = true := by simp
  have e2 : ((Lib.decDigits m) == (Lib.decDigits m)) = true := by simp
  have e3 : (N2 == N2) = true := by simp
  have e4 : (B2 == B2) = true := by simp
  generalize Lib.itoa n = dn at *
  generalize Lib.decDigits m = dm at *
  obtain ⟨x, hx⟩ : ∃ x : ByteArray, x = ⟨l.toArray⟩ := ⟨_, rfl⟩
  obtain ⟨y, hy⟩ : ∃ y : ByteArray, y = ⟨s.toArray⟩ := ⟨_, rfl⟩
  have hlen := fun ty w => len18 (P := Tryd.prog) Tryd.underlying9 hx ty w
  have hlen2 := fun ty w => len18 (P := Tryd.prog) Tryd.underlying9 hy ty w
  have q : decide (200 < (l.length : Int)) = false := decide_eq_false (by omega)
  have q2 : decide (30 < (s.length : Int)) = false := decide_eq_false (by omega)
  rw [← hx] at KR KS ⊢
  rw [← hy] at K1 K2 K3 K4 ⊢
  clear hx hy hL KL hl hs hn hm
  generalize l.length = k at *
  generalize s.length = k2 at *
  obtain ⟨p0, hp0⟩ : ∃ p : BW W, p.w = W := ⟨BW.start W, rfl⟩
  suffices H : Calls Tryd.prog 3 #[.string x, .string y, .int .i64 n, .int .u64 (m : Int)] p0.w fun e W' => e = .returned (.bool true) ∧ ∃ q : BW W, W' = q.w by
    rw [hp0] at H
    exact H.mono (fun e W' ⟨h1, q, h2⟩ => ⟨h1, by rw [h2]; exact q.h⟩)
  clear hp0
  go_enter Tryd.func3, Tryd.ntmps3
  go_wp2_with (first
    | (go_at_call 7; (with_reducible refine (bw_callp K1.out _).mono ?_); rintro e w' ⟨rfl, q, rfl⟩)
    | (go_at_call 8; (with_reducible refine (bw_callp K2.out _).mono ?_); rintro e w' ⟨rfl, q, rfl⟩)
    | (go_at_call 9; (with_reducible refine (bw_callp K3.out _).mono ?_); rintro e w' ⟨rfl, q, rfl⟩)
    | (go_at_call 10; (with_reducible refine (bw_callp K4.out _).mono ?_); rintro e w' ⟨rfl, q, rfl⟩)
    | (go_at_call 14; (with_reducible refine (bw_callp KD.out _).mono ?_); rintro e w' ⟨rfl, q, rfl⟩)
    | (go_at_call 15; (with_reducible refine (bw_callp KE.out _).mono ?_); rintro e w' ⟨rfl, q, rfl⟩)
    | (go_at_call 16; (with_reducible refine (bw_callp KB.out _).mono ?_); rintro e w' ⟨rfl, q, rfl⟩)
    | (go_at_call 17; (with_reducible refine (bw_callp KC.out _).mono ?_); rintro e w' ⟨rfl, q, rfl⟩)
    | (go_at_call 6; (with_reducible refine (bw_callp KA.out _).mono ?_); rintro e w' ⟨rfl, q, rfl⟩)
    | (go_at_call 12; (with_reducible refine (KR.out _).mono ?_); rintro e w1 ⟨u1, rfl, R1, hb1⟩; obtain ⟨q1, rfl⟩ := bw_take18 hb1; clear hb1)
    | (go_at_call 13; (with_reducible refine (KS.out _).mono ?_); rintro e w2 ⟨u2, rfl, R2, hb2⟩; replace R1 := R1.below hb2; obtain ⟨q2, rfl⟩ := bw_take18 hb2; clear hb2)
    | (go_at_call 11; (with_reducible refine (KM.out _ _ _ R1 R2).mono ?_); rintro e w3 ⟨rfl, hb3⟩; obtain ⟨q3, rfl⟩ := bw_take18 hb3; clear hb3))
  go_ret
  exact ⟨rfl, _, rfl⟩

theorem i64_of_wf18 {a : Int} (h : (Lit.int .i64 a).wf = true) : -9223372036854775808 ≤ a ∧ a ≤ 9223372036854775807 := by
  simp [Lit.wf, IntKind.min, IntKind.max, IntKind.signed, IntKind.bits] at h
  omega

theorem card_WordRows (x y : ByteArray) (a2 a3 : Int) (W : World) (h2 : (Lit.int .i64 a2).wf = true) (h3 : (Lit.int .u64 a3).wf = true) (hL : Laid18 W) :
    Calls Tryd.prog 3 #[.string x, .string y, .int .i64 a2, .int .u64 a3] W fun e W' => e = .returned (.bool true) ∧ Below W.heap.size W W' := by
  obtain ⟨l, rfl⟩ := string18 x
  obtain ⟨s, rfl⟩ := string18 y
  have hm := u64_of_wf18 h3
  obtain ⟨m, rfl⟩ : ∃ m : Nat, a3 = (m : Int) := ⟨a3.toNat, by omega⟩
  by_cases hl : 200 < l.length
  · exact law_WordRows_long l s a2 m hl W hL
  · by_cases hs : 30 < s.length
    · exact law_WordRows_longs l s a2 m ⟨by omega, hs⟩ W hL
    · exact law_WordRows_short l s a2 m (by omega) (by omega) (i64_of_wf18 h2) (by omega) W hL

end Go.Proofs.YtlhamgcmkodjeaaDoor
