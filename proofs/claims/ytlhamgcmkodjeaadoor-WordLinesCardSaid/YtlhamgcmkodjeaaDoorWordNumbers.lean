/- WordNumbers: the walk. -/
import Derived.Test.YtlhamgcmkodjeaaDoorAwake18
namespace Go.Proofs.YtlhamgcmkodjeaaDoor
open Go.RowKit Go.Shelf Go.Proofs.Sky
set_option linter.unusedVariables false
set_option linter.unusedSimpArgs false

theorem less_zero (n : Int) : Op.bytesLess (Lib.itoa n) [48] = decide (n < 0) := by
  by_cases hn : n < 0
  · obtain ⟨u, rfl⟩ : ∃ u : Nat, n = -(u : Int) := ⟨n.natAbs, by omega⟩
    rw [Lib.itoa_neg u (by omega), decide_eq_true hn]
    rfl
  · obtain ⟨u, rfl⟩ : ∃ u : Nat, n = (u : Int) := ⟨n.toNat, by omega⟩
    rw [Lib.itoa_nonneg, decide_eq_false hn]
    obtain ⟨c, l, e, hc⟩ := digits_cons u
    rw [e]
    unfold dig at hc
    have h1 : decide (c < 48) = false := decide_eq_false (fun h => by have := UInt8.lt_iff_toNat_lt.1 h; simp at this; omega)
    have h2 : Op.bytesLess l [] = false := by cases l <;> rfl
    show (decide (c < 48) || (c == 48 && Op.bytesLess l [])) = false
    rw [h1, h2]
    simp

set_option maxRecDepth 100000 in
set_option maxHeartbeats 8000000 in
theorem law_WordNumbers_long (n : Int) (m : Nat) (l : List UInt8) (hl : 30 < l.length) (W : World) (hL : Laid18 W) :
    Calls Tryd.prog 4 #[.int .i32 n, .int .u64 (m : Int), .string ⟨l.toArray⟩] W fun e W' => e = .returned (.bool true) ∧ Below W.heap.size W W' := by
  obtain ⟨s, hs⟩ : ∃ s : ByteArray, s = ⟨l.toArray⟩ := ⟨_, rfl⟩
  rw [← hs]
  have hlen := fun ty w => len18 (P := Tryd.prog) Tryd.underlying9 hs ty w
  have q : decide (30 < (l.length : Int)) = true := decide_eq_true (by omega)
  have KA := Lib.hid (awake18 W hL)
  clear hs hl hL
  generalize l.length = k at *
  go_enter Tryd.func4, Tryd.ntmps4
  go_wp2_with (go_at_call 6; (with_reducible refine KA.out.mono ?_); rintro e w1 ⟨rfl, hb1⟩)
  go_ret
  exact ⟨rfl, hb1⟩

-- WAYS
set_option maxRecDepth 100000 in
set_option maxHeartbeats 16000000 in
theorem law_WordNumbers_yy (n : Int) (m : Nat) (l : List UInt8) (hn : -2147483648 ≤ n ∧ n ≤ 2147483647) (hm : m < 18446744073709551616) (hl : l.length ≤ 30) (c : Int) (hc : -2147483648 ≤ c ∧ c ≤ 2147483648) (ec : Lib.itoa c = l) (e1 : numOf l = (c, true)) (d : Nat) (hd : d < 18446744073709551616) (ed : Lib.decDigits d = l) (e2 : bigOf l = (d, true)) (W : World) (hL : Laid18 W) :
    Calls Tryd.prog 4 #[.int .i32 n, .int .u64 (m : Int), .string ⟨l.toArray⟩] W fun e W' => e = .returned (.bool true) ∧ Below W.heap.size W W' := by
  have KL : ∀ p : BW W, Laid18 p.w := fun p => hL.below p.h
  have KA := Lib.hid (fun p : BW W => awake18 p.w (KL p))
  have KD := Lib.hid (fun p : BW W => word_Digits n (by omega) (by omega) p.w (KL p))
  have KB := Lib.hid (fun p : BW W => word_BigDigits m hm p.w (KL p))
  have K1 := Lib.hid (fun p : BW W => word_Number (Lib.itoa n) (by have := itoa_len n (by omega); omega) p.w (KL p))
  have K2 := Lib.hid (fun p : BW W => word_Big (Lib.decDigits m) (by have := digits_len m hm; omega) p.w (KL p))
  have K3 := Lib.hid (fun p : BW W => word_Number l (by omega) p.w (KL p))
  have K4 := Lib.hid (fun p : BW W => word_Big l (by omega) p.w (KL p))
  rw [numOf_of (n := n) (by omega) rfl] at K1
  rw [bigOf_of (n := m) hm rfl] at K2
  rw [e1] at K3
  rw [e2] at K4
  have KC := Lib.hid (fun p : BW W => word_Digits c (by omega) (by omega) p.w (KL p))
  rw [ec] at KC
  have KE := Lib.hid (fun p : BW W => word_BigDigits d hd p.w (KL p))
  rw [ed] at KE
  have hless := less_zero n
  obtain ⟨D, hD⟩ : ∃ D, D = Lib.itoa n := ⟨_, rfl⟩
  obtain ⟨E, hE⟩ : ∃ E, E = Lib.decDigits m := ⟨_, rfl⟩
  rw [← hD] at KD K1 hless
  rw [← hE] at KB K2
  have q : decide (30 < (l.length : Int)) = false := decide_eq_false (by omega)
  have hw : IntKind.i64.wrap n = n := by rw [IntKind.wrap_i64]; omega
  have hself : (l == l) = true := by simp
  obtain ⟨b0, hb0⟩ : ∃ b0, decide (n < 0) = b0 := ⟨_, rfl⟩
  rw [hb0] at hless
  obtain ⟨s, hs⟩ : ∃ s : ByteArray, s = ⟨l.toArray⟩ := ⟨_, rfl⟩
  have hlen := fun ty w => len18 (P := Tryd.prog) Tryd.underlying9 hs ty w
  have hsl : (l == s.toList) = true := by rw [hs, ByteArray.toList_mk]; simp
  have hsl2 : (s.toList == s.toList) = true := by simp
  rw [← hs] at K3 K4 ⊢
  rw [← hs] at KC
  rw [← hs] at KE
  clear hD hE hL KL e1 e2 hm hs ec ed
  generalize l.length = kk at *
  clear hl
  obtain ⟨p0, hp0⟩ : ∃ p : BW W, p.w = W := ⟨BW.start W, rfl⟩
  suffices H : Calls Tryd.prog 4 #[.int .i32 n, .int .u64 (m : Int), .string s] p0.w fun e W' => e = .returned (.bool true) ∧ ∃ q : BW W, W' = q.w by
    rw [hp0] at H
    exact H.mono (fun e W' ⟨h1, q, h2⟩ => ⟨h1, by rw [h2]; exact q.h⟩)
  clear hp0
  go_enter Tryd.func4, Tryd.ntmps4
  go_wp2_with (first
    | (go_at_call 14; (with_reducible refine (bw_callp KD.out _).mono ?_); rintro e w' ⟨rfl, q, rfl⟩)
    | (go_at_call 16; (with_reducible refine (bw_callp KB.out _).mono ?_); rintro e w' ⟨rfl, q, rfl⟩)
    | (go_at_call 7; (with_reducible refine (bw_callp K1.out _).mono ?_); rintro e w' ⟨rfl, q, rfl⟩)
    | (go_at_call 9; (with_reducible refine (bw_callp K2.out _).mono ?_); rintro e w' ⟨rfl, q, rfl⟩)
    | (go_at_call 7; (with_reducible refine (bw_callp K3.out _).mono ?_); rintro e w' ⟨rfl, q, rfl⟩)
    | (go_at_call 9; (with_reducible refine (bw_callp K4.out _).mono ?_); rintro e w' ⟨rfl, q, rfl⟩)
    | (go_at_call 6; (with_reducible refine (bw_callp KA.out _).mono ?_); rintro e w' ⟨rfl, q, rfl⟩)
    | (go_at_call 14; (with_reducible refine (bw_callp KC.out _).mono ?_); rintro e w' ⟨rfl, q, rfl⟩)
    | (go_at_call 16; (with_reducible refine (bw_callp KE.out _).mono ?_); rintro e w' ⟨rfl, q, rfl⟩))
  go_ret
  exact ⟨rfl, _, rfl⟩

set_option maxRecDepth 100000 in
set_option maxHeartbeats 16000000 in
theorem law_WordNumbers_yn (n : Int) (m : Nat) (l : List UInt8) (hn : -2147483648 ≤ n ∧ n ≤ 2147483647) (hm : m < 18446744073709551616) (hl : l.length ≤ 30) (c : Int) (hc : -2147483648 ≤ c ∧ c ≤ 2147483648) (ec : Lib.itoa c = l) (e1 : numOf l = (c, true)) (e2 : bigOf l = (0, false)) (W : World) (hL : Laid18 W) :
    Calls Tryd.prog 4 #[.int .i32 n, .int .u64 (m : Int), .string ⟨l.toArray⟩] W fun e W' => e = .returned (.bool true) ∧ Below W.heap.size W W' := by
  have KL : ∀ p : BW W, Laid18 p.w := fun p => hL.below p.h
  have KA := Lib.hid (fun p : BW W => awake18 p.w (KL p))
  have KD := Lib.hid (fun p : BW W => word_Digits n (by omega) (by omega) p.w (KL p))
  have KB := Lib.hid (fun p : BW W => word_BigDigits m hm p.w (KL p))
  have K1 := Lib.hid (fun p : BW W => word_Number (Lib.itoa n) (by have := itoa_len n (by omega); omega) p.w (KL p))
  have K2 := Lib.hid (fun p : BW W => word_Big (Lib.decDigits m) (by have := digits_len m hm; omega) p.w (KL p))
  have K3 := Lib.hid (fun p : BW W => word_Number l (by omega) p.w (KL p))
  have K4 := Lib.hid (fun p : BW W => word_Big l (by omega) p.w (KL p))
  rw [numOf_of (n := n) (by omega) rfl] at K1
  rw [bigOf_of (n := m) hm rfl] at K2
  rw [e1] at K3
  rw [e2] at K4
  have KC := Lib.hid (fun p : BW W => word_Digits c (by omega) (by omega) p.w (KL p))
  rw [ec] at KC
  have hless := less_zero n
  obtain ⟨D, hD⟩ : ∃ D, D = Lib.itoa n := ⟨_, rfl⟩
  obtain ⟨E, hE⟩ : ∃ E, E = Lib.decDigits m := ⟨_, rfl⟩
  rw [← hD] at KD K1 hless
  rw [← hE] at KB K2
  have q : decide (30 < (l.length : Int)) = false := decide_eq_false (by omega)
  have hw : IntKind.i64.wrap n = n := by rw [IntKind.wrap_i64]; omega
  have hself : (l == l) = true := by simp
  obtain ⟨b0, hb0⟩ : ∃ b0, decide (n < 0) = b0 := ⟨_, rfl⟩
  rw [hb0] at hless
  obtain ⟨s, hs⟩ : ∃ s : ByteArray, s = ⟨l.toArray⟩ := ⟨_, rfl⟩
  have hlen := fun ty w => len18 (P := Tryd.prog) Tryd.underlying9 hs ty w
  have hsl : (l == s.toList) = true := by rw [hs, ByteArray.toList_mk]; simp
  have hsl2 : (s.toList == s.toList) = true := by simp
  rw [← hs] at K3 K4 ⊢
  rw [← hs] at KC
  clear hD hE hL KL e1 e2 hm hs ec
  generalize l.length = kk at *
  clear hl
  obtain ⟨p0, hp0⟩ : ∃ p : BW W, p.w = W := ⟨BW.start W, rfl⟩
  suffices H : Calls Tryd.prog 4 #[.int .i32 n, .int .u64 (m : Int), .string s] p0.w fun e W' => e = .returned (.bool true) ∧ ∃ q : BW W, W' = q.w by
    rw [hp0] at H
    exact H.mono (fun e W' ⟨h1, q, h2⟩ => ⟨h1, by rw [h2]; exact q.h⟩)
  clear hp0
  go_enter Tryd.func4, Tryd.ntmps4
  go_wp2_with (first
    | (go_at_call 14; (with_reducible refine (bw_callp KD.out _).mono ?_); rintro e w' ⟨rfl, q, rfl⟩)
    | (go_at_call 16; (with_reducible refine (bw_callp KB.out _).mono ?_); rintro e w' ⟨rfl, q, rfl⟩)
    | (go_at_call 7; (with_reducible refine (bw_callp K1.out _).mono ?_); rintro e w' ⟨rfl, q, rfl⟩)
    | (go_at_call 9; (with_reducible refine (bw_callp K2.out _).mono ?_); rintro e w' ⟨rfl, q, rfl⟩)
    | (go_at_call 7; (with_reducible refine (bw_callp K3.out _).mono ?_); rintro e w' ⟨rfl, q, rfl⟩)
    | (go_at_call 9; (with_reducible refine (bw_callp K4.out _).mono ?_); rintro e w' ⟨rfl, q, rfl⟩)
    | (go_at_call 6; (with_reducible refine (bw_callp KA.out _).mono ?_); rintro e w' ⟨rfl, q, rfl⟩)
    | (go_at_call 14; (with_reducible refine (bw_callp KC.out _).mono ?_); rintro e w' ⟨rfl, q, rfl⟩))
  go_ret
  exact ⟨rfl, _, rfl⟩

set_option maxRecDepth 100000 in
set_option maxHeartbeats 16000000 in
theorem law_WordNumbers_ny (n : Int) (m : Nat) (l : List UInt8) (hn : -2147483648 ≤ n ∧ n ≤ 2147483647) (hm : m < 18446744073709551616) (hl : l.length ≤ 30) (e1 : numOf l = (0, false)) (d : Nat) (hd : d < 18446744073709551616) (ed : Lib.decDigits d = l) (e2 : bigOf l = (d, true)) (W : World) (hL : Laid18 W) :
    Calls Tryd.prog 4 #[.int .i32 n, .int .u64 (m : Int), .string ⟨l.toArray⟩] W fun e W' => e = .returned (.bool true) ∧ Below W.heap.size W W' := by
  have KL : ∀ p : BW W, Laid18 p.w := fun p => hL.below p.h
  have KA := Lib.hid (fun p : BW W => awake18 p.w (KL p))
  have KD := Lib.hid (fun p : BW W => word_Digits n (by omega) (by omega) p.w (KL p))
  have KB := Lib.hid (fun p : BW W => word_BigDigits m hm p.w (KL p))
  have K1 := Lib.hid (fun p : BW W => word_Number (Lib.itoa n) (by have := itoa_len n (by omega); omega) p.w (KL p))
  have K2 := Lib.hid (fun p : BW W => word_Big (Lib.decDigits m) (by have := digits_len m hm; omega) p.w (KL p))
  have K3 := Lib.hid (fun p : BW W => word_Number l (by omega) p.w (KL p))
  have K4 := Lib.hid (fun p : BW W => word_Big l (by omega) p.w (KL p))
  rw [numOf_of (n := n) (by omega) rfl] at K1
  rw [bigOf_of (n := m) hm rfl] at K2
  rw [e1] at K3
  rw [e2] at K4
  have KE := Lib.hid (fun p : BW W => word_BigDigits d hd p.w (KL p))
  rw [ed] at KE
  have hless := less_zero n
  obtain ⟨D, hD⟩ : ∃ D, D = Lib.itoa n := ⟨_, rfl⟩
  obtain ⟨E, hE⟩ : ∃ E, E = Lib.decDigits m := ⟨_, rfl⟩
  rw [← hD] at KD K1 hless
  rw [← hE] at KB K2
  have q : decide (30 < (l.length : Int)) = false := decide_eq_false (by omega)
  have hw : IntKind.i64.wrap n = n := by rw [IntKind.wrap_i64]; omega
  have hself : (l == l) = true := by simp
  obtain ⟨b0, hb0⟩ : ∃ b0, decide (n < 0) = b0 := ⟨_, rfl⟩
  rw [hb0] at hless
  obtain ⟨s, hs⟩ : ∃ s : ByteArray, s = ⟨l.toArray⟩ := ⟨_, rfl⟩
  have hlen := fun ty w => len18 (P := Tryd.prog) Tryd.underlying9 hs ty w
  have hsl : (l == s.toList) = true := by rw [hs, ByteArray.toList_mk]; simp
  have hsl2 : (s.toList == s.toList) = true := by simp
  rw [← hs] at K3 K4 ⊢
  rw [← hs] at KE
  clear hD hE hL KL e1 e2 hm hs ed
  generalize l.length = kk at *
  clear hl
  obtain ⟨p0, hp0⟩ : ∃ p : BW W, p.w = W := ⟨BW.start W, rfl⟩
  suffices H : Calls Tryd.prog 4 #[.int .i32 n, .int .u64 (m : Int), .string s] p0.w fun e W' => e = .returned (.bool true) ∧ ∃ q : BW W, W' = q.w by
    rw [hp0] at H
    exact H.mono (fun e W' ⟨h1, q, h2⟩ => ⟨h1, by rw [h2]; exact q.h⟩)
  clear hp0
  go_enter Tryd.func4, Tryd.ntmps4
  go_wp2_with (first
    | (go_at_call 14; (with_reducible refine (bw_callp KD.out _).mono ?_); rintro e w' ⟨rfl, q, rfl⟩)
    | (go_at_call 16; (with_reducible refine (bw_callp KB.out _).mono ?_); rintro e w' ⟨rfl, q, rfl⟩)
    | (go_at_call 7; (with_reducible refine (bw_callp K1.out _).mono ?_); rintro e w' ⟨rfl, q, rfl⟩)
    | (go_at_call 9; (with_reducible refine (bw_callp K2.out _).mono ?_); rintro e w' ⟨rfl, q, rfl⟩)
    | (go_at_call 7; (with_reducible refine (bw_callp K3.out _).mono ?_); rintro e w' ⟨rfl, q, rfl⟩)
    | (go_at_call 9; (with_reducible refine (bw_callp K4.out _).mono ?_); rintro e w' ⟨rfl, q, rfl⟩)
    | (go_at_call 6; (with_reducible refine (bw_callp KA.out _).mono ?_); rintro e w' ⟨rfl, q, rfl⟩)
    | (go_at_call 16; (with_reducible refine (bw_callp KE.out _).mono ?_); rintro e w' ⟨rfl, q, rfl⟩))
  go_ret
  exact ⟨rfl, _, rfl⟩

set_option maxRecDepth 100000 in
set_option maxHeartbeats 16000000 in
theorem law_WordNumbers_nn (n : Int) (m : Nat) (l : List UInt8) (hn : -2147483648 ≤ n ∧ n ≤ 2147483647) (hm : m < 18446744073709551616) (hl : l.length ≤ 30) (e1 : numOf l = (0, false)) (e2 : bigOf l = (0, false)) (W : World) (hL : Laid18 W) :
    Calls Tryd.prog 4 #[.int .i32 n, .int .u64 (m : Int), .string ⟨l.toArray⟩] W fun e W' => e = .returned (.bool true) ∧ Below W.heap.size W W' := by
  have KL : ∀ p : BW W, Laid18 p.w := fun p => hL.below p.h
  have KA := Lib.hid (fun p : BW W => awake18 p.w (KL p))
  have KD := Lib.hid (fun p : BW W => word_Digits n (by omega) (by omega) p.w (KL p))
  have KB := Lib.hid (fun p : BW W => word_BigDigits m hm p.w (KL p))
  have K1 := Lib.hid (fun p : BW W => word_Number (Lib.itoa n) (by have := itoa_len n (by omega); omega) p.w (KL p))
  have K2 := Lib.hid (fun p : BW W => word_Big (Lib.decDigits m) (by have := digits_len m hm; omega) p.w (KL p))
  have K3 := Lib.hid (fun p : BW W => word_Number l (by omega) p.w (KL p))
  have K4 := Lib.hid (fun p : BW W => word_Big l (by omega) p.w (KL p))
  rw [numOf_of (n := n) (by omega) rfl] at K1
  rw [bigOf_of (n := m) hm rfl] at K2
  rw [e1] at K3
  rw [e2] at K4
  have hless := less_zero n
  obtain ⟨D, hD⟩ : ∃ D, D = Lib.itoa n := ⟨_, rfl⟩
  obtain ⟨E, hE⟩ : ∃ E, E = Lib.decDigits m := ⟨_, rfl⟩
  rw [← hD] at KD K1 hless
  rw [← hE] at KB K2
  have q : decide (30 < (l.length : Int)) = false := decide_eq_false (by omega)
  have hw : IntKind.i64.wrap n = n := by rw [IntKind.wrap_i64]; omega
  have hself : (l == l) = true := by simp
  obtain ⟨b0, hb0⟩ : ∃ b0, decide (n < 0) = b0 := ⟨_, rfl⟩
  rw [hb0] at hless
  obtain ⟨s, hs⟩ : ∃ s : ByteArray, s = ⟨l.toArray⟩ := ⟨_, rfl⟩
  have hlen := fun ty w => len18 (P := Tryd.prog) Tryd.underlying9 hs ty w
  have hsl : (l == s.toList) = true := by rw [hs, ByteArray.toList_mk]; simp
  have hsl2 : (s.toList == s.toList) = true := by simp
  rw [← hs] at K3 K4 ⊢
  clear hD hE hL KL e1 e2 hm hs
  generalize l.length = kk at *
  clear hl
  obtain ⟨p0, hp0⟩ : ∃ p : BW W, p.w = W := ⟨BW.start W, rfl⟩
  suffices H : Calls Tryd.prog 4 #[.int .i32 n, .int .u64 (m : Int), .string s] p0.w fun e W' => e = .returned (.bool true) ∧ ∃ q : BW W, W' = q.w by
    rw [hp0] at H
    exact H.mono (fun e W' ⟨h1, q, h2⟩ => ⟨h1, by rw [h2]; exact q.h⟩)
  clear hp0
  go_enter Tryd.func4, Tryd.ntmps4
  go_wp2_with (first
    | (go_at_call 14; (with_reducible refine (bw_callp KD.out _).mono ?_); rintro e w' ⟨rfl, q, rfl⟩)
    | (go_at_call 16; (with_reducible refine (bw_callp KB.out _).mono ?_); rintro e w' ⟨rfl, q, rfl⟩)
    | (go_at_call 7; (with_reducible refine (bw_callp K1.out _).mono ?_); rintro e w' ⟨rfl, q, rfl⟩)
    | (go_at_call 9; (with_reducible refine (bw_callp K2.out _).mono ?_); rintro e w' ⟨rfl, q, rfl⟩)
    | (go_at_call 7; (with_reducible refine (bw_callp K3.out _).mono ?_); rintro e w' ⟨rfl, q, rfl⟩)
    | (go_at_call 9; (with_reducible refine (bw_callp K4.out _).mono ?_); rintro e w' ⟨rfl, q, rfl⟩)
    | (go_at_call 6; (with_reducible refine (bw_callp KA.out _).mono ?_); rintro e w' ⟨rfl, q, rfl⟩))
  go_ret
  exact ⟨rfl, _, rfl⟩

theorem law_WordNumbers (n : Int) (m : Nat) (l : List UInt8) (hn : -2147483648 ≤ n ∧ n ≤ 2147483647) (hm : m < 18446744073709551616) (W : World) (hL : Laid18 W) :
    Calls Tryd.prog 4 #[.int .i32 n, .int .u64 (m : Int), .string ⟨l.toArray⟩] W fun e W' => e = .returned (.bool true) ∧ Below W.heap.size W W' := by
  by_cases hl : 30 < l.length
  · exact law_WordNumbers_long n m l hl W hL
  · have hl : l.length ≤ 30 := by omega
    rcases numOf_cases l with ⟨c, hc, ec, e1⟩ | ⟨_, e1⟩
    · rcases bigOf_cases l with ⟨d, hd, ed, e2⟩ | ⟨_, e2⟩
      · exact law_WordNumbers_yy n m l hn hm hl c hc ec e1 d hd ed e2 W hL
      · exact law_WordNumbers_yn n m l hn hm hl c hc ec e1 e2 W hL
    · rcases bigOf_cases l with ⟨d, hd, ed, e2⟩ | ⟨_, e2⟩
      · exact law_WordNumbers_ny n m l hn hm hl e1 d hd ed e2 W hL
      · exact law_WordNumbers_nn n m l hn hm hl e1 e2 W hL

theorem i32_of_wf18 {a : Int} (h : (Lit.int .i32 a).wf = true) : -2147483648 ≤ a ∧ a ≤ 2147483647 := by
  simp [Lit.wf, IntKind.min, IntKind.max, IntKind.signed, IntKind.bits] at h
  omega

theorem u64_of_wf18 {a : Int} (h : (Lit.int .u64 a).wf = true) : 0 ≤ a ∧ a ≤ 18446744073709551615 := by
  simp [Lit.wf, IntKind.min, IntKind.max, IntKind.signed, IntKind.bits] at h
  omega

theorem string18 (s : ByteArray) : ∃ l : List UInt8, s = ⟨l.toArray⟩ := ⟨s.data.toList, by simp⟩

theorem card_WordNumbers (a0 a1 : Int) (s : ByteArray) (W : World) (h0 : (Lit.int .i32 a0).wf = true) (h1 : (Lit.int .u64 a1).wf = true) (hL : Laid18 W) :
    Calls Tryd.prog 4 #[.int .i32 a0, .int .u64 a1, .string s] W fun e W' => e = .returned (.bool true) ∧ Below W.heap.size W W' := by
  obtain ⟨l, rfl⟩ := string18 s
  have hm := u64_of_wf18 h1
  obtain ⟨m, rfl⟩ : ∃ m : Nat, a1 = (m : Int) := ⟨a1.toNat, by omega⟩
  exact law_WordNumbers a0 m l (i32_of_wf18 h0) (by omega) W hL

end Go.Proofs.YtlhamgcmkodjeaaDoor
