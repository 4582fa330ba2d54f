/- The document's number of a text, in its ways. -/
import Derived.Test.YtlhamgcmkodjeaaDoorRef18
namespace Go.Proofs.YtlhamgcmkodjeaaDoor
open Go.RowKit Go.Shelf Go.Sort Go.Proofs.Sky
set_option linter.unusedVariables false

theorem looseW_le (l : List UInt8) : ∀ n, looseW l n + 29 ≤ 10 ^ l.length * (n + 29) := by
  induction l with
  | nil => intro n; simp [looseW]
  | cons c l ih =>
    intro n
    have e : looseW (c :: l) n = looseW l ((10 * n + (c.toNat + 208) % 256) % 18446744073709551616) := rfl
    rw [e, List.length_cons, Nat.pow_succ]
    refine Nat.le_trans (ih _) ?_
    rw [Nat.mul_assoc]
    refine Nat.mul_le_mul_left _ ?_
    have := c.toNat_lt
    omega

theorem loose_small {l : List UInt8} (h : l.length ≤ 11) : looseOf l ≤ 2900000000000 := by
  unfold looseOf
  rw [if_pos (by omega)]
  have h1 := looseW_le l 0
  have h2 : 10 ^ l.length ≤ 10 ^ 11 := Nat.pow_le_pow_right (by omega) h
  omega

set_option maxRecDepth 100000 in
set_option maxHeartbeats 4000000 in
theorem ref18_Number_neg_lo (l : List UInt8) (m : Int) (hm : meant l = m) (hn : 1 ≤ l.length ∧ l.length ≤ 11) (hh : l.head? = some 45) (hc : m < -2147483648) (w : World) :
    Calls Tryd.prog 8 #[.string ⟨l.toArray⟩] w fun e w' => e = .returned (.tuple #[.int .i64 (numOf l).1, .bool (numOf l).2]) ∧ Below w.heap.size w w' := by
  rw [numOf_meant hm (by omega)]
  have K := Lib.hid (fun w => ref18_loose l (by omega) w)
  have h1 := loose_small hn.2
  have e1 : IntKind.i64.wrap (looseOf l : Int) = (looseOf l : Int) := by rw [IntKind.wrap_i64]; omega
  obtain ⟨r, rfl⟩ : ∃ r, l = 45 :: r := by
    cases l with
    | nil => cases hh
    | cons c r => simp at hh; subst hh; exact ⟨r, rfl⟩
  have hm2 : m = -(looseOf r : Int) := by rw [← hm]; unfold meant; rw [if_pos (List.head?_cons ..), List.tail_cons]
  have h2 := loose_small (l := r) (by simp at hn; omega)
  have K2 := Lib.hid (fun w => ref18_loose r (by simp at hn; omega) w)
  have e2 : IntKind.i64.wrap (looseOf r : Int) = (looseOf r : Int) := by rw [IntKind.wrap_i64]; omega
  have e3 : IntKind.i64.wrap (-(looseOf r : Int)) = m := by rw [IntKind.wrap_i64]; omega
  have hmr : -9223372036854775808 ≤ m ∧ m ≤ 9223372036854775807 := by omega
  obtain ⟨s, hs⟩ : ∃ s : ByteArray, s = ⟨(45 :: r).toArray⟩ := ⟨_, rfl⟩
  have hlen := fun ty w => len18 (P := Tryd.prog) Tryd.underlying9 hs ty w
  have hix : ∀ w, (Instr.index 9 (.string s) (.int .i64 0)).run Tryd.prog w = .ok (.int .u8 45) w := fun w => idx18 (P := Tryd.prog) Tryd.underlying9 hs 0 _ rfl w
  have hsl : ∀ w, (Instr.slice 9 (.string s) (some (.int .i64 1)) none none).run Tryd.prog w = .ok (.string ⟨r.toArray⟩) w := fun w => slf18 (P := Tryd.prog) Tryd.underlying9 hs 1 (by simp) w
  rw [← hs] at K ⊢
  have q0 : ¬ ((45 :: r).length : Int) = 0 := by omega
  have q1 : decide (11 < ((45 :: r).length : Int)) = false := decide_eq_false (by omega)
  have t1 : decide (m < -2147483648) = true := decide_eq_true hc
  clear hs hc hmr hm h1 hn hh h2 hm2
  obtain ⟨nn, hnn⟩ : ∃ nn, nn = (45 :: r).length := ⟨_, rfl⟩
  rw [← hnn] at hlen q0 q1
  clear hnn
  generalize looseOf (45 :: r) = v at *
  generalize looseOf r = v2 at *
  go_enter Tryd.func8, Tryd.ntmps8
  go_wp2_with (first
    | (go_at_call 21; (first | (with_reducible refine (K.out _).mono ?_)); rintro e w' ⟨rfl, hb⟩)
    | (go_at_call 21; (first | (with_reducible refine (K2.out _).mono ?_)); rintro e w2 ⟨rfl, hb2⟩))
  go_ret2
  exact ⟨rfl, (hb).trans (hb2.mono (hb).size)⟩

set_option maxRecDepth 100000 in
set_option maxHeartbeats 4000000 in
theorem ref18_Number_neg_hi (l : List UInt8) (m : Int) (hm : meant l = m) (hn : 1 ≤ l.length ∧ l.length ≤ 11) (hh : l.head? = some 45) (hc : ¬ m < -2147483648 ∧ 2147483648 < m) (w : World) :
    Calls Tryd.prog 8 #[.string ⟨l.toArray⟩] w fun e w' => e = .returned (.tuple #[.int .i64 (numOf l).1, .bool (numOf l).2]) ∧ Below w.heap.size w w' := by
  rw [numOf_meant hm (by omega)]
  have K := Lib.hid (fun w => ref18_loose l (by omega) w)
  have h1 := loose_small hn.2
  have e1 : IntKind.i64.wrap (looseOf l : Int) = (looseOf l : Int) := by rw [IntKind.wrap_i64]; omega
  obtain ⟨r, rfl⟩ : ∃ r, l = 45 :: r := by
    cases l with
    | nil => cases hh
    | cons c r => simp at hh; subst hh; exact ⟨r, rfl⟩
  have hm2 : m = -(looseOf r : Int) := by rw [← hm]; unfold meant; rw [if_pos (List.head?_cons ..), List.tail_cons]
  have h2 := loose_small (l := r) (by simp at hn; omega)
  have K2 := Lib.hid (fun w => ref18_loose r (by simp at hn; omega) w)
  have e2 : IntKind.i64.wrap (looseOf r : Int) = (looseOf r : Int) := by rw [IntKind.wrap_i64]; omega
  have e3 : IntKind.i64.wrap (-(looseOf r : Int)) = m := by rw [IntKind.wrap_i64]; omega
  have hmr : -9223372036854775808 ≤ m ∧ m ≤ 9223372036854775807 := by omega
  obtain ⟨s, hs⟩ : ∃ s : ByteArray, s = ⟨(45 :: r).toArray⟩ := ⟨_, rfl⟩
  have hlen := fun ty w => len18 (P := Tryd.prog) Tryd.underlying9 hs ty w
  have hix : ∀ w, (Instr.index 9 (.string s) (.int .i64 0)).run Tryd.prog w = .ok (.int .u8 45) w := fun w => idx18 (P := Tryd.prog) Tryd.underlying9 hs 0 _ rfl w
  have hsl : ∀ w, (Instr.slice 9 (.string s) (some (.int .i64 1)) none none).run Tryd.prog w = .ok (.string ⟨r.toArray⟩) w := fun w => slf18 (P := Tryd.prog) Tryd.underlying9 hs 1 (by simp) w
  rw [← hs] at K ⊢
  have q0 : ¬ ((45 :: r).length : Int) = 0 := by omega
  have q1 : decide (11 < ((45 :: r).length : Int)) = false := decide_eq_false (by omega)
  have t1 : decide (m < -2147483648) = false := decide_eq_false hc.1
  have t2 : decide (2147483648 < m) = true := decide_eq_true hc.2
  clear hs hc hmr hm h1 hn hh h2 hm2
  obtain ⟨nn, hnn⟩ : ∃ nn, nn = (45 :: r).length := ⟨_, rfl⟩
  rw [← hnn] at hlen q0 q1
  clear hnn
  generalize looseOf (45 :: r) = v at *
  generalize looseOf r = v2 at *
  go_enter Tryd.func8, Tryd.ntmps8
  go_wp2_with (first
    | (go_at_call 21; (first | (with_reducible refine (K.out _).mono ?_)); rintro e w' ⟨rfl, hb⟩)
    | (go_at_call 21; (first | (with_reducible refine (K2.out _).mono ?_)); rintro e w2 ⟨rfl, hb2⟩))
  go_ret2
  exact ⟨rfl, (hb).trans (hb2.mono (hb).size)⟩

set_option maxRecDepth 100000 in
set_option maxHeartbeats 4000000 in
theorem ref18_Number_neg_no (l : List UInt8) (m : Int) (hm : meant l = m) (hn : 1 ≤ l.length ∧ l.length ≤ 11) (hh : l.head? = some 45) (hc : (¬ m < -2147483648 ∧ ¬ 2147483648 < m) ∧ Lib.itoa m ≠ l) (w : World) :
    Calls Tryd.prog 8 #[.string ⟨l.toArray⟩] w fun e w' => e = .returned (.tuple #[.int .i64 (numOf l).1, .bool (numOf l).2]) ∧ Below w.heap.size w w' := by
  rw [numOf_meant hm (fun h => hc.2 h.2)]
  have K := Lib.hid (fun w => ref18_loose l (by omega) w)
  have h1 := loose_small hn.2
  have e1 : IntKind.i64.wrap (looseOf l : Int) = (looseOf l : Int) := by rw [IntKind.wrap_i64]; omega
  obtain ⟨r, rfl⟩ : ∃ r, l = 45 :: r := by
    cases l with
    | nil => cases hh
    | cons c r => simp at hh; subst hh; exact ⟨r, rfl⟩
  have hm2 : m = -(looseOf r : Int) := by rw [← hm]; unfold meant; rw [if_pos (List.head?_cons ..), List.tail_cons]
  have h2 := loose_small (l := r) (by simp at hn; omega)
  have K2 := Lib.hid (fun w => ref18_loose r (by simp at hn; omega) w)
  have e2 : IntKind.i64.wrap (looseOf r : Int) = (looseOf r : Int) := by rw [IntKind.wrap_i64]; omega
  have e3 : IntKind.i64.wrap (-(looseOf r : Int)) = m := by rw [IntKind.wrap_i64]; omega
  have hmr : -9223372036854775808 ≤ m ∧ m ≤ 9223372036854775807 := by omega
  have KD := Lib.hid (fun w => ref18_Digits m hmr.1 hmr.2 w)
  have hq : (Lib.itoa m == (45 :: r)) = false := by simpa using hc.2
  obtain ⟨s, hs⟩ : ∃ s : ByteArray, s = ⟨(45 :: r).toArray⟩ := ⟨_, rfl⟩
  have hlen := fun ty w => len18 (P := Tryd.prog) Tryd.underlying9 hs ty w
  have hix : ∀ w, (Instr.index 9 (.string s) (.int .i64 0)).run Tryd.prog w = .ok (.int .u8 45) w := fun w => idx18 (P := Tryd.prog) Tryd.underlying9 hs 0 _ rfl w
  have hsl : ∀ w, (Instr.slice 9 (.string s) (some (.int .i64 1)) none none).run Tryd.prog w = .ok (.string ⟨r.toArray⟩) w := fun w => slf18 (P := Tryd.prog) Tryd.underlying9 hs 1 (by simp) w
  have heq : (Lib.itoa m == s.toList) = false := by rw [hs, ByteArray.toList_mk]; exact hq
  rw [← hs] at K ⊢
  have q0 : ¬ ((45 :: r).length : Int) = 0 := by omega
  have q1 : decide (11 < ((45 :: r).length : Int)) = false := decide_eq_false (by omega)
  have t1 : decide (m < -2147483648) = false := decide_eq_false hc.1.1
  have t2 : decide (2147483648 < m) = false := decide_eq_false hc.1.2
  clear hs hc hmr hm h1 hn hh hq h2 hm2
  obtain ⟨nn, hnn⟩ : ∃ nn, nn = (45 :: r).length := ⟨_, rfl⟩
  rw [← hnn] at hlen q0 q1
  clear hnn
  generalize looseOf (45 :: r) = v at *
  generalize looseOf r = v2 at *
  go_enter Tryd.func8, Tryd.ntmps8
  go_wp2_with (first
    | (go_at_call 21; (first | (with_reducible refine (K.out _).mono ?_)); rintro e w' ⟨rfl, hb⟩)
    | (go_at_call 21; (first | (with_reducible refine (K2.out _).mono ?_)); rintro e w2 ⟨rfl, hb2⟩)
    | (go_at_call 15; (first | (with_reducible refine (KD.out _).mono ?_)); rintro e w3 ⟨rfl, hb3⟩))
  go_ret2
  exact ⟨rfl, ((hb).trans (hb2.mono (hb).size)).trans (hb3.mono ((hb).trans (hb2.mono (hb).size)).size)⟩

set_option maxRecDepth 100000 in
set_option maxHeartbeats 4000000 in
theorem ref18_Number_neg_yes (l : List UInt8) (m : Int) (hm : meant l = m) (hn : 1 ≤ l.length ∧ l.length ≤ 11) (hh : l.head? = some 45) (hc : (¬ m < -2147483648 ∧ ¬ 2147483648 < m) ∧ Lib.itoa m = l) (w : World) :
    Calls Tryd.prog 8 #[.string ⟨l.toArray⟩] w fun e w' => e = .returned (.tuple #[.int .i64 (numOf l).1, .bool (numOf l).2]) ∧ Below w.heap.size w w' := by
  rw [numOf_of (by omega) hc.2]
  have K := Lib.hid (fun w => ref18_loose l (by omega) w)
  have h1 := loose_small hn.2
  have e1 : IntKind.i64.wrap (looseOf l : Int) = (looseOf l : Int) := by rw [IntKind.wrap_i64]; omega
  obtain ⟨r, rfl⟩ : ∃ r, l = 45 :: r := by
    cases l with
    | nil => cases hh
    | cons c r => simp at hh; subst hh; exact ⟨r, rfl⟩
  have hm2 : m = -(looseOf r : Int) := by rw [← hm]; unfold meant; rw [if_pos (List.head?_cons ..), List.tail_cons]
  have h2 := loose_small (l := r) (by simp at hn; omega)
  have K2 := Lib.hid (fun w => ref18_loose r (by simp at hn; omega) w)
  have e2 : IntKind.i64.wrap (looseOf r : Int) = (looseOf r : Int) := by rw [IntKind.wrap_i64]; omega
  have e3 : IntKind.i64.wrap (-(looseOf r : Int)) = m := by rw [IntKind.wrap_i64]; omega
  have hmr : -9223372036854775808 ≤ m ∧ m ≤ 9223372036854775807 := by omega
  have KD := Lib.hid (fun w => ref18_Digits m hmr.1 hmr.2 w)
  have hq : (Lib.itoa m == (45 :: r)) = true := by simpa using hc.2
  obtain ⟨s, hs⟩ : ∃ s : ByteArray, s = ⟨(45 :: r).toArray⟩ := ⟨_, rfl⟩
  have hlen := fun ty w => len18 (P := Tryd.prog) Tryd.underlying9 hs ty w
  have hix : ∀ w, (Instr.index 9 (.string s) (.int .i64 0)).run Tryd.prog w = .ok (.int .u8 45) w := fun w => idx18 (P := Tryd.prog) Tryd.underlying9 hs 0 _ rfl w
  have hsl : ∀ w, (Instr.slice 9 (.string s) (some (.int .i64 1)) none none).run Tryd.prog w = .ok (.string ⟨r.toArray⟩) w := fun w => slf18 (P := Tryd.prog) Tryd.underlying9 hs 1 (by simp) w
  have heq : (Lib.itoa m == s.toList) = true := by rw [hs, ByteArray.toList_mk]; exact hq
  rw [← hs] at K ⊢
  have q0 : ¬ ((45 :: r).length : Int) = 0 := by omega
  have q1 : decide (11 < ((45 :: r).length : Int)) = false := decide_eq_false (by omega)
  have t1 : decide (m < -2147483648) = false := decide_eq_false hc.1.1
  have t2 : decide (2147483648 < m) = false := decide_eq_false hc.1.2
  clear hs hc hmr hm h1 hn hh hq h2 hm2
  obtain ⟨nn, hnn⟩ : ∃ nn, nn = (45 :: r).length := ⟨_, rfl⟩
  rw [← hnn] at hlen q0 q1
  clear hnn
  generalize looseOf (45 :: r) = v at *
  generalize looseOf r = v2 at *
  go_enter Tryd.func8, Tryd.ntmps8
  go_wp2_with (first
    | (go_at_call 21; (first | (with_reducible refine (K.out _).mono ?_)); rintro e w' ⟨rfl, hb⟩)
    | (go_at_call 21; (first | (with_reducible refine (K2.out _).mono ?_)); rintro e w2 ⟨rfl, hb2⟩)
    | (go_at_call 15; (first | (with_reducible refine (KD.out _).mono ?_)); rintro e w3 ⟨rfl, hb3⟩))
  go_ret2
  exact ⟨rfl, ((hb).trans (hb2.mono (hb).size)).trans (hb3.mono ((hb).trans (hb2.mono (hb).size)).size)⟩

set_option maxRecDepth 100000 in
set_option maxHeartbeats 4000000 in
theorem ref18_Number_pos_lo (l : List UInt8) (m : Int) (hm : meant l = m) (hn : 1 ≤ l.length ∧ l.length ≤ 11) (hh : l.head? ≠ some 45) (hc : m < -2147483648) (w : World) :
    Calls Tryd.prog 8 #[.string ⟨l.toArray⟩] w fun e w' => e = .returned (.tuple #[.int .i64 (numOf l).1, .bool (numOf l).2]) ∧ Below w.heap.size w w' := by
  rw [numOf_meant hm (by omega)]
  have K := Lib.hid (fun w => ref18_loose l (by omega) w)
  have h1 := loose_small hn.2
  have e1 : IntKind.i64.wrap (looseOf l : Int) = (looseOf l : Int) := by rw [IntKind.wrap_i64]; omega
  obtain ⟨c, r, rfl⟩ : ∃ c r, l = c :: r := by
    cases l with
    | nil => simp at hn
    | cons c r => exact ⟨c, r, rfl⟩
  have hc45 : ¬ ((c.toNat : Int) = 45) := fun h => hh (by rw [List.head?_cons, show c = 45 from UInt8.toNat_inj.1 (by simp; omega)])
  have hm2 : (looseOf (c :: r) : Int) = m := by rw [← hm]; unfold meant; rw [if_neg hh]
  have hmr : -9223372036854775808 ≤ m ∧ m ≤ 9223372036854775807 := by omega
  obtain ⟨s, hs⟩ : ∃ s : ByteArray, s = ⟨(c :: r).toArray⟩ := ⟨_, rfl⟩
  have hlen := fun ty w => len18 (P := Tryd.prog) Tryd.underlying9 hs ty w
  have hix : ∀ w, (Instr.index 9 (.string s) (.int .i64 0)).run Tryd.prog w = .ok (.int .u8 (c.toNat : Int)) w := fun w => idx18 (P := Tryd.prog) Tryd.underlying9 hs 0 _ rfl w
  rw [← hs] at K ⊢
  have q0 : ¬ ((c :: r).length : Int) = 0 := by omega
  have q1 : decide (11 < ((c :: r).length : Int)) = false := decide_eq_false (by omega)
  have t1 : decide (m < -2147483648) = true := decide_eq_true hc
  clear hs hc hmr hm h1 hn hh
  obtain ⟨nn, hnn⟩ : ∃ nn, nn = (c :: r).length := ⟨_, rfl⟩
  rw [← hnn] at hlen q0 q1
  clear hnn
  rw [hm2] at e1 K
  clear hm2
  go_enter Tryd.func8, Tryd.ntmps8
  go_wp2_with (first
    | (go_at_call 21; (first | (with_reducible refine (K.out _).mono ?_)); rintro e w' ⟨rfl, hb⟩))
  go_ret2
  exact ⟨rfl, hb⟩

set_option maxRecDepth 100000 in
set_option maxHeartbeats 4000000 in
theorem ref18_Number_pos_hi (l : List UInt8) (m : Int) (hm : meant l = m) (hn : 1 ≤ l.length ∧ l.length ≤ 11) (hh : l.head? ≠ some 45) (hc : ¬ m < -2147483648 ∧ 2147483648 < m) (w : World) :
    Calls Tryd.prog 8 #[.string ⟨l.toArray⟩] w fun e w' => e = .returned (.tuple #[.int .i64 (numOf l).1, .bool (numOf l).2]) ∧ Below w.heap.size w w' := by
  rw [numOf_meant hm (by omega)]
  have K := Lib.hid (fun w => ref18_loose l (by omega) w)
  have h1 := loose_small hn.2
  have e1 : IntKind.i64.wrap (looseOf l : Int) = (looseOf l : Int) := by rw [IntKind.wrap_i64]; omega
  obtain ⟨c, r, rfl⟩ : ∃ c r, l = c :: r := by
    cases l with
    | nil => simp at hn
    | cons c r => exact ⟨c, r, rfl⟩
  have hc45 : ¬ ((c.toNat : Int) = 45) := fun h => hh (by rw [List.head?_cons, show c = 45 from UInt8.toNat_inj.1 (by simp; omega)])
  have hm2 : (looseOf (c :: r) : Int) = m := by rw [← hm]; unfold meant; rw [if_neg hh]
  have hmr : -9223372036854775808 ≤ m ∧ m ≤ 9223372036854775807 := by omega
  obtain ⟨s, hs⟩ : ∃ s : ByteArray, s = ⟨(c :: r).toArray⟩ := ⟨_, rfl⟩
  have hlen := fun ty w => len18 (P := Tryd.prog) Tryd.underlying9 hs ty w
  have hix : ∀ w, (Instr.index 9 (.string s) (.int .i64 0)).run Tryd.prog w = .ok (.int .u8 (c.toNat : Int)) w := fun w => idx18 (P := Tryd.prog) Tryd.underlying9 hs 0 _ rfl w
  rw [← hs] at K ⊢
  have q0 : ¬ ((c :: r).length : Int) = 0 := by omega
  have q1 : decide (11 < ((c :: r).length : Int)) = false := decide_eq_false (by omega)
  have t1 : decide (m < -2147483648) = false := decide_eq_false hc.1
  have t2 : decide (2147483648 < m) = true := decide_eq_true hc.2
  clear hs hc hmr hm h1 hn hh
  obtain ⟨nn, hnn⟩ : ∃ nn, nn = (c :: r).length := ⟨_, rfl⟩
  rw [← hnn] at hlen q0 q1
  clear hnn
  rw [hm2] at e1 K
  clear hm2
  go_enter Tryd.func8, Tryd.ntmps8
  go_wp2_with (first
    | (go_at_call 21; (first | (with_reducible refine (K.out _).mono ?_)); rintro e w' ⟨rfl, hb⟩))
  go_ret2
  exact ⟨rfl, hb⟩

set_option maxRecDepth 100000 in
set_option maxHeartbeats 4000000 in
theorem ref18_Number_pos_no (l : List UInt8) (m : Int) (hm : meant l = m) (hn : 1 ≤ l.length ∧ l.length ≤ 11) (hh : l.head? ≠ some 45) (hc : (¬ m < -2147483648 ∧ ¬ 2147483648 < m) ∧ Lib.itoa m ≠ l) (w : World) :
    Calls Tryd.prog 8 #[.string ⟨l.toArray⟩] w fun e w' => e = .returned (.tuple #[.int .i64 (numOf l).1, .bool (numOf l).2]) ∧ Below w.heap.size w w' := by
  rw [numOf_meant hm (fun h => hc.2 h.2)]
  have K := Lib.hid (fun w => ref18_loose l (by omega) w)
  have h1 := loose_small hn.2
  have e1 : IntKind.i64.wrap (looseOf l : Int) = (looseOf l : Int) := by rw [IntKind.wrap_i64]; omega
  obtain ⟨c, r, rfl⟩ : ∃ c r, l = c :: r := by
    cases l with
    | nil => simp at hn
    | cons c r => exact ⟨c, r, rfl⟩
  have hc45 : ¬ ((c.toNat : Int) = 45) := fun h => hh (by rw [List.head?_cons, show c = 45 from UInt8.toNat_inj.1 (by simp; omega)])
  have hm2 : (looseOf (c :: r) : Int) = m := by rw [← hm]; unfold meant; rw [if_neg hh]
  have hmr : -9223372036854775808 ≤ m ∧ m ≤ 9223372036854775807 := by omega
  have KD := Lib.hid (fun w => ref18_Digits m hmr.1 hmr.2 w)
  have hq : (Lib.itoa m == (c :: r)) = false := by simpa using hc.2
  obtain ⟨s, hs⟩ : ∃ s : ByteArray, s = ⟨(c :: r).toArray⟩ := ⟨_, rfl⟩
  have hlen := fun ty w => len18 (P := Tryd.prog) Tryd.underlying9 hs ty w
  have hix : ∀ w, (Instr.index 9 (.string s) (.int .i64 0)).run Tryd.prog w = .ok (.int .u8 (c.toNat : Int)) w := fun w => idx18 (P := Tryd.prog) Tryd.underlying9 hs 0 _ rfl w
  have heq : (Lib.itoa m == s.toList) = false := by rw [hs, ByteArray.toList_mk]; exact hq
  rw [← hs] at K ⊢
  have q0 : ¬ ((c :: r).length : Int) = 0 := by omega
  have q1 : decide (11 < ((c :: r).length : Int)) = false := decide_eq_false (by omega)
  have t1 : decide (m < -2147483648) = false := decide_eq_false hc.1.1
  have t2 : decide (2147483648 < m) = false := decide_eq_false hc.1.2
  clear hs hc hmr hm h1 hn hh hq
  obtain ⟨nn, hnn⟩ : ∃ nn, nn = (c :: r).length := ⟨_, rfl⟩
  rw [← hnn] at hlen q0 q1
  clear hnn
  rw [hm2] at e1 K
  clear hm2
  go_enter Tryd.func8, Tryd.ntmps8
  go_wp2_with (first
    | (go_at_call 21; (first | (with_reducible refine (K.out _).mono ?_)); rintro e w' ⟨rfl, hb⟩)
    | (go_at_call 15; (first | (with_reducible refine (KD.out _).mono ?_)); rintro e w3 ⟨rfl, hb3⟩))
  go_ret2
  exact ⟨rfl, (hb).trans (hb3.mono (hb).size)⟩

set_option maxRecDepth 100000 in
set_option maxHeartbeats 4000000 in
theorem ref18_Number_pos_yes (l : List UInt8) (m : Int) (hm : meant l = m) (hn : 1 ≤ l.length ∧ l.length ≤ 11) (hh : l.head? ≠ some 45) (hc : (¬ m < -2147483648 ∧ ¬ 2147483648 < m) ∧ Lib.itoa m = l) (w : World) :
    Calls Tryd.prog 8 #[.string ⟨l.toArray⟩] w fun e w' => e = .returned (.tuple #[.int .i64 (numOf l).1, .bool (numOf l).2]) ∧ Below w.heap.size w w' := by
  rw [numOf_of (by omega) hc.2]
  have K := Lib.hid (fun w => ref18_loose l (by omega) w)
  have h1 := loose_small hn.2
  have e1 : IntKind.i64.wrap (looseOf l : Int) = (looseOf l : Int) := by rw [IntKind.wrap_i64]; omega
  obtain ⟨c, r, rfl⟩ : ∃ c r, l = c :: r := by
    cases l with
    | nil => simp at hn
    | cons c r => exact ⟨c, r, rfl⟩
  have hc45 : ¬ ((c.toNat : Int) = 45) := fun h => hh (by rw [List.head?_cons, show c = 45 from UInt8.toNat_inj.1 (by simp; omega)])
  have hm2 : (looseOf (c :: r) : Int) = m := by rw [← hm]; unfold meant; rw [if_neg hh]
  have hmr : -9223372036854775808 ≤ m ∧ m ≤ 9223372036854775807 := by omega
  have KD := Lib.hid (fun w => ref18_Digits m hmr.1 hmr.2 w)
  have hq : (Lib.itoa m == (c :: r)) = true := by simpa using hc.2
  obtain ⟨s, hs⟩ : ∃ s : ByteArray, s = ⟨(c :: r).toArray⟩ := ⟨_, rfl⟩
  have hlen := fun ty w => len18 (P := Tryd.prog) Tryd.underlying9 hs ty w
  have hix : ∀ w, (Instr.index 9 (.string s) (.int .i64 0)).run Tryd.prog w = .ok (.int .u8 (c.toNat : Int)) w := fun w => idx18 (P := Tryd.prog) Tryd.underlying9 hs 0 _ rfl w
  have heq : (Lib.itoa m == s.toList) = true := by rw [hs, ByteArray.toList_mk]; exact hq
  rw [← hs] at K ⊢
  have q0 : ¬ ((c :: r).length : Int) = 0 := by omega
  have q1 : decide (11 < ((c :: r).length : Int)) = false := decide_eq_false (by omega)
  have t1 : decide (m < -2147483648) = false := decide_eq_false hc.1.1
  have t2 : decide (2147483648 < m) = false := decide_eq_false hc.1.2
  clear hs hc hmr hm h1 hn hh hq
  obtain ⟨nn, hnn⟩ : ∃ nn, nn = (c :: r).length := ⟨_, rfl⟩
  rw [← hnn] at hlen q0 q1
  clear hnn
  rw [hm2] at e1 K
  clear hm2
  go_enter Tryd.func8, Tryd.ntmps8
  go_wp2_with (first
    | (go_at_call 21; (first | (with_reducible refine (K.out _).mono ?_)); rintro e w' ⟨rfl, hb⟩)
    | (go_at_call 15; (first | (with_reducible refine (KD.out _).mono ?_)); rintro e w3 ⟨rfl, hb3⟩))
  go_ret2
  exact ⟨rfl, (hb).trans (hb3.mono (hb).size)⟩

theorem ref18_Number (l : List UInt8) (w : World) :
    Calls Tryd.prog 8 #[.string ⟨l.toArray⟩] w fun e w' => e = .returned (.tuple #[.int .i64 (numOf l).1, .bool (numOf l).2]) ∧ Below w.heap.size w w' := by
  by_cases hn : 1 ≤ l.length ∧ l.length ≤ 11
  · obtain ⟨m, hm⟩ : ∃ m, meant l = m := ⟨_, rfl⟩
    by_cases hh : l.head? = some 45
    · by_cases h1 : m < -2147483648
      · exact ref18_Number_neg_lo l m hm hn hh h1 w
      · by_cases h2 : 2147483648 < m
        · exact ref18_Number_neg_hi l m hm hn hh ⟨h1, h2⟩ w
        · by_cases h3 : Lib.itoa m = l
          · exact ref18_Number_neg_yes l m hm hn hh ⟨⟨h1, h2⟩, h3⟩ w
          · exact ref18_Number_neg_no l m hm hn hh ⟨⟨h1, h2⟩, h3⟩ w
    · by_cases h1 : m < -2147483648
      · exact ref18_Number_pos_lo l m hm hn hh h1 w
      · by_cases h2 : 2147483648 < m
        · exact ref18_Number_pos_hi l m hm hn hh ⟨h1, h2⟩ w
        · by_cases h3 : Lib.itoa m = l
          · exact ref18_Number_pos_yes l m hm hn hh ⟨⟨h1, h2⟩, h3⟩ w
          · exact ref18_Number_pos_no l m hm hn hh ⟨⟨h1, h2⟩, h3⟩ w
  · exact ref18_Number_short l (by omega) w

end Go.Proofs.YtlhamgcmkodjeaaDoor
