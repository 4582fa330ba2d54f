/- The document's answers: numbers and their digits. -/
import Derived.Test.YtlhamgcmkodjeaaDoorConv18
import Derived.Test.YtlhamgcmkodjeaaDoorStr18
import Derived.LoopTactic
import Derived.StillTailTactics
import Derived.Deep.DeepCutAuto
import Derived.LoopN
import Derived.Laws.BytesString
import Derived.Laws.IdiomStrings
namespace Go.Proofs.YtlhamgcmkodjeaaDoor
open Go.RowKit Go.Shelf Go.Sort Go.Proofs.Sky
set_option linter.unusedVariables false

theorem one_byte (w : World) (u : Nat) :
    (convert 66 9 (.slice (some ⟨w.heap.size, 0, none⟩) 1 1)).run Tryd.prog (w.alloc (.cells #[.int .u8 (48 + (u : Int) % 10)] 5)) = .ok (.string ⟨#[UInt8.ofNat (48 + u % 10)]⟩) (w.alloc (.cells #[.int .u8 (48 + (u : Int) % 10)] 5)) := by
  have h2 := run_convert_bytes_back (P := Tryd.prog) (w.alloc (.cells #[.int .u8 (48 + (u : Int) % 10)] 5)) 66 9 5 ⟨w.heap.size, 0, none⟩ 1 [UInt8.ofNat (48 + u % 10)] Tryd.underlying66 Tryd.underlying5 Tryd.underlying9 (fun j hj => by
    obtain rfl : j = 0 := by simpa using hj
    have e := dig_of (u % 10) (by omega)
    unfold dig at e
    have e2 : (48 + (u : Int) % 10) = ((UInt8.ofNat (48 + u % 10)).toNat : Int) := by omega
    rw [Lib.add_plain, World.cell?_alloc_new, e2]
    rfl)
  exact h2

set_option maxRecDepth 100000 in
set_option maxHeartbeats 4000000 in
theorem ref18_BigDigits (u : Nat) (hu : u < 18446744073709551616) (w : World) :
    Calls Tryd.prog 17 #[.int .u64 u] w fun e w' => e = .returned (.string ⟨(Lib.decDigits u).toArray⟩) ∧ Below w.heap.size w w' := by
  induction u using Nat.strongRecOn generalizing w with
  | _ u ih =>
    have hc := fun w => one_byte w u
    obtain ⟨c, hcc⟩ : ∃ c, c = UInt8.ofNat (48 + u % 10) := ⟨_, rfl⟩
    rw [← hcc] at hc
    by_cases h : u < 10
    · rw [decDigits_small h]
      have e : u % 10 = u := by omega
      rw [e] at hcc
      rw [← hcc]
      clear ih hu hcc
      go_enter Tryd.func17, Tryd.ntmps17
      go_wp2
      go_ret
      exact ⟨rfl, (Below.refl _ _).alloc (Nat.le_refl _) _⟩
    · rw [decDigits_big h, ← hcc]
      have K := Lib.hid (fun w => ih (u / 10) (by omega) (by omega) w)
      have hq : decide ((u : Int) < 10) = false := decide_eq_false (by omega)
      have h2 : (u : Int) / 10 = ((u / 10 : Nat) : Int) := by omega
      have h3 : IntKind.u64.wrap ((u / 10 : Nat) : Int) = ((u / 10 : Nat) : Int) := by rw [IntKind.wrap_u64]; omega
      have hplus := fun w => plus18 (P := Tryd.prog) (Lib.decDigits (u / 10)) [c] (by have := digits_len (u / 10) (by omega); simp; omega) w
      clear ih hu hcc h
      generalize u / 10 = v at *
      go_enter Tryd.func17, Tryd.ntmps17
      go_wp2_with (go_at_call 17; (with_reducible refine (K.out _).mono ?_); rintro e w' ⟨rfl, hb⟩)
      go_ret
      exact ⟨rfl, ((Below.refl _ _).alloc (Nat.le_refl _) _).trans (hb.mono (by simp))⟩

set_option maxRecDepth 100000 in
set_option maxHeartbeats 4000000 in
theorem ref18_Digits (n : Int) (h0 : -9223372036854775808 ≤ n) (h1 : n ≤ 9223372036854775807) (w : World) :
    Calls Tryd.prog 15 #[.int .i64 n] w fun e w' => e = .returned (.string ⟨(Lib.itoa n).toArray⟩) ∧ Below w.heap.size w w' := by
  by_cases hn : n < 0
  · obtain ⟨u, rfl⟩ : ∃ u : Nat, n = -(u : Int) := ⟨n.natAbs, by omega⟩
    rw [Lib.itoa_neg u (by omega)]
    have hq : 0 < u := by omega
    have K := Lib.hid (fun w => ref18_BigDigits u (by omega) w)
    have hplus := fun w => plus18 (P := Tryd.prog) [45] (Lib.decDigits u) (by have := digits_len u (by omega); simp; omega) w
    have e1 : IntKind.i64.wrap (-(u : Int) + 1) = 1 - (u : Int) := by rw [IntKind.wrap_i64]; omega
    have e2 : IntKind.i64.wrap (-(1 - (u : Int))) = (u : Int) - 1 := by rw [IntKind.wrap_i64]; omega
    have e3 : IntKind.u64.wrap ((u : Int) - 1) = (u : Int) - 1 := by rw [IntKind.wrap_u64]; omega
    have e4 : IntKind.u64.wrap (u : Int) = (u : Int) := by rw [IntKind.wrap_u64]; omega
    clear hn h0 h1
    go_enter Tryd.func15, Tryd.ntmps15
    go_wp2_with (go_at_call 17; (with_reducible refine (K.out _).mono ?_); rintro e w' ⟨rfl, hb⟩)
    go_ret
    exact ⟨rfl, hb⟩
  · obtain ⟨u, rfl⟩ : ∃ u : Nat, n = (u : Int) := ⟨n.toNat, by omega⟩
    rw [Lib.itoa_nonneg]
    have hq : decide ((u : Int) < 0) = false := decide_eq_false (by omega)
    have K := Lib.hid (fun w => ref18_BigDigits u (by omega) w)
    have e1 : IntKind.u64.wrap (u : Int) = (u : Int) := by rw [IntKind.wrap_u64]; omega
    clear hn h0 h1
    go_enter Tryd.func15, Tryd.ntmps15
    go_wp2_with (go_at_call 17; (with_reducible refine (K.out _).mono ?_); rintro e w' ⟨rfl, hb⟩)
    go_ret
    exact ⟨rfl, hb⟩

set_option maxRecDepth 100000 in
set_option maxHeartbeats 4000000 in
theorem ref18_loose (l : List UInt8) (hl : l.length ≤ 1000) (w : World) :
    Calls Tryd.prog 21 #[.string ⟨l.toArray⟩] w fun e w' => e = .returned (.int .u64 (looseOf l : Int)) ∧ Below w.heap.size w w' := by
  obtain ⟨s, hs⟩ : ∃ s : ByteArray, s = ⟨l.toArray⟩ := ⟨_, rfl⟩
  rw [← hs]
  have HS := Lib.hid hs
  have hlen := fun ty w => len18 (P := Tryd.prog) Tryd.underlying9 hs ty w
  clear hs
  obtain ⟨n, hn⟩ : ∃ n, n = l.length := ⟨_, rfl⟩
  have HN := Lib.hid hn
  rw [← hn] at hlen hl
  clear hn
  obtain ⟨res, hres⟩ : ∃ res, res = looseOf l := ⟨_, rfl⟩
  rw [← hres]
  have HR := Lib.hid hres
  clear hres
  go_enter Tryd.func21, Tryd.ntmps21
  go_wp2
  by_cases h20 : n ≤ 20
  · have hq : decide ((n : Int) ≤ 20) = true := decide_eq_true (by omega)
    go_loopw [3, 4] (fun v i wr => ∃ k : Nat, k ≤ n ∧ i = .int .i64 k ∧ v = .int .u64 (looseW (l.take k) 0 : Int) ∧ wr = w) (fun _ i _ => n - (intOf i).toNat)
    case atStart => exact ⟨0, by omega, rfl, rfl, rfl⟩
    case round =>
      obtain ⟨k, hk, rfl, rfl, rfl⟩ := hrel
      by_cases hlt : k < n
      · have hnl := HN.out
        have hkl : k < l.length := by omega
        have hix := fun w => idx18 (P := Tryd.prog) Tryd.underlying9 HS.out k l[k] (List.getElem?_eq_getElem hkl) w
        have hts : l.take (k + 1) = l.take k ++ [l[k]] := by rw [List.take_add_one, List.getElem?_eq_getElem hkl]; rfl
        have hsn := looseW_snoc (l.take k) l[k] 0
        rw [← hts] at hsn
        have hlt8 := l[k].toNat_lt
        have hb := looseW_lt (l.take k)
        obtain ⟨c, hc⟩ : ∃ c, c = l[k].toNat := ⟨_, rfl⟩
        obtain ⟨v, hv⟩ : ∃ v, v = looseW (l.take k) 0 := ⟨_, rfl⟩
        rw [← hc] at hix hsn hlt8
        rw [← hv] at hsn hb ⊢
        have e1 : IntKind.u8.wrap ((c : Int) - 48) = (((c + 208) % 256 : Nat) : Int) := by rw [IntKind.wrap_u8]; omega
        obtain ⟨d, hd⟩ : ∃ d, d = (c + 208) % 256 := ⟨_, rfl⟩
        rw [← hd] at e1 hsn
        have hd2 : d < 256 := by omega
        have e2 : IntKind.u64.wrap (d : Int) = (d : Int) := by rw [IntKind.wrap_u64]; omega
        have e3 : IntKind.u64.wrap (10 * (v : Int)) = ((10 * v % 18446744073709551616 : Nat) : Int) := by rw [IntKind.wrap_u64]; omega
        have e4 : IntKind.u64.wrap (((10 * v % 18446744073709551616 : Nat) : Int) + (d : Int)) = (((10 * v + d) % 18446744073709551616 : Nat) : Int) := by rw [IntKind.wrap_u64]; omega
        obtain ⟨x, hx⟩ : ∃ x, x = 10 * v % 18446744073709551616 := ⟨_, rfl⟩
        rw [← hx] at e3 e4
        obtain ⟨y, hy⟩ : ∃ y, y = (10 * v + d) % 18446744073709551616 := ⟨_, rfl⟩
        rw [← hy] at e4 hsn
        have HSN := Lib.hid hsn
        have hle : n ≤ 1000 := hl
        clear hsn hx hy hd hd2 hc hv hb hlt8 hts hkl hnl
        go_wp2
        go_roundw
        case rel => exact ⟨k + 1, by omega, by go_num, by rw [HSN.out], trivial⟩
        case measure => simp [intOf]; omega
      · obtain rfl : k = n := by omega
        have e : looseOf l = looseW (l.take k) 0 := by
          have := HN.out
          unfold looseOf
          rw [if_pos (by omega), List.take_of_length_le (by omega)]
        go_wp2
        go_ret
        exact ⟨by rw [HR.out, e]; rfl, Below.refl _ _⟩
  · have hq : decide ((n : Int) ≤ 20) = false := decide_eq_false (by omega)
    have e : looseOf l = 0 := by
      have := HN.out
      unfold looseOf
      rw [if_neg (by omega)]
    have h0 : decide ((0 : Int) < (n : Int)) = true := decide_eq_true (by omega)
    refine wp_loop_rounds 1 ?_
    rw [rounds_succ]
    go_wp2
    go_ret
    exact ⟨by rw [HR.out, e]; rfl, Below.refl _ _⟩

theorem ref18_Big (l : List UInt8) (hl : l.length ≤ 1000) (w : World) :
    Calls Tryd.prog 10 #[.string ⟨l.toArray⟩] w fun e w' => e = .returned (.tuple #[.int .u64 ((bigOf l).1 : Int), .bool (bigOf l).2]) ∧ Below w.heap.size w w' := by
  have K := Lib.hid (fun w => ref18_loose l hl w)
  have K2 := Lib.hid (fun w => ref18_BigDigits (looseOf l) (looseOf_lt l) w)
  have hlt := looseOf_lt l
  by_cases he : Lib.decDigits (looseOf l) = l
  · rw [bigOf_of hlt he]
    have hq : (Lib.decDigits (looseOf l) == l) = true := by simpa using he
    clear he hlt
    generalize looseOf l = v at *
    go_enter Tryd.func10, Tryd.ntmps10
    go_wp2_with (first
      | (go_at_call 21; (with_reducible refine (K.out _).mono ?_); rintro e w' ⟨rfl, hb⟩)
      | (go_at_call 17; (with_reducible refine (K2.out _).mono ?_); rintro e w2 ⟨rfl, hb2⟩))
    go_ret2
    exact ⟨rfl, hb.trans (hb2.mono hb.size)⟩
  · have hno : bigOf l = (0, false) := bigOf_no fun n hn e => he (by rw [← e, loose_digits n hn])
    rw [hno]
    have hq : (Lib.decDigits (looseOf l) == l) = false := by simpa using he
    clear he hlt hno
    generalize looseOf l = v at *
    go_enter Tryd.func10, Tryd.ntmps10
    go_wp2_with (first
      | (go_at_call 21; (with_reducible refine (K.out _).mono ?_); rintro e w' ⟨rfl, hb⟩)
      | (go_at_call 17; (with_reducible refine (K2.out _).mono ?_); rintro e w2 ⟨rfl, hb2⟩))
    go_ret2
    exact ⟨rfl, hb.trans (hb2.mono hb.size)⟩

/-- The document's test of a number: n is in its range, and its digits are l. -/
theorem numOf_meant {l : List UInt8} {n : Int} (hm : meant l = n) (h : ¬ ((-2147483648 ≤ n ∧ n ≤ 2147483648) ∧ Lib.itoa n = l)) : numOf l = (0, false) :=
  numOf_no fun k a b e => h (by rw [← e, meant_itoa k ⟨a, b⟩] at hm; subst hm; exact ⟨⟨a, b⟩, e⟩)

set_option maxRecDepth 100000 in
set_option maxHeartbeats 4000000 in
theorem ref18_Number_short (l : List UInt8) (hl : l.length = 0 ∨ 11 < l.length) (w : World) :
    Calls Tryd.prog 8 #[.string ⟨l.toArray⟩] w fun e w' => e = .returned (.tuple #[.int .i64 (numOf l).1, .bool (numOf l).2]) ∧ Below w.heap.size w w' := by
  have hno : numOf l = (0, false) := numOf_no fun k a b e => by
    have := itoa_len k ⟨a, b⟩
    rw [e] at this
    omega
  rw [hno]
  obtain ⟨s, hs⟩ : ∃ s : ByteArray, s = ⟨l.toArray⟩ := ⟨_, rfl⟩
  rw [← hs]
  have hlen := fun ty w => len18 (P := Tryd.prog) Tryd.underlying9 hs ty w
  clear hs hno
  generalize l.length = n at *
  rcases hl with rfl | hl
  · go_enter Tryd.func8, Tryd.ntmps8
    go_wp2
    go_ret2
    exact ⟨rfl, Below.refl _ _⟩
  · have q0 : ¬ (n : Int) = 0 := by omega
    have q1 : decide (11 < (n : Int)) = true := decide_eq_true (by omega)
    clear hl
    go_enter Tryd.func8, Tryd.ntmps8
    go_wp2
    go_ret2
    exact ⟨rfl, Below.refl _ _⟩

end Go.Proofs.YtlhamgcmkodjeaaDoor
