/- Numbers' digits: there and back; what number digits are of. Imports nothing of the translation. -/
import Derived.Lib.ItoaNum
import Derived.Lib.ItoaMem
import Derived.Lib.AtoiAll
import Derived.Lib.ParseIntBCases
namespace Go.Proofs.Sky
open Go Go.Lib
set_option linter.unusedVariables false

/-- A decimal digit. -/
def dig (c : UInt8) : Prop := 48 ≤ c.toNat ∧ c.toNat ≤ 57

theorem dig_of (u : Nat) (h : u < 10) : dig (UInt8.ofNat (48 + u)) ∧ (UInt8.ofNat (48 + u)).toNat - 48 = u := by
  have e : (UInt8.ofNat (48 + u)).toNat = 48 + u := by simp [UInt8.toNat_ofNat']; omega
  unfold dig
  omega

theorem decDigits_small {u : Nat} (h : u < 10) : decDigits u = [UInt8.ofNat (48 + u)] := by rw [decDigits, dif_pos h]

theorem decDigits_big {u : Nat} (h : ¬ u < 10) : decDigits u = decDigits (u / 10) ++ [UInt8.ofNat (48 + u % 10)] := by rw [decDigits, dif_neg h]

theorem decDigits_dig (u : Nat) : ∀ c ∈ decDigits u, dig c := by
  induction u using Nat.strongRecOn with
  | _ u ih =>
    intro c hc
    by_cases h : u < 10
    · rw [decDigits_small h] at hc
      obtain rfl := List.mem_singleton.1 hc
      exact (dig_of u h).1
    · rw [decDigits_big h] at hc
      rcases List.mem_append.1 hc with hc | hc
      · exact ih _ (by omega) c hc
      · obtain rfl := List.mem_singleton.1 hc
        exact (dig_of _ (by omega)).1

theorem decDigits_ne (u : Nat) : decDigits u ≠ [] := by
  intro h
  have := congrArg List.length h
  rw [decDigits_length] at this
  have := nDigits_pos u
  simp at *
  omega

/-- What digits spell, behind n. -/
def spell (n : Nat) (l : List UInt8) : Nat := l.foldl (fun n c => n * 10 + (c.toNat - 48)) n

theorem spell_digits (u : Nat) : spell 0 (decDigits u) = u := by
  induction u using Nat.strongRecOn with
  | _ u ih =>
    by_cases h : u < 10
    · rw [decDigits_small h]
      simp only [spell, List.foldl_cons, List.foldl_nil]
      rw [(dig_of u h).2]
      omega
    · rw [decDigits_big h]
      have := ih (u / 10) (by omega)
      unfold spell at this ⊢
      rw [List.foldl_append, this]
      simp only [List.foldl_cons, List.foldl_nil]
      rw [(dig_of (u % 10) (by omega)).2]
      omega

theorem spell_le (l : List UInt8) : ∀ n, n ≤ spell n l := by
  induction l with
  | nil => intro n; exact Nat.le_refl _
  | cons c l ih =>
    intro n
    have := ih (n * 10 + (c.toNat - 48))
    unfold spell at *
    simp only [List.foldl_cons]
    omega

theorem parse_ok (l : List UInt8) : ∀ acc, (∀ c ∈ l, dig c) → spell acc l < 18446744073709551616 → parseUint10 acc l = .ok (spell acc l) := by
  induction l with
  | nil => intro acc _ _; rfl
  | cons c l ih =>
    intro acc hd hl
    have hc : 48 ≤ c.toNat ∧ c.toNat ≤ 57 := hd c (List.mem_cons_self)
    have h1 := spell_le l (acc * 10 + (c.toNat - 48))
    have e : spell acc (c :: l) = spell (acc * 10 + (c.toNat - 48)) l := rfl
    rw [e] at hl ⊢
    unfold parseUint10
    rw [if_pos hc, if_neg (by omega), if_neg (by omega)]
    exact ih _ (fun c h => hd c (List.mem_cons_of_mem _ h)) hl

theorem mag_digits (u : Nat) (h : u < 18446744073709551616) : parseMag (decDigits u) = .ok u := by
  unfold parseMag
  rw [if_neg (decDigits_ne u), parse_ok _ 0 (decDigits_dig u) (by rw [spell_digits]; exact h), spell_digits]

/-- Digits of 64 bits are read as what they are of. -/
theorem uint_digits (u : Nat) (h : u < 18446744073709551616) : parseUintB 64 (decDigits u) = .ok u := by
  rw [parseUintB_64]; exact mag_digits u h

theorem digits_inj {u v : Nat} (h : decDigits u = decDigits v) : u = v := by
  rw [← spell_digits u, h, spell_digits]

theorem digits_cons (u : Nat) : ∃ c l, decDigits u = c :: l ∧ dig c := by
  cases h : decDigits u with
  | nil => exact absurd h (decDigits_ne u)
  | cons c l => exact ⟨c, l, rfl, decDigits_dig u c (by rw [h]; exact List.mem_cons_self)⟩

/-- Digits of an int are read as what they are of. -/
theorem atoi_digits (n : Int) (h0 : -9223372036854775808 ≤ n) (h1 : n ≤ 9223372036854775807) : atoiAll (itoa n) = .ok n := by
  by_cases hn : n < 0
  · obtain ⟨u, rfl⟩ : ∃ u : Nat, n = -(u : Int) := ⟨n.natAbs, by omega⟩
    rw [itoa_neg u (by omega)]
    unfold atoiAll
    dsimp only
    rw [if_pos (.inr (by decide)), mag_digits u (by omega)]
    simp
    omega
  · obtain ⟨u, rfl⟩ : ∃ u : Nat, n = (u : Int) := ⟨n.toNat, by omega⟩
    rw [itoa_nonneg u]
    obtain ⟨c, l, e, hc⟩ := digits_cons u
    have hm := mag_digits u (by omega)
    rw [e] at hm ⊢
    unfold atoiAll
    dsimp only
    unfold dig at hc
    rw [if_neg (by omega), hm]
    have h45 : ¬ c.toNat = 45 := by omega
    simp only [h45, not_false_eq_true, true_and, false_and, if_false]
    rw [if_neg (by omega)]

theorem itoa_inj {m n : Int} (hm : -9223372036854775808 ≤ m ∧ m ≤ 9223372036854775807) (hn : -9223372036854775808 ≤ n ∧ n ≤ 9223372036854775807) (h : itoa m = itoa n) : m = n := by
  have a := atoi_digits m hm.1 hm.2
  rw [h, atoi_digits n hn.1 hn.2] at a
  injection a with a
  exact a.symm

/-- The number whose digits l are; false if there is none. -/
noncomputable def numOf (l : List UInt8) : Int × Bool :=
  open Classical in if h : ∃ n : Int, (-2147483648 ≤ n ∧ n ≤ 2147483648) ∧ itoa n = l then (h.choose, true) else (0, false)

theorem numOf_of {l : List UInt8} {n : Int} (h : -2147483648 ≤ n ∧ n ≤ 2147483648) (e : itoa n = l) : numOf l = (n, true) := by
  have hx : ∃ n : Int, (-2147483648 ≤ n ∧ n ≤ 2147483648) ∧ itoa n = l := ⟨n, h, e⟩
  unfold numOf
  rw [dif_pos hx]
  have hs := hx.choose_spec
  have := itoa_inj (m := hx.choose) (n := n) ⟨by omega, by omega⟩ ⟨by omega, by omega⟩ (by rw [hs.2, e])
  rw [this]

theorem numOf_no {l : List UInt8} (h : ∀ n : Int, -2147483648 ≤ n → n ≤ 2147483648 → itoa n ≠ l) : numOf l = (0, false) := by
  unfold numOf
  rw [dif_neg (fun ⟨n, hn, e⟩ => h n hn.1 hn.2 e)]

theorem numOf_cases (l : List UInt8) : (∃ n : Int, (-2147483648 ≤ n ∧ n ≤ 2147483648) ∧ itoa n = l ∧ numOf l = (n, true)) ∨ ((∀ n : Int, -2147483648 ≤ n → n ≤ 2147483648 → itoa n ≠ l) ∧ numOf l = (0, false)) := by
  by_cases h : ∃ n : Int, (-2147483648 ≤ n ∧ n ≤ 2147483648) ∧ itoa n = l
  · obtain ⟨n, hn, e⟩ := h
    exact .inl ⟨n, hn, e, numOf_of hn e⟩
  · have h' : ∀ n : Int, -2147483648 ≤ n → n ≤ 2147483648 → itoa n ≠ l := fun n a b e => h ⟨n, ⟨a, b⟩, e⟩
    exact .inr ⟨h', numOf_no h'⟩

/-- What Atoi tells decides. -/
theorem numOf_ok {l : List UInt8} {v : Int} (h : atoiAll l = .ok v) (hr : -2147483648 ≤ v ∧ v ≤ 2147483648) (e : itoa v = l) : numOf l = (v, true) := numOf_of hr e
theorem numOf_far {l : List UInt8} {v : Int} (h : atoiAll l = .ok v) (hr : ¬ (-2147483648 ≤ v ∧ v ≤ 2147483648)) : numOf l = (0, false) :=
  numOf_no fun n a b e => by
    rw [← e, atoi_digits n (by omega) (by omega)] at h
    injection h with h
    omega
theorem numOf_else {l : List UInt8} {v : Int} (h : atoiAll l = .ok v) (e : itoa v ≠ l) : numOf l = (0, false) :=
  numOf_no fun n a b e' => by
    have h' := h
    rw [← e', atoi_digits n (by omega) (by omega)] at h'
    injection h' with h'
    subst h'
    exact e e'
theorem numOf_bad {l : List UInt8} (h : ∀ v, atoiAll l ≠ .ok v) : numOf l = (0, false) :=
  numOf_no fun n a b e => h n (by rw [← e]; exact atoi_digits n (by omega) (by omega))

/-- The number of 64 bits whose digits l are. -/
noncomputable def bigOf (l : List UInt8) : Nat × Bool :=
  open Classical in if h : ∃ n : Nat, n < 18446744073709551616 ∧ decDigits n = l then (h.choose, true) else (0, false)

theorem bigOf_of {l : List UInt8} {n : Nat} (h : n < 18446744073709551616) (e : decDigits n = l) : bigOf l = (n, true) := by
  have hx : ∃ n : Nat, n < 18446744073709551616 ∧ decDigits n = l := ⟨n, h, e⟩
  unfold bigOf
  rw [dif_pos hx]
  have := digits_inj (u := hx.choose) (v := n) (by rw [hx.choose_spec.2, e])
  rw [this]

theorem bigOf_no {l : List UInt8} (h : ∀ n : Nat, n < 18446744073709551616 → decDigits n ≠ l) : bigOf l = (0, false) := by
  unfold bigOf
  rw [dif_neg (fun ⟨n, hn, e⟩ => h n hn e)]

theorem bigOf_cases (l : List UInt8) : (∃ n : Nat, n < 18446744073709551616 ∧ decDigits n = l ∧ bigOf l = (n, true)) ∨ ((∀ n : Nat, n < 18446744073709551616 → decDigits n ≠ l) ∧ bigOf l = (0, false)) := by
  by_cases h : ∃ n : Nat, n < 18446744073709551616 ∧ decDigits n = l
  · obtain ⟨n, hn, e⟩ := h
    exact .inl ⟨n, hn, e, bigOf_of hn e⟩
  · have h' : ∀ n : Nat, n < 18446744073709551616 → decDigits n ≠ l := fun n a e => h ⟨n, a, e⟩
    exact .inr ⟨h', bigOf_no h'⟩

theorem bigOf_else {l : List UInt8} {v : Nat} (h : parseUintB 64 l = .ok v) (e : decDigits v ≠ l) : bigOf l = (0, false) :=
  bigOf_no fun n a e' => by
    have h' := h
    rw [← e', uint_digits n a] at h'
    injection h' with h'
    subst h'
    exact e e'
theorem bigOf_bad {l : List UInt8} (h : ∀ v, parseUintB 64 l ≠ .ok v) : bigOf l = (0, false) :=
  bigOf_no fun n a e => h n (by rw [← e]; exact uint_digits n a)

/-- What may be meant by digits, as the document's answer reckons it: numbers of 64 bits go round. -/
def looseW (l : List UInt8) : Nat → Nat := fun n => l.foldl (fun n c => (10 * n + (c.toNat + 208) % 256) % 18446744073709551616) n
def looseOf (l : List UInt8) : Nat := if l.length ≤ 20 then looseW l 0 else 0

theorem looseW_snoc (l : List UInt8) (c : UInt8) (n : Nat) : looseW (l ++ [c]) n = (10 * looseW l n + (c.toNat + 208) % 256) % 18446744073709551616 := by
  unfold looseW
  rw [List.foldl_append]
  rfl

theorem looseW_lt (l : List UInt8) : looseW l 0 < 18446744073709551616 := by
  rcases List.eq_nil_or_concat l with rfl | ⟨l, c, rfl⟩
  · decide
  · simp only [List.concat_eq_append]
    rw [looseW_snoc]
    omega

theorem loose_spell (l : List UInt8) : ∀ n, (∀ c ∈ l, dig c) → spell n l < 18446744073709551616 → looseW l n = spell n l := by
  induction l with
  | nil => intro n _ _; rfl
  | cons c l ih =>
    intro n hd hl
    have hc := hd c (List.mem_cons_self)
    unfold dig at hc
    have h1 := spell_le l (n * 10 + (c.toNat - 48))
    have e : spell n (c :: l) = spell (n * 10 + (c.toNat - 48)) l := rfl
    have e2 : looseW (c :: l) n = looseW l ((10 * n + (c.toNat + 208) % 256) % 18446744073709551616) := rfl
    rw [e] at hl ⊢
    have e3 : (10 * n + (c.toNat + 208) % 256) % 18446744073709551616 = n * 10 + (c.toNat - 48) := by omega
    rw [e2, e3]
    exact ih _ (fun c h => hd c (List.mem_cons_of_mem _ h)) hl

theorem digits_len (u : Nat) (h : u < 18446744073709551616) : (decDigits u).length ≤ 20 := by
  rw [decDigits_length]
  by_cases h0 : u = 0
  · subst h0; rw [nDigits_small (by omega)]; omega
  · have := numDigits_eq u (by omega) h
    split at this <;> omega

theorem loose_digits (u : Nat) (h : u < 18446744073709551616) : looseOf (decDigits u) = u := by
  unfold looseOf
  rw [if_pos (digits_len u h), loose_spell _ 0 (decDigits_dig u) (by rw [spell_digits]; exact h), spell_digits]

theorem looseOf_lt (l : List UInt8) : looseOf l < 18446744073709551616 := by
  unfold looseOf
  split
  · exact looseW_lt l
  · omega

theorem digits_len10 (u : Nat) (h : u ≤ 2147483648) : (decDigits u).length ≤ 10 := by
  rw [decDigits_length]
  rcases Nat.lt_or_ge 10 (nDigits u) with g | g
  · exfalso
    have hp : ∀ (k u : Nat), k + 1 ≤ nDigits u → 10 ^ k ≤ u ∨ k = 0 := by
      intro k
      induction k with
      | zero => intro u _; exact .inr rfl
      | succ k ih =>
        intro u hk
        by_cases h10 : u < 10
        · rw [nDigits_small h10] at hk; omega
        · rw [nDigits_big h10] at hk
          left
          rcases ih (u / 10) (by omega) with a | a
          · rw [Nat.pow_succ]; omega
          · subst a; simp; omega
    rcases hp 10 u (by omega) with a | a
    · omega
    · omega
  · exact g

theorem itoa_len (n : Int) (h : -2147483648 ≤ n ∧ n ≤ 2147483648) : 1 ≤ (itoa n).length ∧ (itoa n).length ≤ 11 := by
  by_cases hn : n < 0
  · obtain ⟨u, rfl⟩ : ∃ u : Nat, n = -(u : Int) := ⟨n.natAbs, by omega⟩
    rw [itoa_neg u (by omega)]
    have := digits_len10 u (by omega)
    simp
    omega
  · obtain ⟨u, rfl⟩ : ∃ u : Nat, n = (u : Int) := ⟨n.toNat, by omega⟩
    rw [itoa_nonneg]
    have := digits_len10 u (by omega)
    have := List.length_pos_iff.2 (decDigits_ne u)
    omega

/-- The document's number, ahead of its test. -/
def meant (l : List UInt8) : Int := if l.head? = some 45 then -(looseOf l.tail : Int) else (looseOf l : Int)

theorem meant_itoa (n : Int) (h : -2147483648 ≤ n ∧ n ≤ 2147483648) : meant (itoa n) = n := by
  by_cases hn : n < 0
  · obtain ⟨u, rfl⟩ : ∃ u : Nat, n = -(u : Int) := ⟨n.natAbs, by omega⟩
    rw [itoa_neg u (by omega)]
    unfold meant
    rw [if_pos (List.head?_cons ..), List.tail_cons, loose_digits u (by omega)]
  · obtain ⟨u, rfl⟩ : ∃ u : Nat, n = (u : Int) := ⟨n.toNat, by omega⟩
    rw [itoa_nonneg]
    obtain ⟨c, l, e, hc⟩ := digits_cons u
    have hl := loose_digits u (by omega)
    unfold meant
    rw [e] at hl ⊢
    unfold dig at hc
    rw [if_neg (by simp; intro h; subst h; revert hc; decide), hl]

end Go.Proofs.Sky
