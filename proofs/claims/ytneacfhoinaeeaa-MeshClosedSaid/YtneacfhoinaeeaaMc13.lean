/- Plain mathematics of a division of 128 bits by 64 bits, digit by digit of 32 bits. The contract of math/bits.Div64 where the upper half is less than the divisor. -/
import Derived.Test.YtneacfhoinaeeaaMc2
import Derived.Test.YtneacfhoinaeeaaMc12
import Derived.Deep.QuietTactic
import Derived.BigQuiet


namespace Go.Proofs.Sky
section

section

set_option linter.unusedVariables false

/-- A digit that is tried: q times the upper half, and r, is U; it is no less than the true one. -/
def KD (A B U V q r : Nat) : Prop := q * A + r = U ∧ (U * 4294967296 + V) / (A * 4294967296 + B) ≤ q ∧ r < 4294967296 ∧ q ≤ 4294967297

variable {A B U V q r : Nat}

theorem k_cmp (h : q * A + r = U) : (q * (A * 4294967296 + B) ≤ U * 4294967296 + V ↔ q * B ≤ 4294967296 * r + V) := by
  subst h
  rw [Nat.mul_add, ← Nat.mul_assoc, Nat.add_mul]; omega

theorem k_small (_hA : 2147483648 ≤ A) (hV : V < 4294967296) (hU : U < A * 4294967296 + B) : (U * 4294967296 + V) / (A * 4294967296 + B) < 4294967296 := by
  rw [Nat.div_lt_iff_lt_mul (by omega)]; omega

theorem KD.start (hA : 2147483648 ≤ A) (hA' : A < 4294967296) (hB : B < 4294967296) (hV : V < 4294967296) (hU : U < A * 4294967296 + B) : KD A B U V (U / A) (U % A) := by
  have hd := Nat.div_add_mod' U A
  have hr := Nat.mod_lt U (show A > 0 by omega)
  refine ⟨hd, ?_, by omega, ?_⟩
  · refine Nat.le_of_lt_succ ((Nat.div_lt_iff_lt_mul (by omega)).2 ?_)
    have : (U / A + 1) * A = U / A * A + A := by rw [Nat.succ_mul]
    rw [Nat.mul_add, ← Nat.mul_assoc, this]
    omega
  · refine Nat.le_of_lt_succ ((Nat.div_lt_iff_lt_mul (by omega)).2 ?_)
    omega

theorem KD.more (hA : 2147483648 ≤ A) (hB : B < 4294967296) (hV : V < 4294967296) (hU : U < A * 4294967296 + B) (h : KD A B U V q r)
    (c : 4294967296 ≤ q ∨ 4294967296 * r + V < q * B) : 1 ≤ q ∧ (r + A < 4294967296 → KD A B U V (q - 1) (r + A)) ∧ (4294967296 ≤ r + A → q - 1 = (U * 4294967296 + V) / (A * 4294967296 + B)) := by
  have hs := k_small hA hV hU
  obtain ⟨h1, h2, h3, h4⟩ := h
  have hlt : (U * 4294967296 + V) / (A * 4294967296 + B) < q := by
    rcases c with c | c
    · omega
    · rw [Nat.div_lt_iff_lt_mul (by omega)]
      have := (k_cmp (A := A) (B := B) (V := V) h1); omega
  obtain ⟨p, rfl⟩ : ∃ p, q = p + 1 := ⟨q - 1, by have := Nat.lt_of_le_of_lt (Nat.zero_le _) hlt; omega⟩
  have e : p * A + (r + A) = U := by rw [Nat.succ_mul] at h1; omega
  refine ⟨by omega, fun hr => ⟨by simpa using e, by rw [Nat.add_sub_cancel]; exact Nat.le_of_lt_succ hlt, hr, by omega⟩, fun hr => ?_⟩
  simp only [Nat.add_sub_cancel]
  refine Nat.le_antisymm ?_ (Nat.le_of_lt_succ hlt)
  rw [Nat.le_div_iff_mul_le (by omega), k_cmp e]
  have := Nat.mul_le_mul (show p ≤ 4294967296 by omega) (Nat.le_refl B)
  omega

theorem KD.done (hA : 2147483648 ≤ A) (h : KD A B U V q r) (c : q * B ≤ 4294967296 * r + V) : q = (U * 4294967296 + V) / (A * 4294967296 + B) := by
  obtain ⟨h1, h2, h3, h4⟩ := h
  refine Nat.le_antisymm ?_ h2
  rw [Nat.le_div_iff_mul_le (by omega), k_cmp h1]; exact c

/-- The shift that makes the divisor great: all of it. s: how far; L = 64 - s: how many bits the divisor has. -/
structure KN (hi lo y s Y A B U V V1 V0 : Nat) : Prop where
  hY : Y = y * 2 ^ s
  hYl : Y < 18446744073709551616
  hA : 2147483648 ≤ A
  hA' : A < 4294967296
  hB : B < 4294967296
  hAB : Y = A * 4294967296 + B
  hU : U < Y
  hV : V = V1 * 4294967296 + V0
  hV1 : V1 < 4294967296
  hV0 : V0 < 4294967296
  hN : U * 18446744073709551616 + V = (hi * 18446744073709551616 + lo) * 2 ^ s
  e1 : IntKind.u64.wrap ((y : Int) * 2 ^ s) = (Y : Int)
  e2 : (Y : Int) / 4294967296 = (A : Int)
  e3 : bits .and .u64 (Y : Int) 4294967295 = (B : Int)
  e6 : bits .or .u64 (IntKind.u64.wrap ((hi : Int) * 2 ^ s)) ((lo : Int) / 2 ^ (64 - s)) = (U : Int)
  e7 : IntKind.u64.wrap ((lo : Int) * 2 ^ s) = (V : Int)
  e8 : (V : Int) / 4294967296 = (V1 : Int)
  e9 : bits .and .u64 (V : Int) 4294967295 = (V0 : Int)

theorem and32 (n : Nat) (h : n < 18446744073709551616) : bits .and .u64 (n : Int) 4294967295 = ((n % 4294967296 : Nat) : Int) := by
  have e := u64_and_nat n 4294967295 h (by decide)
  have : n &&& 4294967295 = n % 4294967296 := Nat.and_two_pow_sub_one_eq_mod n 32
  rw [this] at e; exact e

theorem shl64 (n s : Nat) : IntKind.u64.wrap ((n : Int) * 2 ^ s) = ((n * 2 ^ s % 18446744073709551616 : Nat) : Int) := by
  rw [u64w]; simp

theorem KN.make {hi lo y s : Nat} (h1 : hi < y) (h3 : lo < 18446744073709551616) (hs : s ≤ 63) (l : 2 ^ (63 - s) ≤ y) (g : y < 2 ^ (64 - s)) :
    KN hi lo y s (y * 2 ^ s) (y * 2 ^ s / 4294967296) (y * 2 ^ s % 4294967296) (hi * 2 ^ s + lo / 2 ^ (64 - s)) (lo * 2 ^ s % 18446744073709551616)
      (lo * 2 ^ s % 18446744073709551616 / 4294967296) (lo * 2 ^ s % 18446744073709551616 % 4294967296) := by
  have p0 : 0 < 2 ^ s := Nat.two_pow_pos s
  have e64 : 2 ^ (64 - s) * 2 ^ s = 18446744073709551616 := by rw [← Nat.pow_add, show 64 - s + s = 64 by omega]
  have e63 : 2 ^ (63 - s) * 2 ^ s = 9223372036854775808 := by rw [← Nat.pow_add, show 63 - s + s = 63 by omega]
  have p1 : 0 < 2 ^ (64 - s) := Nat.two_pow_pos _
  have hYl : y * 2 ^ s < 18446744073709551616 := by rw [← e64]; exact Nat.mul_lt_mul_of_pos_right g p0
  have hYg : 9223372036854775808 ≤ y * 2 ^ s := by rw [← e63]; exact Nat.mul_le_mul_right _ l
  have hq : lo / 2 ^ (64 - s) < 2 ^ s := by rw [Nat.div_lt_iff_lt_mul p1, Nat.mul_comm, e64]; exact h3
  have hm : lo * 2 ^ s = lo / 2 ^ (64 - s) * 18446744073709551616 + lo % 2 ^ (64 - s) * 2 ^ s := by
    rw [← e64, ← Nat.mul_assoc, ← Nat.add_mul, Nat.div_add_mod']
  have hml : lo % 2 ^ (64 - s) * 2 ^ s < 18446744073709551616 := by rw [← e64]; exact Nat.mul_lt_mul_of_pos_right (Nat.mod_lt _ p1) p0
  have hU : hi * 2 ^ s + lo / 2 ^ (64 - s) < y * 2 ^ s := by
    have := Nat.mul_le_mul_right (2 ^ s) (show hi + 1 ≤ y by omega)
    rw [Nat.succ_mul] at this; omega
  have hHl : hi * 2 ^ s < 18446744073709551616 := by omega
  refine ⟨rfl, hYl, by omega, by omega, by omega, by omega, hU, by omega, by omega, by omega, ?_, ?_, by omega, and32 _ hYl, ?_, shl64 _ _, by omega, and32 _ (Nat.mod_lt _ (by decide))⟩
  · rw [Nat.add_mul, Nat.add_mul, show hi * 18446744073709551616 * 2 ^ s = hi * 2 ^ s * 18446744073709551616 by rw [Nat.mul_assoc, Nat.mul_comm 18446744073709551616, ← Nat.mul_assoc]]
    generalize hi * 2 ^ s = a
    omega
  · rw [shl64, Nat.mod_eq_of_lt hYl]
  · rw [shl64, Nat.mod_eq_of_lt hHl]
    have : ((lo : Int) / 2 ^ (64 - s)) = ((lo / 2 ^ (64 - s) : Nat) : Int) := by simp
    rw [this, u64_or_nat _ _ hHl (by omega), nat_join s _ _ (Nat.mul_mod_left _ _) hq]

/-- What a round of the correction finds: more to do, or done. -/
theorem KD.round {A B U V q r Q : Nat} (h : KD A B U V q r) (hA : 2147483648 ≤ A) (hA' : A < 4294967296) (hB : B < 4294967296) (hV : V < 4294967296) (hU : U < A * 4294967296 + B)
    (hQ : Q = (U * 4294967296 + V) / (A * 4294967296 + B)) :
    ∃ T : Nat, IntKind.u64.wrap ((q : Int) * (B : Int)) = (T : Int) ∧
      ((((4294967296 ≤ q) ∨ (q < 4294967296 ∧ 4294967296 * r + V < T)) ∧ 1 ≤ q ∧ ((r + A < 4294967296 ∧ KD A B U V (q - 1) (r + A)) ∨ (4294967296 ≤ r + A ∧ q - 1 = Q))) ∨
       (q < 4294967296 ∧ T ≤ 4294967296 * r + V ∧ q = Q)) := by
  by_cases c1 : 4294967296 ≤ q
  · obtain ⟨h1, h2, h3⟩ := h.more hA hB hV hU (.inl c1)
    refine ⟨((q : Int) * (B : Int) % 18446744073709551616).toNat, by rw [u64w]; omega, .inl ⟨.inl c1, h1, ?_⟩⟩
    rcases Nat.lt_or_ge (r + A) 4294967296 with g | g
    · exact .inl ⟨g, h2 g⟩
    · exact .inr ⟨g, by rw [hQ]; exact h3 g⟩
  · have hq : q < 4294967296 := by omega
    have hm := Nat.mul_le_mul (show q ≤ 4294967295 by omega) (show B ≤ 4294967295 by omega)
    refine ⟨q * B, by rw [u64w, ← Int.natCast_mul]; omega, ?_⟩
    by_cases c2 : 4294967296 * r + V < q * B
    · obtain ⟨h1, h2, h3⟩ := h.more hA hB hV hU (.inr c2)
      refine .inl ⟨.inr ⟨hq, c2⟩, h1, ?_⟩
      rcases Nat.lt_or_ge (r + A) 4294967296 with g | g
      · exact .inl ⟨g, h2 g⟩
      · exact .inr ⟨g, by rw [hQ]; exact h3 g⟩
    · exact .inr ⟨hq, by omega, by rw [hQ]; exact h.done hA (by omega)⟩

/-- The facts that open a digit's trial, and those of what it leaves, each at one operation. -/
structure KO (Y A B U V Q R q r P : Nat) : Prop where
  hQ : Q = (U * 4294967296 + V) / Y
  hR : R = (U * 4294967296 + V) % Y
  hQl : Q < 4294967296
  hRl : R < Y
  e10 : (U : Int) / (A : Int) = (q : Int)
  e11 : IntKind.u64.wrap ((q : Int) * (A : Int)) = (P : Int)
  e12 : (U : Int) - (P : Int) = (r : Int)
  e13 : IntKind.u64.wrap (IntKind.u64.wrap (IntKind.u64.wrap ((U : Int) * 4294967296) + (V : Int)) - IntKind.u64.wrap ((Q : Int) * (Y : Int))) = (R : Int)
  hk : KD A B U V q r
  hq : q ≤ 4294967297
  hr : r ≤ U

theorem KO.make {Y A B U V : Nat} (hY : Y = A * 4294967296 + B) (hYl : Y < 18446744073709551616) (hA : 2147483648 ≤ A) (hA' : A < 4294967296) (hB : B < 4294967296) (hV : V < 4294967296) (hU : U < Y) :
    ∃ Q R q r P, KO Y A B U V Q R q r P := by
  have hs := k_small hA hV (by rw [← hY]; exact hU)
  have hk := KD.start hA hA' hB hV (U := U) (by omega)
  have hd := Nat.div_add_mod' U A
  have hN := Nat.div_add_mod' (U * 4294967296 + V) Y
  have hRl := Nat.mod_lt (U * 4294967296 + V) (show Y > 0 by omega)
  rw [← hY] at hs
  refine ⟨_, _, U / A, U % A, U / A * A, rfl, rfl, hs, hRl, by simp, ?_, by omega, ?_, hk, hk.2.2.2, Nat.mod_le _ _⟩
  · rw [u64w, ← Int.natCast_mul]; omega
  · simp only [u64w, ← Int.natCast_mul]
    generalize (U * 4294967296 + V) / Y * Y = t at *
    generalize (U * 4294967296 + V) % Y = R at *
    omega

end

end
end Go.Proofs.Sky

namespace Go.Proofs.Ytneacfhoinaeeaa
section

section

open Go.RowKit Go.Proofs.Sky

set_option linter.unusedVariables false

end

end
end Go.Proofs.Ytneacfhoinaeeaa
