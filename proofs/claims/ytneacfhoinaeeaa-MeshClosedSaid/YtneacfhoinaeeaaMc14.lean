/- Contracts of the document's own answers of layer 1 (skylightref01), over the same plain mathematics. -/
import Derived.Test.YtneacfhoinaeeaaMc12
import Derived.Test.YtneacfhoinaeeaaMc13


namespace Go.Proofs.Ytneacfhoinaeeaa
section

open Go.RowKit Go.Proofs.Sky

set_option linter.unusedVariables false

theorem ref_Plus (a b : Int) (w : World) (ha : I64 a) (hb : I64 b) :
    Calls Try.prog 90 #[.int .i64 a, .int .i64 b] w fun e w' => e = .returned (.int .i64 (sat (a + b))) ∧ w = w' := by
  obtain ⟨a1, a2⟩ := ha; obtain ⟨b1, b2⟩ := hb
  by_cases h : 0 ≤ a
  · by_cases g : 9223372036854775807 - a < b
    all_goals
      go_enter Try.func90, Try.ntmps90
      go_wp2
      go_ret; exact ⟨ret_int (by unfold sat; (repeat' split) <;> omega), rfl⟩
  · by_cases g : b < -9223372036854775808 - a
    all_goals
      go_enter Try.func90, Try.ntmps90
      go_wp2
      go_ret; exact ⟨ret_int (by unfold sat; (repeat' split) <;> omega), rfl⟩

theorem ref_Size (a : Int) (w : World) (ha : I64 a) :
    Calls Try.prog 92 #[.int .i64 a] w fun e w' => e = .returned (.int .u64 (a.natAbs : Int)) ∧ w = w' := by
  obtain ⟨a1, a2⟩ := ha
  go_enter Try.func92, Try.ntmps92
  go_wp2
  all_goals (go_ret; exact ⟨ret_int (by omega), rfl⟩)

/-- A product out of four digits of 32 bits: each part has a name. -/
structure MulParts (x y a b c d p q r s p1 p0 q1 q0 r1 r0 m H L : Nat) : Prop where
  e1 : bits .and .u64 (x : Int) 4294967295 = (a : Int)
  e2 : (x : Int) / 4294967296 = (b : Int)
  e3 : bits .and .u64 (y : Int) 4294967295 = (c : Int)
  e4 : (y : Int) / 4294967296 = (d : Int)
  e5 : IntKind.u64.wrap ((a : Int) * (c : Int)) = (p : Int)
  e6 : IntKind.u64.wrap ((b : Int) * (c : Int)) = (q : Int)
  e7 : IntKind.u64.wrap ((a : Int) * (d : Int)) = (r : Int)
  e8 : IntKind.u64.wrap ((b : Int) * (d : Int)) = (s : Int)
  f1 : (p : Int) / 4294967296 = (p1 : Int)
  f2 : bits .and .u64 (p : Int) 4294967295 = (p0 : Int)
  f3 : (q : Int) / 4294967296 = (q1 : Int)
  f4 : bits .and .u64 (q : Int) 4294967295 = (q0 : Int)
  f5 : (r : Int) / 4294967296 = (r1 : Int)
  f6 : bits .and .u64 (r : Int) 4294967295 = (r0 : Int)
  g1 : (p1 : Int) ≤ 4294967295
  g2 : (q0 : Int) ≤ 4294967295
  g3 : (r0 : Int) ≤ 4294967295
  g4 : (p1 : Int) + (q0 : Int) + (r0 : Int) = (m : Int)
  g5 : (s : Int) + (q1 : Int) + (r1 : Int) + (m : Int) / 4294967296 = (H : Int)
  g6 : (H : Int) ≤ 18446744073709551615
  g7 : bits .or .u64 (IntKind.u64.wrap ((m : Int) * 4294967296)) (p0 : Int) = (L : Int)
  hH : H = x * y / 18446744073709551616
  hL : L = x * y % 18446744073709551616

theorem MulParts.make (x y : Nat) (hx : x < 18446744073709551616) (hy : y < 18446744073709551616) :
    ∃ a b c d p q r s p1 p0 q1 q0 r1 r0 m H L, MulParts x y a b c d p q r s p1 p0 q1 q0 r1 r0 m H L := by
  have nm : ∀ u v : Nat, u < 4294967296 → v < 4294967296 → u * v ≤ 18446744065119617025 := fun u v hu hv => by
    have := Nat.mul_le_mul (show u ≤ 4294967295 by omega) (show v ≤ 4294967295 by omega); omega
  have n1 := nm (x % 4294967296) (y % 4294967296) (by omega) (by omega)
  have n2 := nm (x / 4294967296) (y % 4294967296) (by omega) (by omega)
  have n3 := nm (x % 4294967296) (y / 4294967296) (by omega) (by omega)
  have n4 := nm (x / 4294967296) (y / 4294967296) (by omega) (by omega)
  have wn : ∀ u v : Nat, u * v ≤ 18446744065119617025 → IntKind.u64.wrap ((u : Int) * (v : Int)) = ((u * v : Nat) : Int) := fun u v h => by
    rw [u64w, ← Int.natCast_mul]; omega
  obtain ⟨a, ha⟩ : ∃ a, a = x % 4294967296 := ⟨_, rfl⟩
  obtain ⟨b, hb⟩ : ∃ b, b = x / 4294967296 := ⟨_, rfl⟩
  obtain ⟨c, hc⟩ : ∃ c, c = y % 4294967296 := ⟨_, rfl⟩
  obtain ⟨d, hd⟩ : ∃ d, d = y / 4294967296 := ⟨_, rfl⟩
  rw [← ha, ← hc] at n1; rw [← hb, ← hc] at n2; rw [← ha, ← hd] at n3; rw [← hb, ← hd] at n4
  have ex : x = b * 4294967296 + a := by omega
  have ey : y = d * 4294967296 + c := by omega
  have exy : x * y = b * d * 18446744073709551616 + (b * c + a * d) * 4294967296 + a * c := by
    rw [ex, ey, Nat.add_mul, Nat.mul_add, Nat.mul_add,
      show b * 4294967296 * (d * 4294967296) = b * d * 18446744073709551616 by rw [Nat.mul_mul_mul_comm],
      show b * 4294967296 * c = b * c * 4294967296 by rw [Nat.mul_right_comm],
      show a * (d * 4294967296) = a * d * 4294967296 by rw [Nat.mul_assoc]]
    omega
  refine ⟨a, b, c, d, a * c, b * c, a * d, b * d, a * c / 4294967296, a * c % 4294967296, b * c / 4294967296, b * c % 4294967296, a * d / 4294967296, a * d % 4294967296,
    a * c / 4294967296 + b * c % 4294967296 + a * d % 4294967296, x * y / 18446744073709551616, x * y % 18446744073709551616, ?_⟩
  refine ⟨by rw [ha]; exact and32 x hx, by omega, by rw [hc]; exact and32 y hy, by omega, wn _ _ n1, wn _ _ n2, wn _ _ n3, wn _ _ n4,
    by omega, and32 _ (by omega), by omega, and32 _ (by omega), by omega, and32 _ (by omega), by omega, by omega, by omega, by omega, ?_, ?_, ?_, rfl, rfl⟩
  · rw [exy]; generalize a * c = p at *; generalize b * c = q at *; generalize a * d = r at *; generalize b * d = s at *; omega
  · rw [exy]; generalize a * c = p at *; generalize b * c = q at *; generalize a * d = r at *; generalize b * d = s at *; omega
  · have := shl64 (a * c / 4294967296 + b * c % 4294967296 + a * d % 4294967296) 32
    rw [show ((2 : Int) ^ 32) = 4294967296 by rfl, show ((2 : Nat) ^ 32) = 4294967296 by rfl] at this
    rw [this, u64_or_nat _ _ (by omega) (by omega), nat_join 32 _ _ (by omega) (by omega), exy]
    generalize a * c = p at *; generalize b * c = q at *; generalize a * d = r at *; generalize b * d = s at *; omega

set_option maxRecDepth 100000 in
theorem ref_Mul (x y : Nat) (w : World) (hx : x < 18446744073709551616) (hy : y < 18446744073709551616) :
    Calls Try.prog 91 #[.int .u64 x, .int .u64 y] w fun e w' => e = .returned (.tuple #[.int .u64 ((x * y / 18446744073709551616 : Nat) : Int), .int .u64 ((x * y % 18446744073709551616 : Nat) : Int)]) ∧ w = w' := by
  obtain ⟨a, b, c, d, p, q, r, s, p1, p0, q1, q0, r1, r0, m, H, L, e1, e2, e3, e4, e5, e6, e7, e8, f1, f2, f3, f4, f5, f6, g1, g2, g3, g4, g5, g6, g7, hH, hL⟩ := MulParts.make x y hx hy
  rw [← hH, ← hL]
  have i1 : (s : Int) + (q1 : Int) ≤ 18446744073709551615 := by omega
  have i2 : (s : Int) + (q1 : Int) + (r1 : Int) ≤ 18446744073709551615 := by omega
  clear hH hL hx hy
  go_enter Try.func91, Try.ntmps91
  go_wp2
  go_ret2
  exact ⟨rfl, rfl⟩

theorem ref_Times (a b : Int) (w : World) (ha : I64 a) (hb : I64 b) :
    Calls Try.prog 83 #[.int .i64 a, .int .i64 b] w fun e w' => e = .returned (.int .i64 (sat (a * b))) ∧ w = w' := by
  have hS1 := Lib.hid (fun w => ref_Size a w ha)
  have hS2 := Lib.hid (fun w => ref_Size b w hb)
  have hM := Lib.hid (fun w => ref_Mul a.natAbs b.natAbs w (by unfold I64 at ha; omega) (by unfold I64 at hb; omega))
  have hm : (a * b = -((a.natAbs * b.natAbs : Nat) : Int) ∧ (decide (a < 0) == decide (b < 0)) = false) ∨ (a * b = ((a.natAbs * b.natAbs : Nat) : Int) ∧ (decide (a < 0) == decide (b < 0)) = true) := by
    rw [Int.natCast_mul]
    by_cases h : a < 0 ↔ b < 0
    · exact .inr ⟨mul_same h, by simp [h]⟩
    · refine .inl ⟨mul_opp h, ?_⟩
      by_cases x : a < 0 <;> by_cases y : b < 0 <;> simp [x, y] at h ⊢
  generalize a.natAbs * b.natAbs = M at *
  generalize a.natAbs = A at *
  generalize b.natAbs = B at *
  obtain ⟨H, hH⟩ : ∃ H, H = M / 18446744073709551616 := ⟨_, rfl⟩
  obtain ⟨L, hL⟩ : ∃ L, L = M % 18446744073709551616 := ⟨_, rfl⟩
  rw [← hH, ← hL] at hM
  have hd : M = H * 18446744073709551616 + L := by omega
  have hl : (L : Int) ≤ 18446744073709551615 := by omega
  clear hH hL
  have hL0 : (0 : Int) ≤ (L : Int) := by omega
  have hc : ∃ c1 c2 : Bool, decide (0 < H) = c1 ∧ decide ((9223372036854775807 : Int) < (L : Int)) = c2 ∧
      ((c1 = true ∧ c2 = true ∧ 9223372036854775807 < (M : Int)) ∨ (c1 = true ∧ c2 = false ∧ 9223372036854775807 < (M : Int)) ∨ (c1 = false ∧ c2 = true ∧ 9223372036854775807 < (M : Int)) ∨ (c1 = false ∧ c2 = false ∧ (M : Int) = L ∧ (L : Int) ≤ 9223372036854775807)) := by
    refine ⟨_, _, rfl, rfl, ?_⟩
    by_cases x : 0 < H <;> by_cases y : (9223372036854775807 : Int) < (L : Int) <;> simp [x, y] <;> omega
  obtain ⟨c1, c2, k1, k2, hc⟩ := hc
  clear hd
  rcases hm with ⟨e, k3⟩ | ⟨e, k3⟩
  all_goals
    have HE := Lib.hid e
    clear e
    rcases hc with ⟨rfl, rfl, hx⟩ | ⟨rfl, rfl, hx⟩ | ⟨rfl, rfl, hx⟩ | ⟨rfl, rfl, hx, hy⟩
    all_goals
      have HX := Lib.hid hx
      clear hx
      go_enter Try.func83, Try.ntmps83
      go_wp2_with (first
        | (go_at_call 92; (first | (with_reducible refine (hS1.out _).mono ?_) | (with_reducible refine (hS2.out _).mono ?_)); rintro e w' ⟨rfl, rfl⟩)
        | (go_at_call 91; refine (hM.out _).mono ?_; rintro e w' ⟨rfl, rfl⟩))
      go_ret
      exact ⟨ret_int (by rw [HE.out]; have := HX.out; unfold sat; (repeat' split) <;> omega), rfl⟩

/-- The quotient, bit by bit: q as far as the bits from m on go. -/
def PartInv (Q m q : Nat) : Prop := m ≤ 64 ∧ 2 ^ m ∣ q ∧ q ≤ Q ∧ Q < q + 2 ^ m ∧ q + 2 ^ m ≤ 18446744073709551616

theorem PartInv.start {Q : Nat} (h : Q < 18446744073709551616) : PartInv Q 64 0 :=
  ⟨by omega, Nat.dvd_zero _, by omega, by rw [show (2 : Nat) ^ 64 = 18446744073709551616 by rfl]; omega, by rw [show (2 : Nat) ^ 64 = 18446744073709551616 by rfl]; omega⟩

theorem PartInv.yes {Q k q b : Nat} (h : PartInv Q (k + 1) q) (eb : b = 2 ^ k) (g : q + b ≤ Q) : PartInv Q k (q + b) := by
  obtain ⟨h1, h2, h3, h4, h5⟩ := h
  subst eb
  rw [Nat.pow_succ] at h4 h5
  exact ⟨by omega, Nat.dvd_add (Nat.dvd_trans ⟨2, Nat.pow_succ ..⟩ h2) (Nat.dvd_refl _), g, by omega, by omega⟩

theorem PartInv.no {Q k q b : Nat} (h : PartInv Q (k + 1) q) (eb : b = 2 ^ k) (g : Q < q + b) : PartInv Q k q := by
  obtain ⟨h1, h2, h3, h4, h5⟩ := h
  subst eb
  rw [Nat.pow_succ] at h5
  exact ⟨by omega, Nat.dvd_trans ⟨2, Nat.pow_succ ..⟩ h2, h3, g, by omega⟩

end
end Go.Proofs.Ytneacfhoinaeeaa
