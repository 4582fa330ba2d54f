/- Plain mathematics of layer 2: numbers of 128 bits. -/
import Derived.Test.YtlhamgcmkodjeaaDoorMath01
import Derived.Laws.BitsAllLaws
import Derived.Handy
import Derived.Lib.ItoaNum
import Derived.Deep.Draws
import Derived.Lib.Hide
namespace Go.Proofs.Sky
open Go.RowKit
set_option linter.unusedVariables false

/-- The upper half (with a sign) and the lower half of a number, wrapped to 128 bits. -/
def hii (x : Int) : Int := (x / 18446744073709551616 + 9223372036854775808) % 18446744073709551616 - 9223372036854775808
def lon (x : Int) : Nat := (x % 18446744073709551616).toNat
/-- The upper half without a sign. -/
def hin (x : Int) : Nat := (x / 18446744073709551616 % 18446744073709551616).toNat
def W128 (x : Int) : Prop := -170141183460469231731687303715884105728 ≤ x ∧ x < 170141183460469231731687303715884105728

theorem hii_I64 (x : Int) : -9223372036854775808 ≤ hii x ∧ hii x ≤ 9223372036854775807 := by unfold hii; omega
theorem lon_lt (x : Int) : lon x < 18446744073709551616 := by unfold lon; omega
theorem hin_lt (x : Int) : hin x < 18446744073709551616 := by unfold hin; omega
theorem hii_hin (x : Int) : hii x = IntKind.i64.wrap (hin x : Int) := by rw [i64w]; unfold hii hin; omega
theorem hin_hii (x : Int) : (hin x : Int) = IntKind.u64.wrap (hii x) := by rw [u64w]; unfold hii hin; omega
theorem hii_lon (h : Int) (l : Nat) (a : -9223372036854775808 ≤ h) (b : h ≤ 9223372036854775807) (c : l < 18446744073709551616) :
    hii (h * 18446744073709551616 + l) = h ∧ lon (h * 18446744073709551616 + l) = l ∧ W128 (h * 18446744073709551616 + l) := by
  unfold hii lon W128; omega
theorem wide_of (h l : Int) (hh : I64 h) (hl : U64 l) : ∃ x, W128 x ∧ h = hii x ∧ l = (lon x : Int) := by
  unfold I64 at hh; unfold U64 at hl
  refine ⟨h * 18446744073709551616 + l, ?_, ?_, ?_⟩
  · unfold W128; omega
  · unfold hii; omega
  · unfold lon; omega
theorem wide_eq {x : Int} (h : W128 x) : x = hii x * 18446744073709551616 + lon x := by unfold W128 at h; unfold hii lon; omega
theorem wide_mod (x : Int) : x % 340282366920938463463374607431768211456 = (hin x : Int) * 18446744073709551616 + lon x := by unfold hin lon; omega
/-- Two numbers that are the same but for a multiple of 2^128 have the same halves. -/
theorem hii_congr {x y : Int} (h : x % 340282366920938463463374607431768211456 = y % 340282366920938463463374607431768211456) : hii x = hii y ∧ lon x = lon y ∧ hin x = hin y := by
  unfold hii lon hin; omega

theorem not_nat (a : Nat) (h : a < 18446744073709551616) : bits .xor .u64 IntKind.u64.max (a : Int) = ((18446744073709551615 - a : Nat) : Int) := by
  have e : IntKind.u64.max = ((18446744073709551615 : Nat) : Int) := rfl
  have k : (18446744073709551615 : Nat) ^^^ a = 18446744073709551615 - a := by
    have h1 : (BitVec.ofNat 64 a ^^^ BitVec.allOnes 64).toNat = (~~~ BitVec.ofNat 64 a).toNat := by rw [BitVec.xor_allOnes]
    rw [BitVec.toNat_xor, BitVec.toNat_not, BitVec.toNat_ofNat, BitVec.toNat_allOnes, Nat.mod_eq_of_lt (by omega)] at h1
    rw [Nat.xor_comm]; simpa using h1
  rw [e, u64_xor_nat _ _ (by omega) (by omega), k]
theorem not_i64 (q : Nat) (h : q ≤ 9223372036854775807) : bits .xor .i64 (-1) (q : Int) = -1 - (q : Int) := by
  show IntKind.i64.wrap ((BitVec.ofInt 64 (-1) ^^^ BitVec.ofInt 64 (q : Int)).toNat : Int) = _
  have e : BitVec.ofInt 64 (-1) = BitVec.allOnes 64 := by decide
  rw [e, BitVec.xor_comm, BitVec.xor_allOnes, BitVec.toNat_not, ofInt_u64 q (by omega), IntKind.wrap_i64]
  omega
theorem lon_not (x : Int) : lon (-1 - x) = 18446744073709551615 - lon x ∧ hin (-1 - x) = 18446744073709551615 - hin x := by unfold lon hin; omega
theorem shift_join (l h c : Nat) (hl : l < 18446744073709551616) (hc : c ≤ 64) (hh : h < 2 ^ c) :
    bits .or .u64 ((l : Int) / 2 ^ c) (IntKind.u64.wrap ((h : Int) * 2 ^ (64 - c))) = (((h * 18446744073709551616 + l) / 2 ^ c : Nat) : Int) := by
  have hp : 0 < 2 ^ c := Nat.two_pow_pos c
  have e : 2 ^ c * 2 ^ (64 - c) = 18446744073709551616 := by rw [← Nat.pow_add, show c + (64 - c) = 64 by omega]
  have hq : 0 < 2 ^ (64 - c) := Nat.two_pow_pos _
  have h1 : h * 2 ^ (64 - c) < 18446744073709551616 := by rw [← e]; exact Nat.mul_lt_mul_of_pos_right hh hq
  have h2 : l / 2 ^ c < 2 ^ (64 - c) := by rw [Nat.div_lt_iff_lt_mul hp, Nat.mul_comm, e]; exact hl
  have h3 : (h * 18446744073709551616 + l) / 2 ^ c = h * 2 ^ (64 - c) + l / 2 ^ c := by
    rw [← e, show h * (2 ^ c * 2 ^ (64 - c)) = 2 ^ c * (h * 2 ^ (64 - c)) by rw [Nat.mul_left_comm], Nat.mul_add_div hp]
  have p1 : ((2 : Int) ^ c) = ((2 ^ c : Nat) : Int) := by rw [Int.natCast_pow]; rfl
  have p2 : ((2 : Int) ^ (64 - c)) = ((2 ^ (64 - c) : Nat) : Int) := by rw [Int.natCast_pow]; rfl
  rw [h3, p1, p2, ← Int.natCast_ediv, ← Int.natCast_mul, u64w, show (((h * 2 ^ (64 - c) : Nat) : Int) % 18446744073709551616) = ((h * 2 ^ (64 - c) : Nat) : Int) by omega]
  have h4 : l / 2 ^ c < 18446744073709551616 := Nat.lt_of_le_of_lt (Nat.div_le_self _ _) hl
  rw [u64_or_nat _ _ h4 h1, Nat.or_comm, nat_join (64 - c) (h * 2 ^ (64 - c)) (l / 2 ^ c) (Nat.mul_mod_left _ _) h2]
theorem holds_bool (l h p q r : Nat) (hq : q < 18446744073709551616) (hl : l < 18446744073709551616) (e : p * 18446744073709551616 + q = r * r) :
    (decide (p < h) || (decide (p = h) && decide (q ≤ l))) = decide (r * r ≤ h * 18446744073709551616 + l) := by
  rw [← e]
  rw [Bool.eq_iff_iff]; simp only [Bool.or_eq_true, Bool.and_eq_true, decide_eq_true_eq]; omega
theorem below_drewN {B : Nat} {a w : World} (h : Below B a w) (n : Nat) : Below B a (w.drewN n) := ⟨h.os, h.tape, h.output, h.size, h.block⟩
theorem bcell {W w1 : World} (hb : Below W.heap.size W w1) : (∀ b o, b < W.heap.size → w1.cell? ⟨b, o, none⟩ = W.cell? ⟨b, o, none⟩) ∧ (∀ b o, b < W.heap.size → w1.frozen? ⟨b, o, none⟩ = W.frozen? ⟨b, o, none⟩) :=
  ⟨fun b o h => hb.cell (p := ⟨b, o, none⟩) h, fun b o h => hb.frozen (p := ⟨b, o, none⟩) h⟩

theorem lt3 (n : Nat) : n < n + 1 + 1 + 1 ∧ n + 1 < n + 1 + 1 + 1 ∧ n < n + 1 + 1 ∧ n < n + 1 ∧ ¬ (n = n + 1 + 1) ∧ ¬ (n + 1 + 1 = n) := by omega
/-- 1 blocks of a call's own, from number m on, behind a call that makes memory. -/
theorem below1 {w W w1 : World} (m : Nat) (h0 : Below w.heap.size w W) (hb : Below W.heap.size W w1) (hn : m + 1 ≤ W.heap.size) :
    (∀ b o, b < W.heap.size → w1.cell? ⟨b, o, none⟩ = W.cell? ⟨b, o, none⟩) ∧ (∀ b o, b < W.heap.size → w1.frozen? ⟨b, o, none⟩ = W.frozen? ⟨b, o, none⟩) ∧ Below w.heap.size w w1 ∧
    m < w1.heap.size ∧ m + 1 ≤ w1.heap.size := by
  have hs := hb.size
  refine ⟨(bcell hb).1, (bcell hb).2, h0.trans (hb.mono h0.size), ?_⟩
  omega
/-- 2 blocks of a call's own, from number m on, behind a call that makes memory. -/
theorem below2 {w W w1 : World} (m : Nat) (h0 : Below w.heap.size w W) (hb : Below W.heap.size W w1) (hn : m + 1 + 1 ≤ W.heap.size) :
    (∀ b o, b < W.heap.size → w1.cell? ⟨b, o, none⟩ = W.cell? ⟨b, o, none⟩) ∧ (∀ b o, b < W.heap.size → w1.frozen? ⟨b, o, none⟩ = W.frozen? ⟨b, o, none⟩) ∧ Below w.heap.size w w1 ∧
    m < w1.heap.size ∧ m + 1 < w1.heap.size ∧ m + 1 + 1 ≤ w1.heap.size := by
  have hs := hb.size
  refine ⟨(bcell hb).1, (bcell hb).2, h0.trans (hb.mono h0.size), ?_⟩
  omega
/-- 3 blocks of a call's own, from number m on, behind a call that makes memory. -/
theorem below3 {w W w1 : World} (m : Nat) (h0 : Below w.heap.size w W) (hb : Below W.heap.size W w1) (hn : m + 1 + 1 + 1 ≤ W.heap.size) :
    (∀ b o, b < W.heap.size → w1.cell? ⟨b, o, none⟩ = W.cell? ⟨b, o, none⟩) ∧ (∀ b o, b < W.heap.size → w1.frozen? ⟨b, o, none⟩ = W.frozen? ⟨b, o, none⟩) ∧ Below w.heap.size w w1 ∧
    m < w1.heap.size ∧ m + 1 < w1.heap.size ∧ m + 1 + 1 < w1.heap.size ∧ m + 1 + 1 + 1 ≤ w1.heap.size := by
  have hs := hb.size
  refine ⟨(bcell hb).1, (bcell hb).2, h0.trans (hb.mono h0.size), ?_⟩
  omega
/-- 4 blocks of a call's own, from number m on, behind a call that makes memory. -/
theorem below4 {w W w1 : World} (m : Nat) (h0 : Below w.heap.size w W) (hb : Below W.heap.size W w1) (hn : m + 1 + 1 + 1 + 1 ≤ W.heap.size) :
    (∀ b o, b < W.heap.size → w1.cell? ⟨b, o, none⟩ = W.cell? ⟨b, o, none⟩) ∧ (∀ b o, b < W.heap.size → w1.frozen? ⟨b, o, none⟩ = W.frozen? ⟨b, o, none⟩) ∧ Below w.heap.size w w1 ∧
    m < w1.heap.size ∧ m + 1 < w1.heap.size ∧ m + 1 + 1 < w1.heap.size ∧ m + 1 + 1 + 1 < w1.heap.size ∧ m + 1 + 1 + 1 + 1 ≤ w1.heap.size := by
  have hs := hb.size
  refine ⟨(bcell hb).1, (bcell hb).2, h0.trans (hb.mono h0.size), ?_⟩
  omega
/-- 5 blocks of a call's own, from number m on, behind a call that makes memory. -/
theorem below5 {w W w1 : World} (m : Nat) (h0 : Below w.heap.size w W) (hb : Below W.heap.size W w1) (hn : m + 1 + 1 + 1 + 1 + 1 ≤ W.heap.size) :
    (∀ b o, b < W.heap.size → w1.cell? ⟨b, o, none⟩ = W.cell? ⟨b, o, none⟩) ∧ (∀ b o, b < W.heap.size → w1.frozen? ⟨b, o, none⟩ = W.frozen? ⟨b, o, none⟩) ∧ Below w.heap.size w w1 ∧
    m < w1.heap.size ∧ m + 1 < w1.heap.size ∧ m + 1 + 1 < w1.heap.size ∧ m + 1 + 1 + 1 < w1.heap.size ∧ m + 1 + 1 + 1 + 1 < w1.heap.size ∧ m + 1 + 1 + 1 + 1 + 1 ≤ w1.heap.size := by
  have hs := hb.size
  refine ⟨(bcell hb).1, (bcell hb).2, h0.trans (hb.mono h0.size), ?_⟩
  omega
/-- 6 blocks of a call's own, from number m on, behind a call that makes memory. -/
theorem below6 {w W w1 : World} (m : Nat) (h0 : Below w.heap.size w W) (hb : Below W.heap.size W w1) (hn : m + 1 + 1 + 1 + 1 + 1 + 1 ≤ W.heap.size) :
    (∀ b o, b < W.heap.size → w1.cell? ⟨b, o, none⟩ = W.cell? ⟨b, o, none⟩) ∧ (∀ b o, b < W.heap.size → w1.frozen? ⟨b, o, none⟩ = W.frozen? ⟨b, o, none⟩) ∧ Below w.heap.size w w1 ∧
    m < w1.heap.size ∧ m + 1 < w1.heap.size ∧ m + 1 + 1 < w1.heap.size ∧ m + 1 + 1 + 1 < w1.heap.size ∧ m + 1 + 1 + 1 + 1 < w1.heap.size ∧ m + 1 + 1 + 1 + 1 + 1 < w1.heap.size ∧ m + 1 + 1 + 1 + 1 + 1 + 1 ≤ w1.heap.size := by
  have hs := hb.size
  refine ⟨(bcell hb).1, (bcell hb).2, h0.trans (hb.mono h0.size), ?_⟩
  omega

structure MulWide (a b : Int) (A B p q r1 H : Nat) : Prop where
  eA : IntKind.u64.wrap a = (A : Int)
  eB : IntKind.u64.wrap b = (B : Int)
  hA : A < 18446744073709551616
  hB : B < 18446744073709551616
  hp : p = A * B / 18446744073709551616
  hq : q = A * B % 18446744073709551616
  el : lon (a * b) = q
  eh : hin (a * b) = H
  c1 : 0 ≤ a → 0 ≤ b → p = H
  c2 : a < 0 → IntKind.u64.wrap ((p : Int) - (B : Int)) = (r1 : Int)
  c3 : a < 0 → 0 ≤ b → r1 = H
  c4 : 0 ≤ a → b < 0 → IntKind.u64.wrap ((p : Int) - (A : Int)) = (H : Int)
  c5 : a < 0 → b < 0 → IntKind.u64.wrap ((r1 : Int) - (A : Int)) = (H : Int)
theorem MulWide.make (a b : Int) (ha : I64 a) (hb : I64 b) : ∃ A B p q r1 H, MulWide a b A B p q r1 H := by
  obtain ⟨A, hA⟩ : ∃ A : Nat, (A : Int) = a % 18446744073709551616 := ⟨(a % 18446744073709551616).toNat, by omega⟩
  obtain ⟨B, hB⟩ : ∃ B : Nat, (B : Int) = b % 18446744073709551616 := ⟨(b % 18446744073709551616).toNat, by omega⟩
  have lA : A < 18446744073709551616 := by omega
  have lB : B < 18446744073709551616 := by omega
  obtain ⟨ha1, ha2⟩ := ha
  obtain ⟨hb1, hb2⟩ := hb
  refine ⟨A, B, A * B / 18446744073709551616, A * B % 18446744073709551616, (IntKind.u64.wrap (((A * B / 18446744073709551616 : Nat) : Int) - (B : Int))).toNat, hin (a * b), ?_⟩
  have k1 : a < 0 → b < 0 → ((A * B : Nat) : Int) = a * b + 18446744073709551616 * b + 18446744073709551616 * a + 340282366920938463463374607431768211456 := fun h1 h2 => by
    rw [Int.natCast_mul, show (A : Int) = a + 18446744073709551616 by omega, show (B : Int) = b + 18446744073709551616 by omega, Int.add_mul, Int.mul_add, Int.mul_add]; omega
  have k2 : a < 0 → 0 ≤ b → ((A * B : Nat) : Int) = a * b + 18446744073709551616 * b := fun h1 h2 => by
    rw [Int.natCast_mul, show (A : Int) = a + 18446744073709551616 by omega, show (B : Int) = b by omega, Int.add_mul]
  have k3 : 0 ≤ a → b < 0 → ((A * B : Nat) : Int) = a * b + 18446744073709551616 * a := fun h1 h2 => by
    rw [Int.natCast_mul, show (A : Int) = a by omega, show (B : Int) = b + 18446744073709551616 by omega, Int.mul_add]; omega
  have k4 : 0 ≤ a → 0 ≤ b → ((A * B : Nat) : Int) = a * b := fun h1 h2 => by
    rw [Int.natCast_mul, show (A : Int) = a by omega, show (B : Int) = b by omega]
  have bd := Nat.mul_le_mul (show A ≤ 18446744073709551615 by omega) (show B ≤ 18446744073709551615 by omega)
  obtain ⟨t, ht⟩ : ∃ t, t = a * b := ⟨_, rfl⟩
  obtain ⟨P, hP⟩ : ∃ P, P = A * B := ⟨_, rfl⟩
  rw [← ht, ← hP] at k1 k2 k3 k4
  rw [← hP] at bd ⊢
  rw [← ht]
  refine ⟨?_, ?_, lA, lB, by rw [hP], by rw [hP], ?_, by rw [ht], ?_, ?_, ?_, ?_, ?_⟩
  · rw [u64w]; omega
  · rw [u64w]; omega
  · rw [← ht]; unfold lon
    by_cases h1 : a < 0 <;> by_cases h2 : b < 0
    · have := k1 h1 h2; omega
    · have := k2 h1 (by omega); omega
    · have := k3 (by omega) h2; omega
    · have := k4 (by omega) (by omega); omega
  · intro h1 h2; have := k4 h1 h2; unfold hin; omega
  · intro h1; rw [u64w]; omega
  · intro h1 h2; have := k2 h1 h2; unfold hin; rw [u64w]; omega
  · intro h1 h2; have := k3 h1 h2; unfold hin; rw [u64w]; omega
  · intro h1 h2; have := k1 h1 h2; unfold hin; rw [u64w, u64w]; omega

def cmpI (x y : Int) : Int := if x < y then -1 else if y < x then 1 else 0
def orI (x y : Int) : Int := if x = 0 then y else x
theorem cmpI_range (x y : Int) : -1 ≤ cmpI x y ∧ cmpI x y ≤ 1 := by unfold cmpI; split <;> (try split) <;> omega
theorem cmp_wide (x y : Int) (hx : W128 x) (hy : W128 y) : orI (cmpI (hii x) (hii y)) (cmpI (lon x : Int) (lon y : Int)) = cmpI x y := by
  have e1 := wide_eq hx
  have e2 := wide_eq hy
  have l1 := lon_lt x
  have l2 := lon_lt y
  generalize hii x = a at *
  generalize hii y = b at *
  generalize lon x = c at *
  generalize lon y = d at *
  unfold orI cmpI
  (repeat' split) <;> omega

theorem below1e {w W w1 : World} {C : Prop} (m : Nat) (h0 : Below w.heap.size w W) (hb : Below W.heap.size W w1) (hn : m + 1 ≤ W.heap.size)
    (K : (∀ b o, b < W.heap.size → w1.cell? ⟨b, o, none⟩ = W.cell? ⟨b, o, none⟩) → (∀ b o, b < W.heap.size → w1.frozen? ⟨b, o, none⟩ = W.frozen? ⟨b, o, none⟩) → Below w.heap.size w w1 →
    w1.heap.size < w1.heap.size + 1 + 1 → m + 1 ≤ w1.heap.size → m < w1.heap.size → C) : C := by
  obtain ⟨a, b, c, d⟩ := below1 (w := w) m h0 hb hn
  exact K a b c (by omega) (by omega) (by omega)
theorem below2e {w W w1 : World} {C : Prop} (m : Nat) (h0 : Below w.heap.size w W) (hb : Below W.heap.size W w1) (hn : m + 1 + 1 ≤ W.heap.size)
    (K : (∀ b o, b < W.heap.size → w1.cell? ⟨b, o, none⟩ = W.cell? ⟨b, o, none⟩) → (∀ b o, b < W.heap.size → w1.frozen? ⟨b, o, none⟩ = W.frozen? ⟨b, o, none⟩) → Below w.heap.size w w1 →
    w1.heap.size < w1.heap.size + 1 + 1 → m + 1 + 1 ≤ w1.heap.size → m < w1.heap.size → m + 1 < w1.heap.size → C) : C := by
  obtain ⟨a, b, c, d⟩ := below2 (w := w) m h0 hb hn
  exact K a b c (by omega) (by omega) (by omega) (by omega)
theorem below3e {w W w1 : World} {C : Prop} (m : Nat) (h0 : Below w.heap.size w W) (hb : Below W.heap.size W w1) (hn : m + 1 + 1 + 1 ≤ W.heap.size)
    (K : (∀ b o, b < W.heap.size → w1.cell? ⟨b, o, none⟩ = W.cell? ⟨b, o, none⟩) → (∀ b o, b < W.heap.size → w1.frozen? ⟨b, o, none⟩ = W.frozen? ⟨b, o, none⟩) → Below w.heap.size w w1 →
    w1.heap.size < w1.heap.size + 1 + 1 → m + 1 + 1 + 1 ≤ w1.heap.size → m < w1.heap.size → m + 1 < w1.heap.size → m + 1 + 1 < w1.heap.size → C) : C := by
  obtain ⟨a, b, c, d⟩ := below3 (w := w) m h0 hb hn
  exact K a b c (by omega) (by omega) (by omega) (by omega) (by omega)
theorem below4e {w W w1 : World} {C : Prop} (m : Nat) (h0 : Below w.heap.size w W) (hb : Below W.heap.size W w1) (hn : m + 1 + 1 + 1 + 1 ≤ W.heap.size)
    (K : (∀ b o, b < W.heap.size → w1.cell? ⟨b, o, none⟩ = W.cell? ⟨b, o, none⟩) → (∀ b o, b < W.heap.size → w1.frozen? ⟨b, o, none⟩ = W.frozen? ⟨b, o, none⟩) → Below w.heap.size w w1 →
    w1.heap.size < w1.heap.size + 1 + 1 → m + 1 + 1 + 1 + 1 ≤ w1.heap.size → m < w1.heap.size → m + 1 < w1.heap.size → m + 1 + 1 < w1.heap.size → m + 1 + 1 + 1 < w1.heap.size → C) : C := by
  obtain ⟨a, b, c, d⟩ := below4 (w := w) m h0 hb hn
  exact K a b c (by omega) (by omega) (by omega) (by omega) (by omega) (by omega)
theorem below5e {w W w1 : World} {C : Prop} (m : Nat) (h0 : Below w.heap.size w W) (hb : Below W.heap.size W w1) (hn : m + 1 + 1 + 1 + 1 + 1 ≤ W.heap.size)
    (K : (∀ b o, b < W.heap.size → w1.cell? ⟨b, o, none⟩ = W.cell? ⟨b, o, none⟩) → (∀ b o, b < W.heap.size → w1.frozen? ⟨b, o, none⟩ = W.frozen? ⟨b, o, none⟩) → Below w.heap.size w w1 →
    w1.heap.size < w1.heap.size + 1 + 1 → m + 1 + 1 + 1 + 1 + 1 ≤ w1.heap.size → m < w1.heap.size → m + 1 < w1.heap.size → m + 1 + 1 < w1.heap.size → m + 1 + 1 + 1 < w1.heap.size → m + 1 + 1 + 1 + 1 < w1.heap.size → C) : C := by
  obtain ⟨a, b, c, d⟩ := below5 (w := w) m h0 hb hn
  exact K a b c (by omega) (by omega) (by omega) (by omega) (by omega) (by omega) (by omega)
theorem below6e {w W w1 : World} {C : Prop} (m : Nat) (h0 : Below w.heap.size w W) (hb : Below W.heap.size W w1) (hn : m + 1 + 1 + 1 + 1 + 1 + 1 ≤ W.heap.size)
    (K : (∀ b o, b < W.heap.size → w1.cell? ⟨b, o, none⟩ = W.cell? ⟨b, o, none⟩) → (∀ b o, b < W.heap.size → w1.frozen? ⟨b, o, none⟩ = W.frozen? ⟨b, o, none⟩) → Below w.heap.size w w1 →
    w1.heap.size < w1.heap.size + 1 + 1 → m + 1 + 1 + 1 + 1 + 1 + 1 ≤ w1.heap.size → m < w1.heap.size → m + 1 < w1.heap.size → m + 1 + 1 < w1.heap.size → m + 1 + 1 + 1 < w1.heap.size → m + 1 + 1 + 1 + 1 < w1.heap.size → m + 1 + 1 + 1 + 1 + 1 < w1.heap.size → C) : C := by
  obtain ⟨a, b, c, d⟩ := below6 (w := w) m h0 hb hn
  exact K a b c (by omega) (by omega) (by omega) (by omega) (by omega) (by omega) (by omega) (by omega)
theorem ca (w : World) (o : Obj) (b i : Nat) (h : b < w.heap.size) : (w.alloc o).cell? ⟨b, i, none⟩ = w.cell? ⟨b, i, none⟩ := World.cell?_alloc_lt w o ⟨b, i, none⟩ h
theorem csf (w : World) (p i : Nat) (v : Value) (b j : Nat) (h : p ≠ b) : (w.setCell ⟨p, i, none⟩ v).cell? ⟨b, j, none⟩ = w.cell? ⟨b, j, none⟩ :=
  World.cell?_setCell_other w ⟨p, i, none⟩ ⟨b, j, none⟩ v (fun e => h (by injection e))
theorem ltk1 {n N : Nat} {C : Prop} (h : n + 1 ≤ N) (K : n < N → C) : C := K (by omega)
theorem ltk2 {n N : Nat} {C : Prop} (h : n + 1 + 1 ≤ N) (K : n < N → n + 1 < N → C) : C := K (by omega) (by omega)
def sizeW (l h : Nat) : Nat := if 0 < h then 64 + Lib.bitLen h else Lib.bitLen l
/-! ### Roots of wide numbers, bit by bit -/
def RootW (n m r b : Nat) : Prop := b = 2 ^ m / 2 ∧ 2 ^ m ∣ r ∧ r * r ≤ n ∧ n < (r + 2 ^ m) * (r + 2 ^ m) ∧ r + 2 ^ m ≤ 18446744073709551616
theorem RootW.start {n s low : Nat} (hn : n < 170141183460469231731687303715884105728) (hs : n < 2 ^ s) (hs' : s ≤ 127) (hl : low = (max 0 ((s : Int) - 63)).toNat / 2) :
    2 * low ≤ 64 ∧ n / 2 ^ (2 * low) < 18446744073709551616 ∧ n / 18446744073709551616 < 2 ^ (2 * low) ∧ isq (n / 2 ^ (2 * low)) * 2 ^ low < 18446744073709551616 ∧
    RootW n low (isq (n / 2 ^ (2 * low)) * 2 ^ low) (2 ^ low / 2) := by
  have h1 : s ≤ 64 + 2 * low := by omega
  have h2 : low ≤ 32 := by omega
  have hp : (2 : Nat) ^ (2 * low) = 2 ^ low * 2 ^ low := by rw [← Nat.pow_add]; congr 1; omega
  have hq : 0 < 2 ^ (2 * low) := Nat.two_pow_pos _
  have hn' : n < 18446744073709551616 * 2 ^ (2 * low) := by
    have : (2 : Nat) ^ s ≤ 2 ^ (64 + 2 * low) := Nat.pow_le_pow_right (by omega) h1
    rw [Nat.pow_add] at this
    exact Nat.lt_of_lt_of_le hs this
  have hd : n / 2 ^ (2 * low) < 18446744073709551616 := by rw [Nat.div_lt_iff_lt_mul hq]; exact hn'
  have hi := isq_spec (n / 2 ^ (2 * low))
  have hr : isq (n / 2 ^ (2 * low)) < 4294967296 := isq_lt (by omega)
  have hl32 : (2 : Nat) ^ low ≤ 4294967296 := Nat.le_trans (Nat.pow_le_pow_right (by omega) h2) (by decide)
  have hl0 : 0 < (2 : Nat) ^ low := Nat.two_pow_pos _
  obtain ⟨i1, i2⟩ := hi
  refine ⟨by omega, hd, ?_, ?_, rfl, ⟨_, Nat.mul_comm _ _⟩, ?_, ?_, ?_⟩
  · rw [Nat.div_lt_iff_lt_mul (by omega), Nat.mul_comm]; exact hn'
  · have := Nat.mul_le_mul (show isq (n / 2 ^ (2 * low)) ≤ 4294967295 by omega) hl32; omega
  · rw [Nat.mul_mul_mul_comm, ← hp]
    exact Nat.le_trans (Nat.mul_le_mul_right _ i1) (Nat.div_mul_le_self _ _)
  · rw [show isq (n / 2 ^ (2 * low)) * 2 ^ low + 2 ^ low = (isq (n / 2 ^ (2 * low)) + 1) * 2 ^ low by rw [Nat.add_mul, Nat.one_mul], Nat.mul_mul_mul_comm, ← hp]
    exact (Nat.div_lt_iff_lt_mul hq).1 i2
  · have := Nat.mul_le_mul (show isq (n / 2 ^ (2 * low)) + 1 ≤ 4294967296 by omega) hl32
    rw [Nat.add_mul, Nat.one_mul] at this; omega
theorem RootW.split {n m r b : Nat} (h : RootW n m r b) (hb : 0 < b) : ∃ k, m = k + 1 ∧ b = 2 ^ k ∧ r ||| b = r + b ∧ r + b < 18446744073709551616 := by
  obtain ⟨e, hd, _, _, h5⟩ := h
  match m, e, hd, h5 with
  | 0, e, _, _ => simp at e; omega
  | k + 1, e, hd, h5 =>
    rw [Nat.pow_succ] at e hd h5
    have hk : 0 < 2 ^ k := Nat.two_pow_pos k
    have eb : b = 2 ^ k := by omega
    refine ⟨k, rfl, eb, ?_, by omega⟩
    have hm := Nat.mod_eq_zero_of_dvd hd
    rw [eb]; exact nat_join (k + 1) r (2 ^ k) (by rw [Nat.pow_succ]; exact hm) (by rw [Nat.pow_succ]; omega)
theorem RootW.yes {n k r b : Nat} (h : RootW n (k + 1) r b) (eb : b = 2 ^ k) (g : (r + b) * (r + b) ≤ n) : RootW n k (r + b) (b / 2) := by
  obtain ⟨e, hd, _, h4, h5⟩ := h
  subst eb
  refine ⟨rfl, ?_, g, ?_, ?_⟩
  · refine Nat.dvd_add (Nat.dvd_trans ?_ hd) (Nat.dvd_refl _); exact ⟨2, Nat.pow_succ ..⟩
  · rw [Nat.pow_succ] at h4; rwa [show r + 2 ^ k + 2 ^ k = r + 2 ^ k * 2 by omega]
  · rw [Nat.pow_succ] at h5; omega
theorem RootW.no {n k r b : Nat} (h : RootW n (k + 1) r b) (eb : b = 2 ^ k) (g : n < (r + b) * (r + b)) : RootW n k r (b / 2) := by
  obtain ⟨e, hd, h3, h4, h5⟩ := h
  subst eb
  refine ⟨rfl, ?_, h3, g, ?_⟩
  · refine Nat.dvd_trans ?_ hd; exact ⟨2, Nat.pow_succ ..⟩
  · rw [Nat.pow_succ] at h5; omega
theorem RootW.done {n m r : Nat} (h : RootW n m r 0) : isq n = r := by
  obtain ⟨e, hd, h3, h4, h5⟩ := h
  match m, e, h4 with
  | 0, _, h4 => exact isq_eq ⟨h3, h4⟩
  | k + 1, e, _ => have := Nat.two_pow_pos k; rw [Nat.pow_succ] at e; omega

/-! ### Quotients -/
def overOk (x d : Int) : Bool := decide (1 ≤ d ∧ -9223372036854775808 ≤ x / d ∧ x / d ≤ 9223372036854775807)
def overQ (x d : Int) : Int := if overOk x d = true then x / d else 0
theorem over_small {x d : Int} (h : d < 1) : overOk x d = false ∧ overQ x d = 0 := by
  have : overOk x d = false := decide_eq_false (by omega)
  exact ⟨this, by unfold overQ; rw [this]; rfl⟩
theorem over_neg (x d : Int) (hd : 1 ≤ d) : (-1 - x) / d = -1 - x / d := by
  have h1 := Int.mul_ediv_add_emod x d
  have h2 := Int.emod_nonneg x (show d ≠ 0 by omega)
  have h3 := Int.emod_lt_of_pos x (show 0 < d by omega)
  have := (Int.ediv_emod_unique (a := -1 - x) (b := d) (r := d - 1 - x % d) (q := -1 - x / d) (by omega)).2 ⟨by rw [Int.mul_sub, Int.mul_neg, Int.mul_one]; omega, by omega, by omega⟩
  exact this.1
/-- y: x, or -1 - x where x is below 0: the one that is divided. -/
theorem over_parts (x y d : Int) (hd : 1 ≤ d) (hd' : d ≤ 9223372036854775807) (hy0 : 0 ≤ y) (hy1 : y < 170141183460469231731687303715884105728) (h : y = x ∨ y = -1 - x) :
    (d ≤ (hin y : Int) → overOk x d = false ∧ overQ x d = 0) ∧ (hin y < d.toNat → (hin y * 18446744073709551616 + lon y) / d.toNat = (y / d).toNat ∧ (y / d).toNat < 18446744073709551616 ∧
      (9223372036854775807 < (y / d).toNat → overOk x d = false ∧ overQ x d = 0) ∧ ((y / d).toNat ≤ 9223372036854775807 → overOk x d = true ∧ overQ x d = x / d ∧ ((y = x → x / d = ((y / d).toNat : Int)) ∧ (y = -1 - x → x / d = -1 - ((y / d).toNat : Int))))) := by
  have e : y = (hin y : Int) * 18446744073709551616 + lon y := by unfold hin lon; omega
  have l := lon_lt y
  have k : x / d = y / d ∨ x / d = -1 - y / d := by
    rcases h with h | h
    · left; rw [h]
    · right; rw [show x = -1 - y by omega]; exact over_neg y d hd
  have q0 : 0 ≤ y / d := Int.ediv_nonneg hy0 (by omega)
  have k1 : y = x → x / d = y / d := fun h => by rw [h]
  have k2 : y = -1 - x → x / d = -1 - y / d := fun h => by rw [show x = -1 - y by omega]; exact over_neg y d hd
  have no : 9223372036854775807 < y / d → overOk x d = false ∧ overQ x d = 0 := fun hq => by
    have : overOk x d = false := decide_eq_false (by omega)
    exact ⟨this, by unfold overQ; rw [this]; rfl⟩
  refine ⟨fun hg => no ?_, fun hg => ⟨?_, ?_, fun hq => no (by omega), fun hq => ?_⟩⟩
  · have : 18446744073709551616 ≤ y / d := by
      rw [Int.le_ediv_iff_mul_le (by omega)]
      have := Int.mul_le_mul_of_nonneg_right hg (show (0 : Int) ≤ 18446744073709551616 by omega)
      omega
    omega
  · have e2 : y = ((hin y * 18446744073709551616 + lon y : Nat) : Int) := by omega
    obtain ⟨D, rfl⟩ := Int.eq_ofNat_of_zero_le (show 0 ≤ d by omega)
    generalize hin y * 18446744073709551616 + lon y = Y at e2
    rw [e2, Int.toNat_natCast, ← Int.natCast_ediv, Int.toNat_natCast]
  · have : y / d < 18446744073709551616 := by
      rw [Int.ediv_lt_iff_lt_mul (by omega)]
      have hg' : (hin y : Int) + 1 ≤ d := by omega
      have := Int.mul_le_mul_of_nonneg_right hg' (show (0 : Int) ≤ 18446744073709551616 by omega)
      omega
    omega
  · have : overOk x d = true := decide_eq_true (by omega)
    exact ⟨this, by unfold overQ; rw [if_pos this], fun h => by rw [k1 h]; omega, fun h => by rw [k2 h]; omega⟩

/-! ### Digits of 16 bits -/
def dg (x : Int) (i : Nat) : Int := x / 65536 ^ i % 65536
theorem dg_range (x : Int) (i : Nat) : 0 ≤ dg x i ∧ dg x i ≤ 65535 := by unfold dg; omega
theorem dg0 (x : Int) : dg x 0 = x % 65536 := by simp [dg]
theorem dg1 (x : Int) : dg x 1 = x / 65536 % 65536 := by simp [dg]
theorem dg2 (x : Int) : dg x 2 = x / 4294967296 % 65536 := by simp [dg]
theorem dg3 (x : Int) : dg x 3 = x / 281474976710656 % 65536 := by simp [dg]
theorem dg4 (x : Int) : dg x 4 = x / 18446744073709551616 % 65536 := by simp [dg]
theorem dg5 (x : Int) : dg x 5 = x / 1208925819614629174706176 % 65536 := by simp [dg]
theorem dg6 (x : Int) : dg x 6 = x / 79228162514264337593543950336 % 65536 := by simp [dg]
theorem dg7 (x : Int) : dg x 7 = x / 5192296858534827628530496329220096 % 65536 := by simp [dg]
/-- The digits of a sum: n the digit with what is carried, m what stays, c what is carried on; L, H the halves of the number. -/
def num8 (d0 d1 d2 d3 d4 d5 d6 d7 : Int) : Int := d0 + 65536 * d1 + 4294967296 * d2 + 281474976710656 * d3 + 18446744073709551616 * d4 + 1208925819614629174706176 * d5 + 79228162514264337593543950336 * d6 + 5192296858534827628530496329220096 * d7
structure Num8 (d0 d1 d2 d3 d4 d5 d6 d7 n1 n2 n3 n4 n5 n6 n7 m0 m1 m2 m3 m4 m5 m6 m7 c0 c1 c2 c3 c4 c5 c6 c7 : Int) (L H : Nat) : Prop where
  t0 : d0.tmod 65536 = m0
  q0 : d0 / 65536 = c0
  u0 : IntKind.u64.wrap m0 = m0
  z0 : 0 ≤ d0
  b0 : d0 ≤ 4611686018427387904
  y0 : 0 ≤ m0
  x0 : m0 ≤ 65535
  w0 : 0 ≤ c0
  v0 : c0 ≤ 70368744177664
  s1 : d1 + c0 = n1
  t1 : n1.tmod 65536 = m1
  q1 : n1 / 65536 = c1
  u1 : IntKind.u64.wrap m1 = m1
  z1 : 0 ≤ n1
  b1 : n1 ≤ 4611686018427387904
  y1 : 0 ≤ m1
  x1 : m1 ≤ 65535
  w1 : 0 ≤ c1
  v1 : c1 ≤ 70368744177664
  s2 : d2 + c1 = n2
  t2 : n2.tmod 65536 = m2
  q2 : n2 / 65536 = c2
  u2 : IntKind.u64.wrap m2 = m2
  z2 : 0 ≤ n2
  b2 : n2 ≤ 4611686018427387904
  y2 : 0 ≤ m2
  x2 : m2 ≤ 65535
  w2 : 0 ≤ c2
  v2 : c2 ≤ 70368744177664
  s3 : d3 + c2 = n3
  t3 : n3.tmod 65536 = m3
  q3 : n3 / 65536 = c3
  u3 : IntKind.u64.wrap m3 = m3
  z3 : 0 ≤ n3
  b3 : n3 ≤ 4611686018427387904
  y3 : 0 ≤ m3
  x3 : m3 ≤ 65535
  w3 : 0 ≤ c3
  v3 : c3 ≤ 70368744177664
  s4 : d4 + c3 = n4
  t4 : n4.tmod 65536 = m4
  q4 : n4 / 65536 = c4
  u4 : IntKind.u64.wrap m4 = m4
  z4 : 0 ≤ n4
  b4 : n4 ≤ 4611686018427387904
  y4 : 0 ≤ m4
  x4 : m4 ≤ 65535
  w4 : 0 ≤ c4
  v4 : c4 ≤ 70368744177664
  s5 : d5 + c4 = n5
  t5 : n5.tmod 65536 = m5
  q5 : n5 / 65536 = c5
  u5 : IntKind.u64.wrap m5 = m5
  z5 : 0 ≤ n5
  b5 : n5 ≤ 4611686018427387904
  y5 : 0 ≤ m5
  x5 : m5 ≤ 65535
  w5 : 0 ≤ c5
  v5 : c5 ≤ 70368744177664
  s6 : d6 + c5 = n6
  t6 : n6.tmod 65536 = m6
  q6 : n6 / 65536 = c6
  u6 : IntKind.u64.wrap m6 = m6
  z6 : 0 ≤ n6
  b6 : n6 ≤ 4611686018427387904
  y6 : 0 ≤ m6
  x6 : m6 ≤ 65535
  w6 : 0 ≤ c6
  v6 : c6 ≤ 70368744177664
  s7 : d7 + c6 = n7
  t7 : n7.tmod 65536 = m7
  q7 : n7 / 65536 = c7
  u7 : IntKind.u64.wrap m7 = m7
  z7 : 0 ≤ n7
  b7 : n7 ≤ 4611686018427387904
  y7 : 0 ≤ m7
  x7 : m7 ≤ 65535
  w7 : 0 ≤ c7
  v7 : c7 ≤ 70368744177664
  eL : m0 + m1 * 65536 + m2 * 4294967296 + m3 * 281474976710656 = (L : Int)
  eH : m4 + m5 * 65536 + m6 * 4294967296 + m7 * 281474976710656 = (H : Int)
  lL : lon (num8 d0 d1 d2 d3 d4 d5 d6 d7) = L
  lH : hii (num8 d0 d1 d2 d3 d4 d5 d6 d7) = IntKind.i64.wrap (H : Int)
theorem carry_step (d c : Int) (h : 0 ≤ d ∧ d ≤ 4611615649683210240) (hc0 : 0 ≤ c) (hc1 : c ≤ 70368744177664) :
    ∃ n m c', d + c = n ∧ n.tmod 65536 = m ∧ n / 65536 = c' ∧ IntKind.u64.wrap m = m ∧ 0 ≤ n ∧ n ≤ 4611686018427387904 ∧ 0 ≤ m ∧ m ≤ 65535 ∧ 0 ≤ c' ∧ c' ≤ 70368744177664 ∧ n = 65536 * c' + m := by
  refine ⟨d + c, (d + c) % 65536, (d + c) / 65536, rfl, Int.tmod_eq_emod_of_nonneg (by omega), rfl, by rw [u64w]; omega, ?_⟩
  omega
theorem Num8.make (d0 d1 d2 d3 d4 d5 d6 d7 : Int) (h0 : 0 ≤ d0 ∧ d0 ≤ 4611615649683210240) (h1 : 0 ≤ d1 ∧ d1 ≤ 4611615649683210240) (h2 : 0 ≤ d2 ∧ d2 ≤ 4611615649683210240) (h3 : 0 ≤ d3 ∧ d3 ≤ 4611615649683210240) (h4 : 0 ≤ d4 ∧ d4 ≤ 4611615649683210240) (h5 : 0 ≤ d5 ∧ d5 ≤ 4611615649683210240) (h6 : 0 ≤ d6 ∧ d6 ≤ 4611615649683210240) (h7 : 0 ≤ d7 ∧ d7 ≤ 4611615649683210240) : ∃ n1 n2 n3 n4 n5 n6 n7 m0 m1 m2 m3 m4 m5 m6 m7 c0 c1 c2 c3 c4 c5 c6 c7 L H, Num8 d0 d1 d2 d3 d4 d5 d6 d7 n1 n2 n3 n4 n5 n6 n7 m0 m1 m2 m3 m4 m5 m6 m7 c0 c1 c2 c3 c4 c5 c6 c7 L H := by
  obtain ⟨n0, m0, c0, s0, t0, q0, u0, z0, b0, y0, x0, w0, v0, r0⟩ := carry_step d0 0 h0 (by omega) (by omega)
  obtain ⟨n1, m1, c1, s1, t1, q1, u1, z1, b1, y1, x1, w1, v1, r1⟩ := carry_step d1 c0 h1 w0 v0
  obtain ⟨n2, m2, c2, s2, t2, q2, u2, z2, b2, y2, x2, w2, v2, r2⟩ := carry_step d2 c1 h2 w1 v1
  obtain ⟨n3, m3, c3, s3, t3, q3, u3, z3, b3, y3, x3, w3, v3, r3⟩ := carry_step d3 c2 h3 w2 v2
  obtain ⟨n4, m4, c4, s4, t4, q4, u4, z4, b4, y4, x4, w4, v4, r4⟩ := carry_step d4 c3 h4 w3 v3
  obtain ⟨n5, m5, c5, s5, t5, q5, u5, z5, b5, y5, x5, w5, v5, r5⟩ := carry_step d5 c4 h5 w4 v4
  obtain ⟨n6, m6, c6, s6, t6, q6, u6, z6, b6, y6, x6, w6, v6, r6⟩ := carry_step d6 c5 h6 w5 v5
  obtain ⟨n7, m7, c7, s7, t7, q7, u7, z7, b7, y7, x7, w7, v7, r7⟩ := carry_step d7 c6 h7 w6 v6
  obtain rfl : d0 = n0 := by omega
  obtain ⟨L, eL⟩ : ∃ L : Nat, m0 + m1 * 65536 + m2 * 4294967296 + m3 * 281474976710656 = (L : Int) := ⟨(m0 + m1 * 65536 + m2 * 4294967296 + m3 * 281474976710656).toNat, by omega⟩
  obtain ⟨H, eH⟩ : ∃ H : Nat, m4 + m5 * 65536 + m6 * 4294967296 + m7 * 281474976710656 = (H : Int) := ⟨(m4 + m5 * 65536 + m6 * 4294967296 + m7 * 281474976710656).toNat, by omega⟩
  have lo : d0 + 65536 * d1 + 4294967296 * d2 + 281474976710656 * d3 = (L : Int) + 18446744073709551616 * c3 := by omega
  have hi : d4 + 65536 * d5 + 4294967296 * d6 + 281474976710656 * d7 + c3 = (H : Int) + 18446744073709551616 * c7 := by omega
  have al : num8 d0 d1 d2 d3 d4 d5 d6 d7 = (L : Int) + 18446744073709551616 * (H : Int) + 340282366920938463463374607431768211456 * c7 := by unfold num8; omega
  have bl : (L : Int) < 18446744073709551616 := by omega
  have bh : (H : Int) < 18446744073709551616 := by omega
  refine ⟨n1, n2, n3, n4, n5, n6, n7, m0, m1, m2, m3, m4, m5, m6, m7, c0, c1, c2, c3, c4, c5, c6, c7, L, H, ?_⟩
  refine ⟨t0, q0, u0, z0, b0, y0, x0, w0, v0, s1, t1, q1, u1, z1, b1, y1, x1, w1, v1, s2, t2, q2, u2, z2, b2, y2, x2, w2, v2, s3, t3, q3, u3, z3, b3, y3, x3, w3, v3, s4, t4, q4, u4, z4, b4, y4, x4, w4, v4, s5, t5, q5, u5, z5, b5, y5, x5, w5, v5, s6, t6, q6, u6, z6, b6, y6, x6, w6, v6, s7, t7, q7, u7, z7, b7, y7, x7, w7, v7, eL, eH, ?_, ?_⟩
  · rw [al]; clear lo hi al; unfold lon; omega
  · rw [al]; clear lo hi al; unfold hii; rw [i64w]; omega
theorem num8_dg (x : Int) : num8 (dg x 0) (dg x 1) (dg x 2) (dg x 3) (dg x 4) (dg x 5) (dg x 6) (dg x 7) = x % 340282366920938463463374607431768211456 := by
  rw [dg0, dg1, dg2, dg3, dg4, dg5, dg6, dg7]; unfold num8; omega
theorem num8_add (x y : Int) : hii (num8 (dg x 0 + dg y 0) (dg x 1 + dg y 1) (dg x 2 + dg y 2) (dg x 3 + dg y 3) (dg x 4 + dg y 4) (dg x 5 + dg y 5) (dg x 6 + dg y 6) (dg x 7 + dg y 7)) = hii (x + y) ∧
    lon (num8 (dg x 0 + dg y 0) (dg x 1 + dg y 1) (dg x 2 + dg y 2) (dg x 3 + dg y 3) (dg x 4 + dg y 4) (dg x 5 + dg y 5) (dg x 6 + dg y 6) (dg x 7 + dg y 7)) = lon (x + y) := by
  have a := num8_dg x
  have b := num8_dg y
  have e : num8 (dg x 0 + dg y 0) (dg x 1 + dg y 1) (dg x 2 + dg y 2) (dg x 3 + dg y 3) (dg x 4 + dg y 4) (dg x 5 + dg y 5) (dg x 6 + dg y 6) (dg x 7 + dg y 7) = x % 340282366920938463463374607431768211456 + y % 340282366920938463463374607431768211456 := by
    rw [← a, ← b]; unfold num8; omega
  rw [e]
  have := hii_congr (x := x % 340282366920938463463374607431768211456 + y % 340282366920938463463374607431768211456) (y := x + y) (by omega)
  exact ⟨this.1, this.2.1⟩
theorem num8_sub (x y : Int) : hii (num8 (dg x 0 + 65535 - dg y 0 + 1) (dg x 1 + 65535 - dg y 1) (dg x 2 + 65535 - dg y 2) (dg x 3 + 65535 - dg y 3) (dg x 4 + 65535 - dg y 4) (dg x 5 + 65535 - dg y 5) (dg x 6 + 65535 - dg y 6) (dg x 7 + 65535 - dg y 7)) = hii (x - y) ∧
    lon (num8 (dg x 0 + 65535 - dg y 0 + 1) (dg x 1 + 65535 - dg y 1) (dg x 2 + 65535 - dg y 2) (dg x 3 + 65535 - dg y 3) (dg x 4 + 65535 - dg y 4) (dg x 5 + 65535 - dg y 5) (dg x 6 + 65535 - dg y 6) (dg x 7 + 65535 - dg y 7)) = lon (x - y) := by
  have a := num8_dg x
  have b := num8_dg y
  have e : num8 (dg x 0 + 65535 - dg y 0 + 1) (dg x 1 + 65535 - dg y 1) (dg x 2 + 65535 - dg y 2) (dg x 3 + 65535 - dg y 3) (dg x 4 + 65535 - dg y 4) (dg x 5 + 65535 - dg y 5) (dg x 6 + 65535 - dg y 6) (dg x 7 + 65535 - dg y 7) =
      x % 340282366920938463463374607431768211456 - y % 340282366920938463463374607431768211456 + 340282366920938463463374607431768211456 := by
    rw [← a, ← b]; unfold num8; omega
  rw [e]
  have := hii_congr (x := x % 340282366920938463463374607431768211456 - y % 340282366920938463463374607431768211456 + 340282366920938463463374607431768211456) (y := x - y) (by omega)
  exact ⟨this.1, this.2.1⟩

end Go.Proofs.Sky
