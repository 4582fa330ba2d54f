/- Plain mathematics of layer 2: numbers of 128 bits. -/
import Derived.Test.YtneacfhoinaeeaaMc2
import Derived.Laws.BitsAllLaws
import Derived.Handy
import Derived.Lib.ItoaNum
import Derived.Deep.Draws
import Derived.Lib.Hide


namespace Go.Proofs.Sky
section

open Go.RowKit

set_option linter.unusedVariables false

/-- The upper half (with a sign) and the lower half of a number, wrapped to 128 bits. -/
def hii (x : Int) : Int := (x / 18446744073709551616 + 9223372036854775808) % 18446744073709551616 - 9223372036854775808

def lon (x : Int) : Nat := (x % 18446744073709551616).toNat

/-- The upper half without a sign. -/
def hin (x : Int) : Nat := (x / 18446744073709551616 % 18446744073709551616).toNat

def W128 (x : Int) : Prop := -170141183460469231731687303715884105728 ≤ x ∧ x < 170141183460469231731687303715884105728

theorem bcell {W w1 : World} (hb : Below W.heap.size W w1) : (∀ b o, b < W.heap.size → w1.cell? ⟨b, o, none⟩ = W.cell? ⟨b, o, none⟩) ∧ (∀ b o, b < W.heap.size → w1.frozen? ⟨b, o, none⟩ = W.frozen? ⟨b, o, none⟩) :=
  ⟨fun b o h => hb.cell (p := ⟨b, o, none⟩) h, fun b o h => hb.frozen (p := ⟨b, o, none⟩) h⟩

theorem lt3 (n : Nat) : n < n + 1 + 1 + 1 ∧ n + 1 < n + 1 + 1 + 1 ∧ n < n + 1 + 1 ∧ n < n + 1 ∧ ¬ (n = n + 1 + 1) ∧ ¬ (n + 1 + 1 = n) := by omega

/-- 3 blocks of a call's own, from number m on, behind a call that makes memory. -/
theorem below3 {w W w1 : World} (m : Nat) (h0 : Below w.heap.size w W) (hb : Below W.heap.size W w1) (hn : m + 1 + 1 + 1 ≤ W.heap.size) :
    (∀ b o, b < W.heap.size → w1.cell? ⟨b, o, none⟩ = W.cell? ⟨b, o, none⟩) ∧ (∀ b o, b < W.heap.size → w1.frozen? ⟨b, o, none⟩ = W.frozen? ⟨b, o, none⟩) ∧ Below w.heap.size w w1 ∧
    m < w1.heap.size ∧ m + 1 < w1.heap.size ∧ m + 1 + 1 < w1.heap.size ∧ m + 1 + 1 + 1 ≤ w1.heap.size := by
  have hs := hb.size
  refine ⟨(bcell hb).1, (bcell hb).2, h0.trans (hb.mono h0.size), ?_⟩
  omega

structure MulWide (a b : Int) (A B p q r1 H : Nat) : Prop where
  eA : IntKind.u64.wrap a = (A : Int)
  eB : IntKind.u64.wrap b = (B : Int)
  hA : A < 18446744073709551616
  hB : B < 18446744073709551616
  hp : p = A * B / 18446744073709551616
  hq : q = A * B % 18446744073709551616
  el : lon (a * b) = q
  eh : hin (a * b) = H
  c1 : 0 ≤ a → 0 ≤ b → p = H
  c2 : a < 0 → IntKind.u64.wrap ((p : Int) - (B : Int)) = (r1 : Int)
  c3 : a < 0 → 0 ≤ b → r1 = H
  c4 : 0 ≤ a → b < 0 → IntKind.u64.wrap ((p : Int) - (A : Int)) = (H : Int)
  c5 : a < 0 → b < 0 → IntKind.u64.wrap ((r1 : Int) - (A : Int)) = (H : Int)

theorem MulWide.make (a b : Int) (ha : I64 a) (hb : I64 b) : ∃ A B p q r1 H, MulWide a b A B p q r1 H := by
  obtain ⟨A, hA⟩ : ∃ A : Nat, (A : Int) = a % 18446744073709551616 := ⟨(a % 18446744073709551616).toNat, by omega⟩
  obtain ⟨B, hB⟩ : ∃ B : Nat, (B : Int) = b % 18446744073709551616 := ⟨(b % 18446744073709551616).toNat, by omega⟩
  have lA : A < 18446744073709551616 := by omega
  have lB : B < 18446744073709551616 := by omega
  obtain ⟨ha1, ha2⟩ := ha
  obtain ⟨hb1, hb2⟩ := hb
  refine ⟨A, B, A * B / 18446744073709551616, A * B % 18446744073709551616, (IntKind.u64.wrap (((A * B / 18446744073709551616 : Nat) : Int) - (B : Int))).toNat, hin (a * b), ?_⟩
  have k1 : a < 0 → b < 0 → ((A * B : Nat) : Int) = a * b + 18446744073709551616 * b + 18446744073709551616 * a + 340282366920938463463374607431768211456 := fun h1 h2 => by
    rw [Int.natCast_mul, show (A : Int) = a + 18446744073709551616 by omega, show (B : Int) = b + 18446744073709551616 by omega, Int.add_mul, Int.mul_add, Int.mul_add]; omega
  have k2 : a < 0 → 0 ≤ b → ((A * B : Nat) : Int) = a * b + 18446744073709551616 * b := fun h1 h2 => by
    rw [Int.natCast_mul, show (A : Int) = a + 18446744073709551616 by omega, show (B : Int) = b by omega, Int.add_mul]
  have k3 : 0 ≤ a → b < 0 → ((A * B : Nat) : Int) = a * b + 18446744073709551616 * a := fun h1 h2 => by
    rw [Int.natCast_mul, show (A : Int) = a by omega, show (B : Int) = b + 18446744073709551616 by omega, Int.mul_add]; omega
  have k4 : 0 ≤ a → 0 ≤ b → ((A * B : Nat) : Int) = a * b := fun h1 h2 => by
    rw [Int.natCast_mul, show (A : Int) = a by omega, show (B : Int) = b by omega]
  have bd := Nat.mul_le_mul (show A ≤ 18446744073709551615 by omega) (show B ≤ 18446744073709551615 by omega)
  obtain ⟨t, ht⟩ : ∃ t, t = a * b := ⟨_, rfl⟩
  obtain ⟨P, hP⟩ : ∃ P, P = A * B := ⟨_, rfl⟩
  rw [← ht, ← hP] at k1 k2 k3 k4
  rw [← hP] at bd ⊢
  rw [← ht]
  refine ⟨?_, ?_, lA, lB, by rw [hP], by rw [hP], ?_, by rw [ht], ?_, ?_, ?_, ?_, ?_⟩
  · rw [u64w]; omega
  · rw [u64w]; omega
  · rw [← ht]; unfold lon
    by_cases h1 : a < 0 <;> by_cases h2 : b < 0
    · have := k1 h1 h2; omega
    · have := k2 h1 (by omega); omega
    · have := k3 (by omega) h2; omega
    · have := k4 (by omega) (by omega); omega
  · intro h1 h2; have := k4 h1 h2; unfold hin; omega
  · intro h1; rw [u64w]; omega
  · intro h1 h2; have := k2 h1 h2; unfold hin; rw [u64w]; omega
  · intro h1 h2; have := k3 h1 h2; unfold hin; rw [u64w]; omega
  · intro h1 h2; have := k1 h1 h2; unfold hin; rw [u64w, u64w]; omega

def cmpI (x y : Int) : Int := if x < y then -1 else if y < x then 1 else 0

def orI (x y : Int) : Int := if x = 0 then y else x

theorem ca (w : World) (o : Obj) (b i : Nat) (h : b < w.heap.size) : (w.alloc o).cell? ⟨b, i, none⟩ = w.cell? ⟨b, i, none⟩ := World.cell?_alloc_lt w o ⟨b, i, none⟩ h

def sizeW (l h : Nat) : Nat := if 0 < h then 64 + Lib.bitLen h else Lib.bitLen l
/-! ### Roots of wide numbers, bit by bit -/

def RootW (n m r b : Nat) : Prop := b = 2 ^ m / 2 ∧ 2 ^ m ∣ r ∧ r * r ≤ n ∧ n < (r + 2 ^ m) * (r + 2 ^ m) ∧ r + 2 ^ m ≤ 18446744073709551616

theorem RootW.start {n s low : Nat} (hn : n < 170141183460469231731687303715884105728) (hs : n < 2 ^ s) (hs' : s ≤ 127) (hl : low = (max 0 ((s : Int) - 63)).toNat / 2) :
    2 * low ≤ 64 ∧ n / 2 ^ (2 * low) < 18446744073709551616 ∧ n / 18446744073709551616 < 2 ^ (2 * low) ∧ isq (n / 2 ^ (2 * low)) * 2 ^ low < 18446744073709551616 ∧
    RootW n low (isq (n / 2 ^ (2 * low)) * 2 ^ low) (2 ^ low / 2) := by
  have h1 : s ≤ 64 + 2 * low := by omega
  have h2 : low ≤ 32 := by omega
  have hp : (2 : Nat) ^ (2 * low) = 2 ^ low * 2 ^ low := by rw [← Nat.pow_add]; congr 1; omega
  have hq : 0 < 2 ^ (2 * low) := Nat.two_pow_pos _
  have hn' : n < 18446744073709551616 * 2 ^ (2 * low) := by
    have : (2 : Nat) ^ s ≤ 2 ^ (64 + 2 * low) := Nat.pow_le_pow_right (by omega) h1
    rw [Nat.pow_add] at this
    exact Nat.lt_of_lt_of_le hs this
  have hd : n / 2 ^ (2 * low) < 18446744073709551616 := by rw [Nat.div_lt_iff_lt_mul hq]; exact hn'
  have hi := isq_spec (n / 2 ^ (2 * low))
  have hr : isq (n / 2 ^ (2 * low)) < 4294967296 := isq_lt (by omega)
  have hl32 : (2 : Nat) ^ low ≤ 4294967296 := Nat.le_trans (Nat.pow_le_pow_right (by omega) h2) (by decide)
  have hl0 : 0 < (2 : Nat) ^ low := Nat.two_pow_pos _
  obtain ⟨i1, i2⟩ := hi
  refine ⟨by omega, hd, ?_, ?_, rfl, ⟨_, Nat.mul_comm _ _⟩, ?_, ?_, ?_⟩
  · rw [Nat.div_lt_iff_lt_mul (by omega), Nat.mul_comm]; exact hn'
  · have := Nat.mul_le_mul (show isq (n / 2 ^ (2 * low)) ≤ 4294967295 by omega) hl32; omega
  · rw [Nat.mul_mul_mul_comm, ← hp]
    exact Nat.le_trans (Nat.mul_le_mul_right _ i1) (Nat.div_mul_le_self _ _)
  · rw [show isq (n / 2 ^ (2 * low)) * 2 ^ low + 2 ^ low = (isq (n / 2 ^ (2 * low)) + 1) * 2 ^ low by rw [Nat.add_mul, Nat.one_mul], Nat.mul_mul_mul_comm, ← hp]
    exact (Nat.div_lt_iff_lt_mul hq).1 i2
  · have := Nat.mul_le_mul (show isq (n / 2 ^ (2 * low)) + 1 ≤ 4294967296 by omega) hl32
    rw [Nat.add_mul, Nat.one_mul] at this; omega

theorem RootW.split {n m r b : Nat} (h : RootW n m r b) (hb : 0 < b) : ∃ k, m = k + 1 ∧ b = 2 ^ k ∧ r ||| b = r + b ∧ r + b < 18446744073709551616 := by
  obtain ⟨e, hd, _, _, h5⟩ := h
  match m, e, hd, h5 with
  | 0, e, _, _ => simp at e; omega
  | k + 1, e, hd, h5 =>
    rw [Nat.pow_succ] at e hd h5
    have hk : 0 < 2 ^ k := Nat.two_pow_pos k
    have eb : b = 2 ^ k := by omega
    refine ⟨k, rfl, eb, ?_, by omega⟩
    have hm := Nat.mod_eq_zero_of_dvd hd
    rw [eb]; exact nat_join (k + 1) r (2 ^ k) (by rw [Nat.pow_succ]; exact hm) (by rw [Nat.pow_succ]; omega)

theorem RootW.yes {n k r b : Nat} (h : RootW n (k + 1) r b) (eb : b = 2 ^ k) (g : (r + b) * (r + b) ≤ n) : RootW n k (r + b) (b / 2) := by
  obtain ⟨e, hd, _, h4, h5⟩ := h
  subst eb
  refine ⟨rfl, ?_, g, ?_, ?_⟩
  · refine Nat.dvd_add (Nat.dvd_trans ?_ hd) (Nat.dvd_refl _); exact ⟨2, Nat.pow_succ ..⟩
  · rw [Nat.pow_succ] at h4; rwa [show r + 2 ^ k + 2 ^ k = r + 2 ^ k * 2 by omega]
  · rw [Nat.pow_succ] at h5; omega

theorem RootW.no {n k r b : Nat} (h : RootW n (k + 1) r b) (eb : b = 2 ^ k) (g : n < (r + b) * (r + b)) : RootW n k r (b / 2) := by
  obtain ⟨e, hd, h3, h4, h5⟩ := h
  subst eb
  refine ⟨rfl, ?_, h3, g, ?_⟩
  · refine Nat.dvd_trans ?_ hd; exact ⟨2, Nat.pow_succ ..⟩
  · rw [Nat.pow_succ] at h5; omega

theorem RootW.done {n m r : Nat} (h : RootW n m r 0) : isq n = r := by
  obtain ⟨e, hd, h3, h4, h5⟩ := h
  match m, e, h4 with
  | 0, _, h4 => exact isq_eq ⟨h3, h4⟩
  | k + 1, e, _ => have := Nat.two_pow_pos k; rw [Nat.pow_succ] at e; omega

/-! ### Quotients -/

def overOk (x d : Int) : Bool := decide (1 ≤ d ∧ -9223372036854775808 ≤ x / d ∧ x / d ≤ 9223372036854775807)

def overQ (x d : Int) : Int := if overOk x d = true then x / d else 0

/-! ### Digits of 16 bits -/

def dg (x : Int) (i : Nat) : Int := x / 65536 ^ i % 65536

/-- The digits of a sum: n the digit with what is carried, m what stays, c what is carried on; L, H the halves of the number. -/
def num8 (d0 d1 d2 d3 d4 d5 d6 d7 : Int) : Int := d0 + 65536 * d1 + 4294967296 * d2 + 281474976710656 * d3 + 18446744073709551616 * d4 + 1208925819614629174706176 * d5 + 79228162514264337593543950336 * d6 + 5192296858534827628530496329220096 * d7

structure Num8 (d0 d1 d2 d3 d4 d5 d6 d7 n1 n2 n3 n4 n5 n6 n7 m0 m1 m2 m3 m4 m5 m6 m7 c0 c1 c2 c3 c4 c5 c6 c7 : Int) (L H : Nat) : Prop where
  t0 : d0.tmod 65536 = m0
  q0 : d0 / 65536 = c0
  u0 : IntKind.u64.wrap m0 = m0
  z0 : 0 ≤ d0
  b0 : d0 ≤ 4611686018427387904
  y0 : 0 ≤ m0
  x0 : m0 ≤ 65535
  w0 : 0 ≤ c0
  v0 : c0 ≤ 70368744177664
  s1 : d1 + c0 = n1
  t1 : n1.tmod 65536 = m1
  q1 : n1 / 65536 = c1
  u1 : IntKind.u64.wrap m1 = m1
  z1 : 0 ≤ n1
  b1 : n1 ≤ 4611686018427387904
  y1 : 0 ≤ m1
  x1 : m1 ≤ 65535
  w1 : 0 ≤ c1
  v1 : c1 ≤ 70368744177664
  s2 : d2 + c1 = n2
  t2 : n2.tmod 65536 = m2
  q2 : n2 / 65536 = c2
  u2 : IntKind.u64.wrap m2 = m2
  z2 : 0 ≤ n2
  b2 : n2 ≤ 4611686018427387904
  y2 : 0 ≤ m2
  x2 : m2 ≤ 65535
  w2 : 0 ≤ c2
  v2 : c2 ≤ 70368744177664
  s3 : d3 + c2 = n3
  t3 : n3.tmod 65536 = m3
  q3 : n3 / 65536 = c3
  u3 : IntKind.u64.wrap m3 = m3
  z3 : 0 ≤ n3
  b3 : n3 ≤ 4611686018427387904
  y3 : 0 ≤ m3
  x3 : m3 ≤ 65535
  w3 : 0 ≤ c3
  v3 : c3 ≤ 70368744177664
  s4 : d4 + c3 = n4
  t4 : n4.tmod 65536 = m4
  q4 : n4 / 65536 = c4
  u4 : IntKind.u64.wrap m4 = m4
  z4 : 0 ≤ n4
  b4 : n4 ≤ 4611686018427387904
  y4 : 0 ≤ m4
  x4 : m4 ≤ 65535
  w4 : 0 ≤ c4
  v4 : c4 ≤ 70368744177664
  s5 : d5 + c4 = n5
  t5 : n5.tmod 65536 = m5
  q5 : n5 / 65536 = c5
  u5 : IntKind.u64.wrap m5 = m5
  z5 : 0 ≤ n5
  b5 : n5 ≤ 4611686018427387904
  y5 : 0 ≤ m5
  x5 : m5 ≤ 65535
  w5 : 0 ≤ c5
  v5 : c5 ≤ 70368744177664
  s6 : d6 + c5 = n6
  t6 : n6.tmod 65536 = m6
  q6 : n6 / 65536 = c6
  u6 : IntKind.u64.wrap m6 = m6
  z6 : 0 ≤ n6
  b6 : n6 ≤ 4611686018427387904
  y6 : 0 ≤ m6
  x6 : m6 ≤ 65535
  w6 : 0 ≤ c6
  v6 : c6 ≤ 70368744177664
  s7 : d7 + c6 = n7
  t7 : n7.tmod 65536 = m7
  q7 : n7 / 65536 = c7
  u7 : IntKind.u64.wrap m7 = m7
  z7 : 0 ≤ n7
  b7 : n7 ≤ 4611686018427387904
  y7 : 0 ≤ m7
  x7 : m7 ≤ 65535
  w7 : 0 ≤ c7
  v7 : c7 ≤ 70368744177664
  eL : m0 + m1 * 65536 + m2 * 4294967296 + m3 * 281474976710656 = (L : Int)
  eH : m4 + m5 * 65536 + m6 * 4294967296 + m7 * 281474976710656 = (H : Int)
  lL : lon (num8 d0 d1 d2 d3 d4 d5 d6 d7) = L
  lH : hii (num8 d0 d1 d2 d3 d4 d5 d6 d7) = IntKind.i64.wrap (H : Int)

theorem carry_step (d c : Int) (h : 0 ≤ d ∧ d ≤ 4611615649683210240) (hc0 : 0 ≤ c) (hc1 : c ≤ 70368744177664) :
    ∃ n m c', d + c = n ∧ n.tmod 65536 = m ∧ n / 65536 = c' ∧ IntKind.u64.wrap m = m ∧ 0 ≤ n ∧ n ≤ 4611686018427387904 ∧ 0 ≤ m ∧ m ≤ 65535 ∧ 0 ≤ c' ∧ c' ≤ 70368744177664 ∧ n = 65536 * c' + m := by
  refine ⟨d + c, (d + c) % 65536, (d + c) / 65536, rfl, Int.tmod_eq_emod_of_nonneg (by omega), rfl, by rw [u64w]; omega, ?_⟩
  omega

theorem Num8.make (d0 d1 d2 d3 d4 d5 d6 d7 : Int) (h0 : 0 ≤ d0 ∧ d0 ≤ 4611615649683210240) (h1 : 0 ≤ d1 ∧ d1 ≤ 4611615649683210240) (h2 : 0 ≤ d2 ∧ d2 ≤ 4611615649683210240) (h3 : 0 ≤ d3 ∧ d3 ≤ 4611615649683210240) (h4 : 0 ≤ d4 ∧ d4 ≤ 4611615649683210240) (h5 : 0 ≤ d5 ∧ d5 ≤ 4611615649683210240) (h6 : 0 ≤ d6 ∧ d6 ≤ 4611615649683210240) (h7 : 0 ≤ d7 ∧ d7 ≤ 4611615649683210240) : ∃ n1 n2 n3 n4 n5 n6 n7 m0 m1 m2 m3 m4 m5 m6 m7 c0 c1 c2 c3 c4 c5 c6 c7 L H, Num8 d0 d1 d2 d3 d4 d5 d6 d7 n1 n2 n3 n4 n5 n6 n7 m0 m1 m2 m3 m4 m5 m6 m7 c0 c1 c2 c3 c4 c5 c6 c7 L H := by
  obtain ⟨n0, m0, c0, s0, t0, q0, u0, z0, b0, y0, x0, w0, v0, r0⟩ := carry_step d0 0 h0 (by omega) (by omega)
  obtain ⟨n1, m1, c1, s1, t1, q1, u1, z1, b1, y1, x1, w1, v1, r1⟩ := carry_step d1 c0 h1 w0 v0
  obtain ⟨n2, m2, c2, s2, t2, q2, u2, z2, b2, y2, x2, w2, v2, r2⟩ := carry_step d2 c1 h2 w1 v1
  obtain ⟨n3, m3, c3, s3, t3, q3, u3, z3, b3, y3, x3, w3, v3, r3⟩ := carry_step d3 c2 h3 w2 v2
  obtain ⟨n4, m4, c4, s4, t4, q4, u4, z4, b4, y4, x4, w4, v4, r4⟩ := carry_step d4 c3 h4 w3 v3
  obtain ⟨n5, m5, c5, s5, t5, q5, u5, z5, b5, y5, x5, w5, v5, r5⟩ := carry_step d5 c4 h5 w4 v4
  obtain ⟨n6, m6, c6, s6, t6, q6, u6, z6, b6, y6, x6, w6, v6, r6⟩ := carry_step d6 c5 h6 w5 v5
  obtain ⟨n7, m7, c7, s7, t7, q7, u7, z7, b7, y7, x7, w7, v7, r7⟩ := carry_step d7 c6 h7 w6 v6
  obtain rfl : d0 = n0 := by omega
  obtain ⟨L, eL⟩ : ∃ L : Nat, m0 + m1 * 65536 + m2 * 4294967296 + m3 * 281474976710656 = (L : Int) := ⟨(m0 + m1 * 65536 + m2 * 4294967296 + m3 * 281474976710656).toNat, by omega⟩
  obtain ⟨H, eH⟩ : ∃ H : Nat, m4 + m5 * 65536 + m6 * 4294967296 + m7 * 281474976710656 = (H : Int) := ⟨(m4 + m5 * 65536 + m6 * 4294967296 + m7 * 281474976710656).toNat, by omega⟩
  have lo : d0 + 65536 * d1 + 4294967296 * d2 + 281474976710656 * d3 = (L : Int) + 18446744073709551616 * c3 := by omega
  have hi : d4 + 65536 * d5 + 4294967296 * d6 + 281474976710656 * d7 + c3 = (H : Int) + 18446744073709551616 * c7 := by omega
  have al : num8 d0 d1 d2 d3 d4 d5 d6 d7 = (L : Int) + 18446744073709551616 * (H : Int) + 340282366920938463463374607431768211456 * c7 := by unfold num8; omega
  have bl : (L : Int) < 18446744073709551616 := by omega
  have bh : (H : Int) < 18446744073709551616 := by omega
  refine ⟨n1, n2, n3, n4, n5, n6, n7, m0, m1, m2, m3, m4, m5, m6, m7, c0, c1, c2, c3, c4, c5, c6, c7, L, H, ?_⟩
  refine ⟨t0, q0, u0, z0, b0, y0, x0, w0, v0, s1, t1, q1, u1, z1, b1, y1, x1, w1, v1, s2, t2, q2, u2, z2, b2, y2, x2, w2, v2, s3, t3, q3, u3, z3, b3, y3, x3, w3, v3, s4, t4, q4, u4, z4, b4, y4, x4, w4, v4, s5, t5, q5, u5, z5, b5, y5, x5, w5, v5, s6, t6, q6, u6, z6, b6, y6, x6, w6, v6, s7, t7, q7, u7, z7, b7, y7, x7, w7, v7, eL, eH, ?_, ?_⟩
  · rw [al]; clear lo hi al; unfold lon; omega
  · rw [al]; clear lo hi al; unfold hii; rw [i64w]; omega

end
end Go.Proofs.Sky
