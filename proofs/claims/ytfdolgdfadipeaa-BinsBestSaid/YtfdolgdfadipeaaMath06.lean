/- Plain mathematics of layer 6: vectors: near ones, products, lengths, directions. Imports nothing of the translation. Plain mathematics of layer 6, the consequences: the opposite's direction, the double's, a direction's length; volumes. Imports nothing of the translation. -/
import Derived.Test.YtfdolgdfadipeaaMath03

namespace Go.Proofs.Sky
section
set_option linter.unusedVariables false

/-- All coordinates from -n to n. -/
def wi (n x y z : Int) : Bool := decide (-n ≤ x ∧ x ≤ n ∧ -n ≤ y ∧ y ≤ n ∧ -n ≤ z ∧ z ≤ n)
theorem wi_iff {n x y z : Int} : wi n x y z = true ↔ -n ≤ x ∧ x ≤ n ∧ -n ≤ y ∧ y ≤ n ∧ -n ≤ z ∧ z ≤ n := by unfold wi; exact decide_eq_true_iff
theorem wi_no {n x y z : Int} : wi n x y z = false ↔ ¬ (-n ≤ x ∧ x ≤ n ∧ -n ≤ y ∧ y ≤ n ∧ -n ≤ z ∧ z ≤ n) := by unfold wi; exact decide_eq_false_iff_not
def vnear (x y z : Int) : Bool := wi 1048576 x y z
theorem vnear_iff {x y z : Int} : vnear x y z = true ↔ -1048576 ≤ x ∧ x ≤ 1048576 ∧ -1048576 ≤ y ∧ y ≤ 1048576 ∧ -1048576 ≤ z ∧ z ≤ 1048576 := wi_iff

def vsub (x a : Int) : Int := sat (x + sat (a * -1))
def vdot (x y z a b c : Int) : Int := if vnear x y z = true ∧ vnear a b c = true then x * a + y * b + z * c else 0
def vcr (x y z a b c : Int) : Int × Int × Int := if vnear x y z = true ∧ vnear a b c = true then (y * c - z * b, z * a - x * c, x * b - y * a) else (0, 0, 0)
def vvol (x y z a b c d e f : Int) : Int := if vnear x y z = true ∧ vnear a b c = true ∧ vnear d e f = true then x * (b * f - c * e) + y * (c * d - a * f) + z * (a * e - b * d) else 0
def vlen (x y z : Int) : Int := (isq (vdot x y z x y z).toNat : Int)

theorem mul_in {x a : Int} {N M : Nat} (hx : -(N : Int) ≤ x ∧ x ≤ N) (ha : -(M : Int) ≤ a ∧ a ≤ M) : -((N * M : Nat) : Int) ≤ x * a ∧ x * a ≤ ((N * M : Nat) : Int) := by
  have b : (x * a).natAbs ≤ N * M := by rw [Int.natAbs_mul]; exact Nat.mul_le_mul (by omega) (by omega)
  omega
theorem near_mul {x a : Int} (hx : -1048576 ≤ x ∧ x ≤ 1048576) (ha : -1048576 ≤ a ∧ a ≤ 1048576) : -1099511627776 ≤ x * a ∧ x * a ≤ 1099511627776 := mul_in (N := 1048576) (M := 1048576) hx ha
theorem near_mul3 {x a : Int} (hx : -1048576 ≤ x ∧ x ≤ 1048576) (ha : -2199023255552 ≤ a ∧ a ≤ 2199023255552) : -2305843009213693952 ≤ x * a ∧ x * a ≤ 2305843009213693952 := mul_in (N := 1048576) (M := 2199023255552) hx ha
theorem sq_nonneg (x : Int) : 0 ≤ x * x := by
  by_cases h : 0 ≤ x
  · exact Int.mul_nonneg h h
  · rw [← Int.neg_mul_neg]; exact Int.mul_nonneg (by omega) (by omega)

theorem fat_I64 (v n d : Int) : I64 (fat v n d) := by
  unfold fat; split
  · unfold I64; omega
  · exact sat_I64 _

/-- Doubled as long as all coordinates are below 2^19; halved as long as one is 2^20 or more. -/
def dblN : Nat → Int → Int → Int → Int × Int × Int
  | 0, x, y, z => (x, y, z)
  | k + 1, x, y, z => if wi 524287 x y z = true then dblN k (2 * x) (2 * y) (2 * z) else (x, y, z)
def halN : Nat → Int → Int → Int → Int × Int × Int
  | 0, x, y, z => (x, y, z)
  | k + 1, x, y, z => if wi 1048575 x y z = true then (x, y, z) else halN k (x.tdiv 2) (y.tdiv 2) (z.tdiv 2)
def dbl (x y z : Int) : Int × Int × Int := dblN 20 x y z
def evn (x y z : Int) : Int × Int × Int := halN 44 (dbl x y z).1 (dbl x y z).2.1 (dbl x y z).2.2

/-- How often a vector can still be doubled, or halved. -/
def DblK (k : Nat) (x y z : Int) : Prop := (2 ^ k ≤ x.natAbs ∨ 2 ^ k ≤ y.natAbs ∨ 2 ^ k ≤ z.natAbs)
theorem dblN_out : ∀ (k : Nat) (x y z : Int), DblK (19 - k) x y z → k ≤ 19 → wi 524287 (dblN (k + 1) x y z).1 (dblN (k + 1) x y z).2.1 (dblN (k + 1) x y z).2.2 = false
  | 0, x, y, z, h, _ => by
    have : wi 524287 x y z = false := by rw [wi_no]; unfold DblK at h; omega
    unfold dblN
    rw [if_neg (by rw [this]; decide)]
    exact this
  | k + 1, x, y, z, h, hk => by
    by_cases w : wi 524287 x y z = true
    · rw [dblN, if_pos w]
      refine dblN_out k _ _ _ ?_ (by omega)
      unfold DblK at h ⊢
      rw [show 19 - k = (19 - (k + 1)) + 1 by omega, Nat.pow_succ]
      omega
    · rw [Bool.not_eq_true] at w
      rw [dblN, if_neg (by rw [w]; decide)]
      exact w
theorem dblN_in : ∀ (k : Nat) (x y z : Int), (x, y, z) = dblN k x y z ∨ wi 1048575 (dblN k x y z).1 (dblN k x y z).2.1 (dblN k x y z).2.2 = true
  | 0, x, y, z => .inl rfl
  | k + 1, x, y, z => by
    by_cases w : wi 524287 x y z = true
    · rw [dblN, if_pos w]
      rcases dblN_in k (2 * x) (2 * y) (2 * z) with e | e
      · right
        rw [← e]
        rw [wi_iff] at w ⊢
        dsimp only
        omega
      · exact .inr e
    · left
      rw [dblN, if_neg w]
theorem halN_out : ∀ (k : Nat) (x y z : Int), wi 524287 x y z = false → x.natAbs < 2 ^ (k + 20) → y.natAbs < 2 ^ (k + 20) → z.natAbs < 2 ^ (k + 20) →
    wi 524287 (halN k x y z).1 (halN k x y z).2.1 (halN k x y z).2.2 = false ∧ wi 1048575 (halN k x y z).1 (halN k x y z).2.1 (halN k x y z).2.2 = true
  | 0, x, y, z, h, a, b, c => by
    refine ⟨h, ?_⟩
    unfold halN
    rw [wi_iff]
    rw [Nat.zero_add] at a b c
    have : (2 : Nat) ^ 20 = 1048576 := rfl
    dsimp only
    omega
  | k + 1, x, y, z, h, a, b, c => by
    by_cases w : wi 1048575 x y z = true
    · rw [halN, if_pos w]; exact ⟨h, w⟩
    · rw [halN, if_neg w]
      rw [Bool.not_eq_true] at w
      have t : ∀ v : Int, (v.tdiv 2).natAbs = v.natAbs / 2 := fun v => by rw [Int.natAbs_tdiv]; rfl
      refine halN_out k _ _ _ ?_ ?_ ?_ ?_
      · rw [wi_no] at w ⊢
        have tx := t x; have ty := t y; have tz := t z
        omega
      all_goals
        rw [t]
        rw [show k + 1 + 20 = (k + 20) + 1 by omega, Nat.pow_succ] at a b c
        omega
theorem dblN_same (k : Nat) (x y z : Int) (h : wi 524287 x y z = false) : dblN k x y z = (x, y, z) := by
  cases k with
  | zero => rfl
  | succ k => rw [dblN, if_neg (by rw [h]; decide)]
theorem halN_same (k : Nat) (x y z : Int) (h : wi 1048575 x y z = true) : halN k x y z = (x, y, z) := by
  cases k with
  | zero => rfl
  | succ k => rw [halN, if_pos h]

/-- What may be made even: not 0, and no coordinate beyond 2^62. -/
def Evb (x y z : Int) : Prop := wi 4611686018427387904 x y z = true ∧ wi 0 x y z = false
theorem evn_spec {x y z : Int} (h : Evb x y z) : wi 524287 (evn x y z).1 (evn x y z).2.1 (evn x y z).2.2 = false ∧ wi 1048575 (evn x y z).1 (evn x y z).2.1 (evn x y z).2.2 = true := by
  obtain ⟨h1, h2⟩ := h
  rw [wi_iff] at h1
  rw [wi_no] at h2
  have a := dblN_out 19 x y z (by unfold DblK; simp; omega) (by omega)
  have b := dblN_in 20 x y z
  unfold evn dbl
  refine halN_out 44 _ _ _ a ?_ ?_ ?_
  all_goals
    have : (2 : Nat) ^ (44 + 20) = 18446744073709551616 := rfl
    rcases b with b | b
    · rw [← b]; dsimp only; omega
    · rw [wi_iff] at b; omega

/-- The direction. -/
def vuOk (x y z : Int) : Bool := wi 4611686018427387904 x y z && !wi 0 x y z
theorem vuOk_iff {x y z : Int} : vuOk x y z = true ↔ Evb x y z := by unfold vuOk Evb; simp
def vun (e : Int × Int × Int) : Int × Int × Int := ((e.1 * 16384).tdiv (vlen e.1 e.2.1 e.2.2), (e.2.1 * 16384).tdiv (vlen e.1 e.2.1 e.2.2), (e.2.2 * 16384).tdiv (vlen e.1 e.2.1 e.2.2))
def vunit (x y z : Int) : Int × Int × Int := if vuOk x y z = true then vun (evn x y z) else (0, 0, 0)

end
end Go.Proofs.Sky

namespace Go.Proofs.Sky
section
set_option linter.unusedVariables false

def ng (e : Int × Int × Int) : Int × Int × Int := (-e.1, -e.2.1, -e.2.2)
theorem wi_neg (n x y z : Int) : wi n (-x) (-y) (-z) = wi n x y z := by
  unfold wi
  rw [decide_eq_decide]
  omega
theorem dblN_neg : ∀ (k : Nat) (x y z : Int), dblN k (-x) (-y) (-z) = ng (dblN k x y z)
  | 0, x, y, z => rfl
  | k + 1, x, y, z => by
    rw [dblN, dblN, wi_neg]
    split
    · rw [← dblN_neg k, Int.mul_neg, Int.mul_neg, Int.mul_neg]
    · rfl
theorem halN_neg : ∀ (k : Nat) (x y z : Int), halN k (-x) (-y) (-z) = ng (halN k x y z)
  | 0, x, y, z => rfl
  | k + 1, x, y, z => by
    rw [halN, halN, wi_neg]
    split
    · rfl
    · rw [← halN_neg k, Int.neg_tdiv, Int.neg_tdiv, Int.neg_tdiv]
theorem evn_neg (x y z : Int) : evn (-x) (-y) (-z) = ng (evn x y z) := by
  unfold evn dbl
  rw [dblN_neg]
  exact halN_neg 44 _ _ _
theorem vnear_neg (x y z : Int) : vnear (-x) (-y) (-z) = vnear x y z := wi_neg _ _ _ _
theorem vlen_neg (x y z : Int) : vlen (-x) (-y) (-z) = vlen x y z := by
  unfold vlen vdot
  rw [vnear_neg, Int.neg_mul_neg, Int.neg_mul_neg, Int.neg_mul_neg]
theorem vun_neg (e : Int × Int × Int) : vun (ng e) = ng (vun e) := by
  unfold vun ng
  simp only [vlen_neg, Int.neg_mul, Int.neg_tdiv]
theorem vuOk_neg (x y z : Int) : vuOk (-x) (-y) (-z) = vuOk x y z := by unfold vuOk; rw [wi_neg, wi_neg]
theorem vunit_neg (x y z : Int) : vunit (-x) (-y) (-z) = ng (vunit x y z) := by
  unfold vunit
  rw [vuOk_neg, evn_neg, vun_neg]
  split
  · rfl
  · rfl

theorem dblN_more : ∀ (k : Nat) (x y z : Int), DblK (19 - k) x y z → k ≤ 19 → dblN (k + 2) x y z = dblN (k + 1) x y z
  | 0, x, y, z, h, _ => by
    have : wi 524287 x y z = false := by rw [wi_no]; unfold DblK at h; omega
    rw [dblN_same _ _ _ _ this, dblN_same _ _ _ _ this]
  | k + 1, x, y, z, h, hk => by
    by_cases w : wi 524287 x y z = true
    · rw [dblN, if_pos w, dblN_more k _ _ _ (by
        unfold DblK at h ⊢
        rw [show 19 - k = (19 - (k + 1)) + 1 by omega, Nat.pow_succ]
        omega) (by omega)]
      conv => rhs; rw [dblN, if_pos w]
    · rw [Bool.not_eq_true] at w
      rw [dblN_same _ _ _ _ w, dblN_same _ _ _ _ w]
theorem halN_more : ∀ (k : Nat) (x y z : Int), x.natAbs < 2 ^ (k + 20) → y.natAbs < 2 ^ (k + 20) → z.natAbs < 2 ^ (k + 20) → halN (k + 1) x y z = halN k x y z
  | 0, x, y, z, a, b, c => by
    rw [Nat.zero_add] at a b c
    have : (2 : Nat) ^ 20 = 1048576 := rfl
    have w : wi 1048575 x y z = true := by rw [wi_iff]; omega
    rw [halN_same _ _ _ _ w, halN_same _ _ _ _ w]
  | k + 1, x, y, z, a, b, c => by
    by_cases w : wi 1048575 x y z = true
    · rw [halN_same _ _ _ _ w, halN_same _ _ _ _ w]
    · have t : ∀ v : Int, (v.tdiv 2).natAbs = v.natAbs / 2 := fun v => by rw [Int.natAbs_tdiv]; rfl
      rw [halN, if_neg w, halN_more k]
      · conv => rhs; rw [halN, if_neg w]
      all_goals
        rw [t]
        rw [show k + 1 + 20 = (k + 20) + 1 by omega, Nat.pow_succ] at a b c
        omega
/-- The double is made even as it is itself. -/
theorem evn_dbl {x y z : Int} (h : wi 2305843009213693952 x y z = true) (h0 : wi 0 x y z = false) : evn (2 * x) (2 * y) (2 * z) = evn x y z := by
  rw [wi_iff] at h
  rw [wi_no] at h0
  have t : ∀ v : Int, (2 * v).tdiv 2 = v := fun v => Int.mul_tdiv_cancel_left v (by omega)
  by_cases w : wi 524287 x y z = true
  · unfold evn dbl
    have e : dblN 20 (2 * x) (2 * y) (2 * z) = dblN 20 x y z := by
      rw [← dblN_more 19 x y z (by unfold DblK; simp; omega) (by omega)]
      conv => rhs; rw [dblN, if_pos w]
    rw [e]
  · rw [Bool.not_eq_true] at w
    have w2 : wi 524287 (2 * x) (2 * y) (2 * z) = false := by rw [wi_no] at w ⊢; omega
    have w3 : ¬ wi 1048575 (2 * x) (2 * y) (2 * z) = true := by rw [wi_iff]; rw [wi_no] at w; omega
    unfold evn dbl
    rw [dblN_same _ _ _ _ w, dblN_same _ _ _ _ w2]
    rw [halN, if_neg w3, t, t, t]
    have p : (2 : Nat) ^ (43 + 20) = 9223372036854775808 := rfl
    exact (halN_more 43 x y z (by omega) (by omega) (by omega)).symm
theorem vuOk_of {x y z : Int} (h : wi 2305843009213693952 x y z = true) (h0 : wi 0 x y z = false) : vuOk x y z = true ∧ vuOk (2 * x) (2 * y) (2 * z) = true := by
  rw [vuOk_iff, vuOk_iff]
  unfold Evb
  rw [wi_no] at *
  rw [wi_iff] at *
  rw [wi_iff, wi_no]
  omega
theorem vunit_dbl {x y z : Int} (h : wi 2305843009213693952 x y z = true) (h0 : wi 0 x y z = false) : vunit (2 * x) (2 * y) (2 * z) = vunit x y z := by
  obtain ⟨a, b⟩ := vuOk_of h h0
  unfold vunit
  rw [if_pos a, if_pos b, evn_dbl h h0]

/-- The length of what is rounded toward 0, of parts of a length that is rounded down. -/
theorem len_core {a b c L p q r : Nat} (hL : L * L ≤ a * a + b * b + c * c) (hL1 : a * a + b * b + c * c < (L + 1) * (L + 1)) (h : 524288 ≤ L)
    (p1 : p * L ≤ a * 16384) (p2 : a * 16384 < (p + 1) * L) (q1 : q * L ≤ b * 16384) (q2 : b * 16384 < (q + 1) * L) (r1 : r * L ≤ c * 16384) (r2 : c * 16384 < (r + 1) * L) :
    268369924 ≤ p * p + q * q + r * r ∧ p * p + q * q + r * r ≤ 268468225 := by
  obtain ⟨M, hM⟩ : ∃ M, M = L * L := ⟨_, rfl⟩
  have hM1 : 524288 * L ≤ M := by rw [hM]; exact Nat.mul_le_mul_right L h
  have e1 : (L + 1) * (L + 1) = M + 2 * L + 1 := by rw [hM, Nat.add_mul, Nat.mul_add]; omega
  have sq : ∀ s t : Nat, (s * L) * (s * L) = s * s * M := fun s t => by rw [hM]; rw [Nat.mul_mul_mul_comm]
  have up : ∀ s t : Nat, s * L ≤ t * 16384 → s * s * M ≤ t * t * 268435456 := fun s t h => by
    have := Nat.mul_le_mul h h
    rw [sq s t, Nat.mul_mul_mul_comm] at this
    exact this
  have lo : ∀ s t : Nat, t * 16384 < (s + 1) * L → t * t * 268435456 ≤ (s * s + 2 * s + 1) * M := fun s t h => by
    have := Nat.mul_le_mul (Nat.le_of_lt h) (Nat.le_of_lt h)
    rw [Nat.mul_mul_mul_comm, Nat.mul_mul_mul_comm (s + 1) L, ← hM, show (s + 1) * (s + 1) = s * s + 2 * s + 1 by rw [Nat.add_mul, Nat.mul_add]; omega] at this
    exact this
  have u1 := up p a p1; have u2 := up q b q1; have u3 := up r c r1
  have l1 := lo p a p2; have l2 := lo q b q2; have l3 := lo r c r2
  have s3 : (p + q + r) * (p + q + r) ≤ 3 * (p * p + q * q + r * r) := by
    have k : ∀ s t : Nat, 2 * (s * t) ≤ s * s + t * t := fun s t => by
      rcases Nat.le_total s t with h | h
      all_goals
        obtain ⟨d, rfl⟩ := Nat.exists_eq_add_of_le h
        simp only [Nat.add_mul, Nat.mul_add, Nat.mul_comm d]
        omega
    have a1 := k p q; have a2 := k p r; have a3 := k q r
    simp only [Nat.add_mul, Nat.mul_add]
    rw [Nat.mul_comm q p, Nat.mul_comm r p, Nat.mul_comm r q]
    omega
  rw [← hM] at hL
  rw [e1] at hL1
  clear sq up lo p1 p2 q1 q2 r1 r2 e1 hM
  generalize a * a = A at *
  generalize b * b = B at *
  generalize c * c = C at *
  have eu : (p * p + q * q + r * r) * M ≤ (A + B + C) * 268435456 := by rw [Nat.add_mul, Nat.add_mul]; omega
  have el : (A + B + C) * 268435456 ≤ (p * p + q * q + r * r + 2 * (p + q + r) + 3) * M := by
    have : (p * p + q * q + r * r + 2 * (p + q + r) + 3) * M = (p * p + 2 * p + 1) * M + (q * q + 2 * q + 1) * M + (r * r + 2 * r + 1) * M := by
      have e : p * p + q * q + r * r + 2 * (p + q + r) + 3 = (p * p + 2 * p + 1) + (q * q + 2 * q + 1) + (r * r + 2 * r + 1) := by omega
      rw [← Nat.add_mul, ← Nat.add_mul, e]
    rw [this, Nat.add_mul, Nat.add_mul]
    exact Nat.add_le_add (Nat.add_le_add l1 l2) l3
  generalize p * p + q * q + r * r = n at *
  generalize A + B + C = S at *
  clear u1 u2 u3 l1 l2 l3
  refine ⟨?_, ?_⟩
  · rcases Nat.lt_or_ge n 268369924 with g | g
    · exfalso
      obtain ⟨s, hs⟩ : ∃ s, s = p + q + r := ⟨_, rfl⟩
      rw [← hs] at s3 el
      have hs' : s < 28375 := by
        rcases Nat.lt_or_ge s 28375 with g | g
        · exact g
        · have := Nat.mul_le_mul g g; omega
      have := Nat.mul_le_mul_right M (show n + 2 * s + 3 ≤ 268435455 by omega)
      omega
    · exact g
  · rcases Nat.lt_or_ge 268468225 n with g | g
    · exfalso
      have := Nat.mul_le_mul_right M (show 268468226 ≤ n by omega)
      omega
    · exact g

theorem tdiv_parts (w : Int) (L : Nat) (hL : 1 ≤ L) : ((w * 16384).tdiv (L : Int)).natAbs * L ≤ w.natAbs * 16384 ∧ w.natAbs * 16384 < (((w * 16384).tdiv (L : Int)).natAbs + 1) * L := by
  rw [Int.natAbs_tdiv, Int.natAbs_mul, Int.natAbs_natCast, show (16384 : Int).natAbs = 16384 from rfl]
  have h1 := Nat.div_mul_le_self (w.natAbs * 16384) L
  have h2 : w.natAbs * 16384 < (w.natAbs * 16384 / L + 1) * L := by
    have := Nat.lt_mul_div_succ (w.natAbs * 16384) (show 0 < L by omega)
    rw [Nat.mul_comm (_ + 1) L]; exact this
  exact ⟨h1, h2⟩
theorem natAbs_sq (a : Int) : ((a.natAbs * a.natAbs : Nat) : Int) = a * a := by rw [Int.natCast_mul]; exact Int.natAbs_mul_self

/-- The length of what was made even. -/
theorem even_len {x y z : Int} (h1 : wi 524287 x y z = false) (h2 : wi 1048575 x y z = true) :
    ∃ L : Nat, vlen x y z = (L : Int) ∧ 524288 ≤ L ∧ L ≤ 1816187 ∧ L * L ≤ x.natAbs * x.natAbs + y.natAbs * y.natAbs + z.natAbs * z.natAbs ∧ x.natAbs * x.natAbs + y.natAbs * y.natAbs + z.natAbs * z.natAbs < (L + 1) * (L + 1) := by
  rw [wi_iff] at h2
  rw [wi_no] at h1
  have hn : vnear x y z = true := by rw [vnear_iff]; omega
  have e : (vdot x y z x y z).toNat = x.natAbs * x.natAbs + y.natAbs * y.natAbs + z.natAbs * z.natAbs := by
    unfold vdot
    rw [if_pos ⟨hn, hn⟩, ← natAbs_sq x, ← natAbs_sq y, ← natAbs_sq z]
    omega
  obtain ⟨s1, s2⟩ := isq_spec (vdot x y z x y z).toNat
  refine ⟨isq (vdot x y z x y z).toNat, rfl, ?_, ?_, by rw [← e]; exact s1, by rw [← e]; exact s2⟩
  · rw [e] at *
    generalize isq _ = L at *
    have big : 524288 * 524288 ≤ x.natAbs * x.natAbs + y.natAbs * y.natAbs + z.natAbs * z.natAbs := by
      have k : ∀ t : Nat, 524288 ≤ t → 524288 * 524288 ≤ t * t := fun t ht => Nat.mul_le_mul ht ht
      by_cases a : 524288 ≤ x.natAbs
      · have := k _ a; omega
      · by_cases b : 524288 ≤ y.natAbs
        · have := k _ b; omega
        · have := k z.natAbs (by omega); omega
    rcases Nat.lt_or_ge L 524288 with g | g
    · have := Nat.mul_le_mul (show L + 1 ≤ 524288 by omega) (show L + 1 ≤ 524288 by omega); omega
    · exact g
  · rw [e] at *
    generalize isq _ = L at *
    have k : ∀ t : Nat, t ≤ 1048575 → t * t ≤ 1048575 * 1048575 := fun t ht => Nat.mul_le_mul ht ht
    have a := k x.natAbs (by omega)
    have b := k y.natAbs (by omega)
    have c := k z.natAbs (by omega)
    rcases Nat.lt_or_ge 1816187 L with g | g
    · have := Nat.mul_le_mul (show 1816188 ≤ L by omega) (show 1816188 ≤ L by omega); omega
    · exact g

/-- P6.3: a direction's length. -/
theorem vunit_len {x y z : Int} (h : vuOk x y z = true) : 268369924 ≤ (vunit x y z).1 * (vunit x y z).1 + (vunit x y z).2.1 * (vunit x y z).2.1 + (vunit x y z).2.2 * (vunit x y z).2.2 ∧
    (vunit x y z).1 * (vunit x y z).1 + (vunit x y z).2.1 * (vunit x y z).2.1 + (vunit x y z).2.2 * (vunit x y z).2.2 ≤ 268468225 := by
  unfold vunit
  rw [if_pos h]
  rw [vuOk_iff] at h
  obtain ⟨h1, h2⟩ := evn_spec h
  generalize evn x y z = e at *
  obtain ⟨L, hL, l1, l2, l3, l4⟩ := even_len h1 h2
  unfold vun
  rw [hL]
  obtain ⟨p1, p2⟩ := tdiv_parts e.1 L (by omega)
  obtain ⟨q1, q2⟩ := tdiv_parts e.2.1 L (by omega)
  obtain ⟨r1, r2⟩ := tdiv_parts e.2.2 L (by omega)
  have := len_core l3 l4 l1 p1 p2 q1 q2 r1 r2
  dsimp only
  rw [← natAbs_sq ((e.1 * 16384).tdiv L), ← natAbs_sq ((e.2.1 * 16384).tdiv L), ← natAbs_sq ((e.2.2 * 16384).tdiv L)]
  omega
theorem sq_small {a : Int} (h : a * a ≤ 268468225) : -16385 ≤ a ∧ a ≤ 16385 := by
  rw [← natAbs_sq] at h
  rcases Nat.lt_or_ge 16385 a.natAbs with g | g
  · have := Nat.mul_le_mul (show 16386 ≤ a.natAbs by omega) (show 16386 ≤ a.natAbs by omega); omega
  · omega
theorem vunit_small (x y z : Int) : (-16385 ≤ (vunit x y z).1 ∧ (vunit x y z).1 ≤ 16385) ∧ (-16385 ≤ (vunit x y z).2.1 ∧ (vunit x y z).2.1 ≤ 16385) ∧ (-16385 ≤ (vunit x y z).2.2 ∧ (vunit x y z).2.2 ≤ 16385) := by
  by_cases h : vuOk x y z = true
  · have := (vunit_len h).2
    have a := sq_nonneg (vunit x y z).1
    have b := sq_nonneg (vunit x y z).2.1
    have c := sq_nonneg (vunit x y z).2.2
    exact ⟨sq_small (by omega), sq_small (by omega), sq_small (by omega)⟩
  · unfold vunit; rw [if_neg h]; dsimp only; omega
theorem vlen_unit {a b c : Int} (h : 268369924 ≤ a * a + b * b + c * c ∧ a * a + b * b + c * c ≤ 268468225) : 16382 ≤ vlen a b c ∧ vlen a b c ≤ 16385 := by
  have x := sq_nonneg a; have y := sq_nonneg b; have z := sq_nonneg c
  have a1 := sq_small (a := a) (by omega)
  have b1 := sq_small (a := b) (by omega)
  have c1 := sq_small (a := c) (by omega)
  have hn : vnear a b c = true := by rw [vnear_iff]; omega
  unfold vlen vdot
  rw [if_pos ⟨hn, hn⟩]
  generalize a * a + b * b + c * c = n at *
  obtain ⟨s1, s2⟩ := isq_spec n.toNat
  generalize isq n.toNat = L at *
  constructor
  · rcases Nat.lt_or_ge L 16382 with g | g
    · have := Nat.mul_le_mul (show L + 1 ≤ 16382 by omega) (show L + 1 ≤ 16382 by omega); omega
    · omega
  · rcases Nat.lt_or_ge 16385 L with g | g
    · have := Nat.mul_le_mul (show 16386 ≤ L by omega) (show 16386 ≤ L by omega); omega
    · omega

end
end Go.Proofs.Sky
