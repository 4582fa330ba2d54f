/- Plain mathematics of layer 7: out and in, mirrored, against; the consequences. Imports nothing of the translation. -/
import Derived.Test.YtnoaljfdbfbhmaaMath07
namespace Go.Proofs.Sky
open Go.RowKit
set_option linter.unusedVariables false

def allNear (u v n w : T3) : Bool := nrT u && (nrT v && (nrT n && nrT w))
def bout (u v n w : T3) : T3 := if allNear u v n w = true then ((u.1 * w.1 + v.1 * w.2.1 + n.1 * w.2.2) / 16384, (u.2.1 * w.1 + v.2.1 * w.2.1 + n.2.1 * w.2.2) / 16384, (u.2.2 * w.1 + v.2.2 * w.2.1 + n.2.2 * w.2.2) / 16384) else (0, 0, 0)
def bin (u v n w : T3) : T3 := if allNear u v n w = true then (dtT w u / 16384, dtT w v / 16384, dtT w n / 16384) else (0, 0, 0)
def mir (d n : T3) : T3 := if nrT d = true ∧ nrT n = true then (d.1 - n.1 * (2 * dtT d n) / 268435456, d.2.1 - n.2.1 * (2 * dtT d n) / 268435456, d.2.2 - n.2.2 * (2 * dtT d n) / 268435456) else (0, 0, 0)
def fac (n d : T3) : T3 := if nrT d = true ∧ nrT n = true then (if 0 < dtT n d then (-n.1, -n.2.1, -n.2.2) else n) else (0, 0, 0)

/-- The basis, as nine numbers. -/
def bas (x y z : Int) : T3 × T3 × T3 := if vuOk x y z = true then (bU (vunit x y z), bV (vunit x y z), vunit x y z) else ((0, 0, 0), (0, 0, 0), (0, 0, 0))
def bas9 (b : T3 × T3 × T3) : Array Value := #[.int .i64 b.1.1, .int .i64 b.1.2.1, .int .i64 b.1.2.2, .int .i64 b.2.1.1, .int .i64 b.2.1.2.1, .int .i64 b.2.1.2.2, .int .i64 b.2.2.1, .int .i64 b.2.2.2.1, .int .i64 b.2.2.2.2]

/-- Coordinates from -16384 to 16384. -/
def unitT (v : T3) : Prop := (-16384 ≤ v.1 ∧ v.1 ≤ 16384) ∧ (-16384 ≤ v.2.1 ∧ v.2.1 ≤ 16384) ∧ (-16384 ≤ v.2.2 ∧ v.2.2 ≤ 16384)
theorem unitT.near {v : T3} (h : unitT v) : nrT v = true := by
  unfold unitT at h; unfold nrT; rw [vnear_iff]; omega

theorem floor_rest (a : Int) (D : Int) (hD : 1 ≤ D) : ∃ e, a = D * (a / D) + e ∧ 0 ≤ e ∧ e ≤ D - 1 := by
  refine ⟨a % D, ?_, Int.emod_nonneg _ (by omega), ?_⟩
  · exact (Int.mul_ediv_add_emod a D).symm
  · have := Int.emod_lt_of_pos a (show 0 < D by omega); omega

/-- One coordinate that goes out and comes in. -/
theorem back_core {u v n : T3} {w1 w2 w3 o1 o2 o3 e1 e2 e3 r : Int} (hu : Dir u) (hv : -29300 ≤ dtT u v ∧ dtT u v ≤ 29300) (hn : -29300 ≤ dtT u n ∧ dtT u n ≤ 29300)
    (h1 : -16384 ≤ w1 ∧ w1 ≤ 16384) (h2 : -16384 ≤ w2 ∧ w2 ≤ 16384) (h3 : -16384 ≤ w3 ∧ w3 ≤ 16384)
    (q1 : u.1 * w1 + v.1 * w2 + n.1 * w3 = 16384 * o1 + e1) (q2 : u.2.1 * w1 + v.2.1 * w2 + n.2.1 * w3 = 16384 * o2 + e2) (q3 : u.2.2 * w1 + v.2.2 * w2 + n.2.2 * w3 = 16384 * o3 + e3)
    (b1 : 0 ≤ e1 ∧ e1 ≤ 16383) (b2 : 0 ≤ e2 ∧ e2 ≤ 16383) (b3 : 0 ≤ e3 ∧ e3 ≤ 16383) (p : Int) (hp : o1 * u.1 + o2 * u.2.1 + o3 * u.2.2 = 16384 * p + r) (hr : 0 ≤ r ∧ r ≤ 16383) :
    -16 ≤ p - w1 ∧ p - w1 ≤ 16 := by
  have hs := hu.small
  obtain ⟨a, b, c⟩ := u
  obtain ⟨a', b', c'⟩ := v
  obtain ⟨a2, b2', c2⟩ := n
  unfold Dir at hu
  unfold dtT at *
  unfold absSum at hs
  dsimp only at *
  have k : 268435456 * (p - w1) = (a * a + b * b + c * c - 268435456) * w1 + (a * a' + b * b' + c * c') * w2 + (a * a2 + b * b2' + c * c2) * w3 - (e1 * a + e2 * b + e3 * c) - 16384 * r := by grind
  have m1 := mul_in (x := a * a + b * b + c * c - 268435456) (a := w1) (N := 65532) (M := 16384) (by omega) (by omega)
  have m2 := mul_in (x := a * a' + b * b' + c * c') (a := w2) (N := 29300) (M := 16384) (by omega) (by omega)
  have m3 := mul_in (x := a * a2 + b * b2' + c * c2) (a := w3) (N := 29300) (M := 16384) (by omega) (by omega)
  have n1 := mul_abs (a := e1) (m := a) (A := 16383) (by omega) (by omega)
  have n2 := mul_abs (a := e2) (m := b) (A := 16383) (by omega) (by omega)
  have n3 := mul_abs (a := e3) (m := c) (A := 16383) (by omega) (by omega)
  generalize (a * a + b * b + c * c - 268435456) * w1 = t1 at *
  generalize (a * a' + b * b' + c * c') * w2 = t2 at *
  generalize (a * a2 + b * b2' + c * c2) * w3 = t3 at *
  generalize e1 * a = t4 at *
  generalize e2 * b = t5 at *
  generalize e3 * c = t6 at *
  clear q1 q2 q3 hp hu hv hn
  omega
theorem dt_comm (u v : T3) : dtT u v = dtT v u := by unfold dtT; grind

theorem out_small {u v n w : T3} (hu : smT u) (hv : smT v) (hn : smT n) (hw : unitT w) :
    ∃ e : T3, (u.1 * w.1 + v.1 * w.2.1 + n.1 * w.2.2 = 16384 * (bout u v n w).1 + e.1 ∧ u.2.1 * w.1 + v.2.1 * w.2.1 + n.2.1 * w.2.2 = 16384 * (bout u v n w).2.1 + e.2.1 ∧ u.2.2 * w.1 + v.2.2 * w.2.1 + n.2.2 * w.2.2 = 16384 * (bout u v n w).2.2 + e.2.2) ∧
      ((0 ≤ e.1 ∧ e.1 ≤ 16383) ∧ (0 ≤ e.2.1 ∧ e.2.1 ≤ 16383) ∧ (0 ≤ e.2.2 ∧ e.2.2 ≤ 16383)) ∧ nrT (bout u v n w) = true := by
  have ha : allNear u v n w = true := by unfold allNear; rw [hu.near, hv.near, hn.near, hw.near]; rfl
  unfold bout
  rw [if_pos ha]
  unfold smT at hu hv hn
  unfold unitT at hw
  have m : ∀ p q : Int, (-16385 ≤ p ∧ p ≤ 16385) → (-16384 ≤ q ∧ q ≤ 16384) → -268451840 ≤ p * q ∧ p * q ≤ 268451840 := fun p q hp hq => mul_in (N := 16385) (M := 16384) hp hq
  have a1 := m _ _ hu.1 hw.1; have a2 := m _ _ hv.1 hw.2.1; have a3 := m _ _ hn.1 hw.2.2
  have b1 := m _ _ hu.2.1 hw.1; have b2 := m _ _ hv.2.1 hw.2.1; have b3 := m _ _ hn.2.1 hw.2.2
  have c1 := m _ _ hu.2.2 hw.1; have c2 := m _ _ hv.2.2 hw.2.1; have c3 := m _ _ hn.2.2 hw.2.2
  obtain ⟨e1, f1, g1⟩ := floor_rest (u.1 * w.1 + v.1 * w.2.1 + n.1 * w.2.2) 16384 (by omega)
  obtain ⟨e2, f2, g2⟩ := floor_rest (u.2.1 * w.1 + v.2.1 * w.2.1 + n.2.1 * w.2.2) 16384 (by omega)
  obtain ⟨e3, f3, g3⟩ := floor_rest (u.2.2 * w.1 + v.2.2 * w.2.1 + n.2.2 * w.2.2) 16384 (by omega)
  refine ⟨(e1, e2, e3), ⟨f1, f2, f3⟩, ⟨by dsimp only; omega, by dsimp only; omega, by dsimp only; omega⟩, ?_⟩
  unfold nrT
  rw [vnear_iff]
  dsimp only
  omega

/-- P7.3: what goes out comes in as it was, but for 16. -/
theorem basis_back {n w : T3} (h : Dir n) (hw : unitT w) :
    (-16 ≤ (bin (bU n) (bV n) n (bout (bU n) (bV n) n w)).1 - w.1 ∧ (bin (bU n) (bV n) n (bout (bU n) (bV n) n w)).1 - w.1 ≤ 16) ∧
    (-16 ≤ (bin (bU n) (bV n) n (bout (bU n) (bV n) n w)).2.1 - w.2.1 ∧ (bin (bU n) (bV n) n (bout (bU n) (bV n) n w)).2.1 - w.2.1 ≤ 16) ∧
    (-16 ≤ (bin (bU n) (bV n) n (bout (bU n) (bV n) n w)).2.2 - w.2.2 ∧ (bin (bU n) (bV n) n (bout (bU n) (bV n) n w)).2.2 - w.2.2 ≤ 16) ∧ smT (0, 0, 0) := by
  have hu := bU_dir h
  have hv := bV_dir h
  have d1 := bU_dot h
  have d2 := bV_dotN h
  have d3 := bV_dotU h
  generalize bU n = u at *
  generalize bV n = v at *
  obtain ⟨e, ⟨q1, q2, q3⟩, ⟨b1, b2, b3⟩, ho⟩ := out_small hu.small.1 hv.small.1 h.small.1 hw
  generalize bout u v n w = o at *
  have ha : allNear u v n o = true := by unfold allNear; rw [hu.near, hv.near, h.near, ho]; rfl
  unfold bin
  rw [if_pos ha]
  obtain ⟨r1, s1, t1⟩ := floor_rest (dtT o u) 16384 (by omega)
  obtain ⟨r2, s2, t2⟩ := floor_rest (dtT o v) 16384 (by omega)
  obtain ⟨r3, s3, t3⟩ := floor_rest (dtT o n) 16384 (by omega)
  obtain ⟨w1, w2, w3⟩ := w
  unfold unitT at hw
  dsimp only at *
  refine ⟨?_, ?_, ?_, by unfold smT; dsimp only; omega⟩
  · exact back_core (u := u) (v := v) (n := n) hu (by rw [dt_comm]; exact d3) d1 hw.1 hw.2.1 hw.2.2 q1 q2 q3 b1 b2 b3 _ s1 (by omega)
  · exact back_core (u := v) (v := u) (n := n) hv d3 d2 hw.2.1 hw.1 hw.2.2 (by rw [← q1]; grind) (by rw [← q2]; grind) (by rw [← q3]; grind) b1 b2 b3 _ s2 (by omega)
  · exact back_core (u := n) (v := u) (n := v) h (by rw [dt_comm]; exact d1) (by rw [dt_comm]; exact d2) hw.2.2 hw.1 hw.2.1 (by rw [← q1]; grind) (by rw [← q2]; grind) (by rw [← q3]; grind) b1 b2 b3 _ s3 (by omega)

/-- Mirrored: what is rounded, and that it stays near. -/
theorem mir_small {d n : T3} (hn : Dir n) (hd : unitT d) :
    ∃ e : T3, (268435456 * (mir d n).1 = 268435456 * d.1 - n.1 * (2 * dtT d n) + e.1 ∧ 268435456 * (mir d n).2.1 = 268435456 * d.2.1 - n.2.1 * (2 * dtT d n) + e.2.1 ∧ 268435456 * (mir d n).2.2 = 268435456 * d.2.2 - n.2.2 * (2 * dtT d n) + e.2.2) ∧
      ((0 ≤ e.1 ∧ e.1 ≤ 268435455) ∧ (0 ≤ e.2.1 ∧ e.2.1 ≤ 268435455) ∧ (0 ≤ e.2.2 ∧ e.2.2 ≤ 268435455)) ∧ nrT (mir d n) = true ∧ (-465305600 ≤ dtT d n ∧ dtT d n ≤ 465305600) := by
  have hs := hn.small
  have hnear := hn.near
  unfold mir
  rw [if_pos ⟨hd.near, hnear⟩]
  unfold unitT at hd
  have hk : -465305600 ≤ dtT d n ∧ dtT d n ≤ 465305600 := by
    unfold dtT
    unfold absSum at hs
    have m1 := mul_abs (a := d.1) (m := n.1) (A := 16384) (by omega) hd.1
    have m2 := mul_abs (a := d.2.1) (m := n.2.1) (A := 16384) (by omega) hd.2.1
    have m3 := mul_abs (a := d.2.2) (m := n.2.2) (A := 16384) (by omega) hd.2.2
    omega
  have hs1 := hs.1
  unfold smT at hs1
  generalize dtT d n = k at *
  have p : ∀ q : Int, (-16385 ≤ q ∧ q ≤ 16385) → -15248064512000 ≤ q * (2 * k) ∧ q * (2 * k) ≤ 15248064512000 := fun q hq => mul_in (N := 16385) (M := 930611200) hq (by omega)
  have p1 := p _ hs1.1; have p2 := p _ hs1.2.1; have p3 := p _ hs1.2.2
  obtain ⟨e1, f1, g1⟩ := floor_rest (n.1 * (2 * k)) 268435456 (by omega)
  obtain ⟨e2, f2, g2⟩ := floor_rest (n.2.1 * (2 * k)) 268435456 (by omega)
  obtain ⟨e3, f3, g3⟩ := floor_rest (n.2.2 * (2 * k)) 268435456 (by omega)
  refine ⟨(e1, e2, e3), ⟨by dsimp only; omega, by dsimp only; omega, by dsimp only; omega⟩, ⟨by dsimp only; omega, by dsimp only; omega, by dsimp only; omega⟩, ?_, hk⟩
  unfold nrT
  rw [vnear_iff]
  dsimp only
  omega

theorem mir_core {a b c x y z x' y' z' e1 e2 e3 k k' : Int} (hn1 : 268369924 ≤ a * a + b * b + c * c) (hn2 : a * a + b * b + c * c ≤ 268436480) (hs : a.natAbs + b.natAbs + c.natAbs ≤ 28400)
    (hk : k = 2 * (x * a + y * b + z * c)) (hkb : -930611200 ≤ k ∧ k ≤ 930611200) (q1 : 268435456 * x' = 268435456 * x - a * k + e1) (q2 : 268435456 * y' = 268435456 * y - b * k + e2) (q3 : 268435456 * z' = 268435456 * z - c * k + e3)
    (b1 : 0 ≤ e1 ∧ e1 ≤ 268435455) (b2 : 0 ≤ e2 ∧ e2 ≤ 268435455) (b3 : 0 ≤ e3 ∧ e3 ≤ 268435455) (hk' : k' = 2 * (x' * a + y' * b + z' * c)) :
    -520000 ≤ k + k' ∧ k + k' ≤ 520000 := by
  have e : 268435456 * (k + k') = 2 * (k * (268435456 - (a * a + b * b + c * c))) + 2 * (e1 * a + e2 * b + e3 * c) := by
    have : 268435456 * k' = 2 * (268435456 * x' * a + 268435456 * y' * b + 268435456 * z' * c) := by rw [hk']; grind
    rw [Int.mul_add, this, q1, q2, q3]
    have h2 : 268435456 * k = 268435456 * (2 * (x * a + y * b + z * c)) := by rw [← hk]
    grind
  have m1 := mul_in (x := k) (a := 268435456 - (a * a + b * b + c * c)) (N := 930611200) (M := 65532) hkb (by omega)
  have n1 := mul_abs (a := e1) (m := a) (A := 268435455) (by omega) (by omega)
  have n2 := mul_abs (a := e2) (m := b) (A := 268435455) (by omega) (by omega)
  have n3 := mul_abs (a := e3) (m := c) (A := 268435455) (by omega) (by omega)
  generalize k * (268435456 - (a * a + b * b + c * c)) = t1 at *
  generalize e1 * a = t4 at *
  generalize e2 * b = t5 at *
  generalize e3 * c = t6 at *
  clear hk hk' q1 q2 q3
  omega

/-- P7.3: mirrored twice it is as it was, but for 48. -/
theorem mir_twice {d n : T3} (hn : Dir n) (hd : unitT d) :
    (-48 ≤ (mir (mir d n) n).1 - d.1 ∧ (mir (mir d n) n).1 - d.1 ≤ 48) ∧ (-48 ≤ (mir (mir d n) n).2.1 - d.2.1 ∧ (mir (mir d n) n).2.1 - d.2.1 ≤ 48) ∧ (-48 ≤ (mir (mir d n) n).2.2 - d.2.2 ∧ (mir (mir d n) n).2.2 - d.2.2 ≤ 48) := by
  obtain ⟨e, ⟨q1, q2, q3⟩, ⟨b1, b2, b3⟩, ho, hk⟩ := mir_small hn hd
  generalize mir d n = o at *
  have hs := hn.small
  unfold mir
  rw [if_pos ⟨ho, hn.near⟩]
  obtain ⟨kk, hkk⟩ : ∃ k, k = 2 * dtT d n := ⟨_, rfl⟩
  obtain ⟨kl, hkl⟩ : ∃ k, k = 2 * dtT o n := ⟨_, rfl⟩
  rw [← hkk] at q1 q2 q3
  rw [← hkl]
  have h1 := hn.1
  have h2 := hn.2
  unfold smT absSum at hs
  unfold dtT at *
  have C := mir_core h1 h2 hs.2 hkk (by omega) q1 q2 q3 b1 b2 b3 hkl
  have p : ∀ q : Int, (-16385 ≤ q ∧ q ≤ 16385) → -8520200000 ≤ q * (kk + kl) ∧ q * (kk + kl) ≤ 8520200000 := fun q hq => mul_in (N := 16385) (M := 520000) hq C
  have p1 := p _ hs.1.1; have p2 := p _ hs.1.2.1; have p3 := p _ hs.1.2.2
  rw [Int.mul_add] at p1 p2 p3
  obtain ⟨r1, f1, g1⟩ := floor_rest (n.1 * kl) 268435456 (by omega)
  obtain ⟨r2, f2, g2⟩ := floor_rest (n.2.1 * kl) 268435456 (by omega)
  obtain ⟨r3, f3, g3⟩ := floor_rest (n.2.2 * kl) 268435456 (by omega)
  generalize n.1 * kl / 268435456 = t1 at *
  generalize n.2.1 * kl / 268435456 = t2 at *
  generalize n.2.2 * kl / 268435456 = t3 at *
  generalize n.1 * kl = v1 at *
  generalize n.2.1 * kl = v2 at *
  generalize n.2.2 * kl = v3 at *
  clear C p hk hkk hkl h1 h2
  generalize n.1 * kk = u1 at *
  generalize n.2.1 * kk = u2 at *
  generalize n.2.2 * kk = u3 at *
  dsimp only
  omega

/-- What is against another one. -/
theorem fac_spec {n d : T3} (hn : nrT n = true) (hd : nrT d = true) : dtT (fac n d) d ≤ 0 ∧ (fac n d = n ∨ (fac n d = (-n.1, -n.2.1, -n.2.2) ∧ 0 < dtT n d)) := by
  unfold fac
  rw [if_pos ⟨hd, hn⟩]
  split
  · rename_i h
    refine ⟨?_, .inr ⟨rfl, h⟩⟩
    have : dtT (-n.1, -n.2.1, -n.2.2) d = -dtT n d := by unfold dtT; dsimp only; grind
    omega
  · rename_i h
    exact ⟨by omega, .inl rfl⟩

theorem vlen_dir {u : T3} (h : Dir u) : 16382 ≤ vlen u.1 u.2.1 u.2.2 ∧ vlen u.1 u.2.1 u.2.2 ≤ 16384 := by
  have hn := h.near
  unfold Dir dtT at h
  unfold nrT at hn
  unfold vlen vdot
  rw [if_pos ⟨hn, hn⟩]
  have x := sq_nonneg u.1; have y := sq_nonneg u.2.1; have z := sq_nonneg u.2.2
  generalize u.1 * u.1 + u.2.1 * u.2.1 + u.2.2 * u.2.2 = n at *
  obtain ⟨s1, s2⟩ := isq_spec n.toNat
  generalize isq n.toNat = L at *
  constructor
  · rcases Nat.lt_or_ge L 16382 with g | g
    · have := Nat.mul_le_mul (show L + 1 ≤ 16382 by omega) (show L + 1 ≤ 16382 by omega); omega
    · omega
  · rcases Nat.lt_or_ge 16384 L with g | g
    · have := Nat.mul_le_mul (show 16385 ≤ L by omega) (show 16385 ≤ L by omega); omega
    · omega
theorem vdot_dir {u v : T3} (hu : Dir u) (hv : Dir v) : vdot u.1 u.2.1 u.2.2 v.1 v.2.1 v.2.2 = dtT u v := by
  unfold vdot dtT
  rw [if_pos ⟨hu.near, hv.near⟩]

end Go.Proofs.Sky
