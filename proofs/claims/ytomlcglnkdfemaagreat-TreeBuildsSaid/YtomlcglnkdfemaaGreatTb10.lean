/- Plain mathematics of layer 11: triangles, and what rays meet. Imports nothing of the translation. Plain mathematics of layer 11, for the triangles as they landed: cross products of sides, sides of a line, hits by a fraction of two volumes. Imports nothing of the translation. Plain mathematics of layer 12: balls, and what rays meet. Imports nothing of the translation. Plain mathematics of layer 12: a direction goes ahead of what it is of; through a ball's middle. Imports nothing of the translation. Plain mathematics of layer 13: things, their boxes, and what rays meet. Imports nothing of the translation. Plain mathematics of layer 16: trees of boxes in flat lists; a part of one, gone through. Imports nothing of the translation. -/
import Derived.Test.YtomlcglnkdfemaaGreatTb5
import Derived.Test.YtomlcglnkdfemaaGreatTb9


namespace Go.Proofs.Sky
section

section

open Go.RowKit

set_option linter.unusedVariables false

def I3 (v : T3) : Prop := I64 v.1 ∧ I64 v.2.1 ∧ I64 v.2.2

def plc (v : T3) : Bool := wi 524288 v.1 v.2.1 v.2.2

theorem plc_iff {v : T3} : plc v = true ↔ -524288 ≤ v.1 ∧ v.1 ≤ 524288 ∧ -524288 ≤ v.2.1 ∧ v.2.1 ≤ 524288 ∧ -524288 ≤ v.2.2 ∧ v.2.2 ≤ 524288 := by unfold plc; exact wi_iff

def pl3 (a b c : T3) : Bool := plc a && (plc b && plc c)

theorem pl3_iff {a b c : T3} : pl3 a b c = true ↔ plc a = true ∧ plc b = true ∧ plc c = true := by unfold pl3; simp

def sbT (u v : T3) : T3 := (u.1 - v.1, u.2.1 - v.2.1, u.2.2 - v.2.2)

def adT (u v : T3) : T3 := (u.1 + v.1, u.2.1 + v.2.1, u.2.2 + v.2.2)

def ngT (u : T3) : T3 := (-u.1, -u.2.1, -u.2.2)

def crX (u v : T3) : T3 := (u.2.1 * v.2.2 - u.2.2 * v.2.1, u.2.2 * v.1 - u.1 * v.2.2, u.1 * v.2.1 - u.2.1 * v.1)

def vlX (u v w : T3) : Int := u.1 * (v.2.1 * w.2.2 - v.2.2 * w.2.1) + u.2.1 * (v.2.2 * w.1 - v.1 * w.2.2) + u.2.2 * (v.1 * w.2.1 - v.2.1 * w.1)

def upsT (a b c : T3) : T3 := crX (sbT b a) (sbT c a)

def isZ (u : T3) : Bool := decide (u.1 = 0 ∧ u.2.1 = 0 ∧ u.2.2 = 0)

def tFlat (a b c : T3) : Bool := !(pl3 a b c) || isZ (upsT a b c)

def tNorm (a b c : T3) : T3 × Bool := if tFlat a b c = true then ((0, 0, 0), false) else (unT (upsT a b c), okT (upsT a b c))

def tArea (a b c : T3) : Int := if tFlat a b c = true then 0 else (isq (dtT (upsT a b c) (upsT a b c)).toNat : Int)

def tFin (x y z n : Int) : (Int × Int) × Bool := if x < 0 ∨ y < 0 ∨ z < 0 ∨ x + y + z = 0 ∨ n ≤ 0 then ((0, 0), false) else ((n, x + y + z), true)

def tG (x y z n : Int) : (Int × Int) × Bool := if x ≤ 0 ∧ y ≤ 0 ∧ z ≤ 0 then tFin (-x) (-y) (-z) (-n) else tFin x y z n

def tHit (a b c o d : T3) : (Int × Int) × Bool :=
  if pl3 a b c = true ∧ plc o = true ∧ nrT d = true then tG (vlX d (sbT b o) (sbT c o)) (vlX d (sbT c o) (sbT a o)) (vlX d (sbT a o) (sbT b o)) (vlX (sbT a o) (sbT b o) (sbT c o)) else ((0, 0), false)

def c16 (u : Int) : Bool := decide (0 ≤ u ∧ u ≤ 65536)

def tAt (a b c : T3) (u v : Int) : T3 :=
  if pl3 a b c = true ∧ c16 u = true ∧ c16 v = true then
    (if 65536 < u + v then (a.1 + ((b.1 - a.1) * (65536 - u) + (c.1 - a.1) * (65536 - v)) / 65536, a.2.1 + ((b.2.1 - a.2.1) * (65536 - u) + (c.2.1 - a.2.1) * (65536 - v)) / 65536, a.2.2 + ((b.2.2 - a.2.2) * (65536 - u) + (c.2.2 - a.2.2) * (65536 - v)) / 65536)
     else (a.1 + ((b.1 - a.1) * u + (c.1 - a.1) * v) / 65536, a.2.1 + ((b.2.1 - a.2.1) * u + (c.2.1 - a.2.1) * v) / 65536, a.2.2 + ((b.2.2 - a.2.2) * u + (c.2.2 - a.2.2) * v) / 65536))
  else (0, 0, 0)

/-- A point by weights, seen from o. -/
def wayT (u v w : Int) (a b c o : T3) : T3 := (u * a.1 + v * b.1 + w * c.1 - (u + v + w) * o.1, u * a.2.1 + v * b.2.1 + w * c.2.1 - (u + v + w) * o.2.1, u * a.2.2 + v * b.2.2 + w * c.2.2 - (u + v + w) * o.2.2)

end

end
end Go.Proofs.Sky

namespace Go.Proofs.Sky
section

section

open Go.RowKit

set_option linter.unusedVariables false

theorem vsub_pl {x a : Int} (hx : -524288 ≤ x ∧ x ≤ 524288) (ha : -524288 ≤ a ∧ a ≤ 524288) : vsub x a = x - a := by
  unfold vsub sat
  rw [if_neg (by omega), if_neg (by omega), if_neg (by omega), if_neg (by omega)]
  omega

/-- The cross product of the sides from a; zero if a corner is no place. -/
def uprT (a b c : T3) : T3 := if pl3 a b c = true then upsT a b c else (0, 0, 0)

theorem nr_sb {a b : T3} (ha : plc a = true) (hb : plc b = true) : nrT (sbT a b) = true := by
  have q1 := plc_iff.1 ha
  have q2 := plc_iff.1 hb
  unfold nrT sbT
  rw [vnear_iff]
  dsimp only
  omega

theorem vcr_X {u v : T3} (hu : nrT u = true) (hv : nrT v = true) : vcr u.1 u.2.1 u.2.2 v.1 v.2.1 v.2.2 = crX u v := by
  unfold vcr crX
  unfold nrT at hu hv
  rw [if_pos ⟨hu, hv⟩]

theorem flat_upr (a b c : T3) : tFlat a b c = isZ (uprT a b c) := by
  unfold tFlat uprT
  cases pl3 a b c <;> rfl

/-- All on one side, or passed through. -/
def srd (x y z : Int) : Bool := !((decide (x < 0) || decide (y < 0)) || decide (z < 0)) || !((decide (0 < x) || decide (0 < y)) || decide (0 < z))

/-- A hit, out of the three sides and the volume. -/
def tMk (x y z n s : Int) : (Int × Int) × Bool := if fmakeOk n s = true ∧ 0 < (fmake n s).1 ∧ srd x y z = true then (fmake n s, true) else ((0, 0), false)

/-- All of the first n are places. -/
def allp (V : Nat → T3) : Nat → Bool
  | 0 => true
  | k + 1 => allp V k && plc (V k)

theorem allp_no {V : Nat → T3} {k : Nat} (h : plc (V k) = false) : ∀ n, k < n → allp V n = false
  | 0, hk => absurd hk (by omega)
  | n + 1, hk => by
    unfold allp
    by_cases e : k = n
    · subst e; rw [h, Bool.and_false]
    · rw [allp_no h n (by omega), Bool.false_and]

def rw3 (u v t : T3) : Nat → T3 | 0 => u | 1 => v | _ => t

def rw4 (u v t s : T3) : Nat → T3 | 0 => u | 1 => v | 2 => t | _ => s

theorem allp3 (u v t : T3) : allp (rw3 u v t) 3 = pl3 u v t := by
  show (((true && plc u) && plc v) && plc t) = _
  unfold pl3
  cases plc u <;> cases plc v <;> cases plc t <;> rfl

end

end
end Go.Proofs.Sky

namespace Go.Proofs.Sky
section

section

open Go.RowKit

set_option linter.unusedVariables false

def ballR (c : T3) (r : Int) : Bool := plc c && decide (4 ≤ r ∧ r ≤ 262144)

def ballM (c : T3) (r : Int) (o d : T3) : Bool := ballR c r && (plc o && (nrT d && !isZ d))

def ballQ (c : T3) (r : Int) (o : T3) : Int := dtT (sbT o c) (sbT o c) - r * r

def ballD (c : T3) (r : Int) (o d : T3) : Int := dtT (sbT o c) d * dtT (sbT o c) d - dtT d d * ballQ c r o

def ballS (c : T3) (r : Int) (o d : T3) : Int := (isq (ballD c r o d).toNat : Int)

def ballF (a b q s : Int) : (Int × Int) × Bool := if 0 < q ∧ b < 0 then ((-b - s, a), true) else if q ≤ 0 ∧ 0 < s - b then ((s - b, a), true) else ((0, 0), false)

def ballH (c : T3) (r : Int) (o d : T3) : (Int × Int) × Bool :=
  if ballM c r o d = true ∧ 0 ≤ ballD c r o d then ballF (dtT d d) (dtT (sbT o c) d) (ballQ c r o) (ballS c r o d) else ((0, 0), false)

def ballT (c : T3) (r : Int) (o d : T3) : (Int × Int) × Bool :=
  if ballM c r o d = true ∧ dtT (sbT o c) d < 0 then ((-2 * dtT (sbT o c) d, dtT d d), true) else ((0, 0), false)

def ballN (c t : T3) : T3 := if plc c = true ∧ plc t = true ∧ okT (sbT t c) = true then unT (sbT t c) else (0, 0, 16384)

def ballI (c : T3) (r : Int) (t : T3) : Bool := ballR c r && (plc t && decide (dtT (sbT t c) (sbT t c) ≤ r * r))

/-- A ball's equation at the place n by e of the way: how far outside, times e squared. -/
def ballV (a b q n e : Int) : Int := a * n * n + 2 * b * n * e + q * e * e

end

end
end Go.Proofs.Sky

namespace Go.Proofs.Sky
section

section

open Go.RowKit

set_option linter.unusedVariables false

/-- The same side: what is above 0 comes of what is above 0. -/
def Side (u d : Int) : Prop := (0 < u → 0 < d) ∧ (u < 0 → d < 0)

theorem Side.pos {u d : Int} (h : Side u d) (hu : ¬ u = 0) : 0 < u * d := by
  rcases Int.lt_or_gt_of_ne hu with g | g
  · have := h.2 g; rw [← Int.neg_mul_neg]; exact Int.mul_pos (by omega) (by omega)
  · have := h.1 g; exact Int.mul_pos (by omega) (by omega)

theorem ballR_eq (c : T3) (r : Int) : ballR c r = (plc c && (decide (4 ≤ r) && decide (r ≤ 262144))) := by
  unfold ballR; rw [Bool.decide_and]

theorem ballR_iff {c : T3} {r : Int} : ballR c r = true ↔ plc c = true ∧ 4 ≤ r ∧ r ≤ 262144 := by unfold ballR; simp

/-- What the ray meets, by its three numbers. -/
def ballG (a b z : Int) : (Int × Int) × Bool :=
  if 0 ≤ b * b - a * z ∧ 1 ≤ a then ballF a b z (isq (b * b - a * z).toNat : Int) else ((0, 0), false)

end

end
end Go.Proofs.Sky

namespace Go.Proofs.Sky
section

open Go.RowKit

set_option linter.unusedVariables false

structure Pr where
  k : Int
  a : T3
  b : T3
  c : T3
  r : Int
  m : Int

def tri3 (a b c : T3) : Nat → T3 := fun i => if i = 0 then a else if i = 1 then b else c

def pRight (p : Pr) : Bool := decide (0 ≤ p.m ∧ p.m ≤ 63) && (if p.k = 1 then !tFlat p.a p.b p.c && decide (p.r = 0) else decide (p.k = 2) && (ballR p.a p.r && (isZ p.b && isZ p.c)))

def ballB (a : T3) (r : Int) : Bx := ((a.1 - r, a.2.1 - r, a.2.2 - r), (a.1 + r, a.2.1 + r, a.2.2 + r))

def pBox (p : Pr) : Bx := if pRight p = true then (if p.k = 1 then bOf (tri3 p.a p.b p.c) 3 else ballB p.a p.r) else ((0, 0, 0), (0, 0, 0))

def pHit (p : Pr) (ix : Int) (o d : T3) (fr : Int) : (Int × Int) × Bool :=
  if pRight p = true then (if p.k = 1 then (if fr = ix then ((0, 0), false) else tHit p.a p.b p.c o d) else if fr = ix then ballT p.a p.r o d else ballH p.a p.r o d) else ((0, 0), false)

def pNormal (p : Pr) (t : T3) : T3 := if pRight p = true then (if p.k = 2 then ballN p.a t else (tNorm p.a p.b p.c).1) else (0, 0, 0)

def pArea (p : Pr) : Int := if pRight p = true ∧ ¬ p.k = 2 then tArea p.a p.b p.c else 0

def pPoint (p : Pr) (u v : Int) : T3 := if pRight p = true then (if p.k = 2 then p.a else tAt p.a p.b p.c u v) else (0, 0, 0)

def Pr.I (p : Pr) : Prop := I64 p.k ∧ I3 p.a ∧ I3 p.b ∧ I3 p.c ∧ I64 p.r ∧ I64 p.m

theorem pRight_tri {p : Pr} (h : pRight p = true) (hk : p.k = 1) : pl3 p.a p.b p.c = true ∧ isZ (upsT p.a p.b p.c) = false := by
  unfold pRight at h
  rw [if_pos hk] at h
  unfold tFlat at h
  simp only [Bool.and_eq_true, Bool.not_eq_true', Bool.or_eq_false_iff, Bool.not_eq_false'] at h
  exact h.2.1

theorem pRight_ball {p : Pr} (h : pRight p = true) (hk : ¬ p.k = 1) : p.k = 2 ∧ ballR p.a p.r = true := by
  unfold pRight at h
  rw [if_neg hk] at h
  simp only [Bool.and_eq_true, decide_eq_true_eq] at h
  exact ⟨h.2.1, h.2.2.1⟩

theorem plc_near {v : T3} (h : plc v = true) : nrT v = true := by
  rw [plc_iff] at h; rw [nrT_iff]; omega

/-- The box of a triangle, plainly. -/
theorem tri_box {a b c : T3} (h : pl3 a b c = true) : bOf (tri3 a b c) 3 = ((min (min a.1 b.1) c.1, min (min a.2.1 b.2.1) c.2.1, min (min a.2.2 b.2.2) c.2.2), (max (max a.1 b.1) c.1, max (max a.2.1 b.2.1) c.2.1, max (max a.2.2 b.2.2) c.2.2)) := by
  obtain ⟨h1, h2, h3⟩ := pl3_iff.1 h
  have n1 := plc_near h1; have n2 := plc_near h2; have n3 := plc_near h3
  have hok : bOfOk (tri3 a b c) 3 = true := by
    unfold bOfOk
    simp [List.range_succ, tri3, n1, n2, n3]
  have pt : ∀ v : T3, nrT v = true → bRight (v, v) = true := fun v hv => bRight_iff.2 ⟨hv, hv, Int.le_refl _, Int.le_refl _, Int.le_refl _⟩
  have e0 : tri3 a b c 0 = a := rfl
  have e1 : tri3 a b c 1 = b := rfl
  have e2 : tri3 a b c 2 = c := rfl
  unfold bOf
  rw [if_pos hok]
  simp only [bHull, e0, e1, e2]
  simp only [if_true, if_false, Nat.succ_ne_zero]
  rw [bJoin_yes (bJoin_right (pt a n1) (pt b n2)) (pt c n3), bJoin_yes (pt a n1) (pt b n2)]

theorem box_right {p : Pr} (h : pRight p = true) : bRight (pBox p) = true := by
  unfold pBox
  rw [if_pos h]
  by_cases hk : p.k = 1
  · rw [if_pos hk]
    obtain ⟨hp, _⟩ := pRight_tri h hk
    rw [tri_box hp]
    obtain ⟨h1, h2, h3⟩ := pl3_iff.1 hp
    rw [plc_iff] at h1 h2 h3
    rw [bRight_iff, nrT_iff, nrT_iff]
    dsimp only
    omega
  · rw [if_neg hk]
    obtain ⟨_, hr⟩ := pRight_ball h hk
    unfold ballR at hr
    simp only [Bool.and_eq_true, decide_eq_true_eq] at hr
    obtain ⟨h1, h2⟩ := hr
    rw [plc_iff] at h1
    unfold ballB
    rw [bRight_iff, nrT_iff, nrT_iff]
    dsimp only
    omega

end
end Go.Proofs.Sky

namespace Go.Proofs.Sky
section

open Go.RowKit

set_option linter.unusedVariables false

/-- A node: its box; First, Count, Right. -/
abbrev Nd := Bx × Int × Int × Int

/-- What is known of a part: the next node, the next thing, how deep, how many leaves, whether it is ordered. -/
abbrev Pt := Int × Int × Int × Int × Bool

def pt0 : Pt := (0, 0, 0, 0, false)

/-- A part from node i on, the things from th on, gone through (m things in all; the first number: no more nodes than that). -/
def mWalk (ns : List Nd) (m : Int) : Nat → Nat → Int → Pt
  | 0, _, _ => pt0
  | f + 1, i, th =>
    if h : i < ns.length then
      if ns[i].2.2.1 ≠ 0 then
        (if 0 < ns[i].2.2.1 ∧ ns[i].2.1 = th ∧ ns[i].2.2.2 = 0 ∧ ns[i].2.2.1 ≤ m - th then ((i : Int) + 1, th + ns[i].2.2.1, 1, 1, true) else pt0)
      else if ns[i].2.1 ≠ 0 then pt0
      else if (mWalk ns m f (i + 1) th).2.2.2.2 = false ∨ ns[i].2.2.2 ≠ (mWalk ns m f (i + 1) th).1 then pt0
      else if (mWalk ns m f (mWalk ns m f (i + 1) th).1.toNat (mWalk ns m f (i + 1) th).2.1).2.2.2.2 = false then pt0
      else ((mWalk ns m f (mWalk ns m f (i + 1) th).1.toNat (mWalk ns m f (i + 1) th).2.1).1, (mWalk ns m f (mWalk ns m f (i + 1) th).1.toNat (mWalk ns m f (i + 1) th).2.1).2.1,
        1 + max (mWalk ns m f (i + 1) th).2.2.1 (mWalk ns m f (mWalk ns m f (i + 1) th).1.toNat (mWalk ns m f (i + 1) th).2.1).2.2.1,
        (mWalk ns m f (i + 1) th).2.2.2.1 + (mWalk ns m f (mWalk ns m f (i + 1) th).1.toNat (mWalk ns m f (i + 1) th).2.1).2.2.2.1, true)
    else pt0

/-- One step of it. -/
theorem mWalk_out {ns : List Nd} {m th : Int} {f i : Nat} (h : ¬ i < ns.length) : mWalk ns m (f + 1) i th = pt0 := by
  unfold mWalk; rw [dif_neg h]

theorem mWalk_leaf {ns : List Nd} {m th : Int} {f i : Nat} (h : i < ns.length) (hc : ns[i].2.2.1 ≠ 0) :
    mWalk ns m (f + 1) i th = if 0 < ns[i].2.2.1 ∧ ns[i].2.1 = th ∧ ns[i].2.2.2 = 0 ∧ ns[i].2.2.1 ≤ m - th then ((i : Int) + 1, th + ns[i].2.2.1, 1, 1, true) else pt0 := by
  conv => lhs; unfold mWalk
  rw [dif_pos h, if_pos hc]

theorem mWalk_first {ns : List Nd} {m th : Int} {f i : Nat} (h : i < ns.length) (hc : ns[i].2.2.1 = 0) (hf : ns[i].2.1 ≠ 0) : mWalk ns m (f + 1) i th = pt0 := by
  unfold mWalk; rw [dif_pos h, if_neg (by simpa using hc), if_pos hf]

theorem mWalk_node {ns : List Nd} {m th : Int} {f i : Nat} (h : i < ns.length) (hc : ns[i].2.2.1 = 0) (hf : ns[i].2.1 = 0) {a : Pt} (ha : mWalk ns m f (i + 1) th = a) :
    mWalk ns m (f + 1) i th = if a.2.2.2.2 = false ∨ ns[i].2.2.2 ≠ a.1 then pt0 else if (mWalk ns m f a.1.toNat a.2.1).2.2.2.2 = false then pt0 else ((mWalk ns m f a.1.toNat a.2.1).1, (mWalk ns m f a.1.toNat a.2.1).2.1, 1 + max a.2.2.1 (mWalk ns m f a.1.toNat a.2.1).2.2.1, a.2.2.2.1 + (mWalk ns m f a.1.toNat a.2.1).2.2.2.1, true) := by
  subst ha
  conv => lhs; unfold mWalk
  rw [dif_pos h, if_neg (by simpa using hc), if_neg (by simpa using hf)]

/-- A part that is ordered: its bounds. -/
theorem mWalk_in {ns : List Nd} {m : Int} : ∀ (f i : Nat) (th : Int), (mWalk ns m f i th).2.2.2.2 = true →
    (i : Int) < (mWalk ns m f i th).1 ∧ (mWalk ns m f i th).1 ≤ ns.length ∧ th < (mWalk ns m f i th).2.1 ∧ (mWalk ns m f i th).2.1 ≤ m ∧ 1 ≤ (mWalk ns m f i th).2.2.1 ∧ (mWalk ns m f i th).2.2.1 ≤ (mWalk ns m f i th).1 - i ∧ 1 ≤ (mWalk ns m f i th).2.2.2.1 ∧ (mWalk ns m f i th).2.2.2.1 ≤ (mWalk ns m f i th).1 - i
  | 0, i, th, h => by cases h
  | f + 1, i, th, h => by
    by_cases hi : i < ns.length
    · by_cases hc : ns[i].2.2.1 = 0
      · by_cases hf : ns[i].2.1 = 0
        · rw [mWalk_node hi hc hf rfl] at h ⊢
          have ha := mWalk_in (ns := ns) (m := m) f (i + 1) th
          generalize mWalk ns m f (i + 1) th = a at *
          have hb := mWalk_in (ns := ns) (m := m) f a.1.toNat a.2.1
          generalize mWalk ns m f a.1.toNat a.2.1 = b at *
          split at h
          · cases h
          · rename_i h1
            rw [if_neg h1]
            split at h
            · cases h
            · rename_i h2
              rw [if_neg h2]
              have a' := ha (by simpa using fun e => h1 (.inl e))
              have b' := hb (by simpa using h2)
              dsimp only
              omega
        · rw [mWalk_first hi hc hf] at h; cases h
      · rw [mWalk_leaf hi hc] at h ⊢
        split at h
        · rename_i h1
          rw [if_pos h1]
          dsimp only
          omega
        · cases h
    · rw [mWalk_out hi] at h; cases h

/-- It hangs on no more steps than there are nodes left. -/
theorem mWalk_more {ns : List Nd} {m : Int} : ∀ (f g i : Nat) (th : Int), ns.length < i + f → ns.length < i + g → mWalk ns m f i th = mWalk ns m g i th
  | 0, 0, _, _, _, _ => rfl
  | 0, g + 1, i, th, h, _ => by rw [mWalk_out (by omega)]; rfl
  | f + 1, 0, i, th, _, h => by rw [mWalk_out (by omega)]; rfl
  | f + 1, g + 1, i, th, h1, h2 => by
    by_cases hi : i < ns.length
    · by_cases hc : ns[i].2.2.1 = 0
      · by_cases hf : ns[i].2.1 = 0
        · rw [mWalk_node hi hc hf rfl, mWalk_node hi hc hf rfl, mWalk_more f g (i + 1) th (by omega) (by omega)]
          have ha := mWalk_in (ns := ns) (m := m) g (i + 1) th
          generalize mWalk ns m g (i + 1) th = a at *
          by_cases hok : a.2.2.2.2 = false ∨ ns[i].2.2.2 ≠ a.1
          · rw [if_pos hok, if_pos hok]
          · rw [if_neg hok, if_neg hok]
            have a' := ha (by simpa using fun e => hok (.inl e))
            rw [mWalk_more f g a.1.toNat a.2.1 (by omega) (by omega)]
        · rw [mWalk_first hi hc hf, mWalk_first hi hc hf]
      · rw [mWalk_leaf hi hc, mWalk_leaf hi hc]
    · rw [mWalk_out hi, mWalk_out hi]

/-- What is known of all. -/
def mPart (ns : List Nd) (m : Int) (i : Nat) (th : Int) : Pt := mWalk ns m (ns.length + 1 - i) i th

def mWhole (ns : List Nd) (m : Int) : Pt :=
  if ns.length = 0 ∧ m = 0 then (0, 0, 0, 0, true)
  else ((mPart ns m 0 0).1, (mPart ns m 0 0).2.1, (mPart ns m 0 0).2.2.1, (mPart ns m 0 0).2.2.2.1, (mPart ns m 0 0).2.2.2.2 && (decide ((mPart ns m 0 0).1 = ns.length) && decide ((mPart ns m 0 0).2.1 = m)))

def mDeep (ns : List Nd) (m : Int) : Int := if (mWhole ns m).2.2.2.2 = true then (mWhole ns m).2.2.1 else 0

def mLeaves (ns : List Nd) (m : Int) : Int := if (mWhole ns m).2.2.2.2 = true then (mWhole ns m).2.2.2.1 else 0

-- growing

/-- The least box around the first i, the first one twice. -/
def bAll (V : Nat → Bx) : Nat → Bx
  | 0 => V 0
  | i + 1 => bJoin (bAll V i) (V i)

theorem bAll_succ (V : Nat → Bx) (i : Nat) : bAll V (i + 1) = bJoin (bAll V i) (V i) := rfl

theorem bAll_right {V : Nat → Bx} {n : Nat} (h : ∀ k, k < n → bRight (V k) = true) (h0 : bRight (V 0) = true) : ∀ i, i ≤ n → bRight (bAll V i) = true
  | 0, _ => h0
  | i + 1, hi => by rw [bAll_succ]; exact bJoin_right (bAll_right h h0 i (by omega)) (h i (by omega))

/-- The boxes of some things. -/
def wBox (P : Nat → Pr) (which : List Nat) (i : Nat) : Bx := pBox (P (which.getD i 0))

def wSplit (P : Nat → Pr) (which : List Nat) : Sp × Bool := bBest (wBox P which) which.length

def wLeft (P : Nat → Pr) (which : List Nat) : List Nat := ix (isL (wSplit P which).1.1 (wSplit P which).1.2.2.1 (wSplit P which).1.2.2.2 (wSplit P which).1.2.1) (wBox P which) which.length

def wRight (P : Nat → Pr) (which : List Nat) : List Nat := ix (fun b => !isL (wSplit P which).1.1 (wSplit P which).1.2.2.1 (wSplit P which).1.2.2.2 (wSplit P which).1.2.1 b) (wBox P which) which.length

def wAt (which some : List Nat) : List Nat := some.map (fun i => which.getD i 0)

def wEnds (P : Nat → Pr) (which : List Nat) : Bool := decide (which.length ≤ 2) || !(wSplit P which).2

/-- The nodes and the order of a part that stands behind k nodes and o things. -/
def mGrow (P : Nat → Pr) : Nat → List Nat → Nat → Nat → List Nd × List Nat
  | 0, _, _, _ => ([], [])
  | f + 1, which, k, o =>
    if wEnds P which = true then ([(bAll (wBox P which) which.length, (o : Int), (which.length : Int), 0)], which)
    else
      ((bAll (wBox P which) which.length, 0, 0, ((k + 1 + (mGrow P f (wAt which (wLeft P which)) (k + 1) o).1.length : Nat) : Int)) :: ((mGrow P f (wAt which (wLeft P which)) (k + 1) o).1 ++ (mGrow P f (wAt which (wRight P which)) (k + 1 + (mGrow P f (wAt which (wLeft P which)) (k + 1) o).1.length) (o + (mGrow P f (wAt which (wLeft P which)) (k + 1) o).2.length)).1),
       (mGrow P f (wAt which (wLeft P which)) (k + 1) o).2 ++ (mGrow P f (wAt which (wRight P which)) (k + 1 + (mGrow P f (wAt which (wLeft P which)) (k + 1) o).1.length) (o + (mGrow P f (wAt which (wLeft P which)) (k + 1) o).2.length)).2)

theorem wAt_len (which some : List Nat) : (wAt which some).length = some.length := by unfold wAt; simp

theorem mGrow_leaf {P : Nat → Pr} {f : Nat} {which : List Nat} {k o : Nat} (h : wEnds P which = true) : mGrow P (f + 1) which k o = ([(bAll (wBox P which) which.length, (o : Int), (which.length : Int), 0)], which) := by
  unfold mGrow; rw [if_pos h]

theorem mGrow_node {P : Nat → Pr} {f : Nat} {which : List Nat} {k o : Nat} (h : wEnds P which = false) {a b : List Nd × List Nat} (ha : mGrow P f (wAt which (wLeft P which)) (k + 1) o = a) (hb : mGrow P f (wAt which (wRight P which)) (k + 1 + a.1.length) (o + a.2.length) = b) :
    mGrow P (f + 1) which k o = ((bAll (wBox P which) which.length, 0, 0, ((k + 1 + a.1.length : Nat) : Int)) :: (a.1 ++ b.1), a.2 ++ b.2) := by
  subst ha
  subst hb
  conv => lhs; unfold mGrow
  rw [if_neg (by rw [h]; simp)]

/-- Both parts of a split part are less. -/
theorem wSplit_less {P : Nat → Pr} {which : List Nat} (h : wEnds P which = false) : 0 < (wLeft P which).length ∧ 0 < (wRight P which).length ∧ (wLeft P which).length + (wRight P which).length = which.length := by
  unfold wEnds at h
  rw [Bool.or_eq_false_iff] at h
  have hs : (wSplit P which).2 = true := by simpa using h.2
  have hb := ix_both (isL (wSplit P which).1.1 (wSplit P which).1.2.2.1 (wSplit P which).1.2.2.2 (wSplit P which).1.2.1) (wBox P which) which.length
  rcases bBest_spec (wBox P which) which.length with e | ⟨a, k, ha, e, hlt, hok, _⟩
  · unfold wSplit at hs; rw [e] at hs; cases hs
  · have e' : wSplit P which = (((a : Int), (k : Int), mnV (wBox P which) which.length a, mxV (wBox P which) which.length a), true) := e
    have hk := (sOk_iff.1 hok).2.2
    rw [← ix_len, ← ix_len] at hk
    unfold wLeft wRight
    rw [e'] at hb ⊢
    dsimp only at hb ⊢
    exact ⟨Nat.pos_of_ne_zero hk.1, Nat.pos_of_ne_zero hk.2, hb⟩

theorem mGrow_len {P : Nat → Pr} : ∀ (f : Nat) (which : List Nat) (k o : Nat), which.length ≤ f → 0 < which.length → (mGrow P f which k o).2.length = which.length ∧ (mGrow P f which k o).1.length + 1 ≤ 2 * which.length ∧ 0 < (mGrow P f which k o).1.length
  | 0, which, k, o, h, h0 => by omega
  | f + 1, which, k, o, h, h0 => by
    cases he : wEnds P which with
    | true => rw [mGrow_leaf he]; exact ⟨rfl, by simp; omega, by simp⟩
    | false =>
      rw [mGrow_node he rfl rfl]
      obtain ⟨h1, h2, h3⟩ := wSplit_less he
      have ha := mGrow_len (P := P) f (wAt which (wLeft P which)) (k + 1) o (by rw [wAt_len]; omega) (by rw [wAt_len]; omega)
      generalize mGrow P f (wAt which (wLeft P which)) (k + 1) o = a at *
      have hb := mGrow_len (P := P) f (wAt which (wRight P which)) (k + 1 + a.1.length) (o + a.2.length) (by rw [wAt_len]; omega) (by rw [wAt_len]; omega)
      generalize mGrow P f (wAt which (wRight P which)) (k + 1 + a.1.length) (o + a.2.length) = b at *
      rw [wAt_len] at ha hb
      simp only [List.length_append, List.length_cons]
      omega

theorem wAt_mem {which some : List Nat} {j : Nat} (hs : ∀ i ∈ some, i < which.length) (h : j ∈ wAt which some) : j ∈ which := by
  unfold wAt at h
  obtain ⟨i, hi, rfl⟩ := List.mem_map.1 h
  have := hs i hi
  rw [List.getD_eq_getElem?_getD, List.getElem?_eq_getElem this]
  exact List.getElem_mem _

def pAll (P : Nat → Pr) (n : Nat) : Bool := (List.range n).all (fun k => pRight (P k))

/-- The tree of n things. -/
def mBuild (P : Nat → Pr) (n : Nat) : List Nd × List Nat := if 0 < n ∧ n ≤ 1024 ∧ pAll P n = true then mGrow P n (List.range n) 0 0 else ([], [])

end
end Go.Proofs.Sky
