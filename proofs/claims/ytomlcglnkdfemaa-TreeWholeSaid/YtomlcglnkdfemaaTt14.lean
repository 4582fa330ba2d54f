/- Plain mathematics of layer 10: boxes, and what rays meet. Imports nothing of the translation. Plain mathematics of layer 10: intervals of times, and that a ray meets a box just if the three axes' intervals share a time. Imports nothing of the translation. Plain mathematics of layer 12: balls, and what rays meet. Imports nothing of the translation. Plain mathematics of layer 12: a direction goes ahead of what it is of; through a ball's middle. Imports nothing of the translation. Contracts of the document's own answers, layer 12 (all but Hit). Contracts of the document's own answers, layer 12: Inside, Hit. Contracts of the document's own answers, layer 12: times. Contracts of the document's own answers, layer 12: Value. Plain mathematics of layer 13: things, their boxes, and what rays meet. Imports nothing of the translation. -/
import Derived.Test.YtomlcglnkdfemaaTt7
import Derived.Test.YtomlcglnkdfemaaTt4
import Derived.Test.YtomlcglnkdfemaaTt12
import Derived.Test.YtomlcglnkdfemaaTt13
import Derived.Test.YtomlcglnkdfemaaTt1
import Derived.Deep.DeepCutAuto


namespace Go.Proofs.Sky
section

section

open Go.RowKit

set_option linter.unusedVariables false

abbrev Bx := T3 × T3

def bRight (b : Bx) : Bool := nrT b.1 && (nrT b.2 && decide (b.1.1 ≤ b.2.1 ∧ b.1.2.1 ≤ b.2.2.1 ∧ b.1.2.2 ≤ b.2.2.2))

def bJoin (a b : Bx) : Bx := if bRight a = true ∧ bRight b = true then ((min a.1.1 b.1.1, min a.1.2.1 b.1.2.1, min a.1.2.2 b.1.2.2), (max a.2.1 b.2.1, max a.2.2.1 b.2.2.1, max a.2.2.2 b.2.2.2)) else ((0, 0, 0), (0, 0, 0))

def bHas (b : Bx) (v : T3) : Bool := bRight b && decide (b.1.1 ≤ v.1 ∧ v.1 ≤ b.2.1 ∧ b.1.2.1 ≤ v.2.1 ∧ v.2.1 ≤ b.2.2.1 ∧ b.1.2.2 ≤ v.2.2 ∧ v.2.2 ≤ b.2.2.2)

def bArea (b : Bx) : Int := if bRight b = true then (b.2.1 - b.1.1) * (b.2.2.1 - b.1.2.1) + (b.2.2.1 - b.1.2.1) * (b.2.2.2 - b.1.2.2) + (b.2.2.2 - b.1.2.2) * (b.2.1 - b.1.1) else 0

def crd (v : T3) (axis : Int) : Int := if axis = 0 then v.1 else if axis = 1 then v.2.1 else v.2.2

def bMid (b : Bx) (axis : Int) : Int := if bRight b = true ∧ 0 ≤ axis ∧ axis ≤ 2 then crd b.1 axis + crd b.2 axis else 0

def gro (x n : Int) : Int := hold (x + n) (-1048576) 1048576

def bGrow (b : Bx) (n : Int) : Bx := if bRight b = true ∧ 0 ≤ n ∧ n ≤ 16 then ((gro b.1.1 (-n), gro b.1.2.1 (-n), gro b.1.2.2 (-n)), (gro b.2.1 n, gro b.2.2.1 n, gro b.2.2.2 n)) else ((0, 0, 0), (0, 0, 0))

/-- The least box with the first k vectors. -/
def bHull (V : Nat → T3) : Nat → Bx
  | 0 => ((0, 0, 0), (0, 0, 0))
  | k + 1 => if k = 0 then (V 0, V 0) else bJoin (bHull V k) (V k, V k)

def bOfOk (V : Nat → T3) (n : Nat) : Bool := decide (0 < n) && (List.range n).all (fun k => nrT (V k))

def bOf (V : Nat → T3) (n : Nat) : Bx := if bOfOk V n = true then bHull V n else ((0, 0, 0), (0, 0, 0))

/-- At time p / q the ray from o along d lies between the faces, on one axis. -/
def onAx (lo hi o d p q : Int) : Prop := lo * q ≤ o * q + d * p ∧ o * q + d * p ≤ hi * q

/-- The ray meets the box up to n / m (without a limit for m below 1). -/
def hits (b : Bx) (o d : T3) (n m : Int) : Prop :=
  ∃ p q : Int, 1 ≤ q ∧ 0 ≤ p ∧ (1 ≤ m → p * m ≤ n * q) ∧ onAx b.1.1 b.2.1 o.1 d.1 p q ∧ onAx b.1.2.1 b.2.2.1 o.2.1 d.2.1 p q ∧ onAx b.1.2.2 b.2.2.2 o.2.2 d.2.2 p q

noncomputable def bHit (b : Bx) (o d : T3) (n m : Int) : Bool := @decide (bRight b = true ∧ nrT o = true ∧ nrT d = true ∧ hits b o d n m) (Classical.propDecidable _)

/-- A box, as six numbers. -/
def bx6 (b : Bx) : Array Value := #[.int .i64 b.1.1, .int .i64 b.1.2.1, .int .i64 b.1.2.2, .int .i64 b.2.1, .int .i64 b.2.2.1, .int .i64 b.2.2.2]

theorem bRight_iff {b : Bx} : bRight b = true ↔ (nrT b.1 = true ∧ nrT b.2 = true ∧ b.1.1 ≤ b.2.1 ∧ b.1.2.1 ≤ b.2.2.1 ∧ b.1.2.2 ≤ b.2.2.2) := by
  unfold bRight; simp [Bool.and_eq_true]

theorem nrT_iff {v : T3} : nrT v = true ↔ -1048576 ≤ v.1 ∧ v.1 ≤ 1048576 ∧ -1048576 ≤ v.2.1 ∧ v.2.1 ≤ 1048576 ∧ -1048576 ≤ v.2.2 ∧ v.2.2 ≤ 1048576 := by
  unfold nrT; exact vnear_iff

theorem bJoin_yes {a b : Bx} (ha : bRight a = true) (hb : bRight b = true) : bJoin a b = ((min a.1.1 b.1.1, min a.1.2.1 b.1.2.1, min a.1.2.2 b.1.2.2), (max a.2.1 b.2.1, max a.2.2.1 b.2.2.1, max a.2.2.2 b.2.2.2)) := by
  unfold bJoin; rw [if_pos ⟨ha, hb⟩]

theorem bJoin_right {a b : Bx} (ha : bRight a = true) (hb : bRight b = true) : bRight (bJoin a b) = true := by
  rw [bJoin_yes ha hb]
  rw [bRight_iff, nrT_iff, nrT_iff] at *
  dsimp only
  omega

end

end
end Go.Proofs.Sky

namespace Go.Proofs.Sky
section

section

open Go.RowKit

set_option linter.unusedVariables false

/-- From the first fraction on, up to the last one (no end, where that is none). -/
abbrev Iv := (Int × Int) × (Int × Int)

def ivLater (a b : Int × Int) : Int × Int := if fless a.1 a.2 b.1 b.2 = true then b else a

def ivEarlier (a b : Int × Int) : Int × Int := if a.2 < 1 ∨ fless b.1 b.2 a.1 a.2 = true then b else a

def ivShared (i o : Iv) : Iv := (ivLater i.1 o.1, ivEarlier i.2 o.2)

def ivEmpty (i : Iv) : Bool := fless i.2.1 i.2.2 i.1.1 i.1.2

def btw (lo hi way : Int) : Iv := if way = 0 then (if 0 < lo ∨ hi < 0 then ((1, 1), (0, 1)) else ((0, 1), (0, 0))) else if way < 0 then ((-hi, -way), (-lo, -way)) else ((lo, way), (hi, way))

/-- p / q lies in it. -/
def Inn (i : Iv) (p q : Int) : Prop := i.1.1 * q ≤ p * i.1.2 ∧ (1 ≤ i.2.2 → p * i.2.2 ≤ i.2.1 * q)

def ivInts (i : Iv) : Prop := I64 i.1.1 ∧ I64 i.1.2 ∧ I64 i.2.1 ∧ I64 i.2.2

def iv4 (i : Iv) : Array Value := #[.int .i64 i.1.1, .int .i64 i.1.2, .int .i64 i.2.1, .int .i64 i.2.2]

/-- What is left behind some axes. -/
def ivFold (i : Iv) (l : List Iv) : Iv := l.foldl ivShared i

/-- The three axes' intervals. -/
def ivs (b : Bx) (o d : T3) : List Iv := [btw (b.1.1 - o.1) (b.2.1 - o.1) d.1, btw (b.1.2.1 - o.2.1) (b.2.2.1 - o.2.1) d.2.1, btw (b.1.2.2 - o.2.2) (b.2.2.2 - o.2.2) d.2.2]

end

end
end Go.Proofs.Sky

namespace Go.Proofs.Sky
section

section

open Go.RowKit

set_option linter.unusedVariables false

def ballR (c : T3) (r : Int) : Bool := plc c && decide (4 ≤ r ∧ r ≤ 262144)

def ballM (c : T3) (r : Int) (o d : T3) : Bool := ballR c r && (plc o && (nrT d && !isZ d))

def ballQ (c : T3) (r : Int) (o : T3) : Int := dtT (sbT o c) (sbT o c) - r * r

def ballD (c : T3) (r : Int) (o d : T3) : Int := dtT (sbT o c) d * dtT (sbT o c) d - dtT d d * ballQ c r o

def ballS (c : T3) (r : Int) (o d : T3) : Int := (isq (ballD c r o d).toNat : Int)

def ballF (a b q s : Int) : (Int × Int) × Bool := if 0 < q ∧ b < 0 then ((-b - s, a), true) else if q ≤ 0 ∧ 0 < s - b then ((s - b, a), true) else ((0, 0), false)

def ballH (c : T3) (r : Int) (o d : T3) : (Int × Int) × Bool :=
  if ballM c r o d = true ∧ 0 ≤ ballD c r o d then ballF (dtT d d) (dtT (sbT o c) d) (ballQ c r o) (ballS c r o d) else ((0, 0), false)

def ballT (c : T3) (r : Int) (o d : T3) : (Int × Int) × Bool :=
  if ballM c r o d = true ∧ dtT (sbT o c) d < 0 then ((-2 * dtT (sbT o c) d, dtT d d), true) else ((0, 0), false)

def ballN (c t : T3) : T3 := if plc c = true ∧ plc t = true ∧ okT (sbT t c) = true then unT (sbT t c) else (0, 0, 16384)

def ballI (c : T3) (r : Int) (t : T3) : Bool := ballR c r && (plc t && decide (dtT (sbT t c) (sbT t c) ≤ r * r))

/-- A ball's equation at the place n by e of the way: how far outside, times e squared. -/
def ballV (a b q n e : Int) : Int := a * n * n + 2 * b * n * e + q * e * e

end

end
end Go.Proofs.Sky

namespace Go.Proofs.Sky
section

section

open Go.RowKit

set_option linter.unusedVariables false

/-- The same side: what is above 0 comes of what is above 0. -/
def Side (u d : Int) : Prop := (0 < u → 0 < d) ∧ (u < 0 → d < 0)

theorem Side.pos {u d : Int} (h : Side u d) (hu : ¬ u = 0) : 0 < u * d := by
  rcases Int.lt_or_gt_of_ne hu with g | g
  · have := h.2 g; rw [← Int.neg_mul_neg]; exact Int.mul_pos (by omega) (by omega)
  · have := h.1 g; exact Int.mul_pos (by omega) (by omega)

theorem ballR_eq (c : T3) (r : Int) : ballR c r = (plc c && (decide (4 ≤ r) && decide (r ≤ 262144))) := by
  unfold ballR; rw [Bool.decide_and]

theorem ballR_iff {c : T3} {r : Int} : ballR c r = true ↔ plc c = true ∧ 4 ≤ r ∧ r ≤ 262144 := by unfold ballR; simp

/-- What the ray meets, by its three numbers. -/
def ballG (a b z : Int) : (Int × Int) × Bool :=
  if 0 ≤ b * b - a * z ∧ 1 ≤ a then ballF a b z (isq (b * b - a * z).toNat : Int) else ((0, 0), false)

end

end
end Go.Proofs.Sky

namespace Go.Proofs.Ytomlcglnkdfemaa
section

section

open Go.RowKit Go.Proofs.Sky

set_option linter.unusedVariables false

set_option maxRecDepth 100000 in
set_option maxHeartbeats 8000000 in
theorem ref12_Right (c1 c2 c3 r : Int) (w : World) :
    Calls Try.prog 41 #[.agg #[.int .i64 c1, .int .i64 c2, .int .i64 c3], .int .i64 r] w fun en w' => en = .returned (.bool (ballR (c1, c2, c3) r)) ∧ Below w.heap.size w w' := by
  have KP := Lib.hid (fun w => ref11_Place c1 c2 c3 w)
  rw [ballR_eq]
  generalize plc (c1, c2, c3) = e1 at *
  obtain ⟨e2, h2⟩ : ∃ e, e = decide (4 ≤ r) := ⟨_, rfl⟩
  obtain ⟨e3, h3⟩ : ∃ e, e = decide (r ≤ 262144) := ⟨_, rfl⟩
  rw [← h2, ← h3]
  replace h2 := h2.symm
  replace h3 := h3.symm
  go_enter Try.func41, Try.ntmps41
  go_upto_region 1 with (fail)
  obtain ⟨W1, hW1⟩ : ∃ W, W = w.alloc (.cells #[.int .i64 c1, .int .i64 c2, .int .i64 c3] 39) := ⟨_, rfl⟩
  obtain ⟨k_c, B1⟩ := st1 hW1
  rw [← hW1]
  clear hW1
  obtain ⟨c_c_0, c_c_1, c_c_2⟩ := bwc3 (k_c)
  obtain ⟨p1, hp1⟩ : ∃ p : BW W1, p.w = W1 := ⟨BW.start W1, rfl⟩
  rw [← hp1]
  clear hp1
  rcases e1 with _ | _ <;> rcases e2 with _ | _ <;> rcases e3 with _ | _
  all_goals
    go_wp2_with (first
      | (go_at_call 56; (first | (with_reducible refine (bw_call KP.out _).mono ?_)); rintro e w' ⟨rfl, q, rfl⟩))
    go_ret
    exact ⟨rfl, bw_below B1 _⟩

end

end
end Go.Proofs.Ytomlcglnkdfemaa

namespace Go.Proofs.Ytomlcglnkdfemaa
section

section

open Go.RowKit Go.Proofs.Sky

set_option linter.unusedVariables false

end

end
end Go.Proofs.Ytomlcglnkdfemaa

namespace Go.Proofs.Ytomlcglnkdfemaa
section

section

open Go.RowKit Go.Proofs.Sky

set_option linter.unusedVariables false

end

end
end Go.Proofs.Ytomlcglnkdfemaa

namespace Go.Proofs.Ytomlcglnkdfemaa
section

section

open Go.RowKit Go.Proofs.Sky

set_option linter.unusedVariables false

end

end
end Go.Proofs.Ytomlcglnkdfemaa

namespace Go.Proofs.Sky
section

open Go.RowKit

set_option linter.unusedVariables false

structure Pr where
  k : Int
  a : T3
  b : T3
  c : T3
  r : Int
  m : Int

def tri3 (a b c : T3) : Nat → T3 := fun i => if i = 0 then a else if i = 1 then b else c

def pRight (p : Pr) : Bool := decide (0 ≤ p.m ∧ p.m ≤ 63) && (if p.k = 1 then !tFlat p.a p.b p.c && decide (p.r = 0) else decide (p.k = 2) && (ballR p.a p.r && (isZ p.b && isZ p.c)))

def ballB (a : T3) (r : Int) : Bx := ((a.1 - r, a.2.1 - r, a.2.2 - r), (a.1 + r, a.2.1 + r, a.2.2 + r))

def pBox (p : Pr) : Bx := if pRight p = true then (if p.k = 1 then bOf (tri3 p.a p.b p.c) 3 else ballB p.a p.r) else ((0, 0, 0), (0, 0, 0))

def pHit (p : Pr) (ix : Int) (o d : T3) (fr : Int) : (Int × Int) × Bool :=
  if pRight p = true then (if p.k = 1 then (if fr = ix then ((0, 0), false) else tHit p.a p.b p.c o d) else if fr = ix then ballT p.a p.r o d else ballH p.a p.r o d) else ((0, 0), false)

def pNormal (p : Pr) (t : T3) : T3 := if pRight p = true then (if p.k = 2 then ballN p.a t else (tNorm p.a p.b p.c).1) else (0, 0, 0)

def pArea (p : Pr) : Int := if pRight p = true ∧ ¬ p.k = 2 then tArea p.a p.b p.c else 0

def pPoint (p : Pr) (u v : Int) : T3 := if pRight p = true then (if p.k = 2 then p.a else tAt p.a p.b p.c u v) else (0, 0, 0)

def Pr.I (p : Pr) : Prop := I64 p.k ∧ I3 p.a ∧ I3 p.b ∧ I3 p.c ∧ I64 p.r ∧ I64 p.m

theorem pRight_tri {p : Pr} (h : pRight p = true) (hk : p.k = 1) : pl3 p.a p.b p.c = true ∧ isZ (upsT p.a p.b p.c) = false := by
  unfold pRight at h
  rw [if_pos hk] at h
  unfold tFlat at h
  simp only [Bool.and_eq_true, Bool.not_eq_true', Bool.or_eq_false_iff, Bool.not_eq_false'] at h
  exact h.2.1

theorem pRight_ball {p : Pr} (h : pRight p = true) (hk : ¬ p.k = 1) : p.k = 2 ∧ ballR p.a p.r = true := by
  unfold pRight at h
  rw [if_neg hk] at h
  simp only [Bool.and_eq_true, decide_eq_true_eq] at h
  exact ⟨h.2.1, h.2.2.1⟩

theorem plc_near {v : T3} (h : plc v = true) : nrT v = true := by
  rw [plc_iff] at h; rw [nrT_iff]; omega

/-- The box of a triangle, plainly. -/
theorem tri_box {a b c : T3} (h : pl3 a b c = true) : bOf (tri3 a b c) 3 = ((min (min a.1 b.1) c.1, min (min a.2.1 b.2.1) c.2.1, min (min a.2.2 b.2.2) c.2.2), (max (max a.1 b.1) c.1, max (max a.2.1 b.2.1) c.2.1, max (max a.2.2 b.2.2) c.2.2)) := by
  obtain ⟨h1, h2, h3⟩ := pl3_iff.1 h
  have n1 := plc_near h1; have n2 := plc_near h2; have n3 := plc_near h3
  have hok : bOfOk (tri3 a b c) 3 = true := by
    unfold bOfOk
    simp [List.range_succ, tri3, n1, n2, n3]
  have pt : ∀ v : T3, nrT v = true → bRight (v, v) = true := fun v hv => bRight_iff.2 ⟨hv, hv, Int.le_refl _, Int.le_refl _, Int.le_refl _⟩
  have e0 : tri3 a b c 0 = a := rfl
  have e1 : tri3 a b c 1 = b := rfl
  have e2 : tri3 a b c 2 = c := rfl
  unfold bOf
  rw [if_pos hok]
  simp only [bHull, e0, e1, e2]
  simp only [if_true, if_false, Nat.succ_ne_zero]
  rw [bJoin_yes (bJoin_right (pt a n1) (pt b n2)) (pt c n3), bJoin_yes (pt a n1) (pt b n2)]

theorem box_right {p : Pr} (h : pRight p = true) : bRight (pBox p) = true := by
  unfold pBox
  rw [if_pos h]
  by_cases hk : p.k = 1
  · rw [if_pos hk]
    obtain ⟨hp, _⟩ := pRight_tri h hk
    rw [tri_box hp]
    obtain ⟨h1, h2, h3⟩ := pl3_iff.1 hp
    rw [plc_iff] at h1 h2 h3
    rw [bRight_iff, nrT_iff, nrT_iff]
    dsimp only
    omega
  · rw [if_neg hk]
    obtain ⟨_, hr⟩ := pRight_ball h hk
    unfold ballR at hr
    simp only [Bool.and_eq_true, decide_eq_true_eq] at hr
    obtain ⟨h1, h2⟩ := hr
    rw [plc_iff] at h1
    unfold ballB
    rw [bRight_iff, nrT_iff, nrT_iff]
    dsimp only
    omega

end
end Go.Proofs.Sky
