/- Plain mathematics of layer 5: sines by Bhaskara's rule, rounded down. Words for memory: three numbers in a row. Imports nothing of the translation. Plain mathematics of layer 7: bases. Imports nothing of the translation. Plain mathematics of layer 10: boxes, and what rays meet. Imports nothing of the translation. Plain mathematics of layer 10: intervals of times, and that a ray meets a box just if the three axes' intervals share a time. Imports nothing of the translation. Plain mathematics of layer 11: triangles, and what rays meet. Imports nothing of the translation. Plain mathematics of layer 11, for the triangles as they landed: cross products of sides, sides of a line, hits by a fraction of two volumes. Imports nothing of the translation. -/
import Derived.Test.YtneacfhoinaeeaaMa2
import Derived.Lib.Hide
import Derived.Test.YtneacfhoinaeeaaMa5
import Derived.Test.YtneacfhoinaeeaaMa1
import Derived.Test.YtneacfhoinaeeaaMa6


namespace Go.Proofs.Sky
section

open Go.RowKit

set_option linter.unusedVariables false

/-- The sine of q in the first half turn (0 to 32767), as a number of 0 to 16384. -/
def sinq (q : Int) : Int := 262144 * (q * (32768 - q)) / (5368709120 - 4 * (q * (32768 - q)))

def sinI (h : Int) : Int := if h % 65536 < 32768 then sinq (h % 65536) else -sinq (h % 65536 - 32768)

def cosI (h : Int) : Int := sinI (h + 16384)

theorem sinq_a {q : Int} (h0 : 0 ≤ q) (h1 : q ≤ 32768) : 0 ≤ q * (32768 - q) ∧ q * (32768 - q) ≤ 268435456 := by
  refine ⟨Int.mul_nonneg h0 (by omega), ?_⟩
  have e : q * (32768 - q) = 268435456 - (q - 16384) * (q - 16384) := by
    rw [Int.mul_sub, Int.sub_mul, Int.mul_sub, Int.mul_sub]; omega
  have : 0 ≤ (q - 16384) * (q - 16384) := by
    rcases Int.le_total 0 (q - 16384) with h | h
    · exact Int.mul_nonneg h h
    · exact Int.mul_nonneg_of_nonpos_of_nonpos h h
  omega

theorem sinq_range {q : Int} (h0 : 0 ≤ q) (h1 : q ≤ 32768) : 0 ≤ sinq q ∧ sinq q ≤ 16384 := by
  obtain ⟨a0, a1⟩ := sinq_a h0 h1
  unfold sinq
  generalize q * (32768 - q) = a at *
  refine ⟨Int.ediv_nonneg (by omega) (by omega), ?_⟩
  have : 262144 * a / (5368709120 - 4 * a) < 16385 := by
    rw [Int.ediv_lt_iff_lt_mul (by omega)]; omega
  omega

theorem sinI_range (h : Int) : -16384 ≤ sinI h ∧ sinI h ≤ 16384 := by
  unfold sinI
  split
  · have := @sinq_range (h % 65536) (by omega) (by omega); omega
  · have := @sinq_range (h % 65536 - 32768) (by omega) (by omega); omega

theorem sinI_congr {g h : Int} (e : g % 65536 = h % 65536) : sinI g = sinI h := by unfold sinI; rw [e]

theorem cosI_range (h : Int) : -16384 ≤ cosI h ∧ cosI h ≤ 16384 := sinI_range _

/-- Both squared, over the first quarter: reckoned. -/
def sqOk (m : Nat) : Bool :=
  let s := 262144 * (m * (32768 - m)) / (5368709120 - 4 * (m * (32768 - m)))
  let k := 16384 - m
  let c := 262144 * (k * (32768 - k)) / (5368709120 - 4 * (k * (32768 - k)))
  decide (265751102 ≤ s * s + c * c ∧ s * s + c * c ≤ 271119810)

def sqI (h : Int) : Int := cosI h * cosI h + sinI h * sinI h

end
end Go.Proofs.Sky

namespace Go.Proofs.Sky
section

open Go.RowKit

set_option linter.unusedVariables false

/-- A block of three cells, all of them written. -/
theorem Bk.put3 {w : World} {g : Nat} {t : TypeId} {a b c : Value} (h : Bk w g t #[a, b, c]) (u v x : Value) :
    (((w.setCell ⟨g, 0, none⟩ u).setCell ⟨g, 1, none⟩ v).setCell ⟨g, 2, none⟩ x).cell? ⟨g, 0, none⟩ = some u ∧
    (((w.setCell ⟨g, 0, none⟩ u).setCell ⟨g, 1, none⟩ v).setCell ⟨g, 2, none⟩ x).cell? ⟨g, 1, none⟩ = some v ∧
    (((w.setCell ⟨g, 0, none⟩ u).setCell ⟨g, 1, none⟩ v).setCell ⟨g, 2, none⟩ x).cell? ⟨g, 2, none⟩ = some x ∧
    Bk (((w.setCell ⟨g, 0, none⟩ u).setCell ⟨g, 1, none⟩ v).setCell ⟨g, 2, none⟩ x) g t #[u, v, x] := by
  have k : Bk (((w.setCell ⟨g, 0, none⟩ u).setCell ⟨g, 1, none⟩ v).setCell ⟨g, 2, none⟩ x) g t #[u, v, x] := ((h.set 0 u).set 1 v).set 2 x
  exact ⟨k.cell rfl, k.cell rfl, k.cell rfl, k⟩

theorem bw_take {wb w1 : World} {p : BW wb} (hb : Below p.w.heap.size p.w w1) : ∃ q : BW wb, w1 = q.w := ⟨p.next w1 hb, rfl⟩

theorem bw_take_drew {wb w1 : World} {p : BW wb} (hb : Below p.w.drew.heap.size p.w.drew w1) : ∃ q : BW wb, w1 = q.w := ⟨p.next w1 ⟨hb.os, hb.tape, hb.output, hb.size, hb.block⟩, rfl⟩

end
end Go.Proofs.Sky

namespace Go.Proofs.Sky
section

open Go.RowKit

set_option linter.unusedVariables false

abbrev T3 := Int × Int × Int

def crT (u v : T3) : T3 := vcr u.1 u.2.1 u.2.2 v.1 v.2.1 v.2.2

def unT (u : T3) : T3 := vunit u.1 u.2.1 u.2.2

def okT (u : T3) : Bool := vuOk u.1 u.2.1 u.2.2

def dtT (u v : T3) : Int := u.1 * v.1 + u.2.1 * v.2.1 + u.2.2 * v.2.2

def nrT (u : T3) : Bool := vnear u.1 u.2.1 u.2.2

def absSum (u : T3) : Nat := u.1.natAbs + u.2.1.natAbs + u.2.2.natAbs

/-- Small ones: no coordinate beyond 16385. -/
def smT (u : T3) : Prop := (-16385 ≤ u.1 ∧ u.1 ≤ 16385) ∧ (-16385 ≤ u.2.1 ∧ u.2.1 ≤ 16385) ∧ (-16385 ≤ u.2.2 ∧ u.2.2 ≤ 16385)

def bax (n : T3) : T3 := if (n.1.natAbs : Int) ≤ (n.2.1.natAbs : Int) ∧ (n.1.natAbs : Int) ≤ (n.2.2.natAbs : Int) then (1, 0, 0) else if (n.2.1.natAbs : Int) ≤ (n.2.2.natAbs : Int) then (0, 1, 0) else (0, 0, 1)

def bU (n : T3) : T3 := unT (crT (bax n) n)

def bV (n : T3) : T3 := unT (crT n (bU n))

/-- Dir: of a direction's length. -/
def Dir (u : T3) : Prop := 268369924 ≤ dtT u u ∧ dtT u u ≤ 268436480

end
end Go.Proofs.Sky

namespace Go.Proofs.Sky
section

section

open Go.RowKit

set_option linter.unusedVariables false

abbrev Bx := T3 × T3

def bRight (b : Bx) : Bool := nrT b.1 && (nrT b.2 && decide (b.1.1 ≤ b.2.1 ∧ b.1.2.1 ≤ b.2.2.1 ∧ b.1.2.2 ≤ b.2.2.2))

def bJoin (a b : Bx) : Bx := if bRight a = true ∧ bRight b = true then ((min a.1.1 b.1.1, min a.1.2.1 b.1.2.1, min a.1.2.2 b.1.2.2), (max a.2.1 b.2.1, max a.2.2.1 b.2.2.1, max a.2.2.2 b.2.2.2)) else ((0, 0, 0), (0, 0, 0))

def bHas (b : Bx) (v : T3) : Bool := bRight b && decide (b.1.1 ≤ v.1 ∧ v.1 ≤ b.2.1 ∧ b.1.2.1 ≤ v.2.1 ∧ v.2.1 ≤ b.2.2.1 ∧ b.1.2.2 ≤ v.2.2 ∧ v.2.2 ≤ b.2.2.2)

def bArea (b : Bx) : Int := if bRight b = true then (b.2.1 - b.1.1) * (b.2.2.1 - b.1.2.1) + (b.2.2.1 - b.1.2.1) * (b.2.2.2 - b.1.2.2) + (b.2.2.2 - b.1.2.2) * (b.2.1 - b.1.1) else 0

def crd (v : T3) (axis : Int) : Int := if axis = 0 then v.1 else if axis = 1 then v.2.1 else v.2.2

def bMid (b : Bx) (axis : Int) : Int := if bRight b = true ∧ 0 ≤ axis ∧ axis ≤ 2 then crd b.1 axis + crd b.2 axis else 0

def gro (x n : Int) : Int := hold (x + n) (-1048576) 1048576

def bGrow (b : Bx) (n : Int) : Bx := if bRight b = true ∧ 0 ≤ n ∧ n ≤ 16 then ((gro b.1.1 (-n), gro b.1.2.1 (-n), gro b.1.2.2 (-n)), (gro b.2.1 n, gro b.2.2.1 n, gro b.2.2.2 n)) else ((0, 0, 0), (0, 0, 0))

/-- The least box with the first k vectors. -/
def bHull (V : Nat → T3) : Nat → Bx
  | 0 => ((0, 0, 0), (0, 0, 0))
  | k + 1 => if k = 0 then (V 0, V 0) else bJoin (bHull V k) (V k, V k)

def bOfOk (V : Nat → T3) (n : Nat) : Bool := decide (0 < n) && (List.range n).all (fun k => nrT (V k))

def bOf (V : Nat → T3) (n : Nat) : Bx := if bOfOk V n = true then bHull V n else ((0, 0, 0), (0, 0, 0))

/-- At time p / q the ray from o along d lies between the faces, on one axis. -/
def onAx (lo hi o d p q : Int) : Prop := lo * q ≤ o * q + d * p ∧ o * q + d * p ≤ hi * q

/-- The ray meets the box up to n / m (without a limit for m below 1). -/
def hits (b : Bx) (o d : T3) (n m : Int) : Prop :=
  ∃ p q : Int, 1 ≤ q ∧ 0 ≤ p ∧ (1 ≤ m → p * m ≤ n * q) ∧ onAx b.1.1 b.2.1 o.1 d.1 p q ∧ onAx b.1.2.1 b.2.2.1 o.2.1 d.2.1 p q ∧ onAx b.1.2.2 b.2.2.2 o.2.2 d.2.2 p q

noncomputable def bHit (b : Bx) (o d : T3) (n m : Int) : Bool := @decide (bRight b = true ∧ nrT o = true ∧ nrT d = true ∧ hits b o d n m) (Classical.propDecidable _)

/-- A box, as six numbers. -/
def bx6 (b : Bx) : Array Value := #[.int .i64 b.1.1, .int .i64 b.1.2.1, .int .i64 b.1.2.2, .int .i64 b.2.1, .int .i64 b.2.2.1, .int .i64 b.2.2.2]

end

end
end Go.Proofs.Sky

namespace Go.Proofs.Sky
section

section

open Go.RowKit

set_option linter.unusedVariables false

/-- From the first fraction on, up to the last one (no end, where that is none). -/
abbrev Iv := (Int × Int) × (Int × Int)

def ivLater (a b : Int × Int) : Int × Int := if fless a.1 a.2 b.1 b.2 = true then b else a

def ivEarlier (a b : Int × Int) : Int × Int := if a.2 < 1 ∨ fless b.1 b.2 a.1 a.2 = true then b else a

def ivShared (i o : Iv) : Iv := (ivLater i.1 o.1, ivEarlier i.2 o.2)

def ivEmpty (i : Iv) : Bool := fless i.2.1 i.2.2 i.1.1 i.1.2

def btw (lo hi way : Int) : Iv := if way = 0 then (if 0 < lo ∨ hi < 0 then ((1, 1), (0, 1)) else ((0, 1), (0, 0))) else if way < 0 then ((-hi, -way), (-lo, -way)) else ((lo, way), (hi, way))

/-- p / q lies in it. -/
def Inn (i : Iv) (p q : Int) : Prop := i.1.1 * q ≤ p * i.1.2 ∧ (1 ≤ i.2.2 → p * i.2.2 ≤ i.2.1 * q)

def ivInts (i : Iv) : Prop := I64 i.1.1 ∧ I64 i.1.2 ∧ I64 i.2.1 ∧ I64 i.2.2

def iv4 (i : Iv) : Array Value := #[.int .i64 i.1.1, .int .i64 i.1.2, .int .i64 i.2.1, .int .i64 i.2.2]

/-- What is left behind some axes. -/
def ivFold (i : Iv) (l : List Iv) : Iv := l.foldl ivShared i

/-- The three axes' intervals. -/
def ivs (b : Bx) (o d : T3) : List Iv := [btw (b.1.1 - o.1) (b.2.1 - o.1) d.1, btw (b.1.2.1 - o.2.1) (b.2.2.1 - o.2.1) d.2.1, btw (b.1.2.2 - o.2.2) (b.2.2.2 - o.2.2) d.2.2]

end

end
end Go.Proofs.Sky

namespace Go.Proofs.Sky
section

section

open Go.RowKit

set_option linter.unusedVariables false

def I3 (v : T3) : Prop := I64 v.1 ∧ I64 v.2.1 ∧ I64 v.2.2

def plc (v : T3) : Bool := wi 524288 v.1 v.2.1 v.2.2

theorem plc_iff {v : T3} : plc v = true ↔ -524288 ≤ v.1 ∧ v.1 ≤ 524288 ∧ -524288 ≤ v.2.1 ∧ v.2.1 ≤ 524288 ∧ -524288 ≤ v.2.2 ∧ v.2.2 ≤ 524288 := by unfold plc; exact wi_iff

def pl3 (a b c : T3) : Bool := plc a && (plc b && plc c)

theorem pl3_iff {a b c : T3} : pl3 a b c = true ↔ plc a = true ∧ plc b = true ∧ plc c = true := by unfold pl3; simp

def sbT (u v : T3) : T3 := (u.1 - v.1, u.2.1 - v.2.1, u.2.2 - v.2.2)

def adT (u v : T3) : T3 := (u.1 + v.1, u.2.1 + v.2.1, u.2.2 + v.2.2)

def ngT (u : T3) : T3 := (-u.1, -u.2.1, -u.2.2)

def crX (u v : T3) : T3 := (u.2.1 * v.2.2 - u.2.2 * v.2.1, u.2.2 * v.1 - u.1 * v.2.2, u.1 * v.2.1 - u.2.1 * v.1)

def vlX (u v w : T3) : Int := u.1 * (v.2.1 * w.2.2 - v.2.2 * w.2.1) + u.2.1 * (v.2.2 * w.1 - v.1 * w.2.2) + u.2.2 * (v.1 * w.2.1 - v.2.1 * w.1)

def upsT (a b c : T3) : T3 := crX (sbT b a) (sbT c a)

def isZ (u : T3) : Bool := decide (u.1 = 0 ∧ u.2.1 = 0 ∧ u.2.2 = 0)

def tFlat (a b c : T3) : Bool := !(pl3 a b c) || isZ (upsT a b c)

def tNorm (a b c : T3) : T3 × Bool := if tFlat a b c = true then ((0, 0, 0), false) else (unT (upsT a b c), okT (upsT a b c))

def tArea (a b c : T3) : Int := if tFlat a b c = true then 0 else (isq (dtT (upsT a b c) (upsT a b c)).toNat : Int)

def tFin (x y z n : Int) : (Int × Int) × Bool := if x < 0 ∨ y < 0 ∨ z < 0 ∨ x + y + z = 0 ∨ n ≤ 0 then ((0, 0), false) else ((n, x + y + z), true)

def tG (x y z n : Int) : (Int × Int) × Bool := if x ≤ 0 ∧ y ≤ 0 ∧ z ≤ 0 then tFin (-x) (-y) (-z) (-n) else tFin x y z n

def tHit (a b c o d : T3) : (Int × Int) × Bool :=
  if pl3 a b c = true ∧ plc o = true ∧ nrT d = true then tG (vlX d (sbT b o) (sbT c o)) (vlX d (sbT c o) (sbT a o)) (vlX d (sbT a o) (sbT b o)) (vlX (sbT a o) (sbT b o) (sbT c o)) else ((0, 0), false)

def c16 (u : Int) : Bool := decide (0 ≤ u ∧ u ≤ 65536)

def tAt (a b c : T3) (u v : Int) : T3 :=
  if pl3 a b c = true ∧ c16 u = true ∧ c16 v = true then
    (if 65536 < u + v then (a.1 + ((b.1 - a.1) * (65536 - u) + (c.1 - a.1) * (65536 - v)) / 65536, a.2.1 + ((b.2.1 - a.2.1) * (65536 - u) + (c.2.1 - a.2.1) * (65536 - v)) / 65536, a.2.2 + ((b.2.2 - a.2.2) * (65536 - u) + (c.2.2 - a.2.2) * (65536 - v)) / 65536)
     else (a.1 + ((b.1 - a.1) * u + (c.1 - a.1) * v) / 65536, a.2.1 + ((b.2.1 - a.2.1) * u + (c.2.1 - a.2.1) * v) / 65536, a.2.2 + ((b.2.2 - a.2.2) * u + (c.2.2 - a.2.2) * v) / 65536))
  else (0, 0, 0)

/-- A point by weights, seen from o. -/
def wayT (u v w : Int) (a b c o : T3) : T3 := (u * a.1 + v * b.1 + w * c.1 - (u + v + w) * o.1, u * a.2.1 + v * b.2.1 + w * c.2.1 - (u + v + w) * o.2.1, u * a.2.2 + v * b.2.2 + w * c.2.2 - (u + v + w) * o.2.2)

theorem plc_I3 {v : T3} (h : plc v = true) : I3 v := by
  rw [plc_iff] at h
  unfold I3 I64
  omega

end

end
end Go.Proofs.Sky

namespace Go.Proofs.Sky
section

section

open Go.RowKit

set_option linter.unusedVariables false

theorem vsub_pl {x a : Int} (hx : -524288 ≤ x ∧ x ≤ 524288) (ha : -524288 ≤ a ∧ a ≤ 524288) : vsub x a = x - a := by
  unfold vsub sat
  rw [if_neg (by omega), if_neg (by omega), if_neg (by omega), if_neg (by omega)]
  omega

/-- The cross product of the sides from a; zero if a corner is no place. -/
def uprT (a b c : T3) : T3 := if pl3 a b c = true then upsT a b c else (0, 0, 0)

theorem nr_sb {a b : T3} (ha : plc a = true) (hb : plc b = true) : nrT (sbT a b) = true := by
  have q1 := plc_iff.1 ha
  have q2 := plc_iff.1 hb
  unfold nrT sbT
  rw [vnear_iff]
  dsimp only
  omega

theorem vcr_X {u v : T3} (hu : nrT u = true) (hv : nrT v = true) : vcr u.1 u.2.1 u.2.2 v.1 v.2.1 v.2.2 = crX u v := by
  unfold vcr crX
  unfold nrT at hu hv
  rw [if_pos ⟨hu, hv⟩]

theorem flat_upr (a b c : T3) : tFlat a b c = isZ (uprT a b c) := by
  unfold tFlat uprT
  cases pl3 a b c <;> rfl

/-- All on one side, or passed through. -/
def srd (x y z : Int) : Bool := !((decide (x < 0) || decide (y < 0)) || decide (z < 0)) || !((decide (0 < x) || decide (0 < y)) || decide (0 < z))

/-- A hit, out of the three sides and the volume. -/
def tMk (x y z n s : Int) : (Int × Int) × Bool := if fmakeOk n s = true ∧ 0 < (fmake n s).1 ∧ srd x y z = true then (fmake n s, true) else ((0, 0), false)

/-- All of the first n are places. -/
def allp (V : Nat → T3) : Nat → Bool
  | 0 => true
  | k + 1 => allp V k && plc (V k)

theorem allp_no {V : Nat → T3} {k : Nat} (h : plc (V k) = false) : ∀ n, k < n → allp V n = false
  | 0, hk => absurd hk (by omega)
  | n + 1, hk => by
    unfold allp
    by_cases e : k = n
    · subst e; rw [h, Bool.and_false]
    · rw [allp_no h n (by omega), Bool.false_and]

def rw3 (u v t : T3) : Nat → T3 | 0 => u | 1 => v | _ => t

def rw4 (u v t s : T3) : Nat → T3 | 0 => u | 1 => v | 2 => t | _ => s

theorem allp3 (u v t : T3) : allp (rw3 u v t) 3 = pl3 u v t := by
  show (((true && plc u) && plc v) && plc t) = _
  unfold pl3
  cases plc u <;> cases plc v <;> cases plc t <;> rfl

end

end
end Go.Proofs.Sky
