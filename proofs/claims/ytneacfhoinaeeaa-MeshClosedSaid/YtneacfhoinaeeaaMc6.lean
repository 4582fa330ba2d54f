/- Words for memory: a block that is known whole; eight numbers in a row. Imports nothing of the translation. Plain mathematics of layer 3: fractions. Plain mathematics of layer 6: vectors: near ones, products, lengths, directions. Imports nothing of the translation. Plain mathematics of layer 6, the consequences: the opposite's direction, the double's, a direction's length; volumes. Imports nothing of the translation. -/
import Derived.Test.YtneacfhoinaeeaaMc5
import Derived.Below
import Derived.Deep.Draws
import Derived.Handy


namespace Go.Proofs.Sky
section

open Go.RowKit

set_option linter.unusedVariables false

/-- Block b is just the cells cs of type t, none frozen. -/
def Bk (w : World) (b : Nat) (t : TypeId) (cs : Array Value) : Prop := w.heap[b]? = some (.cells cs t (0, 0))

section

variable {w w' W : World} {b : Nat} {t : TypeId} {cs : Array Value}

theorem Bk.lt (h : Bk w b t cs) : b < w.heap.size := by
  unfold Bk at h
  obtain ⟨hlt, _⟩ := Array.getElem?_eq_some_iff.1 h
  exact hlt

theorem Bk.cell (h : Bk w b t cs) {i : Nat} {v : Value} (hv : cs[i]? = some v) : w.cell? ⟨b, i, none⟩ = some v := by
  unfold Bk at h
  simp [World.cell?, h, hv]

theorem Bk.frozen (h : Bk w b t cs) (i : Nat) : w.frozen? ⟨b, i, none⟩ = false := by
  unfold Bk at h
  simp [World.frozen?, h]

theorem Bk.new (w : World) (cs : Array Value) (t : TypeId) : Bk (w.alloc (.cells cs t)) w.heap.size t cs := by
  unfold Bk World.alloc; simp

theorem Bk.new_at (w : World) (cs : Array Value) (t : TypeId) (b : Nat) (h : b = w.heap.size) : Bk (w.alloc (.cells cs t)) b t cs := by subst h; exact Bk.new _ _ _

theorem Bk.alloc (h : Bk w b t cs) (o : Obj) : Bk (w.alloc o) b t cs := (Below.heap_alloc w o b h.lt).trans h

theorem Bk.drew (h : Bk w b t cs) : Bk w.drew b t cs := h

theorem Bk.other (h : Bk w b t cs) {a : Addr} (ha : b ≠ a.block) (v : Value) : Bk (w.setCell a v) b t cs := (Below.heap_setCell w a v b ha).trans h

theorem Bk.set (h : Bk w b t cs) (i : Nat) (v : Value) : Bk (w.setCell ⟨b, i, none⟩ v) b t (cs.setIfInBounds i v) := by
  unfold Bk at h ⊢
  simp [World.setCell, Array.getElem?_modify, h]

theorem Bk.below (h : Bk w b t cs) (hb : Below w.heap.size w w') : Bk w' b t cs := (hb.block b h.lt).trans h

theorem Bk.cast {ds : Array Value} (h : Bk w b t cs) (e : cs = ds) : Bk w b t ds := e ▸ h

end

/-- Eight ints. -/
def arr8 (f : Nat → Int) : Array Value := #[.int .i64 (f 0), .int .i64 (f 1), .int .i64 (f 2), .int .i64 (f 3), .int .i64 (f 4), .int .i64 (f 5), .int .i64 (f 6), .int .i64 (f 7)]

end
end Go.Proofs.Sky

namespace Go.Proofs.Sky
section

open Go.RowKit

set_option linter.unusedVariables false

/-- n/d against m/e. -/
def fless (n d m e : Int) : Bool := decide (1 ≤ d) && (decide (1 ≤ e) && decide (n * e < m * d))

def fsame (n d m e : Int) : Bool := decide (1 ≤ d) && (decide (1 ≤ e) && decide (n * e = m * d))

def fat (v n d : Int) : Int := if d < 1 then 0 else sat (v * n / d)

def fsmall (n d : Int) : Bool := decide (1 ≤ d) && (decide (d ≤ 2147483648) && (decide (-2147483648 ≤ n) && decide (n ≤ 2147483648)))

def fmid (n d m e : Int) : Int × Int := if fsmall n d = true ∧ fsmall m e = true then (n + m, d + e) else (0, 0)

def fmakeOk (n d : Int) : Bool := decide (d ≠ 0 ∧ n ≠ -9223372036854775808 ∧ d ≠ -9223372036854775808)

def fmake (n d : Int) : Int × Int := if fmakeOk n d = true then (if d < 0 then (-n, -d) else (n, d)) else (0, 0)

/-- The places below k of the fractions that may be (divisors: D), in their order. -/
def vp (D : Nat → Int) (k : Nat) : List Int := ((List.range k).filter (fun i => decide (1 ≤ D i))).map (fun i : Nat => (i : Int))

/-- Fractions in a row, from place off of block b on: n of them. -/
def FrRow (w : World) (b off n : Nat) (N D : Nat → Int) : Prop := ∀ k, k < n → w.cell? ⟨b, off + k * 2, none⟩ = some (.int .i64 (N k)) ∧ w.cell? ⟨b, off + k * 2 + 1, none⟩ = some (.int .i64 (D k))

theorem FrRow.below {w w' : World} {b off n : Nat} {N D : Nat → Int} {B : Nat} (h : FrRow w b off n N D) (hb : Below B w w') (hlt : b < B) : FrRow w' b off n N D :=
  fun k hk => ⟨(hb.cell (p := ⟨b, off + k * 2, none⟩) hlt).trans (h k hk).1, (hb.cell (p := ⟨b, off + k * 2 + 1, none⟩) hlt).trans (h k hk).2⟩

end
end Go.Proofs.Sky

namespace Go.Proofs.Sky
section

section

set_option linter.unusedVariables false

/-- All coordinates from -n to n. -/
def wi (n x y z : Int) : Bool := decide (-n ≤ x ∧ x ≤ n ∧ -n ≤ y ∧ y ≤ n ∧ -n ≤ z ∧ z ≤ n)

theorem wi_iff {n x y z : Int} : wi n x y z = true ↔ -n ≤ x ∧ x ≤ n ∧ -n ≤ y ∧ y ≤ n ∧ -n ≤ z ∧ z ≤ n := by unfold wi; exact decide_eq_true_iff

def vnear (x y z : Int) : Bool := wi 1048576 x y z

theorem vnear_iff {x y z : Int} : vnear x y z = true ↔ -1048576 ≤ x ∧ x ≤ 1048576 ∧ -1048576 ≤ y ∧ y ≤ 1048576 ∧ -1048576 ≤ z ∧ z ≤ 1048576 := wi_iff

def vsub (x a : Int) : Int := sat (x + sat (a * -1))

def vdot (x y z a b c : Int) : Int := if vnear x y z = true ∧ vnear a b c = true then x * a + y * b + z * c else 0

def vcr (x y z a b c : Int) : Int × Int × Int := if vnear x y z = true ∧ vnear a b c = true then (y * c - z * b, z * a - x * c, x * b - y * a) else (0, 0, 0)

def vvol (x y z a b c d e f : Int) : Int := if vnear x y z = true ∧ vnear a b c = true ∧ vnear d e f = true then x * (b * f - c * e) + y * (c * d - a * f) + z * (a * e - b * d) else 0

def vlen (x y z : Int) : Int := (isq (vdot x y z x y z).toNat : Int)

theorem mul_in {x a : Int} {N M : Nat} (hx : -(N : Int) ≤ x ∧ x ≤ N) (ha : -(M : Int) ≤ a ∧ a ≤ M) : -((N * M : Nat) : Int) ≤ x * a ∧ x * a ≤ ((N * M : Nat) : Int) := by
  have b : (x * a).natAbs ≤ N * M := by rw [Int.natAbs_mul]; exact Nat.mul_le_mul (by omega) (by omega)
  omega

theorem near_mul {x a : Int} (hx : -1048576 ≤ x ∧ x ≤ 1048576) (ha : -1048576 ≤ a ∧ a ≤ 1048576) : -1099511627776 ≤ x * a ∧ x * a ≤ 1099511627776 := mul_in (N := 1048576) (M := 1048576) hx ha

theorem near_mul3 {x a : Int} (hx : -1048576 ≤ x ∧ x ≤ 1048576) (ha : -2199023255552 ≤ a ∧ a ≤ 2199023255552) : -2305843009213693952 ≤ x * a ∧ x * a ≤ 2305843009213693952 := mul_in (N := 1048576) (M := 2199023255552) hx ha

/-- Doubled as long as all coordinates are below 2^19; halved as long as one is 2^20 or more. -/
def dblN : Nat → Int → Int → Int → Int × Int × Int
  | 0, x, y, z => (x, y, z)
  | k + 1, x, y, z => if wi 524287 x y z = true then dblN k (2 * x) (2 * y) (2 * z) else (x, y, z)

def halN : Nat → Int → Int → Int → Int × Int × Int
  | 0, x, y, z => (x, y, z)
  | k + 1, x, y, z => if wi 1048575 x y z = true then (x, y, z) else halN k (x.tdiv 2) (y.tdiv 2) (z.tdiv 2)

def dbl (x y z : Int) : Int × Int × Int := dblN 20 x y z

def evn (x y z : Int) : Int × Int × Int := halN 44 (dbl x y z).1 (dbl x y z).2.1 (dbl x y z).2.2

/-- How often a vector can still be doubled, or halved. -/
def DblK (k : Nat) (x y z : Int) : Prop := (2 ^ k ≤ x.natAbs ∨ 2 ^ k ≤ y.natAbs ∨ 2 ^ k ≤ z.natAbs)

/-- What may be made even: not 0, and no coordinate beyond 2^62. -/
def Evb (x y z : Int) : Prop := wi 4611686018427387904 x y z = true ∧ wi 0 x y z = false

/-- The direction. -/
def vuOk (x y z : Int) : Bool := wi 4611686018427387904 x y z && !wi 0 x y z

def vun (e : Int × Int × Int) : Int × Int × Int := ((e.1 * 16384).tdiv (vlen e.1 e.2.1 e.2.2), (e.2.1 * 16384).tdiv (vlen e.1 e.2.1 e.2.2), (e.2.2 * 16384).tdiv (vlen e.1 e.2.1 e.2.2))

def vunit (x y z : Int) : Int × Int × Int := if vuOk x y z = true then vun (evn x y z) else (0, 0, 0)

end

end
end Go.Proofs.Sky

namespace Go.Proofs.Sky
section

section

set_option linter.unusedVariables false

def ng (e : Int × Int × Int) : Int × Int × Int := (-e.1, -e.2.1, -e.2.2)

end

end
end Go.Proofs.Sky
