/- A slice of structs of ints and bools that came in, opened: its elements' cells, one by one. Imports nothing of the translation. The contract of num.Root. Contracts of the document's own answers of layer 2 (skylightref02), over the same plain mathematics. Contracts of the document's sums and differences (skylightref02). Contract of the document's differences (skylightref02). Contract of the document's order (skylightref02). Contracts of the document's products (skylightref02). Contract of the document's product, digit by digit (skylightref02). Contracts of the document's roots and quotients (skylightref02). A range over a function value whose first arguments are laid in (a method value), whose rounds all go on: what the iterator owes (GivesAll), and the statement's law. Imports nothing of the translation. Plain mathematics of layer 5: sines by Bhaskara's rule, rounded down. Slices that came in, opened. Words for memory: three numbers in a row. Imports nothing of the translation. Plain mathematics of layer 7: bases. Imports nothing of the translation. Rows of vectors. -/
import Derived.Test.YtneacfhoinaeeaaMc3
import Derived.Deep.Slices
import Derived.Test.YtneacfhoinaeeaaMc4
import Derived.Lib.ItoaNum
import Derived.Lib.Hide
import Derived.Test.YtneacfhoinaeeaaMc6
import Derived.Handy
import Derived.Deep.RegionHeld3
import Derived.Deep.QuietTactic
import Derived.BigQuiet
import Derived.Deep.Draws
import Derived.Deep.DrawnRows
import Derived.Deep.DeepCutAuto
import Derived.RangeFuncNested
import Derived.RangeFuncBox
import Derived.RangeFuncLeaves
import Derived.WalkKit
import Derived.Test.YtneacfhoinaeeaaMc2
import Derived.Test.YtneacfhoinaeeaaMc1
import Derived.Test.YtneacfhoinaeeaaProg
import Derived.ChangeSlices
import Derived.WideShapes
import Derived.DataReads
import Derived.Test.YtneacfhoinaeeaaMc7


namespace Go.Proofs.Sky
section

open Go.ChangeShapes Go.WideShapes Go.RowKit

set_option linter.unusedVariables false

/-- From cell off of block b on lie n elements of c cells each: V. -/
def RowsAt (w : World) (b off n c : Nat) (ks : List LK) (V : Nat → List Value) : Prop :=
  ∀ i, i < n → LeafAll ks (V i) ∧ ∀ j, j < c → w.cell? ⟨b, off + i * c + j, none⟩ = (V i)[j]?

theorem LeafAll.length : ∀ {ks : List LK} {cs : List Value}, LeafAll ks cs → cs.length = ks.length
  | [], cs, h => by
    have : cs = [] := h
    subst this
    rfl
  | k :: ks, cs, h => by
    obtain ⟨v, r, rfl, _, h2⟩ := h
    simp [h2.length]

end
end Go.Proofs.Sky

namespace Go.Proofs.Ytneacfhoinaeeaa
section

open Go.RowKit Go.Proofs.Sky

set_option linter.unusedVariables false

end
end Go.Proofs.Ytneacfhoinaeeaa

namespace Go.Proofs.Ytneacfhoinaeeaa
section

section

open Go.RowKit Go.Proofs.Sky

set_option linter.unusedVariables false

attribute [local go_sem ↓] Go.wp_at_zero Go.wp_at_succ

end

end
end Go.Proofs.Ytneacfhoinaeeaa

namespace Go.Proofs.Ytneacfhoinaeeaa
section

section

open Go.RowKit Go.Proofs.Sky

set_option linter.unusedVariables false

set_option linter.unusedSimpArgs false

attribute [local go_sem ↓] Go.wp_at_zero Go.wp_at_succ

end

end
end Go.Proofs.Ytneacfhoinaeeaa

namespace Go.Proofs.Ytneacfhoinaeeaa
section

section

open Go.RowKit Go.Proofs.Sky

set_option linter.unusedVariables false

set_option linter.unusedSimpArgs false

attribute [local go_sem ↓] Go.wp_at_zero Go.wp_at_succ

end

end
end Go.Proofs.Ytneacfhoinaeeaa

namespace Go.Proofs.Ytneacfhoinaeeaa
section

section

open Go.RowKit Go.Proofs.Sky

set_option linter.unusedVariables false

set_option linter.unusedSimpArgs false

attribute [local go_sem ↓] Go.wp_at_zero Go.wp_at_succ

end

end
end Go.Proofs.Ytneacfhoinaeeaa

namespace Go.Proofs.Ytneacfhoinaeeaa
section

section

open Go.RowKit Go.Proofs.Sky

set_option linter.unusedVariables false

set_option linter.unusedSimpArgs false

attribute [local go_sem ↓] Go.wp_at_zero Go.wp_at_succ

/-- The products of the first digits of u with v, added. -/
def sumP (u v : Int) : Nat → Int
  | 0 => 0
  | k + 1 => sumP u v k + dg u k * 65536 ^ k * v

/-- One row of the product: digit i of u with n digits of v, i places on. -/
def rowP (u v : Int) (i n : Nat) : Nat → Int := fun j => if i ≤ j ∧ j < i + n then dg u i * dg v (j - i) else 0

end

end
end Go.Proofs.Ytneacfhoinaeeaa

namespace Go.Proofs.Ytneacfhoinaeeaa
section

section

open Go.RowKit Go.Proofs.Sky

set_option linter.unusedVariables false

set_option linter.unusedSimpArgs false

attribute [local go_sem ↓] Go.wp_at_zero Go.wp_at_succ

end

end
end Go.Proofs.Ytneacfhoinaeeaa

namespace Go.Proofs.Ytneacfhoinaeeaa
section

section

open Go.RowKit Go.Proofs.Sky

set_option linter.unusedVariables false

set_option linter.unusedSimpArgs false

attribute [local go_sem ↓] Go.wp_at_zero Go.wp_at_succ

end

end
end Go.Proofs.Ytneacfhoinaeeaa

namespace Go.Proofs.Sky
section

open Go.RowKit

set_option linter.unusedVariables false

/-- What is asked of the caller's invariant between two rounds: blocks of its own, no others, have turned. -/
def Stays {β : Type} (J : β → World → Prop) : Prop := ∀ s X Y, J s X → Below X.heap.size X Y → J s Y

/-- The iterator gives just xs, in their order, to whatever loop; a round keeps what lay below B. -/
def GivesAll {α : Type} (P : Program) (gf : Nat) (bd lb : Array Value) (encs : α → Array Value) (xs : List α) (B : Nat) (w : World) : Prop :=
  ∀ (l : Nat) (J : List α → World → Prop) (W : World), Below w.heap.size w W → Stays J →
    (∀ pre x rest W1, xs = pre ++ x :: rest → J pre W1 → YieldAt Fence.wide 0 P l (encs x) W1 fun e W' => e = .returned (.bool true) ∧ J (pre ++ [x]) W' ∧ Below B W1 W') →
    J [] W → CallsIn Fence.wide 0 P gf ((bd ++ #[.func (.yield l) #[] #[]]) ++ lb) W fun e W' => (∃ v, e = .returned v) ∧ J xs W'

/-- How a round may be left: off its end. -/
def goesOn {α : Type} (B0 B : Nat) (I : List α → World → Prop) (xs : List α) (W : World) : Exit → Act → World → Prop
  | .normal, _, W' => KeepsFrom B0 W W' ∧ Below B W W' ∧ I xs W'
  | _, _, _ => False

theorem grown_of_below {X Y : World} (h : Below X.heap.size X Y) : X.grownBy Y none := ⟨h.os, h.tape, h.output, h.size, fun k hk _ => h.block k hk⟩

end
end Go.Proofs.Sky

namespace Go.Proofs.Sky
section

open Go.RowKit

set_option linter.unusedVariables false

/-- The sine of q in the first half turn (0 to 32767), as a number of 0 to 16384. -/
def sinq (q : Int) : Int := 262144 * (q * (32768 - q)) / (5368709120 - 4 * (q * (32768 - q)))

def sinI (h : Int) : Int := if h % 65536 < 32768 then sinq (h % 65536) else -sinq (h % 65536 - 32768)

def cosI (h : Int) : Int := sinI (h + 16384)

theorem sinq_a {q : Int} (h0 : 0 ≤ q) (h1 : q ≤ 32768) : 0 ≤ q * (32768 - q) ∧ q * (32768 - q) ≤ 268435456 := by
  refine ⟨Int.mul_nonneg h0 (by omega), ?_⟩
  have e : q * (32768 - q) = 268435456 - (q - 16384) * (q - 16384) := by
    rw [Int.mul_sub, Int.sub_mul, Int.mul_sub, Int.mul_sub]; omega
  have : 0 ≤ (q - 16384) * (q - 16384) := by
    rcases Int.le_total 0 (q - 16384) with h | h
    · exact Int.mul_nonneg h h
    · exact Int.mul_nonneg_of_nonpos_of_nonpos h h
  omega

theorem sinq_range {q : Int} (h0 : 0 ≤ q) (h1 : q ≤ 32768) : 0 ≤ sinq q ∧ sinq q ≤ 16384 := by
  obtain ⟨a0, a1⟩ := sinq_a h0 h1
  unfold sinq
  generalize q * (32768 - q) = a at *
  refine ⟨Int.ediv_nonneg (by omega) (by omega), ?_⟩
  have : 262144 * a / (5368709120 - 4 * a) < 16385 := by
    rw [Int.ediv_lt_iff_lt_mul (by omega)]; omega
  omega

theorem sinI_range (h : Int) : -16384 ≤ sinI h ∧ sinI h ≤ 16384 := by
  unfold sinI
  split
  · have := @sinq_range (h % 65536) (by omega) (by omega); omega
  · have := @sinq_range (h % 65536 - 32768) (by omega) (by omega); omega

theorem sinI_congr {g h : Int} (e : g % 65536 = h % 65536) : sinI g = sinI h := by unfold sinI; rw [e]

theorem cosI_range (h : Int) : -16384 ≤ cosI h ∧ cosI h ≤ 16384 := sinI_range _

/-- Both squared, over the first quarter: reckoned. -/
def sqOk (m : Nat) : Bool :=
  let s := 262144 * (m * (32768 - m)) / (5368709120 - 4 * (m * (32768 - m)))
  let k := 16384 - m
  let c := 262144 * (k * (32768 - k)) / (5368709120 - 4 * (k * (32768 - k)))
  decide (265751102 ≤ s * s + c * c ∧ s * s + c * c ≤ 271119810)

def sqI (h : Int) : Int := cosI h * cosI h + sinI h * sinI h

end
end Go.Proofs.Sky

namespace Go.Proofs.Ytneacfhoinaeeaa
section

open Go.RowKit Go.Proofs.Sky

set_option linter.unusedVariables false

/-- A slice of ints that came in. -/
def IntSlice (w : World) (a : Option Addr) (n : Nat) (Z : Nat → Int) : Prop :=
  n = 0 ∨ ∃ b off, a = some ⟨b, off, none⟩ ∧ (∀ k, k < n → w.cell? ⟨b, off + k, none⟩ = some (.int .i64 (Z k)) ∧ I64 (Z k)) ∧ b < w.heap.size

end
end Go.Proofs.Ytneacfhoinaeeaa

namespace Go.Proofs.Sky
section

open Go.RowKit

set_option linter.unusedVariables false

/-- A block of three cells, all of them written. -/
theorem Bk.put3 {w : World} {g : Nat} {t : TypeId} {a b c : Value} (h : Bk w g t #[a, b, c]) (u v x : Value) :
    (((w.setCell ⟨g, 0, none⟩ u).setCell ⟨g, 1, none⟩ v).setCell ⟨g, 2, none⟩ x).cell? ⟨g, 0, none⟩ = some u ∧
    (((w.setCell ⟨g, 0, none⟩ u).setCell ⟨g, 1, none⟩ v).setCell ⟨g, 2, none⟩ x).cell? ⟨g, 1, none⟩ = some v ∧
    (((w.setCell ⟨g, 0, none⟩ u).setCell ⟨g, 1, none⟩ v).setCell ⟨g, 2, none⟩ x).cell? ⟨g, 2, none⟩ = some x ∧
    Bk (((w.setCell ⟨g, 0, none⟩ u).setCell ⟨g, 1, none⟩ v).setCell ⟨g, 2, none⟩ x) g t #[u, v, x] := by
  have k : Bk (((w.setCell ⟨g, 0, none⟩ u).setCell ⟨g, 1, none⟩ v).setCell ⟨g, 2, none⟩ x) g t #[u, v, x] := ((h.set 0 u).set 1 v).set 2 x
  exact ⟨k.cell rfl, k.cell rfl, k.cell rfl, k⟩

theorem bw_take {wb w1 : World} {p : BW wb} (hb : Below p.w.heap.size p.w w1) : ∃ q : BW wb, w1 = q.w := ⟨p.next w1 hb, rfl⟩

theorem bw_take_drew {wb w1 : World} {p : BW wb} (hb : Below p.w.drew.heap.size p.w.drew w1) : ∃ q : BW wb, w1 = q.w := ⟨p.next w1 ⟨hb.os, hb.tape, hb.output, hb.size, hb.block⟩, rfl⟩

end
end Go.Proofs.Sky

namespace Go.Proofs.Sky
section

open Go.RowKit

set_option linter.unusedVariables false

abbrev T3 := Int × Int × Int

def crT (u v : T3) : T3 := vcr u.1 u.2.1 u.2.2 v.1 v.2.1 v.2.2

def unT (u : T3) : T3 := vunit u.1 u.2.1 u.2.2

def okT (u : T3) : Bool := vuOk u.1 u.2.1 u.2.2

def dtT (u v : T3) : Int := u.1 * v.1 + u.2.1 * v.2.1 + u.2.2 * v.2.2

def nrT (u : T3) : Bool := vnear u.1 u.2.1 u.2.2

def absSum (u : T3) : Nat := u.1.natAbs + u.2.1.natAbs + u.2.2.natAbs

/-- Small ones: no coordinate beyond 16385. -/
def smT (u : T3) : Prop := (-16385 ≤ u.1 ∧ u.1 ≤ 16385) ∧ (-16385 ≤ u.2.1 ∧ u.2.1 ≤ 16385) ∧ (-16385 ≤ u.2.2 ∧ u.2.2 ≤ 16385)

def bax (n : T3) : T3 := if (n.1.natAbs : Int) ≤ (n.2.1.natAbs : Int) ∧ (n.1.natAbs : Int) ≤ (n.2.2.natAbs : Int) then (1, 0, 0) else if (n.2.1.natAbs : Int) ≤ (n.2.2.natAbs : Int) then (0, 1, 0) else (0, 0, 1)

def bU (n : T3) : T3 := unT (crT (bax n) n)

def bV (n : T3) : T3 := unT (crT n (bU n))

/-- Dir: of a direction's length. -/
def Dir (u : T3) : Prop := 268369924 ≤ dtT u u ∧ dtT u u ≤ 268436480

end
end Go.Proofs.Sky

namespace Go.Proofs.Ytneacfhoinaeeaa
section

open Go.RowKit Go.Proofs.Sky

set_option linter.unusedVariables false

/-- From cell off of block b on lie n vectors. -/
def VcRow (w : World) (b off n : Nat) (V : Nat → T3) : Prop :=
  ∀ i, i < n → w.cell? ⟨b, off + i * 3, none⟩ = some (.int .i64 (V i).1) ∧ w.cell? ⟨b, off + i * 3 + 1, none⟩ = some (.int .i64 (V i).2.1) ∧ w.cell? ⟨b, off + i * 3 + 2, none⟩ = some (.int .i64 (V i).2.2)

def vcells (v : T3) : List Value := [.int .i64 v.1, .int .i64 v.2.1, .int .i64 v.2.2]

theorem VcRow.below {w w' : World} {b off n : Nat} {V : Nat → T3} (h : VcRow w b off n V) (hb : Below w.heap.size w w') (hl : b < w.heap.size) : VcRow w' b off n V := fun i hi => by
  obtain ⟨h1, h2, h3⟩ := h i hi
  exact ⟨(hb.cell (p := ⟨b, off + i * 3, none⟩) hl).trans h1, (hb.cell (p := ⟨b, off + i * 3 + 1, none⟩) hl).trans h2, (hb.cell (p := ⟨b, off + i * 3 + 2, none⟩) hl).trans h3⟩

end
end Go.Proofs.Ytneacfhoinaeeaa
