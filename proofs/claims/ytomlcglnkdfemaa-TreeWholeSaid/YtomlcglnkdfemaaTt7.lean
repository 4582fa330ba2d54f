/- A slice of structs of ints and bools that came in, opened: its elements' cells, one by one. Imports nothing of the translation. Contracts of package num (all but Root and Part), over the plain mathematics of Math01. The contract of num.Root. Contracts of the document's own answers of layer 2 (skylightref02), over the same plain mathematics. Contracts of the document's sums and differences (skylightref02). Contract of the document's differences (skylightref02). Contract of the document's order (skylightref02). Contracts of the document's products (skylightref02). Contract of the document's product, digit by digit (skylightref02). Contracts of the document's roots and quotients (skylightref02). A range over a function value whose first arguments are laid in (a method value), whose rounds all go on: what the iterator owes (GivesAll), and the statement's law. Imports nothing of the translation. Plain mathematics of layer 3: the least one of a row of fractions. Slices that came in, opened. Words for memory: three numbers in a row. Imports nothing of the translation. Plain mathematics of layer 7: bases. Imports nothing of the translation. Rows that a call makes, and blocks beside them. Imports nothing of the translation. -/
import Derived.Test.YtomlcglnkdfemaaTt4
import Derived.Deep.Slices
import Derived.Test.YtomlcglnkdfemaaProg
import Derived.Test.YtomlcglnkdfemaaTt2
import Derived.Test.YtomlcglnkdfemaaShelf
import Derived.WalkKit
import Derived.WalkLawsBesides
import Derived.WalkSpells
import Derived.Lib.ItoaNum
import Derived.Lib.Hide
import Derived.Handy
import Derived.Deep.RegionHeld3
import Derived.Deep.QuietTactic
import Derived.BigQuiet
import Derived.Deep.Draws
import Derived.Deep.DrawnRows
import Derived.Deep.DeepCutAuto
import Derived.RangeFuncNested
import Derived.RangeFuncBox
import Derived.RangeFuncLeaves
import Derived.Test.YtomlcglnkdfemaaTt1
import Derived.ChangeSlices
import Derived.WideShapes
import Derived.DataReads
import Derived.Test.YtomlcglnkdfemaaTt5
import Derived.Laws.AppendOwn


namespace Go.Proofs.Sky
section

open Go.ChangeShapes Go.WideShapes Go.RowKit

set_option linter.unusedVariables false

/-- From cell off of block b on lie n elements of c cells each: V. -/
def RowsAt (w : World) (b off n c : Nat) (ks : List LK) (V : Nat → List Value) : Prop :=
  ∀ i, i < n → LeafAll ks (V i) ∧ ∀ j, j < c → w.cell? ⟨b, off + i * c + j, none⟩ = (V i)[j]?

theorem LeafAll.length : ∀ {ks : List LK} {cs : List Value}, LeafAll ks cs → cs.length = ks.length
  | [], cs, h => by
    have : cs = [] := h
    subst this
    rfl
  | k :: ks, cs, h => by
    obtain ⟨v, r, rfl, _, h2⟩ := h
    simp [h2.length]

end
end Go.Proofs.Sky

namespace Go.Proofs.Ytomlcglnkdfemaa
section

open Go.RowKit Go.Proofs.Sky

set_option linter.unusedVariables false

theorem ret_int {k : IntKind} {a b : Int} (h : a = b) : Ending.returned (.int k a) = .returned (.int k b) := by rw [h]

theorem num_Div (a b : Int) (w : World) (ha : I64 a) (hb : I64 b) :
    Calls Try.prog 86 #[.int .i64 a, .int .i64 b] w fun e w' => e = .returned (.int .i64 (dv a b)) ∧ w = w' := by
  obtain ⟨a1, a2⟩ := ha; obtain ⟨b1, b2⟩ := hb
  go_enter Try.func86, Try.ntmps86
  go_wp2
  · go_ret; exact ⟨ret_int (by unfold dv; rw [if_pos (by assumption)]), rfl⟩
  · have hb1 : 1 ≤ b := by assumption
    have t := (tdm (a := a) hb1).1 (by assumption)
    have l := (ediv_le_pos (a := a) hb1)
    go_ret
    exact ⟨ret_int (by
      unfold dv; rw [if_neg (by omega), t.1]; exact IntWalk.wrap64_in _ (by by_cases h : 0 ≤ a <;> omega)), rfl⟩
  · have hb1 : 1 ≤ b := by assumption
    have t := (tdm (a := a) hb1).2 (by assumption)
    go_ret
    exact ⟨ret_int (by unfold dv; rw [if_neg (by omega), t.1]), rfl⟩

theorem num_clampI (n a b : Int) (w : World) :
    Calls Try.prog 82 #[.int .i64 n, .int .i64 a, .int .i64 b] w fun e w' => e = .returned (.int .i64 (hold n a b)) ∧ w = w' := by
  go_enter Try.func82, Try.ntmps82
  go_wp2
  all_goals (go_ret; exact ⟨ret_int (by unfold hold; (repeat' split) <;> omega), rfl⟩)

theorem num_clampU (n a b : Int) (w : World) :
    Calls Try.prog 81 #[.int .u64 n, .int .u64 a, .int .u64 b] w fun e w' => e = .returned (.int .u64 (hold n a b)) ∧ w = w' := by
  go_enter Try.func81, Try.ntmps81
  go_wp2
  all_goals (go_ret; exact ⟨ret_int (by unfold hold; (repeat' split) <;> omega), rfl⟩)

theorem num_Plus (a b : Int) (w : World) (ha : I64 a) (hb : I64 b) :
    Calls Try.prog 68 #[.int .i64 a, .int .i64 b] w fun e w' => e = .returned (.int .i64 (sat (a + b))) ∧ w = w' := by
  obtain ⟨a1, a2⟩ := ha; obtain ⟨b1, b2⟩ := hb
  go_enter Try.func68, Try.ntmps68
  go_wp2_with (go_at_call 82; refine (num_clampI _ _ _ _).mono ?_; rintro e w' ⟨rfl, rfl⟩)
  all_goals (go_ret; exact ⟨ret_int (by unfold hold sat; unfold wrap64; (repeat' split) <;> omega), rfl⟩)

theorem num_magnitude (a : Int) (w : World) (ha : I64 a) :
    Calls Try.prog 80 #[.int .i64 a] w fun e w' => e = .returned (.int .u64 (a.natAbs : Int)) ∧ w = w' := by
  obtain ⟨a1, a2⟩ := ha
  go_enter Try.func80, Try.ntmps80
  go_wp2
  · go_ret; exact ⟨ret_int (by rw [u64w, u64w]; omega), rfl⟩
  · go_ret; exact ⟨ret_int (by omega), rfl⟩

theorem Mul64 (x y : Nat) (w : World) (hx : x < 18446744073709551616) (hy : y < 18446744073709551616) :
    Calls Try.prog 79 #[.int .u64 x, .int .u64 y] w fun e w' => e = .returned (.tuple #[.int .u64 ((x * y / 18446744073709551616 : Nat) : Int), .int .u64 ((x * y % 18446744073709551616 : Nat) : Int)]) ∧ w = w' :=
  (Try.bits_Mul64 x y hx hy w).mono fun e w' ⟨h1, h2⟩ => ⟨h1, h2.symm⟩

theorem num_Times (a b : Int) (w : World) (ha : I64 a) (hb : I64 b) :
    Calls Try.prog 66 #[.int .i64 a, .int .i64 b] w fun e w' => e = .returned (.int .i64 (sat (a * b))) ∧ w = w' := by
  go_enter Try.func66, Try.ntmps66
  go_wp2_with (first
    | (go_at_call 80; refine (num_magnitude _ _ (by assumption)).mono ?_; rintro e w' ⟨rfl, rfl⟩)
    | (go_at_call 79; refine (Mul64 _ _ _ (by unfold I64 at *; omega) (by unfold I64 at *; omega)).mono ?_; rintro e w' ⟨rfl, rfl⟩)
    | (go_at_call 81; refine (num_clampU _ _ _ _).mono ?_; rintro e w' ⟨rfl, rfl⟩))
  all_goals
    go_ret
    refine ⟨ret_int ?_, rfl⟩
    have hp : 0 ≤ (a.natAbs : Int) * (b.natAbs : Int) := Int.mul_nonneg (by omega) (by omega)
    first
      | have ho := mul_opp (sgn_opp (by assumption)); rw [ho]
      | have ho := mul_same (sgn_same (by assumption)); rw [ho]
    clear ho
    generalize (a.natAbs : Int) * (b.natAbs : Int) = p at *
    unfold hold sat wrap64
    try rw [u64w]
    (repeat' split) <;> omega

end
end Go.Proofs.Ytomlcglnkdfemaa

namespace Go.Proofs.Ytomlcglnkdfemaa
section

open Go.RowKit Go.Proofs.Sky

set_option linter.unusedVariables false

end
end Go.Proofs.Ytomlcglnkdfemaa

namespace Go.Proofs.Ytomlcglnkdfemaa
section

section

open Go.RowKit Go.Proofs.Sky

set_option linter.unusedVariables false

attribute [local go_sem ↓] Go.wp_at_zero Go.wp_at_succ

end

end
end Go.Proofs.Ytomlcglnkdfemaa

namespace Go.Proofs.Ytomlcglnkdfemaa
section

section

open Go.RowKit Go.Proofs.Sky

set_option linter.unusedVariables false

set_option linter.unusedSimpArgs false

attribute [local go_sem ↓] Go.wp_at_zero Go.wp_at_succ

end

end
end Go.Proofs.Ytomlcglnkdfemaa

namespace Go.Proofs.Ytomlcglnkdfemaa
section

section

open Go.RowKit Go.Proofs.Sky

set_option linter.unusedVariables false

set_option linter.unusedSimpArgs false

attribute [local go_sem ↓] Go.wp_at_zero Go.wp_at_succ

end

end
end Go.Proofs.Ytomlcglnkdfemaa

namespace Go.Proofs.Ytomlcglnkdfemaa
section

section

open Go.RowKit Go.Proofs.Sky

set_option linter.unusedVariables false

set_option linter.unusedSimpArgs false

attribute [local go_sem ↓] Go.wp_at_zero Go.wp_at_succ

end

end
end Go.Proofs.Ytomlcglnkdfemaa

namespace Go.Proofs.Ytomlcglnkdfemaa
section

section

open Go.RowKit Go.Proofs.Sky

set_option linter.unusedVariables false

set_option linter.unusedSimpArgs false

attribute [local go_sem ↓] Go.wp_at_zero Go.wp_at_succ

/-- The products of the first digits of u with v, added. -/
def sumP (u v : Int) : Nat → Int
  | 0 => 0
  | k + 1 => sumP u v k + dg u k * 65536 ^ k * v

/-- One row of the product: digit i of u with n digits of v, i places on. -/
def rowP (u v : Int) (i n : Nat) : Nat → Int := fun j => if i ≤ j ∧ j < i + n then dg u i * dg v (j - i) else 0

end

end
end Go.Proofs.Ytomlcglnkdfemaa

namespace Go.Proofs.Ytomlcglnkdfemaa
section

section

open Go.RowKit Go.Proofs.Sky

set_option linter.unusedVariables false

set_option linter.unusedSimpArgs false

attribute [local go_sem ↓] Go.wp_at_zero Go.wp_at_succ

end

end
end Go.Proofs.Ytomlcglnkdfemaa

namespace Go.Proofs.Ytomlcglnkdfemaa
section

section

open Go.RowKit Go.Proofs.Sky

set_option linter.unusedVariables false

set_option linter.unusedSimpArgs false

attribute [local go_sem ↓] Go.wp_at_zero Go.wp_at_succ

end

end
end Go.Proofs.Ytomlcglnkdfemaa

namespace Go.Proofs.Sky
section

open Go.RowKit

set_option linter.unusedVariables false

/-- What is asked of the caller's invariant between two rounds: blocks of its own, no others, have turned. -/
def Stays {β : Type} (J : β → World → Prop) : Prop := ∀ s X Y, J s X → Below X.heap.size X Y → J s Y

/-- The iterator gives just xs, in their order, to whatever loop; a round keeps what lay below B. -/
def GivesAll {α : Type} (P : Program) (gf : Nat) (bd lb : Array Value) (encs : α → Array Value) (xs : List α) (B : Nat) (w : World) : Prop :=
  ∀ (l : Nat) (J : List α → World → Prop) (W : World), Below w.heap.size w W → Stays J →
    (∀ pre x rest W1, xs = pre ++ x :: rest → J pre W1 → YieldAt Fence.wide 0 P l (encs x) W1 fun e W' => e = .returned (.bool true) ∧ J (pre ++ [x]) W' ∧ Below B W1 W') →
    J [] W → CallsIn Fence.wide 0 P gf ((bd ++ #[.func (.yield l) #[] #[]]) ++ lb) W fun e W' => (∃ v, e = .returned v) ∧ J xs W'

/-- How a round may be left: off its end. -/
def goesOn {α : Type} (B0 B : Nat) (I : List α → World → Prop) (xs : List α) (W : World) : Exit → Act → World → Prop
  | .normal, _, W' => KeepsFrom B0 W W' ∧ Below B W W' ∧ I xs W'
  | _, _, _ => False

theorem grown_of_below {X Y : World} (h : Below X.heap.size X Y) : X.grownBy Y none := ⟨h.os, h.tape, h.output, h.size, fun k hk _ => h.block k hk⟩

end
end Go.Proofs.Sky

namespace Go.Proofs.Sky
section

open Go.RowKit

set_option linter.unusedVariables false

/-- The better of two places of a row. -/
def pk (N D : Nat → Int) (m x : Nat) : Nat := if N x * D m < N m * D x then x else m

/-- The best of places f 0 to f k, the first of equals. -/
def mnf (N D : Nat → Int) (f : Nat → Nat) : Nat → Nat
  | 0 => f 0
  | k + 1 => pk N D (mnf N D f k) (f (k + 1))

/-- The first of the least fractions that may be, among the places below k; -1: none may be. -/
def lst (N D : Nat → Int) : Nat → Int
  | 0 => -1
  | k + 1 => if 1 ≤ D k ∧ (lst N D k < 0 ∨ N k * D (lst N D k).toNat < N (lst N D k).toNat * D k) then (k : Int) else lst N D k

/-- The places, as they come. -/
def vpN (D : Nat → Int) (k : Nat) : List Nat := (List.range k).filter (fun i : Nat => decide (1 ≤ D i))

end
end Go.Proofs.Sky

namespace Go.Proofs.Ytomlcglnkdfemaa
section

open Go.RowKit Go.Proofs.Sky

set_option linter.unusedVariables false

/-- A slice of ints that came in. -/
def IntSlice (w : World) (a : Option Addr) (n : Nat) (Z : Nat → Int) : Prop :=
  n = 0 ∨ ∃ b off, a = some ⟨b, off, none⟩ ∧ (∀ k, k < n → w.cell? ⟨b, off + k, none⟩ = some (.int .i64 (Z k)) ∧ I64 (Z k)) ∧ b < w.heap.size

end
end Go.Proofs.Ytomlcglnkdfemaa

namespace Go.Proofs.Sky
section

open Go.RowKit

set_option linter.unusedVariables false

/-- A block of three cells, all of them written. -/
theorem Bk.put3 {w : World} {g : Nat} {t : TypeId} {a b c : Value} (h : Bk w g t #[a, b, c]) (u v x : Value) :
    (((w.setCell ⟨g, 0, none⟩ u).setCell ⟨g, 1, none⟩ v).setCell ⟨g, 2, none⟩ x).cell? ⟨g, 0, none⟩ = some u ∧
    (((w.setCell ⟨g, 0, none⟩ u).setCell ⟨g, 1, none⟩ v).setCell ⟨g, 2, none⟩ x).cell? ⟨g, 1, none⟩ = some v ∧
    (((w.setCell ⟨g, 0, none⟩ u).setCell ⟨g, 1, none⟩ v).setCell ⟨g, 2, none⟩ x).cell? ⟨g, 2, none⟩ = some x ∧
    Bk (((w.setCell ⟨g, 0, none⟩ u).setCell ⟨g, 1, none⟩ v).setCell ⟨g, 2, none⟩ x) g t #[u, v, x] := by
  have k : Bk (((w.setCell ⟨g, 0, none⟩ u).setCell ⟨g, 1, none⟩ v).setCell ⟨g, 2, none⟩ x) g t #[u, v, x] := ((h.set 0 u).set 1 v).set 2 x
  exact ⟨k.cell rfl, k.cell rfl, k.cell rfl, k⟩

theorem bw_take {wb w1 : World} {p : BW wb} (hb : Below p.w.heap.size p.w w1) : ∃ q : BW wb, w1 = q.w := ⟨p.next w1 hb, rfl⟩

theorem bw_take_drew {wb w1 : World} {p : BW wb} (hb : Below p.w.drew.heap.size p.w.drew w1) : ∃ q : BW wb, w1 = q.w := ⟨p.next w1 ⟨hb.os, hb.tape, hb.output, hb.size, hb.block⟩, rfl⟩

end
end Go.Proofs.Sky

namespace Go.Proofs.Sky
section

open Go.RowKit

set_option linter.unusedVariables false

abbrev T3 := Int × Int × Int

def crT (u v : T3) : T3 := vcr u.1 u.2.1 u.2.2 v.1 v.2.1 v.2.2

def unT (u : T3) : T3 := vunit u.1 u.2.1 u.2.2

def okT (u : T3) : Bool := vuOk u.1 u.2.1 u.2.2

def dtT (u v : T3) : Int := u.1 * v.1 + u.2.1 * v.2.1 + u.2.2 * v.2.2

def nrT (u : T3) : Bool := vnear u.1 u.2.1 u.2.2

def absSum (u : T3) : Nat := u.1.natAbs + u.2.1.natAbs + u.2.2.natAbs

/-- Small ones: no coordinate beyond 16385. -/
def smT (u : T3) : Prop := (-16385 ≤ u.1 ∧ u.1 ≤ 16385) ∧ (-16385 ≤ u.2.1 ∧ u.2.1 ≤ 16385) ∧ (-16385 ≤ u.2.2 ∧ u.2.2 ≤ 16385)

def bax (n : T3) : T3 := if (n.1.natAbs : Int) ≤ (n.2.1.natAbs : Int) ∧ (n.1.natAbs : Int) ≤ (n.2.2.natAbs : Int) then (1, 0, 0) else if (n.2.1.natAbs : Int) ≤ (n.2.2.natAbs : Int) then (0, 1, 0) else (0, 0, 1)

def bU (n : T3) : T3 := unT (crT (bax n) n)

def bV (n : T3) : T3 := unT (crT n (bU n))

/-- Dir: of a direction's length. -/
def Dir (u : T3) : Prop := 268369924 ≤ dtT u u ∧ dtT u u ≤ 268436480

end
end Go.Proofs.Sky

namespace Go.Proofs.Sky
section

open Go.RowKit

set_option linter.unusedVariables false

/-- A block that is no part of a row that grows lies as it lay. -/
theorem Bk.grown {w w' : World} {b : Nat} {t : TypeId} {cs : Array Value} {row : Option Nat} (h : Bk w b t cs) (hg : w.grownBy w' row) (hne : some b ≠ row) : Bk w' b t cs := (hg.block b h.lt hne).trans h

theorem owns_below {w w' : World} {B : Nat} {e : TypeId} {size n : Nat} {v : Value} {xs : List Value} (h : w.ownsRow B e size v n xs) (hb : Below w.heap.size w w') : w'.ownsRow B e size v n xs := by
  obtain ⟨hl, h⟩ := h
  refine ⟨hl, ?_⟩
  rcases h with h | ⟨g, cap, cur, e1, hB, hg, rest⟩
  · exact .inl h
  · have hlt := (Array.getElem?_eq_some_iff.1 hg).1
    exact .inr ⟨g, cap, cur, e1, hB, (hb.block g hlt).trans hg, rest⟩

theorem owns_mono {w : World} {B C : Nat} {e : TypeId} {size n : Nat} {v : Value} {xs : List Value} (h : w.ownsRow B e size v n xs) (hC : C ≤ B) : w.ownsRow C e size v n xs := by
  obtain ⟨hl, h⟩ := h
  refine ⟨hl, ?_⟩
  rcases h with h | ⟨g, cap, cur, e1, hB, rest⟩
  · exact .inl h
  · exact .inr ⟨g, cap, cur, e1, by omega, rest⟩

end
end Go.Proofs.Sky
