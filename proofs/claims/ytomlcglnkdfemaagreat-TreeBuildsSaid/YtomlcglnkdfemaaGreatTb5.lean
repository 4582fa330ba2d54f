/- A slice of structs of ints and bools that came in, opened: its elements' cells, one by one. Imports nothing of the translation. Contracts of package num (all but Root and Part), over the plain mathematics of Math01. Words for memory: a block that is known whole; eight numbers in a row. Imports nothing of the translation. Slices that came in, opened. Plain mathematics of layer 7: bases. Imports nothing of the translation. Rows that a call makes, and blocks beside them. Imports nothing of the translation. Plain mathematics of layer 10: boxes, and what rays meet. Imports nothing of the translation. Plain mathematics of layer 10: intervals of times, and that a ray meets a box just if the three axes' intervals share a time. Imports nothing of the translation. -/
import Derived.Test.YtomlcglnkdfemaaGreatTb4
import Derived.Deep.Slices
import Derived.Test.YtomlcglnkdfemaaGreatProg
import Derived.Test.YtomlcglnkdfemaaGreatTb2
import Derived.Test.YtomlcglnkdfemaaGreatShelf
import Derived.WalkKit
import Derived.WalkLawsBesides
import Derived.WalkSpells
import Derived.Test.YtomlcglnkdfemaaGreatTb3
import Derived.Below
import Derived.Deep.Draws
import Derived.Handy
import Derived.Test.YtomlcglnkdfemaaGreatTb1
import Derived.ChangeSlices
import Derived.WideShapes
import Derived.DataReads
import Derived.Laws.AppendOwn


namespace Go.Proofs.Sky
section

open Go.ChangeShapes Go.WideShapes Go.RowKit

set_option linter.unusedVariables false

/-- From cell off of block b on lie n elements of c cells each: V. -/
def RowsAt (w : World) (b off n c : Nat) (ks : List LK) (V : Nat → List Value) : Prop :=
  ∀ i, i < n → LeafAll ks (V i) ∧ ∀ j, j < c → w.cell? ⟨b, off + i * c + j, none⟩ = (V i)[j]?

theorem LeafAll.length : ∀ {ks : List LK} {cs : List Value}, LeafAll ks cs → cs.length = ks.length
  | [], cs, h => by
    have : cs = [] := h
    subst this
    rfl
  | k :: ks, cs, h => by
    obtain ⟨v, r, rfl, _, h2⟩ := h
    simp [h2.length]

end
end Go.Proofs.Sky

namespace Go.Proofs.YtomlcglnkdfemaaGreat
section

open Go.RowKit Go.Proofs.Sky

set_option linter.unusedVariables false

theorem ret_int {k : IntKind} {a b : Int} (h : a = b) : Ending.returned (.int k a) = .returned (.int k b) := by rw [h]

theorem num_Div (a b : Int) (w : World) (ha : I64 a) (hb : I64 b) :
    Calls Tryz.prog 84 #[.int .i64 a, .int .i64 b] w fun e w' => e = .returned (.int .i64 (dv a b)) ∧ w = w' := by
  obtain ⟨a1, a2⟩ := ha; obtain ⟨b1, b2⟩ := hb
  go_enter Tryz.func84, Tryz.ntmps84
  go_wp2
  · go_ret; exact ⟨ret_int (by unfold dv; rw [if_pos (by assumption)]), rfl⟩
  · have hb1 : 1 ≤ b := by assumption
    have t := (tdm (a := a) hb1).1 (by assumption)
    have l := (ediv_le_pos (a := a) hb1)
    go_ret
    exact ⟨ret_int (by
      unfold dv; rw [if_neg (by omega), t.1]; exact IntWalk.wrap64_in _ (by by_cases h : 0 ≤ a <;> omega)), rfl⟩
  · have hb1 : 1 ≤ b := by assumption
    have t := (tdm (a := a) hb1).2 (by assumption)
    go_ret
    exact ⟨ret_int (by unfold dv; rw [if_neg (by omega), t.1]), rfl⟩

theorem num_clampI (n a b : Int) (w : World) :
    Calls Tryz.prog 83 #[.int .i64 n, .int .i64 a, .int .i64 b] w fun e w' => e = .returned (.int .i64 (hold n a b)) ∧ w = w' := by
  go_enter Tryz.func83, Tryz.ntmps83
  go_wp2
  all_goals (go_ret; exact ⟨ret_int (by unfold hold; (repeat' split) <;> omega), rfl⟩)

theorem num_clampU (n a b : Int) (w : World) :
    Calls Tryz.prog 82 #[.int .u64 n, .int .u64 a, .int .u64 b] w fun e w' => e = .returned (.int .u64 (hold n a b)) ∧ w = w' := by
  go_enter Tryz.func82, Tryz.ntmps82
  go_wp2
  all_goals (go_ret; exact ⟨ret_int (by unfold hold; (repeat' split) <;> omega), rfl⟩)

theorem num_Plus (a b : Int) (w : World) (ha : I64 a) (hb : I64 b) :
    Calls Tryz.prog 65 #[.int .i64 a, .int .i64 b] w fun e w' => e = .returned (.int .i64 (sat (a + b))) ∧ w = w' := by
  obtain ⟨a1, a2⟩ := ha; obtain ⟨b1, b2⟩ := hb
  go_enter Tryz.func65, Tryz.ntmps65
  go_wp2_with (go_at_call 83; refine (num_clampI _ _ _ _).mono ?_; rintro e w' ⟨rfl, rfl⟩)
  all_goals (go_ret; exact ⟨ret_int (by unfold hold sat; unfold wrap64; (repeat' split) <;> omega), rfl⟩)

theorem num_magnitude (a : Int) (w : World) (ha : I64 a) :
    Calls Tryz.prog 81 #[.int .i64 a] w fun e w' => e = .returned (.int .u64 (a.natAbs : Int)) ∧ w = w' := by
  obtain ⟨a1, a2⟩ := ha
  go_enter Tryz.func81, Tryz.ntmps81
  go_wp2
  · go_ret; exact ⟨ret_int (by rw [u64w, u64w]; omega), rfl⟩
  · go_ret; exact ⟨ret_int (by omega), rfl⟩

theorem Mul64 (x y : Nat) (w : World) (hx : x < 18446744073709551616) (hy : y < 18446744073709551616) :
    Calls Tryz.prog 80 #[.int .u64 x, .int .u64 y] w fun e w' => e = .returned (.tuple #[.int .u64 ((x * y / 18446744073709551616 : Nat) : Int), .int .u64 ((x * y % 18446744073709551616 : Nat) : Int)]) ∧ w = w' :=
  (Tryz.bits_Mul64 x y hx hy w).mono fun e w' ⟨h1, h2⟩ => ⟨h1, h2.symm⟩

theorem num_Times (a b : Int) (w : World) (ha : I64 a) (hb : I64 b) :
    Calls Tryz.prog 63 #[.int .i64 a, .int .i64 b] w fun e w' => e = .returned (.int .i64 (sat (a * b))) ∧ w = w' := by
  go_enter Tryz.func63, Tryz.ntmps63
  go_wp2_with (first
    | (go_at_call 81; refine (num_magnitude _ _ (by assumption)).mono ?_; rintro e w' ⟨rfl, rfl⟩)
    | (go_at_call 80; refine (Mul64 _ _ _ (by unfold I64 at *; omega) (by unfold I64 at *; omega)).mono ?_; rintro e w' ⟨rfl, rfl⟩)
    | (go_at_call 82; refine (num_clampU _ _ _ _).mono ?_; rintro e w' ⟨rfl, rfl⟩))
  all_goals
    go_ret
    refine ⟨ret_int ?_, rfl⟩
    have hp : 0 ≤ (a.natAbs : Int) * (b.natAbs : Int) := Int.mul_nonneg (by omega) (by omega)
    first
      | have ho := mul_opp (sgn_opp (by assumption)); rw [ho]
      | have ho := mul_same (sgn_same (by assumption)); rw [ho]
    clear ho
    generalize (a.natAbs : Int) * (b.natAbs : Int) = p at *
    unfold hold sat wrap64
    try rw [u64w]
    (repeat' split) <;> omega

end
end Go.Proofs.YtomlcglnkdfemaaGreat

namespace Go.Proofs.Sky
section

open Go.RowKit

set_option linter.unusedVariables false

/-- Block b is just the cells cs of type t, none frozen. -/
def Bk (w : World) (b : Nat) (t : TypeId) (cs : Array Value) : Prop := w.heap[b]? = some (.cells cs t (0, 0))

section

variable {w w' W : World} {b : Nat} {t : TypeId} {cs : Array Value}

theorem Bk.lt (h : Bk w b t cs) : b < w.heap.size := by
  unfold Bk at h
  obtain ⟨hlt, _⟩ := Array.getElem?_eq_some_iff.1 h
  exact hlt

theorem Bk.cell (h : Bk w b t cs) {i : Nat} {v : Value} (hv : cs[i]? = some v) : w.cell? ⟨b, i, none⟩ = some v := by
  unfold Bk at h
  simp [World.cell?, h, hv]

theorem Bk.frozen (h : Bk w b t cs) (i : Nat) : w.frozen? ⟨b, i, none⟩ = false := by
  unfold Bk at h
  simp [World.frozen?, h]

theorem Bk.new (w : World) (cs : Array Value) (t : TypeId) : Bk (w.alloc (.cells cs t)) w.heap.size t cs := by
  unfold Bk World.alloc; simp

theorem Bk.new_at (w : World) (cs : Array Value) (t : TypeId) (b : Nat) (h : b = w.heap.size) : Bk (w.alloc (.cells cs t)) b t cs := by subst h; exact Bk.new _ _ _

theorem Bk.alloc (h : Bk w b t cs) (o : Obj) : Bk (w.alloc o) b t cs := (Below.heap_alloc w o b h.lt).trans h

theorem Bk.drew (h : Bk w b t cs) : Bk w.drew b t cs := h

theorem Bk.other (h : Bk w b t cs) {a : Addr} (ha : b ≠ a.block) (v : Value) : Bk (w.setCell a v) b t cs := (Below.heap_setCell w a v b ha).trans h

theorem Bk.set (h : Bk w b t cs) (i : Nat) (v : Value) : Bk (w.setCell ⟨b, i, none⟩ v) b t (cs.setIfInBounds i v) := by
  unfold Bk at h ⊢
  simp [World.setCell, Array.getElem?_modify, h]

theorem Bk.below (h : Bk w b t cs) (hb : Below w.heap.size w w') : Bk w' b t cs := (hb.block b h.lt).trans h

theorem Bk.cast {ds : Array Value} (h : Bk w b t cs) (e : cs = ds) : Bk w b t ds := e ▸ h

end

/-- Eight ints. -/
def arr8 (f : Nat → Int) : Array Value := #[.int .i64 (f 0), .int .i64 (f 1), .int .i64 (f 2), .int .i64 (f 3), .int .i64 (f 4), .int .i64 (f 5), .int .i64 (f 6), .int .i64 (f 7)]

end
end Go.Proofs.Sky

namespace Go.Proofs.YtomlcglnkdfemaaGreat
section

open Go.RowKit Go.Proofs.Sky

set_option linter.unusedVariables false

/-- A slice of ints that came in. -/
def IntSlice (w : World) (a : Option Addr) (n : Nat) (Z : Nat → Int) : Prop :=
  n = 0 ∨ ∃ b off, a = some ⟨b, off, none⟩ ∧ (∀ k, k < n → w.cell? ⟨b, off + k, none⟩ = some (.int .i64 (Z k)) ∧ I64 (Z k)) ∧ b < w.heap.size

end
end Go.Proofs.YtomlcglnkdfemaaGreat

namespace Go.Proofs.Sky
section

open Go.RowKit

set_option linter.unusedVariables false

abbrev T3 := Int × Int × Int

def crT (u v : T3) : T3 := vcr u.1 u.2.1 u.2.2 v.1 v.2.1 v.2.2

def unT (u : T3) : T3 := vunit u.1 u.2.1 u.2.2

def okT (u : T3) : Bool := vuOk u.1 u.2.1 u.2.2

def dtT (u v : T3) : Int := u.1 * v.1 + u.2.1 * v.2.1 + u.2.2 * v.2.2

def nrT (u : T3) : Bool := vnear u.1 u.2.1 u.2.2

def absSum (u : T3) : Nat := u.1.natAbs + u.2.1.natAbs + u.2.2.natAbs

/-- Small ones: no coordinate beyond 16385. -/
def smT (u : T3) : Prop := (-16385 ≤ u.1 ∧ u.1 ≤ 16385) ∧ (-16385 ≤ u.2.1 ∧ u.2.1 ≤ 16385) ∧ (-16385 ≤ u.2.2 ∧ u.2.2 ≤ 16385)

def bax (n : T3) : T3 := if (n.1.natAbs : Int) ≤ (n.2.1.natAbs : Int) ∧ (n.1.natAbs : Int) ≤ (n.2.2.natAbs : Int) then (1, 0, 0) else if (n.2.1.natAbs : Int) ≤ (n.2.2.natAbs : Int) then (0, 1, 0) else (0, 0, 1)

def bU (n : T3) : T3 := unT (crT (bax n) n)

def bV (n : T3) : T3 := unT (crT n (bU n))

/-- Dir: of a direction's length. -/
def Dir (u : T3) : Prop := 268369924 ≤ dtT u u ∧ dtT u u ≤ 268436480

end
end Go.Proofs.Sky

namespace Go.Proofs.Sky
section

open Go.RowKit

set_option linter.unusedVariables false

/-- A block that is no part of a row that grows lies as it lay. -/
theorem Bk.grown {w w' : World} {b : Nat} {t : TypeId} {cs : Array Value} {row : Option Nat} (h : Bk w b t cs) (hg : w.grownBy w' row) (hne : some b ≠ row) : Bk w' b t cs := (hg.block b h.lt hne).trans h

theorem owns_below {w w' : World} {B : Nat} {e : TypeId} {size n : Nat} {v : Value} {xs : List Value} (h : w.ownsRow B e size v n xs) (hb : Below w.heap.size w w') : w'.ownsRow B e size v n xs := by
  obtain ⟨hl, h⟩ := h
  refine ⟨hl, ?_⟩
  rcases h with h | ⟨g, cap, cur, e1, hB, hg, rest⟩
  · exact .inl h
  · have hlt := (Array.getElem?_eq_some_iff.1 hg).1
    exact .inr ⟨g, cap, cur, e1, hB, (hb.block g hlt).trans hg, rest⟩

theorem owns_mono {w : World} {B C : Nat} {e : TypeId} {size n : Nat} {v : Value} {xs : List Value} (h : w.ownsRow B e size v n xs) (hC : C ≤ B) : w.ownsRow C e size v n xs := by
  obtain ⟨hl, h⟩ := h
  refine ⟨hl, ?_⟩
  rcases h with h | ⟨g, cap, cur, e1, hB, rest⟩
  · exact .inl h
  · exact .inr ⟨g, cap, cur, e1, by omega, rest⟩

end
end Go.Proofs.Sky

namespace Go.Proofs.Sky
section

section

open Go.RowKit

set_option linter.unusedVariables false

abbrev Bx := T3 × T3

def bRight (b : Bx) : Bool := nrT b.1 && (nrT b.2 && decide (b.1.1 ≤ b.2.1 ∧ b.1.2.1 ≤ b.2.2.1 ∧ b.1.2.2 ≤ b.2.2.2))

def bJoin (a b : Bx) : Bx := if bRight a = true ∧ bRight b = true then ((min a.1.1 b.1.1, min a.1.2.1 b.1.2.1, min a.1.2.2 b.1.2.2), (max a.2.1 b.2.1, max a.2.2.1 b.2.2.1, max a.2.2.2 b.2.2.2)) else ((0, 0, 0), (0, 0, 0))

def bHas (b : Bx) (v : T3) : Bool := bRight b && decide (b.1.1 ≤ v.1 ∧ v.1 ≤ b.2.1 ∧ b.1.2.1 ≤ v.2.1 ∧ v.2.1 ≤ b.2.2.1 ∧ b.1.2.2 ≤ v.2.2 ∧ v.2.2 ≤ b.2.2.2)

def bArea (b : Bx) : Int := if bRight b = true then (b.2.1 - b.1.1) * (b.2.2.1 - b.1.2.1) + (b.2.2.1 - b.1.2.1) * (b.2.2.2 - b.1.2.2) + (b.2.2.2 - b.1.2.2) * (b.2.1 - b.1.1) else 0

def crd (v : T3) (axis : Int) : Int := if axis = 0 then v.1 else if axis = 1 then v.2.1 else v.2.2

def bMid (b : Bx) (axis : Int) : Int := if bRight b = true ∧ 0 ≤ axis ∧ axis ≤ 2 then crd b.1 axis + crd b.2 axis else 0

def gro (x n : Int) : Int := hold (x + n) (-1048576) 1048576

def bGrow (b : Bx) (n : Int) : Bx := if bRight b = true ∧ 0 ≤ n ∧ n ≤ 16 then ((gro b.1.1 (-n), gro b.1.2.1 (-n), gro b.1.2.2 (-n)), (gro b.2.1 n, gro b.2.2.1 n, gro b.2.2.2 n)) else ((0, 0, 0), (0, 0, 0))

/-- The least box with the first k vectors. -/
def bHull (V : Nat → T3) : Nat → Bx
  | 0 => ((0, 0, 0), (0, 0, 0))
  | k + 1 => if k = 0 then (V 0, V 0) else bJoin (bHull V k) (V k, V k)

def bOfOk (V : Nat → T3) (n : Nat) : Bool := decide (0 < n) && (List.range n).all (fun k => nrT (V k))

def bOf (V : Nat → T3) (n : Nat) : Bx := if bOfOk V n = true then bHull V n else ((0, 0, 0), (0, 0, 0))

/-- At time p / q the ray from o along d lies between the faces, on one axis. -/
def onAx (lo hi o d p q : Int) : Prop := lo * q ≤ o * q + d * p ∧ o * q + d * p ≤ hi * q

/-- The ray meets the box up to n / m (without a limit for m below 1). -/
def hits (b : Bx) (o d : T3) (n m : Int) : Prop :=
  ∃ p q : Int, 1 ≤ q ∧ 0 ≤ p ∧ (1 ≤ m → p * m ≤ n * q) ∧ onAx b.1.1 b.2.1 o.1 d.1 p q ∧ onAx b.1.2.1 b.2.2.1 o.2.1 d.2.1 p q ∧ onAx b.1.2.2 b.2.2.2 o.2.2 d.2.2 p q

noncomputable def bHit (b : Bx) (o d : T3) (n m : Int) : Bool := @decide (bRight b = true ∧ nrT o = true ∧ nrT d = true ∧ hits b o d n m) (Classical.propDecidable _)

/-- A box, as six numbers. -/
def bx6 (b : Bx) : Array Value := #[.int .i64 b.1.1, .int .i64 b.1.2.1, .int .i64 b.1.2.2, .int .i64 b.2.1, .int .i64 b.2.2.1, .int .i64 b.2.2.2]

theorem bRight_iff {b : Bx} : bRight b = true ↔ (nrT b.1 = true ∧ nrT b.2 = true ∧ b.1.1 ≤ b.2.1 ∧ b.1.2.1 ≤ b.2.2.1 ∧ b.1.2.2 ≤ b.2.2.2) := by
  unfold bRight; simp [Bool.and_eq_true]

theorem nrT_iff {v : T3} : nrT v = true ↔ -1048576 ≤ v.1 ∧ v.1 ≤ 1048576 ∧ -1048576 ≤ v.2.1 ∧ v.2.1 ≤ 1048576 ∧ -1048576 ≤ v.2.2 ∧ v.2.2 ≤ 1048576 := by
  unfold nrT; exact vnear_iff

theorem bJoin_yes {a b : Bx} (ha : bRight a = true) (hb : bRight b = true) : bJoin a b = ((min a.1.1 b.1.1, min a.1.2.1 b.1.2.1, min a.1.2.2 b.1.2.2), (max a.2.1 b.2.1, max a.2.2.1 b.2.2.1, max a.2.2.2 b.2.2.2)) := by
  unfold bJoin; rw [if_pos ⟨ha, hb⟩]

theorem bJoin_right {a b : Bx} (ha : bRight a = true) (hb : bRight b = true) : bRight (bJoin a b) = true := by
  rw [bJoin_yes ha hb]
  rw [bRight_iff, nrT_iff, nrT_iff] at *
  dsimp only
  omega

theorem bJoin_self {a : Bx} (ha : bRight a = true) : bJoin a a = a := by
  rw [bJoin_yes ha ha]
  obtain ⟨⟨x, y, z⟩, u, v, t⟩ := a
  simp

end

end
end Go.Proofs.Sky

namespace Go.Proofs.Sky
section

section

open Go.RowKit

set_option linter.unusedVariables false

/-- From the first fraction on, up to the last one (no end, where that is none). -/
abbrev Iv := (Int × Int) × (Int × Int)

def ivLater (a b : Int × Int) : Int × Int := if fless a.1 a.2 b.1 b.2 = true then b else a

def ivEarlier (a b : Int × Int) : Int × Int := if a.2 < 1 ∨ fless b.1 b.2 a.1 a.2 = true then b else a

def ivShared (i o : Iv) : Iv := (ivLater i.1 o.1, ivEarlier i.2 o.2)

def ivEmpty (i : Iv) : Bool := fless i.2.1 i.2.2 i.1.1 i.1.2

def btw (lo hi way : Int) : Iv := if way = 0 then (if 0 < lo ∨ hi < 0 then ((1, 1), (0, 1)) else ((0, 1), (0, 0))) else if way < 0 then ((-hi, -way), (-lo, -way)) else ((lo, way), (hi, way))

/-- p / q lies in it. -/
def Inn (i : Iv) (p q : Int) : Prop := i.1.1 * q ≤ p * i.1.2 ∧ (1 ≤ i.2.2 → p * i.2.2 ≤ i.2.1 * q)

def ivInts (i : Iv) : Prop := I64 i.1.1 ∧ I64 i.1.2 ∧ I64 i.2.1 ∧ I64 i.2.2

def iv4 (i : Iv) : Array Value := #[.int .i64 i.1.1, .int .i64 i.1.2, .int .i64 i.2.1, .int .i64 i.2.2]

/-- What is left behind some axes. -/
def ivFold (i : Iv) (l : List Iv) : Iv := l.foldl ivShared i

/-- The three axes' intervals. -/
def ivs (b : Bx) (o d : T3) : List Iv := [btw (b.1.1 - o.1) (b.2.1 - o.1) d.1, btw (b.1.2.1 - o.2.1) (b.2.2.1 - o.2.1) d.2.1, btw (b.1.2.2 - o.2.2) (b.2.2.2 - o.2.2) d.2.2]

end

end
end Go.Proofs.Sky
