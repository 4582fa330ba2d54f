/- Plain mathematics of layer 19: meshes: corners, triangles of corners, what a pose makes of them. Imports nothing of the translation. -/
import Derived.Test.YtneacfhoinaeeaaMc19


namespace Go.Proofs.Sky
section

open Go.RowKit

set_option linter.unusedVariables false

/-- A triangle of three corners, by their places among the corners. -/
abbrev Tg := Nat × Nat × Nat

def mFit (p : P4) (m : Int) : Bool := qRight p && (decide (0 ≤ m) && decide (m ≤ 63))

def mTri (m : Int) (U : Nat → T3) (t : Tg) : Pr := ⟨1, U t.1, U t.2.1, U t.2.2, 0, m⟩

def tPlc (U : Nat → T3) (t : Tg) : Bool := plc (U t.1) && (plc (U t.2.1) && plc (U t.2.2))

def tUp (U : Nat → T3) (t : Tg) : Bool := !tFlat (U t.1) (U t.2.1) (U t.2.2)

def mPlaced (U : Nat → T3) (N : Nat) (tr : List Tg) (m : Int) : List Pr × Int :=
  if (List.range N).all (fun i => plc (U i)) = true then (if tr.all (tUp U) = true then (tr.map (mTri m U), 0) else ([], 7)) else ([], 5)

def mPut (U : Nat → T3) (tr : List Tg) (m : Int) : List Pr × Int :=
  if tr.all (tPlc U) = true then (if tr.all (tUp U) = true then (tr.map (mTri m U), 0) else ([], 7)) else ([], 5)

/-- All corners of the triangles are among the N, and each of the N is one of theirs. -/
def useB (N : Nat) (tr : List Tg) : Bool :=
  tr.all (fun t => decide (t.1 < N) && (decide (t.2.1 < N) && decide (t.2.2 < N))) && (List.range N).all (fun i => tr.any (fun t => decide (t.1 = i) || (decide (t.2.1 = i) || decide (t.2.2 = i))))

def cubeV (i : Nat) : T3 := (128 * ((i % 2 : Nat) : Int) - 64, 128 * ((i / 2 % 2 : Nat) : Int) - 64, 128 * ((i / 4 : Nat) : Int) - 64)

def halvesT (f : Nat × Nat × Nat × Nat) : List Tg := [(f.1, f.2.1, f.2.2.1), (f.1, f.2.2.1, f.2.2.2)]

def cubeF : List (Nat × Nat × Nat × Nat) := [(0, 2, 3, 1), (4, 5, 7, 6), (0, 1, 5, 4), (2, 6, 7, 3), (0, 4, 6, 2), (1, 3, 7, 5)]

def cubeT : List Tg := cubeF.flatMap halvesT

def lineI (i n : Nat) : Int := dv (128 * (i : Int)) (n : Int) - 64

def gridV (n i : Nat) : T3 := (lineI (i % (n + 1)) n, lineI (i / (n + 1)) n, 0)

def gridF (n k i : Nat) : Nat × Nat × Nat × Nat := (k * (n + 1) + i, k * (n + 1) + i + 1, k * (n + 1) + i + (n + 1) + 1, k * (n + 1) + i + (n + 1))

def gridT (n : Nat) : List Tg := (List.range n).flatMap (fun k => (List.range n).flatMap (fun i => halvesT (gridF n k i)))

def partI (x : Int) : Int := dv (x * 64) 16384

def turnI (n i : Nat) : Int := (i : Int) * 65536 / (n : Int)

def ringV (n i : Nat) : T3 := (partI (cosI (turnI n i)), partI (sinI (turnI n i)), 0)

def coneV (n i : Nat) : T3 := if i < n then ringV n i else if i = n then (0, 0, 0) else (0, 0, 128)

def coneP (n i : Nat) : List Tg := [(i, (i + 1) % n, n + 1), ((i + 1) % n, i, n)]

def coneT (n : Nat) : List Tg := (List.range n).flatMap (coneP n)

def mMesh (p : P4) (m : Int) (V : Nat → T3) (N : Nat) (tr : List Tg) : List Pr × Int :=
  if mFit p m = true then mPlaced (fun i => pPut p (V i)) N tr m else ([], 1)

def mCube (p : P4) (m : Int) : List Pr × Int := mMesh p m cubeV 8 cubeT

def mGrid (n : Int) (p : P4) (m : Int) : List Pr × Int := if 1 ≤ n ∧ n ≤ 8 then mMesh p m (gridV n.toNat) ((n.toNat + 1) * (n.toNat + 1)) (gridT n.toNat) else ([], 1)

def mCone (n : Int) (p : P4) (m : Int) : List Pr × Int := if 3 ≤ n ∧ n ≤ 32 then mMesh p m (coneV n.toNat) (n.toNat + 2) (coneT n.toNat) else ([], 1)

theorem grid_use : ∀ n, n ≤ 8 → 1 ≤ n → useB ((n + 1) * (n + 1)) (gridT n) = true := by decide +kernel

theorem cone_use : ∀ n, n ≤ 32 → 3 ≤ n → useB (n + 2) (coneT n) = true := by decide +kernel

theorem flat_len_const {α β : Type} (f : α → List β) (c : Nat) : ∀ (l : List α), (∀ x ∈ l, (f x).length = c) → (l.flatMap f).length = l.length * c
  | [], _ => by simp
  | x :: l, h => by
    rw [List.flatMap_cons, List.length_append, h x List.mem_cons_self, flat_len_const f c l (fun y hy => h y (List.mem_cons_of_mem _ hy)), List.length_cons, Nat.succ_mul]
    omega

theorem grid_len (n : Nat) : (gridT n).length = n * (n * 2) := by
  unfold gridT
  rw [flat_len_const _ (n * 2) _ (fun k _ => by rw [flat_len_const _ 2 _ (fun i _ => rfl), List.length_range]), List.length_range]

theorem cone_len (n : Nat) : (coneT n).length = n * 2 := by
  unfold coneT
  rw [flat_len_const _ 2 _ (fun i _ => rfl), List.length_range]

end
end Go.Proofs.Sky
