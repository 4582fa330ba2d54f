/- A row of primitives among the arguments. Plain mathematics of layer 19: meshes: corners, triangles of corners, what a pose makes of them. Imports nothing of the translation. -/
import Derived.Test.YtneacfhoinaeeaaMa16
import Derived.Deep.DeepCutAuto
import Derived.Test.YtneacfhoinaeeaaMa11


namespace Go.Proofs.Ytneacfhoinaeeaa
section

open Go.RowKit Go.Proofs.Sky

set_option linter.unusedVariables false

def pOf16 (V : List Value) : Pr :=
  ⟨intOf (V.getD 0 (.bool false)), (intOf (V.getD 1 (.bool false)), intOf (V.getD 2 (.bool false)), intOf (V.getD 3 (.bool false))), (intOf (V.getD 4 (.bool false)), intOf (V.getD 5 (.bool false)), intOf (V.getD 6 (.bool false))), (intOf (V.getD 7 (.bool false)), intOf (V.getD 8 (.bool false)), intOf (V.getD 9 (.bool false))), intOf (V.getD 10 (.bool false)), intOf (V.getD 11 (.bool false))⟩

theorem pOf16_pcells (p : Pr) : pOf16 (pcells p) = p := rfl

theorem prim_row16 {V : List Value} (h : LeafAll [.int .i64, .int .i64, .int .i64, .int .i64, .int .i64, .int .i64, .int .i64, .int .i64, .int .i64, .int .i64, .int .i64, .int .i64] V) : ∃ p : Pr, V = pcells p ∧ p.I := by
  obtain ⟨_, _, rfl, ⟨x0, rfl, h0⟩, _, _, rfl, ⟨x1, rfl, h1⟩, _, _, rfl, ⟨x2, rfl, h2⟩, _, _, rfl, ⟨x3, rfl, h3⟩, _, _, rfl, ⟨x4, rfl, h4⟩, _, _, rfl, ⟨x5, rfl, h5⟩, _, _, rfl, ⟨x6, rfl, h6⟩, _, _, rfl, ⟨x7, rfl, h7⟩, _, _, rfl, ⟨x8, rfl, h8⟩, _, _, rfl, ⟨x9, rfl, h9⟩, _, _, rfl, ⟨x10, rfl, h10⟩, _, r, rfl, ⟨x11, rfl, h11⟩, he⟩ := h
  have he' : r = [] := he
  subst he'
  exact ⟨⟨x0, (x1, x2, x3), (x4, x5, x6), (x7, x8, x9), x10, x11⟩, rfl, ⟨I64.of_wf h0, ⟨I64.of_wf h1, I64.of_wf h2, I64.of_wf h3⟩, ⟨I64.of_wf h4, I64.of_wf h5, I64.of_wf h6⟩, ⟨I64.of_wf h7, I64.of_wf h8, I64.of_wf h9⟩, I64.of_wf h10, I64.of_wf h11⟩⟩

set_option maxRecDepth 100000 in
theorem open_prims16 {H : Type} {enc : TypeId × Value → H} {W : World} {r : Reach} {b0 : Nat} {v : Value} {d : DataW H} {p : List MemPlace} (hv : Value.okWide Try.prog W r b0 26 v)
    (h : DataW.Trod enc Try.prog W 0 (fun _ => true) true 26 v d p) : ∃ (a : Option Addr) (len cap : Nat) (P : Nat → Pr), v = .slice a len cap ∧ Prims W (.slice a len cap) len P := by
  obtain ⟨z0, z1, z2, rfl⟩ := Go.WideShapes.okWide_slice Try.underlying26 hv
  obtain ⟨fuel, hf⟩ := h
  obtain ⟨a, len, cap, V, ev, _, hm, hr⟩ := open_rows16 (n := 5) (ks := [.int .i64, .int .i64, .int .i64, .int .i64, .int .i64, .int .i64, .int .i64, .int .i64, .int .i64, .int .i64, .int .i64, .int .i64]) Try.underlying26 (by kernel_rfl) (by kernel_rfl) (by simp) hf
  rw [ev]
  clear ev hf hv
  refine ⟨a, len, cap, fun i => pOf16 (V i), rfl, ?_⟩
  rcases hr with rfl | ⟨b, off, rfl, hR, hb⟩
  · exact ⟨⟨a, cap, rfl, hm, .inl rfl⟩, fun i hi => absurd hi (by omega)⟩
  · refine ⟨⟨_, cap, rfl, hm, .inr ⟨b, off, rfl, hb, fun k hk j hj => ?_⟩⟩, fun k hk => ?_⟩
    · obtain ⟨p, e, _⟩ := prim_row16 (hR k hk).1
      have c : W.cell? ⟨b, off + k * 12 + j, none⟩ = (V k)[j]? := (hR k hk).2 j hj
      dsimp only
      rw [c, e, pOf16_pcells]
    · obtain ⟨p, e, hI⟩ := prim_row16 (hR k hk).1
      dsimp only
      rw [e, pOf16_pcells]
      exact hI

end
end Go.Proofs.Ytneacfhoinaeeaa

namespace Go.Proofs.Sky
section

open Go.RowKit

set_option linter.unusedVariables false

/-- A triangle of three corners, by their places among the corners. -/
abbrev Tg := Nat × Nat × Nat

def mFit (p : P4) (m : Int) : Bool := qRight p && (decide (0 ≤ m) && decide (m ≤ 63))

def mTri (m : Int) (U : Nat → T3) (t : Tg) : Pr := ⟨1, U t.1, U t.2.1, U t.2.2, 0, m⟩

def tPlc (U : Nat → T3) (t : Tg) : Bool := plc (U t.1) && (plc (U t.2.1) && plc (U t.2.2))

def tUp (U : Nat → T3) (t : Tg) : Bool := !tFlat (U t.1) (U t.2.1) (U t.2.2)

def mPlaced (U : Nat → T3) (N : Nat) (tr : List Tg) (m : Int) : List Pr × Int :=
  if (List.range N).all (fun i => plc (U i)) = true then (if tr.all (tUp U) = true then (tr.map (mTri m U), 0) else ([], 7)) else ([], 5)

def mPut (U : Nat → T3) (tr : List Tg) (m : Int) : List Pr × Int :=
  if tr.all (tPlc U) = true then (if tr.all (tUp U) = true then (tr.map (mTri m U), 0) else ([], 7)) else ([], 5)

/-- All corners of the triangles are among the N, and each of the N is one of theirs. -/
def useB (N : Nat) (tr : List Tg) : Bool :=
  tr.all (fun t => decide (t.1 < N) && (decide (t.2.1 < N) && decide (t.2.2 < N))) && (List.range N).all (fun i => tr.any (fun t => decide (t.1 = i) || (decide (t.2.1 = i) || decide (t.2.2 = i))))

theorem put_placed {N : Nat} {tr : List Tg} (h : useB N tr = true) (U : Nat → T3) (m : Int) : mPut U tr m = mPlaced U N tr m := by
  have e : tr.all (tPlc U) = (List.range N).all (fun i => plc (U i)) := by
    unfold useB at h
    simp only [Bool.and_eq_true, List.all_eq_true, List.any_eq_true, Bool.or_eq_true, decide_eq_true_eq, List.mem_range] at h
    obtain ⟨h1, h2⟩ := h
    rw [Bool.eq_iff_iff, List.all_eq_true, List.all_eq_true]
    unfold tPlc
    simp only [Bool.and_eq_true, List.mem_range]
    constructor
    · intro ha i hi
      obtain ⟨t, ht, e⟩ := h2 i hi
      obtain ⟨a, b, c⟩ := ha t ht
      rcases e with rfl | rfl | rfl
      · exact a
      · exact b
      · exact c
    · intro ha t ht
      obtain ⟨a, b, c⟩ := h1 t ht
      exact ⟨ha _ a, ha _ b, ha _ c⟩
  unfold mPut mPlaced
  rw [e]

def cubeV (i : Nat) : T3 := (128 * ((i % 2 : Nat) : Int) - 64, 128 * ((i / 2 % 2 : Nat) : Int) - 64, 128 * ((i / 4 : Nat) : Int) - 64)

def halvesT (f : Nat × Nat × Nat × Nat) : List Tg := [(f.1, f.2.1, f.2.2.1), (f.1, f.2.2.1, f.2.2.2)]

def cubeF : List (Nat × Nat × Nat × Nat) := [(0, 2, 3, 1), (4, 5, 7, 6), (0, 1, 5, 4), (2, 6, 7, 3), (0, 4, 6, 2), (1, 3, 7, 5)]

def cubeT : List Tg := cubeF.flatMap halvesT

def lineI (i n : Nat) : Int := dv (128 * (i : Int)) (n : Int) - 64

def gridV (n i : Nat) : T3 := (lineI (i % (n + 1)) n, lineI (i / (n + 1)) n, 0)

def gridF (n k i : Nat) : Nat × Nat × Nat × Nat := (k * (n + 1) + i, k * (n + 1) + i + 1, k * (n + 1) + i + (n + 1) + 1, k * (n + 1) + i + (n + 1))

def gridT (n : Nat) : List Tg := (List.range n).flatMap (fun k => (List.range n).flatMap (fun i => halvesT (gridF n k i)))

def partI (x : Int) : Int := dv (x * 64) 16384

def turnI (n i : Nat) : Int := (i : Int) * 65536 / (n : Int)

def ringV (n i : Nat) : T3 := (partI (cosI (turnI n i)), partI (sinI (turnI n i)), 0)

def coneV (n i : Nat) : T3 := if i < n then ringV n i else if i = n then (0, 0, 0) else (0, 0, 128)

def coneP (n i : Nat) : List Tg := [(i, (i + 1) % n, n + 1), ((i + 1) % n, i, n)]

def coneT (n : Nat) : List Tg := (List.range n).flatMap (coneP n)

def mMesh (p : P4) (m : Int) (V : Nat → T3) (N : Nat) (tr : List Tg) : List Pr × Int :=
  if mFit p m = true then mPlaced (fun i => pPut p (V i)) N tr m else ([], 1)

def mCube (p : P4) (m : Int) : List Pr × Int := mMesh p m cubeV 8 cubeT

def mGrid (n : Int) (p : P4) (m : Int) : List Pr × Int := if 1 ≤ n ∧ n ≤ 8 then mMesh p m (gridV n.toNat) ((n.toNat + 1) * (n.toNat + 1)) (gridT n.toNat) else ([], 1)

def mCone (n : Int) (p : P4) (m : Int) : List Pr × Int := if 3 ≤ n ∧ n ≤ 32 then mMesh p m (coneV n.toNat) (n.toNat + 2) (coneT n.toNat) else ([], 1)

theorem cube_use : useB 8 cubeT = true := by decide +kernel

theorem grid_use : ∀ n, n ≤ 8 → 1 ≤ n → useB ((n + 1) * (n + 1)) (gridT n) = true := by decide +kernel

theorem cone_use : ∀ n, n ≤ 32 → 3 ≤ n → useB (n + 2) (coneT n) = true := by decide +kernel

theorem placed_len (U : Nat → T3) (N : Nat) (tr : List Tg) (m : Int) : (mPlaced U N tr m).1.length ≤ tr.length := by
  unfold mPlaced
  split
  · split
    · simp
    · simp
  · simp

theorem flat_len_const {α β : Type} (f : α → List β) (c : Nat) : ∀ (l : List α), (∀ x ∈ l, (f x).length = c) → (l.flatMap f).length = l.length * c
  | [], _ => by simp
  | x :: l, h => by
    rw [List.flatMap_cons, List.length_append, h x List.mem_cons_self, flat_len_const f c l (fun y hy => h y (List.mem_cons_of_mem _ hy)), List.length_cons, Nat.succ_mul]
    omega

theorem grid_len (n : Nat) : (gridT n).length = n * (n * 2) := by
  unfold gridT
  rw [flat_len_const _ (n * 2) _ (fun k _ => by rw [flat_len_const _ 2 _ (fun i _ => rfl), List.length_range]), List.length_range]

theorem cone_len (n : Nat) : (coneT n).length = n * 2 := by
  unfold coneT
  rw [flat_len_const _ 2 _ (fun i _ => rfl), List.length_range]

end
end Go.Proofs.Sky
