/- The last step of a law's row, whatever its parameters' types: the call returns true, and below the heap's old size nothing has turned. A value of structs of structs of ints and bools, that came in, opened: its cells, one by one. Imports nothing of the translation. Plain mathematics of layer 3: fractions. Plain mathematics of layer 6: vectors: near ones, products, lengths, directions. Imports nothing of the translation. Plain mathematics of layer 6, the consequences: the opposite's direction, the double's, a direction's length; volumes. Imports nothing of the translation. -/
import Derived.WalkKit
import Derived.ProofKit
import Derived.OpenShut
import Derived.Carry
import Derived.ChangeSame
import Derived.Lib.SmallJoins
import Derived.ChangeArms
import Derived.WideShapes
import Derived.Test.YtomlcglnkdfemaaGreatTb3


namespace Go.Proofs.Sky
section

section

open Go.ChangeShapes Go.WideShapes Go.ChangeAt Go.RowKit Go.Joins

set_option linter.unusedVariables false

section

variable {H : Type} {enc : TypeId × Value → H} {P : Program}

theorem args_stay (hl : laidOutB P = true) {W W' : World} (hb : Below W.heap.size W W') : ∀ (ts : List TypeId) (vs : List Value) (ds : List (DataW H)) (ps : List MemPlace),
    (ts.all fun t => P.readableRec t && decide (t < P.types.size)) = true → DataW.TrodAll enc P W 0 (fun _ => true) true ts vs ds ps → (∀ x ∈ ps, x.block < W.heap.size) →
    DataW.TrodAll enc P W' 0 (fun b => decide (b < W.heap.size)) true ts vs ds ps
  | [], vs, ds, ps, _, h, _ => by
    obtain ⟨rfl, rfl, rfl⟩ := trodAll_nil h
    exact trodAll_mk0
  | t :: ts, vs, ds, ps, hr, h, hlt => by
    obtain ⟨v, vs', d, ds', p, q, rfl, rfl, rfl, h1, h2⟩ := trodAll_cons h
    simp only [List.all_cons, Bool.and_eq_true, decide_eq_true_eq] at hr
    exact trodAll_cons_mk (Below.trod hl hr.1.1 hr.1.2 h1 hb fun x hx => hlt x (List.mem_append.2 (.inl hx)))
      (args_stay hl hb ts vs' ds' q (by simpa using hr.2) h2 fun x hx => hlt x (List.mem_append.2 (.inr hx)))

theorem law_done {f : Func} {s : ChangeSpec} {W W' : World} {args : Array Value} {ds gs : List (DataW H)} {before : List MemPlace} {t : TypeId}
    (hl : laidOutB P = true) (hr : (f.params.toList.all fun t => P.readableRec t && decide (t < P.types.size)) = true)
    (hW : DataW.Whole enc P f.params.toList s.vars false W args.toList ds gs before) (hv : s.vars = []) (hres : f.resultTypes = #[t]) (ht : P.underlying t = some .bool)
    (hs : (s.fn H (ds ++ gs)).results = [.lit (.bool true)] ∧ (s.fn H (ds ++ gs)).args = ds ∧ (s.fn H (ds ++ gs)).vars = []) (hb : Below W.heap.size W W') :
    s.post enc P f false true false false W args (.bool true) W' := by
  have hlt := hW.lt
  have hW' := hW
  obtain ⟨p, q, hA, hV, rfl, _, _⟩ := hW
  rw [hv] at hV
  obtain ⟨rfl, rfl⟩ := trodVars_none hV
  obtain ⟨s1, s2, s3⟩ := hs
  refine ⟨ds, [], p ++ [], [], p ++ [], [], hW', ?_, ?_, ?_, hb.frame _, fun h => by cases h⟩
  · rw [s1, hres]
    exact trodAll_cons_mk (shut_bool ht _) trodAll_mk0
  · rw [s2]
    have := args_stay hl hb _ _ _ _ hr hA (fun x hx => hlt x (List.mem_append.2 (.inl hx)))
    simpa using this
  · rw [s3, hv]; rfl

end

end

end
end Go.Proofs.Sky

namespace Go.Proofs.Sky
section

section

open Go.ChangeShapes Go.WideShapes Go.RowKit

set_option linter.unusedVariables false

inductive LK where
  | int (k : IntKind)
  | bool

def leafOk : LK → Value → Prop
  | .int k, v => ∃ n, v = .int k n ∧ (Lit.int k n).wf = true
  | .bool, v => ∃ b, v = .bool b

def LeafAll : List LK → List Value → Prop
  | [], cs => cs = []
  | k :: ks, cs => ∃ v r, cs = v :: r ∧ leafOk k v ∧ LeafAll ks r

theorem LeafAll.append : ∀ {a b : List LK} {x y : List Value}, LeafAll a x → LeafAll b y → LeafAll (a ++ b) (x ++ y)
  | [], _, x, y, h, g => by
    have : x = [] := h
    subst this
    exact g
  | k :: a, b, x, y, h, g => by
    obtain ⟨v, r, rfl, h1, h2⟩ := h
    exact ⟨v, r ++ y, rfl, h1, h2.append g⟩

section

variable (P : Program)

def flatFields (fl : TypeId → Option (List LK)) : List Field → Nat → Option (List LK)
  | [], _ => some []
  | f :: fs, off => if f.offset = off then
      match fl f.type with
      | some ks => if P.cellsOf f.type = ks.length then (flatFields fl fs (off + ks.length)).map (fun r => ks ++ r) else none
      | none => none
    else none

def flat : Nat → TypeId → Option (List LK)
  | 0, _ => none
  | n + 1, t => match P.underlying t with
    | some (.int k) => some [.int k]
    | some .bool => some [.bool]
    | some (.struct fs) => match flatFields P (flat n) fs.toList 0 with
      | some ks => if P.cellsOf t = ks.length then some ks else none
      | none => none
    | _ => none

end

section

variable {P : Program} {H : Type} {enc : TypeId × Value → H} {w : World} {base : Nat} {spare : Nat → Bool} {held : Bool}

theorem flatFields_trod {fl : TypeId → Option (List LK)} {cs : List Value} (hfl : ∀ t ks, fl t = some ks → ∀ fuel cs x, DataW.trod enc P w base spare held fuel t cs = some x → LeafAll ks cs) :
    ∀ (fs : List Field) (off : Nat) (ks : List LK), flatFields P fl fs off = some ks → (∀ f ∈ fs, ∃ y n, DataW.trod enc P w base spare held n f.type ((cs.drop f.offset).take (P.cellsOf f.type)) = some y) →
      LeafAll ks ((cs.drop off).take ks.length)
  | [], off, ks, h, _ => by
    unfold flatFields at h
    cases h
    rfl
  | f :: fs, off, ks, h, hy => by
    unfold flatFields at h
    split at h
    · rename_i ho
      split at h
      · rename_i k1 hk1
        split at h
        · rename_i hc
          cases hr : flatFields P fl fs (off + k1.length) with
          | none => rw [hr] at h; cases h
          | some k2 =>
            rw [hr] at h
            simp only [Option.map_some, Option.some.injEq] at h
            subst h
            obtain ⟨y, n, hyn⟩ := hy f (List.mem_cons_self)
            have a := hfl _ _ hk1 _ _ _ hyn
            rw [hc, ho] at a
            have b := flatFields_trod hfl fs (off + k1.length) k2 hr (fun g hg => hy g (List.mem_cons_of_mem _ hg))
            have e : (cs.drop off).take (k1 ++ k2).length = (cs.drop off).take k1.length ++ (cs.drop (off + k1.length)).take k2.length := by
              rw [List.length_append, List.take_add, List.drop_drop]
            rw [e]
            exact a.append b
        · cases h
      · cases h
    · cases h

theorem flat_trod : ∀ (n : Nat) (t : TypeId) (ks : List LK), flat P n t = some ks → ∀ fuel cs x, DataW.trod enc P w base spare held fuel t cs = some x → LeafAll ks cs
  | 0, _, _, h => by cases h
  | n + 1, t, ks, h => fun fuel cs x hx => by
    unfold flat at h
    split at h
    · rename_i k hk
      cases h
      obtain ⟨m, rfl, _, hw⟩ := DataW.trod_int hk hx
      exact ⟨_, _, rfl, ⟨m, rfl, hw⟩, rfl⟩
    · rename_i hk
      cases h
      obtain ⟨b, rfl, _⟩ := DataW.trod_bool hk hx
      exact ⟨_, _, rfl, ⟨b, rfl⟩, rfl⟩
    · rename_i fs hk
      split at h
      · rename_i k2 hf
        split at h
        · rename_i hc
          cases h
          obtain ⟨xs, m, _, _, hl, hlen, hfs⟩ := DataW.trod_struct hk hx
          have := flatFields_trod (flat_trod n) fs.toList 0 _ hf (fun f hfm => by
            obtain ⟨i, hi, e⟩ := List.getElem_of_mem hfm
            have hi' : i < xs.length := by rw [hlen]; simpa using hi
            have h5 := hfs i f (by rw [← e]; simp)
            rw [List.getElem?_eq_getElem hi'] at h5
            exact ⟨_, _, h5⟩)
          rw [List.drop_zero, List.take_of_length_le (by omega)] at this
          exact this
        · cases h
      · cases h
    · cases h

/-- A struct that came in: its cells. -/
theorem open_flat {r : Reach} {b0 n : Nat} {t : TypeId} {ks : List LK} {v : Value} {d : DataW H} {p : List MemPlace} {fs : Array Field} (hs : P.underlying t = some (.struct fs)) (hk : flat P n t = some ks)
    (hv : Value.okWide P w r b0 t v) (h : DataW.Trod enc P w base spare held t v d p) : ∃ cs : List Value, v = .agg cs.toArray ∧ LeafAll ks cs := by
  obtain ⟨cs, rfl, hsz⟩ := okWide_struct hs hv
  obtain ⟨fuel, hf⟩ := h
  exact ⟨cs.toList, by simp, flat_trod n t ks hk fuel cs.toList _ (by simpa [Value.cells] using hf)⟩

end

end

end
end Go.Proofs.Sky

namespace Go.Proofs.Sky
section

open Go.RowKit

set_option linter.unusedVariables false

/-- n/d against m/e. -/
def fless (n d m e : Int) : Bool := decide (1 ≤ d) && (decide (1 ≤ e) && decide (n * e < m * d))

def fsame (n d m e : Int) : Bool := decide (1 ≤ d) && (decide (1 ≤ e) && decide (n * e = m * d))

def fat (v n d : Int) : Int := if d < 1 then 0 else sat (v * n / d)

def fsmall (n d : Int) : Bool := decide (1 ≤ d) && (decide (d ≤ 2147483648) && (decide (-2147483648 ≤ n) && decide (n ≤ 2147483648)))

def fmid (n d m e : Int) : Int × Int := if fsmall n d = true ∧ fsmall m e = true then (n + m, d + e) else (0, 0)

def fmakeOk (n d : Int) : Bool := decide (d ≠ 0 ∧ n ≠ -9223372036854775808 ∧ d ≠ -9223372036854775808)

def fmake (n d : Int) : Int × Int := if fmakeOk n d = true then (if d < 0 then (-n, -d) else (n, d)) else (0, 0)

/-- The places below k of the fractions that may be (divisors: D), in their order. -/
def vp (D : Nat → Int) (k : Nat) : List Int := ((List.range k).filter (fun i => decide (1 ≤ D i))).map (fun i : Nat => (i : Int))

/-- Fractions in a row, from place off of block b on: n of them. -/
def FrRow (w : World) (b off n : Nat) (N D : Nat → Int) : Prop := ∀ k, k < n → w.cell? ⟨b, off + k * 2, none⟩ = some (.int .i64 (N k)) ∧ w.cell? ⟨b, off + k * 2 + 1, none⟩ = some (.int .i64 (D k))

theorem FrRow.below {w w' : World} {b off n : Nat} {N D : Nat → Int} {B : Nat} (h : FrRow w b off n N D) (hb : Below B w w') (hlt : b < B) : FrRow w' b off n N D :=
  fun k hk => ⟨(hb.cell (p := ⟨b, off + k * 2, none⟩) hlt).trans (h k hk).1, (hb.cell (p := ⟨b, off + k * 2 + 1, none⟩) hlt).trans (h k hk).2⟩

end
end Go.Proofs.Sky

namespace Go.Proofs.Sky
section

section

set_option linter.unusedVariables false

/-- All coordinates from -n to n. -/
def wi (n x y z : Int) : Bool := decide (-n ≤ x ∧ x ≤ n ∧ -n ≤ y ∧ y ≤ n ∧ -n ≤ z ∧ z ≤ n)

theorem wi_iff {n x y z : Int} : wi n x y z = true ↔ -n ≤ x ∧ x ≤ n ∧ -n ≤ y ∧ y ≤ n ∧ -n ≤ z ∧ z ≤ n := by unfold wi; exact decide_eq_true_iff

def vnear (x y z : Int) : Bool := wi 1048576 x y z

theorem vnear_iff {x y z : Int} : vnear x y z = true ↔ -1048576 ≤ x ∧ x ≤ 1048576 ∧ -1048576 ≤ y ∧ y ≤ 1048576 ∧ -1048576 ≤ z ∧ z ≤ 1048576 := wi_iff

def vsub (x a : Int) : Int := sat (x + sat (a * -1))

def vdot (x y z a b c : Int) : Int := if vnear x y z = true ∧ vnear a b c = true then x * a + y * b + z * c else 0

def vcr (x y z a b c : Int) : Int × Int × Int := if vnear x y z = true ∧ vnear a b c = true then (y * c - z * b, z * a - x * c, x * b - y * a) else (0, 0, 0)

def vvol (x y z a b c d e f : Int) : Int := if vnear x y z = true ∧ vnear a b c = true ∧ vnear d e f = true then x * (b * f - c * e) + y * (c * d - a * f) + z * (a * e - b * d) else 0

def vlen (x y z : Int) : Int := (isq (vdot x y z x y z).toNat : Int)

theorem mul_in {x a : Int} {N M : Nat} (hx : -(N : Int) ≤ x ∧ x ≤ N) (ha : -(M : Int) ≤ a ∧ a ≤ M) : -((N * M : Nat) : Int) ≤ x * a ∧ x * a ≤ ((N * M : Nat) : Int) := by
  have b : (x * a).natAbs ≤ N * M := by rw [Int.natAbs_mul]; exact Nat.mul_le_mul (by omega) (by omega)
  omega

theorem near_mul {x a : Int} (hx : -1048576 ≤ x ∧ x ≤ 1048576) (ha : -1048576 ≤ a ∧ a ≤ 1048576) : -1099511627776 ≤ x * a ∧ x * a ≤ 1099511627776 := mul_in (N := 1048576) (M := 1048576) hx ha

theorem near_mul3 {x a : Int} (hx : -1048576 ≤ x ∧ x ≤ 1048576) (ha : -2199023255552 ≤ a ∧ a ≤ 2199023255552) : -2305843009213693952 ≤ x * a ∧ x * a ≤ 2305843009213693952 := mul_in (N := 1048576) (M := 2199023255552) hx ha

/-- Doubled as long as all coordinates are below 2^19; halved as long as one is 2^20 or more. -/
def dblN : Nat → Int → Int → Int → Int × Int × Int
  | 0, x, y, z => (x, y, z)
  | k + 1, x, y, z => if wi 524287 x y z = true then dblN k (2 * x) (2 * y) (2 * z) else (x, y, z)

def halN : Nat → Int → Int → Int → Int × Int × Int
  | 0, x, y, z => (x, y, z)
  | k + 1, x, y, z => if wi 1048575 x y z = true then (x, y, z) else halN k (x.tdiv 2) (y.tdiv 2) (z.tdiv 2)

def dbl (x y z : Int) : Int × Int × Int := dblN 20 x y z

def evn (x y z : Int) : Int × Int × Int := halN 44 (dbl x y z).1 (dbl x y z).2.1 (dbl x y z).2.2

/-- How often a vector can still be doubled, or halved. -/
def DblK (k : Nat) (x y z : Int) : Prop := (2 ^ k ≤ x.natAbs ∨ 2 ^ k ≤ y.natAbs ∨ 2 ^ k ≤ z.natAbs)

/-- What may be made even: not 0, and no coordinate beyond 2^62. -/
def Evb (x y z : Int) : Prop := wi 4611686018427387904 x y z = true ∧ wi 0 x y z = false

/-- The direction. -/
def vuOk (x y z : Int) : Bool := wi 4611686018427387904 x y z && !wi 0 x y z

def vun (e : Int × Int × Int) : Int × Int × Int := ((e.1 * 16384).tdiv (vlen e.1 e.2.1 e.2.2), (e.2.1 * 16384).tdiv (vlen e.1 e.2.1 e.2.2), (e.2.2 * 16384).tdiv (vlen e.1 e.2.1 e.2.2))

def vunit (x y z : Int) : Int × Int × Int := if vuOk x y z = true then vun (evn x y z) else (0, 0, 0)

end

end
end Go.Proofs.Sky

namespace Go.Proofs.Sky
section

section

set_option linter.unusedVariables false

def ng (e : Int × Int × Int) : Int × Int × Int := (-e.1, -e.2.1, -e.2.2)

end

end
end Go.Proofs.Sky
