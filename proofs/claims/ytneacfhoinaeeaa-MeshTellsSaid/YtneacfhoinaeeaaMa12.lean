/- The last step of a law's row, whatever its parameters' types: the call returns true, and below the heap's old size nothing has turned. A value of structs of structs of ints and bools, that came in, opened: its cells, one by one. Imports nothing of the translation. Plain mathematics of layer 16: trees of boxes in flat lists; a part of one, gone through. Imports nothing of the translation. Plain mathematics of layer 16: a tree gone through with a stack; each index once; what lies under a node; the least boxes from the last node on. Imports nothing of the translation. -/
import Derived.WalkKit
import Derived.ProofKit
import Derived.OpenShut
import Derived.Carry
import Derived.ChangeSame
import Derived.Lib.SmallJoins
import Derived.ChangeArms
import Derived.WideShapes
import Derived.Test.YtneacfhoinaeeaaMa11


namespace Go.Proofs.Sky
section

section

open Go.ChangeShapes Go.WideShapes Go.ChangeAt Go.RowKit Go.Joins

set_option linter.unusedVariables false

section

variable {H : Type} {enc : TypeId × Value → H} {P : Program}

theorem args_stay (hl : laidOutB P = true) {W W' : World} (hb : Below W.heap.size W W') : ∀ (ts : List TypeId) (vs : List Value) (ds : List (DataW H)) (ps : List MemPlace),
    (ts.all fun t => P.readableRec t && decide (t < P.types.size)) = true → DataW.TrodAll enc P W 0 (fun _ => true) true ts vs ds ps → (∀ x ∈ ps, x.block < W.heap.size) →
    DataW.TrodAll enc P W' 0 (fun b => decide (b < W.heap.size)) true ts vs ds ps
  | [], vs, ds, ps, _, h, _ => by
    obtain ⟨rfl, rfl, rfl⟩ := trodAll_nil h
    exact trodAll_mk0
  | t :: ts, vs, ds, ps, hr, h, hlt => by
    obtain ⟨v, vs', d, ds', p, q, rfl, rfl, rfl, h1, h2⟩ := trodAll_cons h
    simp only [List.all_cons, Bool.and_eq_true, decide_eq_true_eq] at hr
    exact trodAll_cons_mk (Below.trod hl hr.1.1 hr.1.2 h1 hb fun x hx => hlt x (List.mem_append.2 (.inl hx)))
      (args_stay hl hb ts vs' ds' q (by simpa using hr.2) h2 fun x hx => hlt x (List.mem_append.2 (.inr hx)))

theorem law_done {f : Func} {s : ChangeSpec} {W W' : World} {args : Array Value} {ds gs : List (DataW H)} {before : List MemPlace} {t : TypeId}
    (hl : laidOutB P = true) (hr : (f.params.toList.all fun t => P.readableRec t && decide (t < P.types.size)) = true)
    (hW : DataW.Whole enc P f.params.toList s.vars false W args.toList ds gs before) (hv : s.vars = []) (hres : f.resultTypes = #[t]) (ht : P.underlying t = some .bool)
    (hs : (s.fn H (ds ++ gs)).results = [.lit (.bool true)] ∧ (s.fn H (ds ++ gs)).args = ds ∧ (s.fn H (ds ++ gs)).vars = []) (hb : Below W.heap.size W W') :
    s.post enc P f false true false false W args (.bool true) W' := by
  have hlt := hW.lt
  have hW' := hW
  obtain ⟨p, q, hA, hV, rfl, _, _⟩ := hW
  rw [hv] at hV
  obtain ⟨rfl, rfl⟩ := trodVars_none hV
  obtain ⟨s1, s2, s3⟩ := hs
  refine ⟨ds, [], p ++ [], [], p ++ [], [], hW', ?_, ?_, ?_, hb.frame _, fun h => by cases h⟩
  · rw [s1, hres]
    exact trodAll_cons_mk (shut_bool ht _) trodAll_mk0
  · rw [s2]
    have := args_stay hl hb _ _ _ _ hr hA (fun x hx => hlt x (List.mem_append.2 (.inl hx)))
    simpa using this
  · rw [s3, hv]; rfl

end

end

end
end Go.Proofs.Sky

namespace Go.Proofs.Sky
section

section

open Go.ChangeShapes Go.WideShapes Go.RowKit

set_option linter.unusedVariables false

inductive LK where
  | int (k : IntKind)
  | bool

def leafOk : LK → Value → Prop
  | .int k, v => ∃ n, v = .int k n ∧ (Lit.int k n).wf = true
  | .bool, v => ∃ b, v = .bool b

def LeafAll : List LK → List Value → Prop
  | [], cs => cs = []
  | k :: ks, cs => ∃ v r, cs = v :: r ∧ leafOk k v ∧ LeafAll ks r

theorem LeafAll.append : ∀ {a b : List LK} {x y : List Value}, LeafAll a x → LeafAll b y → LeafAll (a ++ b) (x ++ y)
  | [], _, x, y, h, g => by
    have : x = [] := h
    subst this
    exact g
  | k :: a, b, x, y, h, g => by
    obtain ⟨v, r, rfl, h1, h2⟩ := h
    exact ⟨v, r ++ y, rfl, h1, h2.append g⟩

section

variable (P : Program)

def flatFields (fl : TypeId → Option (List LK)) : List Field → Nat → Option (List LK)
  | [], _ => some []
  | f :: fs, off => if f.offset = off then
      match fl f.type with
      | some ks => if P.cellsOf f.type = ks.length then (flatFields fl fs (off + ks.length)).map (fun r => ks ++ r) else none
      | none => none
    else none

def flat : Nat → TypeId → Option (List LK)
  | 0, _ => none
  | n + 1, t => match P.underlying t with
    | some (.int k) => some [.int k]
    | some .bool => some [.bool]
    | some (.struct fs) => match flatFields P (flat n) fs.toList 0 with
      | some ks => if P.cellsOf t = ks.length then some ks else none
      | none => none
    | _ => none

end

section

variable {P : Program} {H : Type} {enc : TypeId × Value → H} {w : World} {base : Nat} {spare : Nat → Bool} {held : Bool}

theorem flatFields_trod {fl : TypeId → Option (List LK)} {cs : List Value} (hfl : ∀ t ks, fl t = some ks → ∀ fuel cs x, DataW.trod enc P w base spare held fuel t cs = some x → LeafAll ks cs) :
    ∀ (fs : List Field) (off : Nat) (ks : List LK), flatFields P fl fs off = some ks → (∀ f ∈ fs, ∃ y n, DataW.trod enc P w base spare held n f.type ((cs.drop f.offset).take (P.cellsOf f.type)) = some y) →
      LeafAll ks ((cs.drop off).take ks.length)
  | [], off, ks, h, _ => by
    unfold flatFields at h
    cases h
    rfl
  | f :: fs, off, ks, h, hy => by
    unfold flatFields at h
    split at h
    · rename_i ho
      split at h
      · rename_i k1 hk1
        split at h
        · rename_i hc
          cases hr : flatFields P fl fs (off + k1.length) with
          | none => rw [hr] at h; cases h
          | some k2 =>
            rw [hr] at h
            simp only [Option.map_some, Option.some.injEq] at h
            subst h
            obtain ⟨y, n, hyn⟩ := hy f (List.mem_cons_self)
            have a := hfl _ _ hk1 _ _ _ hyn
            rw [hc, ho] at a
            have b := flatFields_trod hfl fs (off + k1.length) k2 hr (fun g hg => hy g (List.mem_cons_of_mem _ hg))
            have e : (cs.drop off).take (k1 ++ k2).length = (cs.drop off).take k1.length ++ (cs.drop (off + k1.length)).take k2.length := by
              rw [List.length_append, List.take_add, List.drop_drop]
            rw [e]
            exact a.append b
        · cases h
      · cases h
    · cases h

theorem flat_trod : ∀ (n : Nat) (t : TypeId) (ks : List LK), flat P n t = some ks → ∀ fuel cs x, DataW.trod enc P w base spare held fuel t cs = some x → LeafAll ks cs
  | 0, _, _, h => by cases h
  | n + 1, t, ks, h => fun fuel cs x hx => by
    unfold flat at h
    split at h
    · rename_i k hk
      cases h
      obtain ⟨m, rfl, _, hw⟩ := DataW.trod_int hk hx
      exact ⟨_, _, rfl, ⟨m, rfl, hw⟩, rfl⟩
    · rename_i hk
      cases h
      obtain ⟨b, rfl, _⟩ := DataW.trod_bool hk hx
      exact ⟨_, _, rfl, ⟨b, rfl⟩, rfl⟩
    · rename_i fs hk
      split at h
      · rename_i k2 hf
        split at h
        · rename_i hc
          cases h
          obtain ⟨xs, m, _, _, hl, hlen, hfs⟩ := DataW.trod_struct hk hx
          have := flatFields_trod (flat_trod n) fs.toList 0 _ hf (fun f hfm => by
            obtain ⟨i, hi, e⟩ := List.getElem_of_mem hfm
            have hi' : i < xs.length := by rw [hlen]; simpa using hi
            have h5 := hfs i f (by rw [← e]; simp)
            rw [List.getElem?_eq_getElem hi'] at h5
            exact ⟨_, _, h5⟩)
          rw [List.drop_zero, List.take_of_length_le (by omega)] at this
          exact this
        · cases h
      · cases h
    · cases h

/-- A struct that came in: its cells. -/
theorem open_flat {r : Reach} {b0 n : Nat} {t : TypeId} {ks : List LK} {v : Value} {d : DataW H} {p : List MemPlace} {fs : Array Field} (hs : P.underlying t = some (.struct fs)) (hk : flat P n t = some ks)
    (hv : Value.okWide P w r b0 t v) (h : DataW.Trod enc P w base spare held t v d p) : ∃ cs : List Value, v = .agg cs.toArray ∧ LeafAll ks cs := by
  obtain ⟨cs, rfl, hsz⟩ := okWide_struct hs hv
  obtain ⟨fuel, hf⟩ := h
  exact ⟨cs.toList, by simp, flat_trod n t ks hk fuel cs.toList _ (by simpa [Value.cells] using hf)⟩

end

end

end
end Go.Proofs.Sky

namespace Go.Proofs.Sky
section

open Go.RowKit

set_option linter.unusedVariables false

/-- A node: its box; First, Count, Right. -/
abbrev Nd := Bx × Int × Int × Int

/-- What is known of a part: the next node, the next thing, how deep, how many leaves, whether it is ordered. -/
abbrev Pt := Int × Int × Int × Int × Bool

def pt0 : Pt := (0, 0, 0, 0, false)

/-- A part from node i on, the things from th on, gone through (m things in all; the first number: no more nodes than that). -/
def mWalk (ns : List Nd) (m : Int) : Nat → Nat → Int → Pt
  | 0, _, _ => pt0
  | f + 1, i, th =>
    if h : i < ns.length then
      if ns[i].2.2.1 ≠ 0 then
        (if 0 < ns[i].2.2.1 ∧ ns[i].2.1 = th ∧ ns[i].2.2.2 = 0 ∧ ns[i].2.2.1 ≤ m - th then ((i : Int) + 1, th + ns[i].2.2.1, 1, 1, true) else pt0)
      else if ns[i].2.1 ≠ 0 then pt0
      else if (mWalk ns m f (i + 1) th).2.2.2.2 = false ∨ ns[i].2.2.2 ≠ (mWalk ns m f (i + 1) th).1 then pt0
      else if (mWalk ns m f (mWalk ns m f (i + 1) th).1.toNat (mWalk ns m f (i + 1) th).2.1).2.2.2.2 = false then pt0
      else ((mWalk ns m f (mWalk ns m f (i + 1) th).1.toNat (mWalk ns m f (i + 1) th).2.1).1, (mWalk ns m f (mWalk ns m f (i + 1) th).1.toNat (mWalk ns m f (i + 1) th).2.1).2.1,
        1 + max (mWalk ns m f (i + 1) th).2.2.1 (mWalk ns m f (mWalk ns m f (i + 1) th).1.toNat (mWalk ns m f (i + 1) th).2.1).2.2.1,
        (mWalk ns m f (i + 1) th).2.2.2.1 + (mWalk ns m f (mWalk ns m f (i + 1) th).1.toNat (mWalk ns m f (i + 1) th).2.1).2.2.2.1, true)
    else pt0

/-- What is known of all. -/
def mPart (ns : List Nd) (m : Int) (i : Nat) (th : Int) : Pt := mWalk ns m (ns.length + 1 - i) i th

def mWhole (ns : List Nd) (m : Int) : Pt :=
  if ns.length = 0 ∧ m = 0 then (0, 0, 0, 0, true)
  else ((mPart ns m 0 0).1, (mPart ns m 0 0).2.1, (mPart ns m 0 0).2.2.1, (mPart ns m 0 0).2.2.2.1, (mPart ns m 0 0).2.2.2.2 && (decide ((mPart ns m 0 0).1 = ns.length) && decide ((mPart ns m 0 0).2.1 = m)))

def mDeep (ns : List Nd) (m : Int) : Int := if (mWhole ns m).2.2.2.2 = true then (mWhole ns m).2.2.1 else 0

def mLeaves (ns : List Nd) (m : Int) : Int := if (mWhole ns m).2.2.2.2 = true then (mWhole ns m).2.2.2.1 else 0

-- growing

/-- The least box around the first i, the first one twice. -/
def bAll (V : Nat → Bx) : Nat → Bx
  | 0 => V 0
  | i + 1 => bJoin (bAll V i) (V i)

/-- The boxes of some things. -/
def wBox (P : Nat → Pr) (which : List Nat) (i : Nat) : Bx := pBox (P (which.getD i 0))

def wSplit (P : Nat → Pr) (which : List Nat) : Sp × Bool := bBest (wBox P which) which.length

def wLeft (P : Nat → Pr) (which : List Nat) : List Nat := ix (isL (wSplit P which).1.1 (wSplit P which).1.2.2.1 (wSplit P which).1.2.2.2 (wSplit P which).1.2.1) (wBox P which) which.length

def wRight (P : Nat → Pr) (which : List Nat) : List Nat := ix (fun b => !isL (wSplit P which).1.1 (wSplit P which).1.2.2.1 (wSplit P which).1.2.2.2 (wSplit P which).1.2.1 b) (wBox P which) which.length

def wAt (which some : List Nat) : List Nat := some.map (fun i => which.getD i 0)

def wEnds (P : Nat → Pr) (which : List Nat) : Bool := decide (which.length ≤ 2) || !(wSplit P which).2

/-- The nodes and the order of a part that stands behind k nodes and o things. -/
def mGrow (P : Nat → Pr) : Nat → List Nat → Nat → Nat → List Nd × List Nat
  | 0, _, _, _ => ([], [])
  | f + 1, which, k, o =>
    if wEnds P which = true then ([(bAll (wBox P which) which.length, (o : Int), (which.length : Int), 0)], which)
    else
      ((bAll (wBox P which) which.length, 0, 0, ((k + 1 + (mGrow P f (wAt which (wLeft P which)) (k + 1) o).1.length : Nat) : Int)) :: ((mGrow P f (wAt which (wLeft P which)) (k + 1) o).1 ++ (mGrow P f (wAt which (wRight P which)) (k + 1 + (mGrow P f (wAt which (wLeft P which)) (k + 1) o).1.length) (o + (mGrow P f (wAt which (wLeft P which)) (k + 1) o).2.length)).1),
       (mGrow P f (wAt which (wLeft P which)) (k + 1) o).2 ++ (mGrow P f (wAt which (wRight P which)) (k + 1 + (mGrow P f (wAt which (wLeft P which)) (k + 1) o).1.length) (o + (mGrow P f (wAt which (wLeft P which)) (k + 1) o).2.length)).2)

def pAll (P : Nat → Pr) (n : Nat) : Bool := (List.range n).all (fun k => pRight (P k))

/-- The tree of n things. -/
def mBuild (P : Nat → Pr) (n : Nat) : List Nd × List Nat := if 0 < n ∧ n ≤ 1024 ∧ pAll P n = true then mGrow P n (List.range n) 0 0 else ([], [])

end
end Go.Proofs.Sky

namespace Go.Proofs.Sky
section

open Go.RowKit

set_option linter.unusedVariables false

-- a part, gone through from any node on

-- gone through with a stack

/-- What was counted: nodes, leaves, things, the depth. -/
abbrev Tr := Nat × Int × Int × Int

/-- What a stack of places and depths (the top first) comes to. -/
def mStack (ns : List Nd) (m : Int) : List (Int × Int) → Tr → Option Tr
  | [], s => some s
  | (p, d) :: r, s =>
    if p = s.1 ∧ (mPart ns m s.1 s.2.2.1).2.2.2.2 = true then
      mStack ns m r ((mPart ns m s.1 s.2.2.1).1.toNat, s.2.1 + (mPart ns m s.1 s.2.2.1).2.2.2.1, (mPart ns m s.1 s.2.2.1).2.1, max s.2.2.2 (d - 1 + (mPart ns m s.1 s.2.2.1).2.2.1))
    else none

/-- What the program is to tell of a tree: what was counted, and whether it is ordered. -/
def mTour (ns : List Nd) (m : Int) : Tr × Bool :=
  if (mWhole ns m).2.2.2.2 = true then (((mWhole ns m).1.toNat, (mWhole ns m).2.2.2.1, (mWhole ns m).2.1, (mWhole ns m).2.2.1), true) else ((0, 0, 0, 0), false)

-- each index once

/-- The first k of an order are indices of a list of n things, each another. -/
def mSeen (ord : List Int) (n : Nat) : Nat → Bool
  | 0 => true
  | k + 1 => mSeen ord n k && decide (0 ≤ ord.getD k 0 ∧ ord.getD k 0 < n ∧ ord.getD k 0 ∉ ord.take k)

def mOnce (ord : List Int) (n : Nat) : Bool := decide (ord.length = n) && mSeen ord n ord.length

/-- How many of an order are indices. -/
def mSum (ord : List Int) : Nat → Nat
  | 0 => 0
  | i + 1 => mSum ord i + ord.count (i : Int)

end
end Go.Proofs.Sky
