/- Plain mathematics of layer 16: a tree gone through with a stack; each index once; what lies under a node; the least boxes from the last node on. Imports nothing of the translation. -/
import Derived.Test.YtomlcglnkdfemaaGreatTb10


namespace Go.Proofs.Sky
section

open Go.RowKit

set_option linter.unusedVariables false

-- a part, gone through from any node on

theorem mPart_out {ns : List Nd} {m th : Int} {i : Nat} (h : ¬ i < ns.length) : mPart ns m i th = pt0 := by
  unfold mPart
  cases e : ns.length + 1 - i with
  | zero => rfl
  | succ f => exact mWalk_out h

theorem mPart_leaf {ns : List Nd} {m th : Int} {i : Nat} (h : i < ns.length) (hc : ns[i].2.2.1 ≠ 0) :
    mPart ns m i th = if 0 < ns[i].2.2.1 ∧ ns[i].2.1 = th ∧ ns[i].2.2.2 = 0 ∧ ns[i].2.2.1 ≤ m - th then ((i : Int) + 1, th + ns[i].2.2.1, 1, 1, true) else pt0 := by
  unfold mPart
  rw [show ns.length + 1 - i = (ns.length - i) + 1 by omega]
  exact mWalk_leaf h hc

theorem mPart_first {ns : List Nd} {m th : Int} {i : Nat} (h : i < ns.length) (hc : ns[i].2.2.1 = 0) (hf : ns[i].2.1 ≠ 0) : mPart ns m i th = pt0 := by
  unfold mPart
  rw [show ns.length + 1 - i = (ns.length - i) + 1 by omega]
  exact mWalk_first h hc hf

theorem mPart_in {ns : List Nd} {m : Int} {i : Nat} {th : Int} (h : (mPart ns m i th).2.2.2.2 = true) :
    (i : Int) < (mPart ns m i th).1 ∧ (mPart ns m i th).1 ≤ ns.length ∧ th < (mPart ns m i th).2.1 ∧ (mPart ns m i th).2.1 ≤ m ∧ 1 ≤ (mPart ns m i th).2.2.1 ∧ (mPart ns m i th).2.2.1 ≤ (mPart ns m i th).1 - i ∧ 1 ≤ (mPart ns m i th).2.2.2.1 ∧ (mPart ns m i th).2.2.2.1 ≤ (mPart ns m i th).1 - i := mWalk_in _ _ _ h

theorem mPart_node {ns : List Nd} {m th : Int} {i : Nat} (h : i < ns.length) (hc : ns[i].2.2.1 = 0) (hf : ns[i].2.1 = 0) {a : Pt} (ha : mPart ns m (i + 1) th = a) :
    mPart ns m i th = if a.2.2.2.2 = false ∨ ns[i].2.2.2 ≠ a.1 then pt0 else if (mPart ns m a.1.toNat a.2.1).2.2.2.2 = false then pt0 else ((mPart ns m a.1.toNat a.2.1).1, (mPart ns m a.1.toNat a.2.1).2.1, 1 + max a.2.2.1 (mPart ns m a.1.toNat a.2.1).2.2.1, a.2.2.2.1 + (mPart ns m a.1.toNat a.2.1).2.2.2.1, true) := by
  have e : mPart ns m i th = mWalk ns m ((ns.length - i) + 1) i th := by
    unfold mPart
    rw [show ns.length + 1 - i = (ns.length - i) + 1 by omega]
  have ha' : mWalk ns m (ns.length - i) (i + 1) th = a := by
    rw [← ha]
    unfold mPart
    exact mWalk_more _ _ _ _ (by omega) (by omega)
  rw [e, mWalk_node h hc hf ha']
  by_cases hk : a.2.2.2.2 = false ∨ ns[i].2.2.2 ≠ a.1
  · rw [if_pos hk, if_pos hk]
  · rw [if_neg hk, if_neg hk]
    have hin := mPart_in (ns := ns) (m := m) (i := i + 1) (th := th) (by rw [ha]; simpa using fun e => hk (.inl e))
    rw [ha] at hin
    have e2 : mWalk ns m (ns.length - i) a.1.toNat a.2.1 = mPart ns m a.1.toNat a.2.1 := by
      unfold mPart
      exact mWalk_more _ _ _ _ (by omega) (by omega)
    rw [e2]

/-- The ways of a node with two parts that is ordered. -/
theorem mPart_two {ns : List Nd} {m th : Int} {i : Nat} (h : i < ns.length) (hc : ns[i].2.2.1 = 0) (hk : (mPart ns m i th).2.2.2.2 = true) :
    ns[i].2.1 = 0 ∧ (mPart ns m (i + 1) th).2.2.2.2 = true ∧ ns[i].2.2.2 = (mPart ns m (i + 1) th).1 ∧ (mPart ns m (mPart ns m (i + 1) th).1.toNat (mPart ns m (i + 1) th).2.1).2.2.2.2 = true ∧
      (mPart ns m i th).1 = (mPart ns m (mPart ns m (i + 1) th).1.toNat (mPart ns m (i + 1) th).2.1).1 ∧ (mPart ns m i th).2.1 = (mPart ns m (mPart ns m (i + 1) th).1.toNat (mPart ns m (i + 1) th).2.1).2.1 := by
  by_cases hf : ns[i].2.1 = 0
  · rw [mPart_node h hc hf rfl] at hk ⊢
    split at hk
    · cases hk
    · rename_i h1
      split at hk
      · cases hk
      · rename_i h2
        rw [if_neg h1, if_neg h2]
        have g1 : (mPart ns m (i + 1) th).2.2.2.2 = true := by simpa using fun e => h1 (.inl e)
        have g2 : ns[i].2.2.2 = (mPart ns m (i + 1) th).1 := by
          by_cases g : ns[i].2.2.2 = (mPart ns m (i + 1) th).1
          · exact g
          · exact absurd (.inr g) h1
        exact ⟨hf, g1, g2, by simpa using h2, rfl, rfl⟩
  · rw [mPart_first h hc hf] at hk; cases hk

theorem mPart_one {ns : List Nd} {m th : Int} {i : Nat} (h : i < ns.length) (hc : ns[i].2.2.1 ≠ 0) (hk : (mPart ns m i th).2.2.2.2 = true) :
    0 < ns[i].2.2.1 ∧ ns[i].2.1 = th ∧ ns[i].2.2.2 = 0 ∧ ns[i].2.2.1 ≤ m - th ∧ (mPart ns m i th).1 = (i : Int) + 1 ∧ (mPart ns m i th).2.1 = th + ns[i].2.2.1 := by
  rw [mPart_leaf h hc] at hk ⊢
  split at hk
  · rename_i h1
    rw [if_pos h1]
    exact ⟨h1.1, h1.2.1, h1.2.2.1, h1.2.2.2, rfl, rfl⟩
  · cases hk

-- gone through with a stack

/-- What was counted: nodes, leaves, things, the depth. -/
abbrev Tr := Nat × Int × Int × Int

/-- What a stack of places and depths (the top first) comes to. -/
def mStack (ns : List Nd) (m : Int) : List (Int × Int) → Tr → Option Tr
  | [], s => some s
  | (p, d) :: r, s =>
    if p = s.1 ∧ (mPart ns m s.1 s.2.2.1).2.2.2.2 = true then
      mStack ns m r ((mPart ns m s.1 s.2.2.1).1.toNat, s.2.1 + (mPart ns m s.1 s.2.2.1).2.2.2.1, (mPart ns m s.1 s.2.2.1).2.1, max s.2.2.2 (d - 1 + (mPart ns m s.1 s.2.2.1).2.2.1))
    else none

theorem mStack_cons (ns : List Nd) (m p d : Int) (r : List (Int × Int)) (s : Tr) : mStack ns m ((p, d) :: r) s =
    if p = s.1 ∧ (mPart ns m s.1 s.2.2.1).2.2.2.2 = true then
      mStack ns m r ((mPart ns m s.1 s.2.2.1).1.toNat, s.2.1 + (mPart ns m s.1 s.2.2.1).2.2.2.1, (mPart ns m s.1 s.2.2.1).2.1, max s.2.2.2 (d - 1 + (mPart ns m s.1 s.2.2.1).2.2.1))
    else none := rfl

theorem mStack_place {ns : List Nd} {m p d : Int} {r : List (Int × Int)} {s : Tr} (h : ¬ p = s.1) : mStack ns m ((p, d) :: r) s = none := by
  unfold mStack; rw [if_neg (fun e => h e.1)]

theorem mStack_out {ns : List Nd} {m p d : Int} {r : List (Int × Int)} {s : Tr} (h : ¬ s.1 < ns.length) : mStack ns m ((p, d) :: r) s = none := by
  unfold mStack; rw [mPart_out h, if_neg (fun e => by cases e.2)]

theorem mStack_leaf {ns : List Nd} {m d : Int} {r : List (Int × Int)} {k : Nat} {le th de : Int} (h : k < ns.length) (hl : 0 < ns[k].2.2.1 ∧ ns[k].2.1 = th ∧ ns[k].2.2.1 ≤ m - th ∧ ns[k].2.2.2 = 0) :
    mStack ns m (((k : Int), d) :: r) (k, le, th, de) = mStack ns m r (k + 1, le + 1, th + ns[k].2.2.1, max de d) := by
  have e := mPart_leaf (m := m) (th := th) h (by omega)
  rw [if_pos ⟨hl.1, hl.2.1, hl.2.2.2, hl.2.2.1⟩] at e
  conv => lhs; unfold mStack
  dsimp only
  rw [e, if_pos ⟨rfl, rfl⟩]
  dsimp only
  rw [show ((k : Int) + 1).toNat = k + 1 by omega, show d - 1 + 1 = d by omega]

theorem mStack_bad {ns : List Nd} {m p d : Int} {r : List (Int × Int)} {k : Nat} {le th de : Int} (h : k < ns.length) (ho : ¬ (ns[k].2.2.1 = 0 ∧ ns[k].2.1 = 0)) (hl : ¬ (0 < ns[k].2.2.1 ∧ ns[k].2.1 = th ∧ ns[k].2.2.1 ≤ m - th ∧ ns[k].2.2.2 = 0)) :
    mStack ns m ((p, d) :: r) (k, le, th, de) = none := by
  unfold mStack
  refine if_neg (fun e => ?_)
  have e2 := e.2
  dsimp only at e2
  by_cases hc : ns[k].2.2.1 = 0
  · rw [mPart_first h hc (fun e => ho ⟨hc, e⟩)] at e2; cases e2
  · rw [mPart_leaf h hc, if_neg (fun e => hl ⟨e.1, e.2.1, e.2.2.2, e.2.2.1⟩)] at e2; cases e2

theorem mStack_node {ns : List Nd} {m d : Int} {r : List (Int × Int)} {k : Nat} {le th de : Int} (h : k < ns.length) (hc : ns[k].2.2.1 = 0) (hf : ns[k].2.1 = 0) :
    mStack ns m (((k : Int), d) :: r) (k, le, th, de) = mStack ns m (((k : Int) + 1, d + 1) :: (ns[k].2.2.2, d + 1) :: r) (k + 1, le, th, de) := by
  rw [mStack_cons, mStack_cons]
  dsimp only
  rw [mPart_node h hc hf rfl]
  have ha := mPart_in (ns := ns) (m := m) (i := k + 1) (th := th)
  generalize mPart ns m (k + 1) th = a at *
  by_cases h1 : a.2.2.2.2 = true
  · have ha := ha h1
    rw [if_pos (show ((k : Int) + 1 = ((k + 1 : Nat) : Int)) ∧ a.2.2.2.2 = true from ⟨by omega, h1⟩)]
    rw [mStack_cons]
    dsimp only
    have hb := mPart_in (ns := ns) (m := m) (i := a.1.toNat) (th := a.2.1)
    generalize mPart ns m a.1.toNat a.2.1 = b at *
    by_cases h2 : ns[k].2.2.2 = a.1
    · rw [if_neg (show ¬ (a.2.2.2.2 = false ∨ ns[k].2.2.2 ≠ a.1) by rintro (e | e); rw [h1] at e; cases e; exact e h2)]
      by_cases h3 : b.2.2.2.2 = true
      · rw [if_neg (show ¬ (b.2.2.2.2 = false) by rw [h3]; simp), if_pos ⟨rfl, rfl⟩, if_pos (show (ns[k].2.2.2 = ((a.1.toNat : Nat) : Int)) ∧ b.2.2.2.2 = true from ⟨by omega, h3⟩)]
        dsimp only
        congr 1
        rw [Prod.mk.injEq, Prod.mk.injEq, Prod.mk.injEq]
        refine ⟨rfl, by omega, rfl, by omega⟩
      · have h3 : b.2.2.2.2 = false := by simpa using h3
        rw [if_pos h3, if_neg (show ¬ ((k : Int) = (k : Int) ∧ pt0.2.2.2.2 = true) from fun e => by cases e.2), if_neg (show ¬ (ns[k].2.2.2 = ((a.1.toNat : Nat) : Int) ∧ b.2.2.2.2 = true) from fun e => by rw [h3] at e; cases e.2)]
    · rw [if_pos (show a.2.2.2.2 = false ∨ ns[k].2.2.2 ≠ a.1 from .inr h2), if_neg (fun e => by cases e.2), if_neg (fun e => by have := e.1; omega)]
  · have h1 : a.2.2.2.2 = false := by simpa using h1
    rw [if_pos (show a.2.2.2.2 = false ∨ ns[k].2.2.2 ≠ a.1 from .inl h1), if_neg (fun e => by cases e.2), if_neg (fun e => by rw [h1] at e; cases e.2)]

/-- What the program is to tell of a tree: what was counted, and whether it is ordered. -/
def mTour (ns : List Nd) (m : Int) : Tr × Bool :=
  if (mWhole ns m).2.2.2.2 = true then (((mWhole ns m).1.toNat, (mWhole ns m).2.2.2.1, (mWhole ns m).2.1, (mWhole ns m).2.2.1), true) else ((0, 0, 0, 0), false)

theorem mTour_snd (ns : List Nd) (m : Int) : (mTour ns m).2 = (mWhole ns m).2.2.2.2 := by
  unfold mTour
  by_cases h : (mWhole ns m).2.2.2.2 = true
  · rw [if_pos h, h]
  · rw [if_neg h]; simpa using h

theorem mTour_deep (ns : List Nd) (m : Int) : (mTour ns m).1.2.2.2 = mDeep ns m := by
  unfold mTour mDeep
  split <;> rfl

theorem mTour_leaves (ns : List Nd) (m : Int) : (mTour ns m).1.2.1 = mLeaves ns m := by
  unfold mTour mLeaves
  split <;> rfl

theorem mTour_nil (m : Int) : mTour [] m = ((0, 0, 0, 0), decide (m = 0)) := by
  unfold mTour
  by_cases h : m = 0
  · subst h; rfl
  · have e : mWhole [] m = ((mPart [] m 0 0).1, (mPart [] m 0 0).2.1, (mPart [] m 0 0).2.2.1, (mPart [] m 0 0).2.2.2.1, (mPart [] m 0 0).2.2.2.2 && (decide ((mPart [] m 0 0).1 = ([] : List Nd).length) && decide ((mPart [] m 0 0).2.1 = m))) := by
      unfold mWhole; rw [if_neg (fun e => h e.2)]
    rw [mPart_out (by simp)] at e
    rw [e, decide_eq_false h]
    rfl

theorem mTour_some {ns : List Nd} {m : Int} (hn : 0 < ns.length) {s : Tr} (h : mStack ns m [(0, 1)] (0, 0, 0, 0) = some s) :
    mTour ns m = if s.1 = ns.length ∧ s.2.2.1 = m then (s, true) else ((0, 0, 0, 0), false) := by
  unfold mStack at h
  dsimp only at h
  have hin := mPart_in (ns := ns) (m := m) (i := 0) (th := 0)
  have e : mWhole ns m = ((mPart ns m 0 0).1, (mPart ns m 0 0).2.1, (mPart ns m 0 0).2.2.1, (mPart ns m 0 0).2.2.2.1, (mPart ns m 0 0).2.2.2.2 && (decide ((mPart ns m 0 0).1 = ns.length) && decide ((mPart ns m 0 0).2.1 = m))) := by
    unfold mWhole; rw [if_neg (by omega)]
  unfold mTour
  rw [e]
  generalize mPart ns m 0 0 = a at *
  by_cases h1 : a.2.2.2.2 = true
  · have hin := hin h1
    rw [if_pos ⟨rfl, h1⟩] at h
    unfold mStack at h
    cases h
    dsimp only
    rw [h1, Bool.true_and]
    by_cases h2 : a.1 = ns.length ∧ a.2.1 = m
    · rw [if_pos (by rw [decide_eq_true h2.1, decide_eq_true h2.2]; rfl), if_pos ⟨by omega, h2.2⟩]
      congr 1
      rw [Prod.mk.injEq, Prod.mk.injEq, Prod.mk.injEq]
      refine ⟨rfl, by omega, rfl, by omega⟩
    · rw [if_neg (fun e => h2 (by rw [Bool.and_eq_true, decide_eq_true_eq, decide_eq_true_eq] at e; exact e)), if_neg (fun e => h2 ⟨by omega, e.2⟩)]
  · rw [if_neg (fun e => h1 e.2)] at h; cases h

theorem mTour_none {ns : List Nd} {m : Int} (hn : 0 < ns.length) (h : mStack ns m [(0, 1)] (0, 0, 0, 0) = none) : mTour ns m = ((0, 0, 0, 0), false) := by
  unfold mStack at h
  dsimp only at h
  have e : (mWhole ns m).2.2.2.2 = ((mPart ns m 0 0).2.2.2.2 && (decide ((mPart ns m 0 0).1 = ns.length) && decide ((mPart ns m 0 0).2.1 = m))) := by
    unfold mWhole; rw [if_neg (by omega)]
  unfold mTour
  by_cases h1 : (mPart ns m 0 0).2.2.2.2 = true
  · rw [if_pos ⟨rfl, h1⟩] at h
    unfold mStack at h
    cases h
  · have h1 : (mPart ns m 0 0).2.2.2.2 = false := by simpa using h1
    rw [h1, Bool.false_and] at e
    rw [if_neg (by rw [e]; simp)]

-- each index once

/-- The first k of an order are indices of a list of n things, each another. -/
def mSeen (ord : List Int) (n : Nat) : Nat → Bool
  | 0 => true
  | k + 1 => mSeen ord n k && decide (0 ≤ ord.getD k 0 ∧ ord.getD k 0 < n ∧ ord.getD k 0 ∉ ord.take k)

def mOnce (ord : List Int) (n : Nat) : Bool := decide (ord.length = n) && mSeen ord n ord.length

theorem mSeen_succ (ord : List Int) (n k : Nat) : mSeen ord n (k + 1) = (mSeen ord n k && decide (0 ≤ ord.getD k 0 ∧ ord.getD k 0 < n ∧ ord.getD k 0 ∉ ord.take k)) := rfl

theorem mSeen_no {ord : List Int} {n k j : Nat} (h : mSeen ord n (k + 1) = false) (hj : k < j) : mSeen ord n j = false := by
  induction j with
  | zero => omega
  | succ j ih =>
    by_cases e : j = k
    · subst e; exact h
    · rw [mSeen_succ, ih (by omega), Bool.false_and]

/-- How many of an order are indices. -/
def mSum (ord : List Int) : Nat → Nat
  | 0 => 0
  | i + 1 => mSum ord i + ord.count (i : Int)

theorem take_snoc {ord : List Int} {k : Nat} (h : k < ord.length) : ord.take (k + 1) = ord.take k ++ [ord.getD k 0] := by
  rw [List.take_add_one, List.getElem?_eq_getElem h, List.getD_eq_getElem?_getD, List.getElem?_eq_getElem h]
  rfl

theorem mSeen_iff {ord : List Int} {n : Nat} : ∀ k, k ≤ ord.length → (mSeen ord n k = true ↔ (∀ x ∈ ord.take k, 0 ≤ x ∧ x < n) ∧ ∀ x, (ord.take k).count x ≤ 1)
  | 0, _ => by unfold mSeen; simp
  | k + 1, hk => by
    have ih := mSeen_iff (ord := ord) (n := n) k (by omega)
    rw [mSeen_succ, Bool.and_eq_true, ih, decide_eq_true_eq, take_snoc (by omega)]
    generalize ord.getD k 0 = y
    constructor
    · rintro ⟨⟨h1, h2⟩, h3, h4, h5⟩
      refine ⟨fun x hx => ?_, fun x => ?_⟩
      · rcases List.mem_append.1 hx with hx | hx
        · exact h1 x hx
        · rw [List.mem_singleton] at hx; subst hx; exact ⟨h3, h4⟩
      · rw [List.count_append, List.count_singleton]
        have := h2 x
        split
        · rename_i e
          rw [beq_iff_eq] at e
          subst e
          rw [List.count_eq_zero_of_not_mem h5]
          exact Nat.le_refl _
        · exact this
    · rintro ⟨h1, h2⟩
      have hy := h1 y (List.mem_append_right _ List.mem_cons_self)
      refine ⟨⟨fun x hx => h1 x (List.mem_append_left _ hx), fun x => ?_⟩, hy.1, hy.2, fun hm => ?_⟩
      · have := h2 x
        rw [List.count_append] at this
        omega
      · have := h2 y
        rw [List.count_append, List.count_singleton, if_pos (by rw [beq_iff_eq])] at this
        have := List.count_pos_iff.2 hm
        omega

theorem mOnce_in {ord : List Int} {n : Nat} (h : mOnce ord n = true) : ∀ k, k < ord.length → 0 ≤ ord.getD k 0 ∧ ord.getD k 0 < n := by
  unfold mOnce at h
  rw [Bool.and_eq_true, mSeen_iff _ (Nat.le_refl _), List.take_length] at h
  intro k hk
  rw [List.getD_eq_getElem?_getD, List.getElem?_eq_getElem hk]
  exact h.2.1 _ (List.getElem_mem _)

end
end Go.Proofs.Sky
