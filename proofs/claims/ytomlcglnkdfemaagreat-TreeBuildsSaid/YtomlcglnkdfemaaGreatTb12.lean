/- Plain mathematics of layer 16: the things under a node; the least boxes, from the last node on and from the things. Imports nothing of the translation. -/
import Derived.Test.YtomlcglnkdfemaaGreatTb11


namespace Go.Proofs.Sky
section

open Go.RowKit

set_option linter.unusedVariables false

def nd0 : Nd := (((0, 0, 0), (0, 0, 0)), 0, 0, 0)

theorem getD_at {α : Type} {l : List α} {z : α} {i : Nat} (h : i < l.length) : l.getD i z = l[i] := by
  rw [List.getD_eq_getElem?_getD, List.getElem?_eq_getElem h]; rfl

/-- Where the things of node i's part begin: behind the last leaf ahead of it. -/
def mFrom (ns : List Nd) : Nat → Int
  | 0 => 0
  | k + 1 => if 0 < (ns.getD k nd0).2.2.1 then (ns.getD k nd0).2.1 + (ns.getD k nd0).2.2.1 else mFrom ns k

theorem mFrom_succ (ns : List Nd) (k : Nat) : mFrom ns (k + 1) = if 0 < (ns.getD k nd0).2.2.1 then (ns.getD k nd0).2.1 + (ns.getD k nd0).2.2.1 else mFrom ns k := rfl

def mThing (ns : List Nd) (m : Int) (i : Nat) : Int := (mPart ns m i (mFrom ns i)).2.1

/-- What is so of each node of a part that is ordered. -/
theorem part_each {ns : List Nd} {m : Int} : ∀ (f i : Nat) (th : Int), ns.length < i + f → (mPart ns m i th).2.2.2.2 = true → mFrom ns i = th →
    mFrom ns (mPart ns m i th).1.toNat = (mPart ns m i th).2.1 ∧ ∀ j, i ≤ j → (j : Int) < (mPart ns m i th).1 → (mPart ns m j (mFrom ns j)).2.2.2.2 = true
  | 0, i, th, hf, h, _ => by rw [mPart_out (by omega)] at h; cases h
  | f + 1, i, th, hf, h, hth => by
    by_cases hi : i < ns.length
    · by_cases hc : ns[i].2.2.1 = 0
      · obtain ⟨h1, h2, h3, h4, h5, h6⟩ := mPart_two hi hc h
        have ha := mPart_in h2
        have e1 : mFrom ns (i + 1) = th := by rw [mFrom_succ, getD_at hi, if_neg (by omega), hth]
        obtain ⟨a1, a2⟩ := part_each f (i + 1) th (by omega) h2 e1
        obtain ⟨b1, b2⟩ := part_each f _ _ (by omega) h4 a1
        rw [h5, h6]
        refine ⟨b1, fun j hj hlt => ?_⟩
        by_cases g0 : j = i
        · subst g0; rw [hth]; exact h
        · by_cases g1 : (j : Int) < (mPart ns m (i + 1) th).1
          · exact a2 j (by omega) g1
          · exact b2 j (by omega) hlt
      · obtain ⟨h1, h2, h3, h4, h5, h6⟩ := mPart_one hi hc h
        rw [h5, h6, show ((i : Int) + 1).toNat = i + 1 by omega]
        refine ⟨by rw [mFrom_succ, getD_at hi, if_pos h1, h2], fun j hj hlt => ?_⟩
        have : j = i := by omega
        subst this; rw [hth]; exact h
    · rw [mPart_out hi] at h; cases h

theorem whole_part {ns : List Nd} {m : Int} (h : (mWhole ns m).2.2.2.2 = true) (hn : 0 < ns.length) : (mPart ns m 0 0).2.2.2.2 = true ∧ (mPart ns m 0 0).1 = ns.length ∧ (mPart ns m 0 0).2.1 = m := by
  unfold mWhole at h
  rw [if_neg (by omega)] at h
  simp only [Bool.and_eq_true, decide_eq_true_eq] at h
  exact ⟨h.1, h.2.1, h.2.2⟩

theorem whole_each {ns : List Nd} {m : Int} (h : (mWhole ns m).2.2.2.2 = true) {j : Nat} (hj : j < ns.length) : (mPart ns m j (mFrom ns j)).2.2.2.2 = true := by
  obtain ⟨h1, h2, h3⟩ := whole_part h (by omega)
  exact (part_each (ns.length + 1) 0 0 (by omega) h1 rfl).2 j (by omega) (by omega)

theorem mFrom_nonneg {ns : List Nd} {m : Int} (h : (mWhole ns m).2.2.2.2 = true) : ∀ j, j ≤ ns.length → 0 ≤ mFrom ns j
  | 0, _ => Int.le_refl _
  | j + 1, hj => by
    rw [mFrom_succ, getD_at (show j < ns.length by omega)]
    have ih := mFrom_nonneg h j (by omega)
    have hk := whole_each h (show j < ns.length by omega)
    split
    · rename_i hc
      obtain ⟨_, e, _⟩ := mPart_one (show j < ns.length by omega) (by omega) hk
      omega
    · exact ih

/-- A node of an ordered tree: a leaf, or one of two parts that stand behind it. -/
theorem node_leaf {ns : List Nd} {m : Int} (h : (mWhole ns m).2.2.2.2 = true) {j : Nat} (hj : j < ns.length) (hc : ns[j].2.2.1 ≠ 0) :
    0 < ns[j].2.2.1 ∧ ns[j].2.1 = mFrom ns j ∧ 0 ≤ mFrom ns j ∧ mThing ns m j = mFrom ns j + ns[j].2.2.1 ∧ mThing ns m j ≤ m := by
  have hk := whole_each h hj
  obtain ⟨h1, h2, h3, h4, h5, h6⟩ := mPart_one hj hc hk
  have hin := mPart_in hk
  exact ⟨h1, h2, mFrom_nonneg h j (by omega), h6, hin.2.2.2.1⟩

theorem node_two {ns : List Nd} {m : Int} (h : (mWhole ns m).2.2.2.2 = true) {j : Nat} (hj : j < ns.length) (hc : ns[j].2.2.1 = 0) :
    ∃ k : Nat, ns[j].2.2.2 = (k : Int) ∧ j + 1 < k ∧ k < ns.length ∧ 0 ≤ mFrom ns j ∧ mFrom ns (j + 1) = mFrom ns j ∧ mThing ns m (j + 1) = mFrom ns k ∧ mThing ns m k = mThing ns m j ∧ mFrom ns j < mFrom ns k ∧ mFrom ns k < mThing ns m j ∧ mThing ns m j ≤ m := by
  have hk := whole_each h hj
  obtain ⟨h1, h2, h3, h4, h5, h6⟩ := mPart_two hj hc hk
  have e1 : mFrom ns (j + 1) = mFrom ns j := by rw [mFrom_succ, getD_at hj, if_neg (by omega)]
  have ha := mPart_in h2
  have hb := mPart_in h4
  obtain ⟨a1, _⟩ := part_each (ns.length + 1) (j + 1) (mFrom ns j) (by omega) h2 e1
  refine ⟨(mPart ns m (j + 1) (mFrom ns j)).1.toNat, by omega, by omega, by omega, mFrom_nonneg h j (by omega), e1, ?_, ?_, ?_, ?_, ?_⟩
  · unfold mThing; rw [e1, a1]
  · unfold mThing; rw [a1, h6]
  · rw [a1]; omega
  · unfold mThing; rw [a1, h6]; omega
  · unfold mThing; rw [h6]; omega

-- the least box around things

theorem gL_append (l m : List Bx) : gL (fun _ => true) (l ++ m) = gW (gL (fun _ => true) l) (gL (fun _ => true) m) := by
  induction m using snoc_ind with
  | h0 =>
    rw [List.append_nil]
    show _ = gW _ g0
    unfold gW
    split
    · rename_i h
      rw [gL_count] at h
      have : l = [] := by
        have h2 : (l.filter (fun _ => true)).length = l.length := by rw [List.filter_eq_self.2 (fun _ _ => rfl)]
        exact List.length_eq_zero_iff.1 (by omega)
      subst this; rfl
    · rfl
  | h1 m b ih =>
    rw [← List.append_assoc, gL_snoc, gL_snoc, ih]
    unfold gPut
    rw [if_pos rfl, if_pos rfl, gW_assoc]

theorem bAll_gL {V : Nat → Bx} (h0 : bRight (V 0) = true) : ∀ n, 0 < n → (∀ k, k < n → bRight (V k) = true) → (bAll V n, n) = gL (fun _ => true) (bls V n)
  | 0, h, _ => by omega
  | 1, _, h => by
    show (bJoin (V 0) (V 0), 1) = gW g0 (V 0, 1)
    rw [uJoin_right h0 h0, uJoin_self]; rfl
  | n + 2, _, h => by
    have ih := bAll_gL h0 (n + 1) (by omega) (fun k hk => h k (by omega))
    have hr : bRight (bAll V (n + 1)) = true := bAll_right (n := n + 1) (fun k hk => h k (by omega)) h0 (n + 1) (Nat.le_refl _)
    rw [bAll_succ, gL_succ, ← ih]
    unfold gPut
    rw [if_pos rfl]
    unfold gW
    rw [if_neg (by simp), if_neg (by simp), uJoin_right hr (h _ (by omega))]
    rfl

theorem bls_add (V : Nat → Bx) (a b : Nat) : bls V (a + b) = bls V a ++ bls (fun k => V (a + k)) b := by
  unfold bls
  rw [List.range_add, List.map_append, List.map_map]
  rfl

theorem bAll_add {V : Nat → Bx} {a b : Nat} (ha : 0 < a) (hb : 0 < b) (h : ∀ k, k < a + b → bRight (V k) = true) : bAll V (a + b) = bJoin (bAll V a) (bAll (fun k => V (a + k)) b) := by
  have e := bAll_gL (h 0 (by omega)) (a + b) (by omega) h
  have ea := bAll_gL (h 0 (by omega)) a ha (fun k hk => h k (by omega))
  have eb := bAll_gL (V := fun k => V (a + k)) (h _ (by omega)) b hb (fun k hk => h _ (by omega))
  rw [bls_add, gL_append, ← ea, ← eb] at e
  unfold gW at e
  rw [if_neg (by simp only; omega), if_neg (by simp only; omega)] at e
  rw [(Prod.mk.inj e).1, uJoin_right (bAll_right (n := a) (fun k hk => h k (by omega)) (h 0 (by omega)) a (Nat.le_refl _)) (bAll_right (V := fun k => V (a + k)) (n := b) (fun k hk => h _ (by omega)) (h _ (by omega)) b (Nat.le_refl _))]

theorem bAll_congr {V U : Nat → Bx} : ∀ n, 0 < n → (∀ k, k < n → V k = U k) → bAll V n = bAll U n
  | 0, h, _ => by omega
  | 1, _, h => by show bJoin (V 0) (V 0) = bJoin (U 0) (U 0); rw [h 0 (by omega)]
  | n + 2, _, h => by
    show bJoin (bAll V (n + 1)) (V (n + 1)) = bJoin (bAll U (n + 1)) (U (n + 1))
    rw [bAll_congr (n + 1) (by omega) (fun k hk => h k (by omega)), h (n + 1) (by omega)]

/-- The least box around the things that stand in the order from a on, ahead of b. -/
def mBox (P : Nat → Pr) (ord : List Int) (k : Nat) : Bx := pBox (P (ord.getD k 0).toNat)

def mAt (P : Nat → Pr) (ord : List Int) (a b : Int) : Bx := bAll (fun k => mBox P ord (a.toNat + k)) (b - a).toNat

theorem pAll_at {P : Nat → Pr} {n k : Nat} (h : pAll P n = true) (hk : k < n) : pRight (P k) = true := by
  unfold pAll at h
  rw [List.all_eq_true] at h
  exact h k (List.mem_range.2 hk)

theorem mBox_right {P : Nat → Pr} {ord : List Int} {n k : Nat} (hP : pAll P n = true) (ho : mOnce ord n = true) (hk : k < ord.length) : bRight (mBox P ord k) = true := by
  have := mOnce_in ho k hk
  exact box_right (pAll_at hP (by omega))

theorem mAt_join {P : Nat → Pr} {ord : List Int} {n : Nat} (hP : pAll P n = true) (ho : mOnce ord n = true) {a b c : Int} (h0 : 0 ≤ a) (h1 : a < b) (h2 : b < c) (h3 : c ≤ ord.length) : mAt P ord a c = bJoin (mAt P ord a b) (mAt P ord b c) := by
  unfold mAt
  rw [show (c - a).toNat = (b - a).toNat + (c - b).toNat by omega, bAll_add (by omega) (by omega) (fun k hk => mBox_right hP ho (by omega))]
  congr 1
  refine bAll_congr _ (by omega) (fun k hk => ?_)
  rw [show a.toNat + ((b - a).toNat + k) = b.toNat + k by omega]

/-- What the least box of a node is, if those of its parts are least. -/
def mLeast (ns : List Nd) (P : Nat → Pr) (ord : List Int) (d : Nd) (j : Nat) : Bx :=
  if 0 < d.2.2.1 then mAt P ord d.2.1 (d.2.1 + d.2.2.1) else bJoin (ns.getD (j + 1) nd0).1 (ns.getD d.2.2.2.toNat nd0).1

/-- All boxes from node k on are those. -/
def mLow (ns : List Nd) (P : Nat → Pr) (ord : List Int) (k : Nat) : Bool := (List.range ns.length).all (fun j => decide (j < k) || decide ((ns.getD j nd0).1 = mLeast ns P ord (ns.getD j nd0) j))

/-- All boxes are the least ones around their things. -/
def mBoxes (ns : List Nd) (P : Nat → Pr) (ord : List Int) : Nat → Bool
  | 0 => true
  | k + 1 => mBoxes ns P ord k && decide ((ns.getD k nd0).1 = mAt P ord (mFrom ns k) (mThing ns ord.length k))

theorem mBoxes_succ (ns : List Nd) (P : Nat → Pr) (ord : List Int) (k : Nat) : mBoxes ns P ord (k + 1) = (mBoxes ns P ord k && decide ((ns.getD k nd0).1 = mAt P ord (mFrom ns k) (mThing ns ord.length k))) := rfl

theorem mBoxes_iff {ns : List Nd} {P : Nat → Pr} {ord : List Int} : ∀ k, mBoxes ns P ord k = true ↔ ∀ j, j < k → (ns.getD j nd0).1 = mAt P ord (mFrom ns j) (mThing ns ord.length j)
  | 0 => ⟨fun _ j hj => by omega, fun _ => rfl⟩
  | k + 1 => by
    rw [mBoxes_succ, Bool.and_eq_true, mBoxes_iff k, decide_eq_true_eq]
    constructor
    · rintro ⟨h1, h2⟩ j hj
      by_cases e : j = k
      · subst e; exact h2
      · exact h1 j (by omega)
    · intro h
      exact ⟨fun j hj => h j (by omega), h k (by omega)⟩

def mWh (ns : List Nd) (P : Nat → Pr) (ord : List Int) (n : Nat) : Bool :=
  (mWhole ns ord.length).2.2.2.2 && (pAll P n && (mOnce ord n && mBoxes ns P ord ns.length))

theorem mLow_iff {ns : List Nd} {P : Nat → Pr} {ord : List Int} {k : Nat} : mLow ns P ord k = true ↔ ∀ j, k ≤ j → j < ns.length → (ns.getD j nd0).1 = mLeast ns P ord (ns.getD j nd0) j := by
  unfold mLow
  rw [List.all_eq_true]
  constructor
  · intro h j hk hj
    have := h j (List.mem_range.2 hj)
    rw [Bool.or_eq_true, decide_eq_true_eq, decide_eq_true_eq] at this
    rcases this with g | g
    · omega
    · exact g
  · intro h j hj
    rw [Bool.or_eq_true, decide_eq_true_eq, decide_eq_true_eq]
    by_cases g : j < k
    · exact .inl g
    · exact .inr (h j (by omega) (List.mem_range.1 hj))

theorem mLow_all {ns : List Nd} {P : Nat → Pr} {ord : List Int} {n : Nat} (h : (mWhole ns ord.length).2.2.2.2 = true) (hP : pAll P n = true) (ho : mOnce ord n = true) : mLow ns P ord 0 = mBoxes ns P ord ns.length := by
  rw [Bool.eq_iff_iff, mLow_iff, mBoxes_iff]
  constructor
  · intro hl
    have key : ∀ f j, ns.length ≤ j + f → j < ns.length → (ns.getD j nd0).1 = mAt P ord (mFrom ns j) (mThing ns ord.length j) := by
      intro f
      induction f with
      | zero => intro j h1 h2; omega
      | succ f ih =>
        intro j h1 h2
        rw [hl j (by omega) h2, getD_at h2]
        unfold mLeast
        by_cases hc : ns[j].2.2.1 = 0
        · obtain ⟨k, e1, e2, e3, e4, e5, e6, e7, e8, e9, e10⟩ := node_two h h2 hc
          rw [if_neg (by omega), e1, ih (j + 1) (by omega) (by omega), show ((k : Int)).toNat = k by omega, ih k (by omega) e3, e5, e6, e7]
          exact (mAt_join hP ho e4 e8 e9 (by omega)).symm
        · obtain ⟨e1, e2, e3, e4, e5⟩ := node_leaf h h2 hc
          rw [if_pos e1, e2, e4]
    intro j hj
    exact key ns.length j (by omega) hj
  · intro hb j _ h2
    rw [hb j h2, getD_at h2]
    unfold mLeast
    by_cases hc : ns[j].2.2.1 = 0
    · obtain ⟨k, e1, e2, e3, e4, e5, e6, e7, e8, e9, e10⟩ := node_two h h2 hc
      rw [if_neg (by omega), e1, hb (j + 1) (by omega), show ((k : Int)).toNat = k by omega, hb k e3, e5, e6, e7]
      exact mAt_join hP ho e4 e8 e9 (by omega)
    · obtain ⟨e1, e2, e3, e4, e5⟩ := node_leaf h h2 hc
      rw [if_pos e1, e2, e4]

end
end Go.Proofs.Sky
