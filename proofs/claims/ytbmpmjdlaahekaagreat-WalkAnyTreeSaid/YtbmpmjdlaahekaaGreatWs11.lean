/- Plain mathematics of layer 15: bins of boxes, groups of boxes, what a  -/
import Derived.Test.YtbmpmjdlaahekaaGreatWs7
set_option maxRecDepth 100000
set_option maxHeartbeats 8000000
set_option linter.unusedVariables false
set_option linter.unusedSimpArgs false
namespace Go.Proofs.Sky
section
open Go.RowKit
def bBin (b : Bx) (ax lo hi : Int) : Int :=
 if bRight b = true ∧ 0 ≤ ax ∧ ax ≤ 2 ∧ -2097152 ≤ lo ∧ hi ≤ 2097152 ∧ lo ≤ bMid b ax ∧ bMid b ax ≤ hi then (bMid b ax - lo) * 8 / (hi - lo + 1) else -1
def uJoin (a b : Bx) : Bx := ((min a.1.1 b.1.1, min a.1.2.1 b.1.2.1, min a.1.2.2 b.1.2.2), (max a.2.1 b.2.1, max a.2.2.1 b.2.2.1, max a.2.2.2 b.2.2.2))
abbrev Gp := Bx × Nat
def g0 : Gp := (((0, 0, 0), (0, 0, 0)), 0)
def gW (g h : Gp) : Gp := if g.2 = 0 then h else if h.2 = 0 then g else (uJoin g.1 h.1, g.2 + h.2)
def gPut (p : Bx → Bool) (g : Gp) (b : Bx) : Gp := if p b = true then gW g (b, 1) else g
def gL (p : Bx → Bool) (l : List Bx) : Gp := l.foldl (gPut p) g0
def bls (V : Nat → Bx) (n : Nat) : List Bx := (List.range n).map V
def isL (ax lo hi : Int) (a : Int) (b : Bx) : Bool := decide (0 ≤ bBin b ax lo hi ∧ bBin b ax lo hi < a)
def allBin (ax lo hi : Int) (l : List Bx) : Bool := l.all (fun b => decide (0 ≤ bBin b ax lo hi))
def gCost (g : Gp) : Int := bArea g.1 * g.2
def sOk (ax lo hi a : Int) (l : List Bx) : Bool := decide (l.length ≤ 1024) && (allBin ax lo hi l && (decide ((gL (isL ax lo hi a) l).2 ≠ 0) && decide ((gL (fun b => !isL ax lo hi a b) l).2 ≠ 0)))
def sVal (ax lo hi a : Int) (l : List Bx) : Int := gCost (gL (isL ax lo hi a) l) + gCost (gL (fun b => !isL ax lo hi a b) l)
def sCost (ax lo hi a : Int) (l : List Bx) : Int := if sOk ax lo hi a l = true then sVal ax lo hi a l else 0
def mnAt (V : Nat → Bx) (ax : Int) : Nat → Int
 | 0 => bMid (V 0) ax
 | k + 1 => min (mnAt V ax k) (bMid (V k) ax)
def mxAt (V : Nat → Bx) (ax : Int) : Nat → Int
 | 0 => bMid (V 0) ax
 | k + 1 => max (mxAt V ax k) (bMid (V k) ax)
def mnV (V : Nat → Bx) (n : Nat) (ax : Int) : Int := if n = 0 then 0 else mnAt V ax n
def mxV (V : Nat → Bx) (n : Nat) (ax : Int) : Int := if n = 0 then 0 else mxAt V ax n
abbrev Sp := Int × Int × Int × Int
abbrev Bst := Sp × Int × Bool
def b0 : Bst := ((0, 0, 0, 0), 0, false)
def bTry (ok : Bool) (c : Int) (s : Sp) (st : Bst) : Bst := if ok = true ∧ (st.2.2 = false ∨ c < st.2.1) then (s, c, true) else st
def bIn (ax lo hi : Int) (l : List Bx) (st : Bst) : Nat → Bst
 | 0 => st
 | k + 1 => bTry (sOk ax lo hi (k + 1 : Nat) l) (sVal ax lo hi (k + 1 : Nat) l) (ax, (k + 1 : Nat), lo, hi) (bIn ax lo hi l st k)
def bOut (V : Nat → Bx) (n : Nat) : Nat → Bst
 | 0 => b0
 | a + 1 => bIn (a : Int) (mnV V n a) (mxV V n a) (bls V n) (bOut V n a) 7
def allR (l : List Bx) : Bool := l.all bRight
def bestOk (V : Nat → Bx) (n : Nat) : Bool := decide (n ≤ 1024) && allR (bls V n)
def bBest (V : Nat → Bx) (n : Nat) : Sp × Bool := if bestOk V n = true then ((bOut V n 3).1, (bOut V n 3).2.2) else ((0, 0, 0, 0), false)
theorem bls_succ (V : Nat → Bx) (n : Nat) : bls V (n + 1) = bls V n ++ [V n] := by
 unfold bls; rw [List.range_succ, List.map_append]; rfl
theorem bls_len (V : Nat → Bx) (n : Nat) : (bls V n).length = n := by unfold bls; simp
theorem bls_mem {V : Nat → Bx} {n : Nat} {b : Bx} : b ∈ bls V n ↔ ∃ k, k < n ∧ V k = b := by
 unfold bls; simp
-- middles and bins
theorem bMid_in (b : Bx) (ax : Int) : -2097152 ≤ bMid b ax ∧ bMid b ax ≤ 2097152 := by
 unfold bMid
 split
 · rename_i h
   obtain ⟨h, h0, h2⟩ := h
   rw [z10, z0r, z0r] at h
   unfold crd
   split
   · omega
   · split <;> omega
 · omega
theorem bBin_lt (b : Bx) (ax lo hi : Int) : bBin b ax lo hi < 8 := by
 unfold bBin
 split
 · rename_i h
   exact Int.ediv_lt_of_lt_mul (by omega) (by omega)
 · omega
theorem bBin_nonneg {b : Bx} {ax lo hi : Int} : 0 ≤ bBin b ax lo hi ↔ bRight b = true ∧ 0 ≤ ax ∧ ax ≤ 2 ∧ -2097152 ≤ lo ∧ hi ≤ 2097152 ∧ lo ≤ bMid b ax ∧ bMid b ax ≤ hi := by
 constructor
 · intro h
   unfold bBin at h
   split at h
   · assumption
   · omega
 · intro h
   unfold bBin
   rw [if_pos h]
   exact Int.ediv_nonneg (by omega) (by omega)
theorem bBin_flat {b : Bx} {ax lo hi : Int} (h : hi ≤ lo) (h0 : 0 ≤ bBin b ax lo hi) : bBin b ax lo hi = 0 := by
 have k := bBin_nonneg.1 h0
 unfold bBin
 rw [if_pos k, show bMid b ax - lo = 0 by omega, Int.zero_mul, Int.zero_ediv]
-- groups
theorem uJoin_self (a : Bx) : uJoin a a = a := by unfold uJoin; simp
theorem uJoin_right {a b : Bx} (ha : bRight a = true) (hb : bRight b = true) : bJoin a b = uJoin a b := bJoin_yes ha hb
theorem gW_count (g h : Gp) : (gW g h).2 = g.2 + h.2 := by
 unfold gW
 split
 · omega
 · split <;> simp_all
theorem gL_snoc (p : Bx → Bool) (l : List Bx) (b : Bx) : gL p (l ++ [b]) = gPut p (gL p l) b := by
 unfold gL; rw [List.foldl_append]; rfl
theorem gL_succ (p : Bx → Bool) (V : Nat → Bx) (n : Nat) : gL p (bls V (n + 1)) = gPut p (gL p (bls V n)) (V n) := by rw [bls_succ, gL_snoc]
theorem snoc_ind {α : Type} {P : List α → Prop} (h0 : P []) (h1 : ∀ l x, P l → P (l ++ [x])) (l : List α) : P l := by
 rw [← l.reverse_reverse]
 induction l.reverse with
 | nil => exact h0
 | cons x l ih => rw [List.reverse_cons]; exact h1 _ _ ih
theorem gL_congr {p q : Bx → Bool} {l : List Bx} (h : ∀ b ∈ l, p b = q b) : gL p l = gL q l := by
 unfold gL
 generalize g0 = z
 induction l generalizing z with
 | nil => rfl
 | cons b l ih =>
  rw [List.foldl_cons, List.foldl_cons, ih (fun x hx => h x (by simp [hx]))]
  unfold gPut
  rw [h b (by simp)]
theorem gL_none {p : Bx → Bool} {l : List Bx} (h : ∀ b ∈ l, p b = false) : gL p l = g0 := by
 rw [gL_congr (q := fun _ => false) h]
 unfold gL
 induction l with
 | nil => rfl
 | cons b l ih => rw [List.foldl_cons]; exact ih (fun x hx => h x (by simp [hx]))
theorem gL_count (p : Bx → Bool) (l : List Bx) : (gL p l).2 = (l.filter p).length := by
 induction l using snoc_ind with
 | h0 => rfl
 | h1 l b ih =>
  rw [gL_snoc, List.filter_append, List.length_append, ← ih]
  unfold gPut
  cases hp : p b with
  | true => rw [if_pos rfl, gW_count]; simp [hp]
  | false => rw [if_neg (by simp)]; simp [hp]
theorem gL_le (p : Bx → Bool) (l : List Bx) : (gL p l).2 ≤ l.length := by
 rw [gL_count]; exact List.length_filter_le _ _
theorem allBin_iff {ax lo hi : Int} {l : List Bx} : allBin ax lo hi l = true ↔ ∀ b ∈ l, 0 ≤ bBin b ax lo hi := by
 unfold allBin; simp
-- areas
theorem bArea_in (b : Bx) : 0 ≤ bArea b ∧ bArea b ≤ 13194139533312 := by
 unfold bArea
 split
 · rename_i h
   rw [z10, z0r, z0r] at h
   have m : ∀ x y : Int, (0 ≤ x ∧ x ≤ 2097152) → (0 ≤ y ∧ y ≤ 2097152) → 0 ≤ x * y ∧ x * y ≤ 4398046511104 := fun x y hx hy => by
    have a := Int.mul_nonneg hx.1 hy.1
    have b := Int.mul_le_mul hx.2 hy.2 hy.1 (by omega)
    omega
   have m1 := m (b.2.1 - b.1.1) (b.2.2.1 - b.1.2.1) (by omega) (by omega)
   have m2 := m (b.2.2.1 - b.1.2.1) (b.2.2.2 - b.1.2.2) (by omega) (by omega)
   have m3 := m (b.2.2.2 - b.1.2.2) (b.2.1 - b.1.1) (by omega) (by omega)
   omega
 · omega
theorem gCost_in {g : Gp} (h : g.2 ≤ 1024) : 0 ≤ gCost g ∧ gCost g ≤ 13510798882111488 := by
 unfold gCost
 have h1 := bArea_in g.1
 have a := Int.mul_nonneg h1.1 (show 0 ≤ (g.2 : Int) by omega)
 have b := Int.mul_le_mul h1.2 (show (g.2 : Int) ≤ 1024 by omega) (by omega) (by omega)
 omega
-- what a split costs
theorem sOk_iff {ax lo hi a : Int} {l : List Bx} : sOk ax lo hi a l = true ↔ l.length ≤ 1024 ∧ (∀ b ∈ l, 0 ≤ bBin b ax lo hi) ∧ (gL (isL ax lo hi a) l).2 ≠ 0 ∧ (gL (fun b => !isL ax lo hi a b) l).2 ≠ 0 := by
 unfold sOk; simp only [Bool.and_eq_true, decide_eq_true_eq, allBin_iff]
theorem sOk_at {ax lo hi a : Int} {l : List Bx} (h : sOk ax lo hi a l = true) : 1 ≤ a ∧ a ≤ 7 := by
 rw [sOk_iff] at h
 obtain ⟨_, h, h1, h2⟩ := h
 constructor
 · rcases Int.lt_or_le 0 a with k | k
   · omega
   · exfalso
     refine h1 ?_
     rw [gL_none (fun b _ => by unfold isL; exact zf (by omega))]
     rfl
 · rcases Int.lt_or_le 7 a with k | k
   · exfalso
     refine h2 ?_
     rw [gL_none (fun b hb => by
      have := h b hb
      have := bBin_lt b ax lo hi
      unfold isL
      rw [zt (by omega)]
      rfl)]
     rfl
   · omega
theorem sOk_lo {ax lo hi a : Int} {l : List Bx} (h : sOk ax lo hi a l = true) : lo < hi := by
 have ha := sOk_at h
 rw [sOk_iff] at h
 obtain ⟨_, h, h1, h2⟩ := h
 rcases Int.lt_or_le lo hi with k | k
 · exact k
 · exfalso
   refine h2 ?_
   rw [gL_none (fun b hb => by
    have := bBin_flat k (h b hb)
    unfold isL
    rw [zt (by omega)]
    rfl)]
   rfl
theorem sOk_nil {ax lo hi a : Int} : sOk ax lo hi a [] = false := by
 cases h : sOk ax lo hi a [] with
 | false => rfl
 | true => exact absurd rfl (sOk_iff.1 h).2.2.1
theorem sVal_in {ax lo hi a : Int} {l : List Bx} (h : l.length ≤ 1024) : 0 ≤ sVal ax lo hi a l ∧ sVal ax lo hi a l ≤ 27021597764222976 := by
 unfold sVal
 have h1 := gCost_in (g := gL (isL ax lo hi a) l) (Nat.le_trans (gL_le _ _) h)
 have h2 := gCost_in (g := gL (fun b => !isL ax lo hi a b) l) (Nat.le_trans (gL_le _ _) h)
 omega
-- least and greatest middles
theorem mn_spec (V : Nat → Bx) (ax : Int) : ∀ n, (∀ k, k < n → mnAt V ax n ≤ bMid (V k) ax) ∧ (∃ k, (k < n ∨ k = 0) ∧ mnAt V ax n = bMid (V k) ax) ∧ (∀ k, k < n → bMid (V k) ax ≤ mxAt V ax n) ∧ (∃ k, (k < n ∨ k = 0) ∧ mxAt V ax n = bMid (V k) ax)
 | 0 => ⟨fun k h => by omega, ⟨0, .inr rfl, rfl⟩, fun k h => by omega, ⟨0, .inr rfl, rfl⟩⟩
 | n + 1 => by
  obtain ⟨h1, ⟨k1, hk1, e1⟩, h2, ⟨k2, hk2, e2⟩⟩ := mn_spec V ax n
  unfold mnAt mxAt
  refine ⟨fun k h => ?_, ?_, fun k h => ?_, ?_⟩
  · by_cases g : k < n
    · have := h1 k g; omega
    · obtain rfl : k = n := by omega
      omega
  · by_cases g : mnAt V ax n ≤ bMid (V n) ax
    · exact ⟨k1, by omega, by omega⟩
    · exact ⟨n, by omega, by omega⟩
  · by_cases g : k < n
    · have := h2 k g; omega
    · obtain rfl : k = n := by omega
      omega
  · by_cases g : bMid (V n) ax ≤ mxAt V ax n
    · exact ⟨k2, by omega, by omega⟩
    · exact ⟨n, by omega, by omega⟩
theorem mnV_spec {V : Nat → Bx} {n : Nat} (ax : Int) (h : 0 < n) : (∀ k, k < n → mnV V n ax ≤ bMid (V k) ax ∧ bMid (V k) ax ≤ mxV V n ax) ∧ (∃ k, k < n ∧ mnV V n ax = bMid (V k) ax) ∧ (∃ k, k < n ∧ mxV V n ax = bMid (V k) ax) := by
 obtain ⟨h1, ⟨k1, hk1, e1⟩, h2, ⟨k2, hk2, e2⟩⟩ := mn_spec V ax n
 unfold mnV mxV
 rw [if_neg (by omega), if_neg (by omega)]
 exact ⟨fun k hk => ⟨h1 k hk, h2 k hk⟩, ⟨k1, by omega, e1⟩, ⟨k2, by omega, e2⟩⟩
theorem mnV_in (V : Nat → Bx) (n : Nat) (ax : Int) : -2097152 ≤ mnV V n ax ∧ mnV V n ax ≤ mxV V n ax ∧ mxV V n ax ≤ 2097152 := by
 by_cases h : n = 0
 · unfold mnV mxV; rw [if_pos h, if_pos h]; omega
 · obtain ⟨h1, ⟨k1, hk1, e1⟩, ⟨k2, hk2, e2⟩⟩ := mnV_spec (V := V) (n := n) ax (by omega)
   have a := bMid_in (V k1) ax
   have b := bMid_in (V k2) ax
   have c := h1 k1 hk1
   omega
theorem mnAt_in (V : Nat → Bx) (ax : Int) (n : Nat) : (-2097152 ≤ mnAt V ax n ∧ mnAt V ax n ≤ 2097152) ∧ (-2097152 ≤ mxAt V ax n ∧ mxAt V ax n ≤ 2097152) := by
 obtain ⟨_, ⟨k1, _, e1⟩, _, ⟨k2, _, e2⟩⟩ := mn_spec V ax n
 have a := bMid_in (V k1) ax
 have b := bMid_in (V k2) ax
 omega
-- the best split
theorem bIn_skip {ax lo hi : Int} {l : List Bx} {st : Bst} (h : ∀ a : Int, sOk ax lo hi a l = false) : ∀ k, bIn ax lo hi l st k = st
 | 0 => rfl
 | k + 1 => by unfold bIn bTry; rw [h, if_neg (by simp), bIn_skip h k]
theorem bIn_flat {ax lo hi : Int} {l : List Bx} {st : Bst} (h : hi ≤ lo) (k : Nat) : bIn ax lo hi l st k = st := by
 refine bIn_skip (fun a => ?_) k
 cases e : sOk ax lo hi a l with
 | false => rfl
 | true => have := sOk_lo e; omega
theorem bOut_none {V : Nat → Bx} : ∀ k, bOut V 0 k = b0
 | 0 => rfl
 | k + 1 => by unfold bOut; rw [bIn_skip (fun a => by rw [show bls V 0 = [] from rfl]; exact sOk_nil), bOut_none k]
def Nice (V : Nat → Bx) (n : Nat) (st : Bst) (a top : Nat) : Prop :=
 ∃ k : Nat, k ≤ top ∧ st.1 = ((a : Int), (k : Int), mnV V n a, mxV V n a) ∧ st.2.2 = true ∧ sOk a (mnV V n a) (mxV V n a) k (bls V n) = true ∧ st.2.1 = sVal a (mnV V n a) (mxV V n a) k (bls V n) ∧
  ∀ j : Nat, 1 ≤ j → j ≤ top → sOk a (mnV V n a) (mxV V n a) j (bls V n) = true → ¬ (sVal a (mnV V n a) (mxV V n a) j (bls V n) < st.2.1) ∧ (sVal a (mnV V n a) (mxV V n a) j (bls V n) = st.2.1 → (k : Int) ≤ j)
theorem bIn_nice (V : Nat → Bx) (n a : Nat) (st : Bst) : ∀ k,
  (bIn a (mnV V n a) (mxV V n a) (bls V n) st k = st ∧ ∀ j : Nat, 1 ≤ j → j ≤ k → sOk a (mnV V n a) (mxV V n a) j (bls V n) = true → st.2.2 = true ∧ st.2.1 ≤ sVal a (mnV V n a) (mxV V n a) j (bls V n)) ∨
  Nice V n (bIn a (mnV V n a) (mxV V n a) (bls V n) st k) a k
 | 0 => .inl ⟨rfl, fun j h1 h2 => by omega⟩
 | k + 1 => by
  rcases bIn_nice V n a st k with ⟨e, h⟩ | ⟨i, hi, e1, e2, e3, e4, h⟩
  · unfold bIn
    rw [e]
    unfold bTry
    split
    · rename_i g
      right
      refine ⟨k + 1, Nat.le_refl _, rfl, rfl, g.1, rfl, fun j h1 h2 hj => ?_⟩
      by_cases e : j = k + 1
      · subst e; exact ⟨by dsimp only; omega, fun _ => by omega⟩
      · obtain ⟨hf, hc⟩ := h j h1 (by omega) hj
        have := g.2.resolve_left (by rw [hf]; simp)
        dsimp only
        exact ⟨by omega, fun _ => by omega⟩
    · rename_i g
      left
      refine ⟨rfl, fun j h1 h2 hj => ?_⟩
      by_cases e : j = k + 1
      · subst e
        refine ⟨?_, ?_⟩
        · cases hf : st.2.2 with
          | true => rfl
          | false => exact absurd ⟨hj, .inl hf⟩ g
        · rcases Int.lt_or_le (sVal a (mnV V n a) (mxV V n a) ((k + 1 : Nat) : Int) (bls V n)) st.2.1 with q | q
          · exact absurd ⟨hj, .inr q⟩ g
          · exact q
      · exact h j h1 (by omega) hj
  · right
    unfold bIn
    generalize bIn a (mnV V n a) (mxV V n a) (bls V n) st k = T at *
    unfold bTry
    split
    · rename_i g
      refine ⟨k + 1, Nat.le_refl _, rfl, rfl, g.1, rfl, fun j h1 h2 hj => ?_⟩
      have q := g.2.resolve_left (by rw [e2]; simp)
      by_cases e : j = k + 1
      · subst e; exact ⟨by dsimp only; omega, fun _ => by omega⟩
      · have := (h j h1 (by omega) hj).1
        dsimp only
        exact ⟨by omega, fun _ => by omega⟩
    · rename_i g
      refine ⟨i, by omega, e1, e2, e3, e4, fun j h1 h2 hj => ?_⟩
      by_cases e : j = k + 1
      · subst e
        have q : ¬ sVal a (mnV V n a) (mxV V n a) ((k + 1 : Nat) : Int) (bls V n) < T.2.1 := fun q => g ⟨hj, .inr q⟩
        exact ⟨q, fun _ => by omega⟩
      · exact h j h1 (by omega) hj
theorem bOut_nice (V : Nat → Bx) (n : Nat) : ∀ k, bOut V n k = b0 ∨ ∃ a, a < k ∧ Nice V n (bOut V n k) a 7
 | 0 => .inl rfl
 | k + 1 => by
  rcases bIn_nice V n k (bOut V n k) 7 with ⟨e, _⟩ | h
  · have e' : bOut V n (k + 1) = bOut V n k := e
    rw [e']
    rcases bOut_nice V n k with h | ⟨a, ha, h⟩
    · exact .inl h
    · exact .inr ⟨a, by omega, h⟩
  · exact .inr ⟨k, by omega, h⟩
theorem bBest_spec (V : Nat → Bx) (n : Nat) : (bBest V n = ((0, 0, 0, 0), false)) ∨
  ∃ (a k : Nat), a ≤ 2 ∧ bBest V n = (((a : Int), (k : Int), mnV V n a, mxV V n a), true) ∧ mnV V n a < mxV V n a ∧ sOk a (mnV V n a) (mxV V n a) k (bls V n) = true ∧
   ∀ j : Nat, 1 ≤ j → j ≤ 7 → sOk a (mnV V n a) (mxV V n a) j (bls V n) = true → ¬ (sVal a (mnV V n a) (mxV V n a) j (bls V n) < sVal a (mnV V n a) (mxV V n a) k (bls V n)) ∧ (sVal a (mnV V n a) (mxV V n a) j (bls V n) = sVal a (mnV V n a) (mxV V n a) k (bls V n) → (k : Int) ≤ j) := by
 unfold bBest
 split
 · rcases bOut_nice V n 3 with h | ⟨a, ha, k, hk, e1, e2, e3, e4, h⟩
   · left; rw [h]; rfl
   · right
     rw [e4] at h
     exact ⟨a, k, by omega, by rw [e1, e2], sOk_lo e3, e3, h⟩
 · exact .inl rfl
-- another order
-- indices of those on a side
def ix (p : Bx → Bool) (V : Nat → Bx) (n : Nat) : List Nat := (List.range n).filter (fun k => p (V k))
theorem ix_succ (p : Bx → Bool) (V : Nat → Bx) (n : Nat) : ix p V (n + 1) = ix p V n ++ (if p (V n) = true then [n] else []) := by
 unfold ix
 rw [List.range_succ, List.filter_append]
 congr 1
 cases h : p (V n) <;> simp [h]
theorem ix_map (p : Bx → Bool) (V : Nat → Bx) (n : Nat) : (ix p V n).map V = (bls V n).filter p := by
 unfold ix bls
 rw [List.filter_map]
 rfl
theorem ix_len (p : Bx → Bool) (V : Nat → Bx) (n : Nat) : (ix p V n).length = (gL p (bls V n)).2 := by
 rw [gL_count, ← ix_map, List.length_map]
theorem ix_le (p : Bx → Bool) (V : Nat → Bx) (n : Nat) : (ix p V n).length ≤ n := by
 rw [ix_len]; have := gL_le p (bls V n); rwa [bls_len] at this
theorem ix_lt {p : Bx → Bool} {V : Nat → Bx} {n k : Nat} (h : k ∈ ix p V n) : k < n := by
 unfold ix at h; simp at h; exact h.1
theorem ix_both (p : Bx → Bool) (V : Nat → Bx) (n : Nat) : (ix p V n).length + (ix (fun b => !p b) V n).length = n := by
 induction n with
 | zero => rfl
 | succ n ih =>
  rw [ix_succ, ix_succ, List.length_append, List.length_append]
  cases h : p (V n) <;> simp <;> omega
def around (V : Nat → Bx) (w : List Nat) : Nat → Bx
 | 0 => V (w.getD 0 0)
 | i + 1 => bJoin (around V w i) (V (w.getD i 0))
theorem around_succ (V : Nat → Bx) (w : List Nat) (i : Nat) : around V w (i + 1) = bJoin (around V w i) (V (w.getD i 0)) := rfl
theorem around_right {V : Nat → Bx} {w : List Nat} (h0 : w ≠ []) (h : ∀ k ∈ w, bRight (V k) = true) : ∀ i, i ≤ w.length → bRight (around V w i) = true
 | 0, _ => by
  unfold around
  refine h _ ?_
  cases w with
  | nil => exact absurd rfl h0
  | cons x w => simp
 | i + 1, hi => by
  unfold around
  refine bJoin_right (around_right h0 h i (by omega)) (h _ ?_)
  rw [List.getD_eq_getElem?_getD, List.getElem?_eq_getElem (by omega)]
  exact List.getElem_mem _
theorem around_all {V : Nat → Bx} {w : List Nat} (h0 : w ≠ []) (h : ∀ k ∈ w, bRight (V k) = true) (i : Nat) (h1 : 1 ≤ i) (hi : i ≤ w.length) : (around V w i, i) = gL (fun _ => true) ((w.take i).map V) := by
 induction i with
 | zero => omega
 | succ i ih =>
  have hx : w.getD i 0 = w[i] := by rw [List.getD_eq_getElem?_getD, List.getElem?_eq_getElem (by omega)]; rfl
  rw [List.take_succ_eq_append_getElem (by omega), List.map_append, List.map_cons, List.map_nil, gL_snoc]
  unfold gPut
  rw [if_pos rfl]
  by_cases hz : i = 0
  · subst hz
    unfold around
    rw [hx]
    unfold around
    rw [hx, bJoin_self (h _ (List.getElem_mem _))]
    rfl
  · rw [← ih (by omega) (by omega)]
    unfold gW
    rw [if_neg hz, if_neg (by simp), around_succ, hx, uJoin_right (around_right h0 h i (by omega)) (h _ (List.getElem_mem _))]
theorem around_cost {p : Bx → Bool} {V : Nat → Bx} {n : Nat} (h0 : (gL p (bls V n)).2 ≠ 0) (h : ∀ b ∈ bls V n, bRight b = true) : bArea (around V (ix p V n) (ix p V n).length) * (ix p V n).length = gCost (gL p (bls V n)) := by
 have hl := ix_len p V n
 have hne : ix p V n ≠ [] := fun e => by rw [e] at hl; simp at hl; omega
 have hr : ∀ k ∈ ix p V n, bRight (V k) = true := fun k hk => h _ (bls_mem.2 ⟨k, ix_lt hk, rfl⟩)
 have e := around_all hne hr (ix p V n).length (by omega) (Nat.le_refl _)
 rw [List.take_length, ix_map] at e
 have e2 : gL (fun _ => true) ((bls V n).filter p) = gL p (bls V n) := by
  unfold gL
  rw [List.foldl_filter]
  rfl
 rw [e2] at e
 unfold gCost
 rw [← e]
end
end Go.Proofs.Sky
