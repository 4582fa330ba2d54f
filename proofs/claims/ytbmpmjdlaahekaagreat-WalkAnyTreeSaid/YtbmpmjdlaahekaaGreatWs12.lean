/- Plain mathematics of layer 16: trees of boxes in flat lists; a part of -/
import Derived.Test.YtbmpmjdlaahekaaGreatWs11
import Derived.Test.YtbmpmjdlaahekaaGreatWs10
set_option maxRecDepth 100000
set_option maxHeartbeats 8000000
set_option linter.unusedVariables false
set_option linter.unusedSimpArgs false
namespace Go.Proofs.Sky
section
open Go.RowKit
abbrev Nd := Bx × Int × Int × Int
abbrev Pt := Int × Int × Int × Int × Bool
def pt0 : Pt := (0, 0, 0, 0, false)
def mWalk (ns : List Nd) (m : Int) : Nat → Nat → Int → Pt
 | 0, _, _ => pt0
 | f + 1, i, th =>
  if h : i < ns.length then
   if ns[i].2.2.1 ≠ 0 then
    (if 0 < ns[i].2.2.1 ∧ ns[i].2.1 = th ∧ ns[i].2.2.2 = 0 ∧ ns[i].2.2.1 ≤ m - th then ((i : Int) + 1, th + ns[i].2.2.1, 1, 1, true) else pt0)
   else if ns[i].2.1 ≠ 0 then pt0
   else if (mWalk ns m f (i + 1) th).2.2.2.2 = false ∨ ns[i].2.2.2 ≠ (mWalk ns m f (i + 1) th).1 then pt0
   else if (mWalk ns m f (mWalk ns m f (i + 1) th).1.toNat (mWalk ns m f (i + 1) th).2.1).2.2.2.2 = false then pt0
   else ((mWalk ns m f (mWalk ns m f (i + 1) th).1.toNat (mWalk ns m f (i + 1) th).2.1).1, (mWalk ns m f (mWalk ns m f (i + 1) th).1.toNat (mWalk ns m f (i + 1) th).2.1).2.1,
    1 + max (mWalk ns m f (i + 1) th).2.2.1 (mWalk ns m f (mWalk ns m f (i + 1) th).1.toNat (mWalk ns m f (i + 1) th).2.1).2.2.1,
    (mWalk ns m f (i + 1) th).2.2.2.1 + (mWalk ns m f (mWalk ns m f (i + 1) th).1.toNat (mWalk ns m f (i + 1) th).2.1).2.2.2.1, true)
  else pt0
theorem mWalk_out {ns : List Nd} {m th : Int} {f i : Nat} (h : ¬ i < ns.length) : mWalk ns m (f + 1) i th = pt0 := by
 unfold mWalk; rw [dif_neg h]
theorem mWalk_leaf {ns : List Nd} {m th : Int} {f i : Nat} (h : i < ns.length) (hc : ns[i].2.2.1 ≠ 0) :
  mWalk ns m (f + 1) i th = if 0 < ns[i].2.2.1 ∧ ns[i].2.1 = th ∧ ns[i].2.2.2 = 0 ∧ ns[i].2.2.1 ≤ m - th then ((i : Int) + 1, th + ns[i].2.2.1, 1, 1, true) else pt0 := by
 conv => lhs; unfold mWalk
 rw [dif_pos h, if_pos hc]
theorem mWalk_first {ns : List Nd} {m th : Int} {f i : Nat} (h : i < ns.length) (hc : ns[i].2.2.1 = 0) (hf : ns[i].2.1 ≠ 0) : mWalk ns m (f + 1) i th = pt0 := by
 unfold mWalk; rw [dif_pos h, if_neg (by simpa using hc), if_pos hf]
theorem mWalk_node {ns : List Nd} {m th : Int} {f i : Nat} (h : i < ns.length) (hc : ns[i].2.2.1 = 0) (hf : ns[i].2.1 = 0) {a : Pt} (ha : mWalk ns m f (i + 1) th = a) :
  mWalk ns m (f + 1) i th = if a.2.2.2.2 = false ∨ ns[i].2.2.2 ≠ a.1 then pt0 else if (mWalk ns m f a.1.toNat a.2.1).2.2.2.2 = false then pt0 else ((mWalk ns m f a.1.toNat a.2.1).1, (mWalk ns m f a.1.toNat a.2.1).2.1, 1 + max a.2.2.1 (mWalk ns m f a.1.toNat a.2.1).2.2.1, a.2.2.2.1 + (mWalk ns m f a.1.toNat a.2.1).2.2.2.1, true) := by
 subst ha
 conv => lhs; unfold mWalk
 rw [dif_pos h, if_neg (by simpa using hc), if_neg (by simpa using hf)]
theorem mWalk_in {ns : List Nd} {m : Int} : ∀ (f i : Nat) (th : Int), (mWalk ns m f i th).2.2.2.2 = true →
  (i : Int) < (mWalk ns m f i th).1 ∧ (mWalk ns m f i th).1 ≤ ns.length ∧ th < (mWalk ns m f i th).2.1 ∧ (mWalk ns m f i th).2.1 ≤ m ∧ 1 ≤ (mWalk ns m f i th).2.2.1 ∧ (mWalk ns m f i th).2.2.1 ≤ (mWalk ns m f i th).1 - i ∧ 1 ≤ (mWalk ns m f i th).2.2.2.1 ∧ (mWalk ns m f i th).2.2.2.1 ≤ (mWalk ns m f i th).1 - i
 | 0, i, th, h => by cases h
 | f + 1, i, th, h => by
  by_cases hi : i < ns.length
  · by_cases hc : ns[i].2.2.1 = 0
    · by_cases hf : ns[i].2.1 = 0
      · rw [mWalk_node hi hc hf rfl] at h ⊢
        have ha := mWalk_in (ns := ns) (m := m) f (i + 1) th
        generalize mWalk ns m f (i + 1) th = a at *
        have hb := mWalk_in (ns := ns) (m := m) f a.1.toNat a.2.1
        generalize mWalk ns m f a.1.toNat a.2.1 = b at *
        split at h
        · cases h
        · rename_i h1
          rw [if_neg h1]
          split at h
          · cases h
          · rename_i h2
            rw [if_neg h2]
            have a' := ha (by simpa using fun e => h1 (.inl e))
            have b' := hb (by simpa using h2)
            dsimp only
            omega
      · rw [mWalk_first hi hc hf] at h; cases h
    · rw [mWalk_leaf hi hc] at h ⊢
      split at h
      · rename_i h1
        rw [if_pos h1]
        dsimp only
        omega
      · cases h
  · rw [mWalk_out hi] at h; cases h
theorem mWalk_more {ns : List Nd} {m : Int} : ∀ (f g i : Nat) (th : Int), ns.length < i + f → ns.length < i + g → mWalk ns m f i th = mWalk ns m g i th
 | 0, 0, _, _, _, _ => rfl
 | 0, g + 1, i, th, h, _ => by rw [mWalk_out (by omega)]; rfl
 | f + 1, 0, i, th, _, h => by rw [mWalk_out (by omega)]; rfl
 | f + 1, g + 1, i, th, h1, h2 => by
  by_cases hi : i < ns.length
  · by_cases hc : ns[i].2.2.1 = 0
    · by_cases hf : ns[i].2.1 = 0
      · rw [mWalk_node hi hc hf rfl, mWalk_node hi hc hf rfl, mWalk_more f g (i + 1) th (by omega) (by omega)]
        have ha := mWalk_in (ns := ns) (m := m) g (i + 1) th
        generalize mWalk ns m g (i + 1) th = a at *
        by_cases hok : a.2.2.2.2 = false ∨ ns[i].2.2.2 ≠ a.1
        · rw [if_pos hok, if_pos hok]
        · rw [if_neg hok, if_neg hok]
          have a' := ha (by simpa using fun e => hok (.inl e))
          rw [mWalk_more f g a.1.toNat a.2.1 (by omega) (by omega)]
      · rw [mWalk_first hi hc hf, mWalk_first hi hc hf]
    · rw [mWalk_leaf hi hc, mWalk_leaf hi hc]
  · rw [mWalk_out hi, mWalk_out hi]
def mPart (ns : List Nd) (m : Int) (i : Nat) (th : Int) : Pt := mWalk ns m (ns.length + 1 - i) i th
def mWhole (ns : List Nd) (m : Int) : Pt :=
 if ns.length = 0 ∧ m = 0 then (0, 0, 0, 0, true)
 else ((mPart ns m 0 0).1, (mPart ns m 0 0).2.1, (mPart ns m 0 0).2.2.1, (mPart ns m 0 0).2.2.2.1, (mPart ns m 0 0).2.2.2.2 && (decide ((mPart ns m 0 0).1 = ns.length) && decide ((mPart ns m 0 0).2.1 = m)))
def mDeep (ns : List Nd) (m : Int) : Int := if (mWhole ns m).2.2.2.2 = true then (mWhole ns m).2.2.1 else 0
def mLeaves (ns : List Nd) (m : Int) : Int := if (mWhole ns m).2.2.2.2 = true then (mWhole ns m).2.2.2.1 else 0
-- growing
def bAll (V : Nat → Bx) : Nat → Bx
 | 0 => V 0
 | i + 1 => bJoin (bAll V i) (V i)
theorem bAll_succ (V : Nat → Bx) (i : Nat) : bAll V (i + 1) = bJoin (bAll V i) (V i) := rfl
theorem bAll_right {V : Nat → Bx} {n : Nat} (h : ∀ k, k < n → bRight (V k) = true) (h0 : bRight (V 0) = true) : ∀ i, i ≤ n → bRight (bAll V i) = true
 | 0, _ => h0
 | i + 1, hi => by rw [bAll_succ]; exact bJoin_right (bAll_right h h0 i (by omega)) (h i (by omega))
def wBox (P : Nat → Pr) (which : List Nat) (i : Nat) : Bx := pBox (P (which.getD i 0))
def wSplit (P : Nat → Pr) (which : List Nat) : Sp × Bool := bBest (wBox P which) which.length
def wLeft (P : Nat → Pr) (which : List Nat) : List Nat := ix (isL (wSplit P which).1.1 (wSplit P which).1.2.2.1 (wSplit P which).1.2.2.2 (wSplit P which).1.2.1) (wBox P which) which.length
def wRight (P : Nat → Pr) (which : List Nat) : List Nat := ix (fun b => !isL (wSplit P which).1.1 (wSplit P which).1.2.2.1 (wSplit P which).1.2.2.2 (wSplit P which).1.2.1 b) (wBox P which) which.length
def wAt (which some : List Nat) : List Nat := some.map (fun i => which.getD i 0)
def wEnds (P : Nat → Pr) (which : List Nat) : Bool := decide (which.length ≤ 2) || !(wSplit P which).2
def mGrow (P : Nat → Pr) : Nat → List Nat → Nat → Nat → List Nd × List Nat
 | 0, _, _, _ => ([], [])
 | f + 1, which, k, o =>
  if wEnds P which = true then ([(bAll (wBox P which) which.length, (o : Int), (which.length : Int), 0)], which)
  else
   ((bAll (wBox P which) which.length, 0, 0, ((k + 1 + (mGrow P f (wAt which (wLeft P which)) (k + 1) o).1.length : Nat) : Int)) :: ((mGrow P f (wAt which (wLeft P which)) (k + 1) o).1 ++ (mGrow P f (wAt which (wRight P which)) (k + 1 + (mGrow P f (wAt which (wLeft P which)) (k + 1) o).1.length) (o + (mGrow P f (wAt which (wLeft P which)) (k + 1) o).2.length)).1),
    (mGrow P f (wAt which (wLeft P which)) (k + 1) o).2 ++ (mGrow P f (wAt which (wRight P which)) (k + 1 + (mGrow P f (wAt which (wLeft P which)) (k + 1) o).1.length) (o + (mGrow P f (wAt which (wLeft P which)) (k + 1) o).2.length)).2)
theorem z0j (which some : List Nat) : (wAt which some).length = some.length := by unfold wAt; simp
theorem mGrow_leaf {P : Nat → Pr} {f : Nat} {which : List Nat} {k o : Nat} (h : wEnds P which = true) : mGrow P (f + 1) which k o = ([(bAll (wBox P which) which.length, (o : Int), (which.length : Int), 0)], which) := by
 unfold mGrow; rw [if_pos h]
theorem mGrow_node {P : Nat → Pr} {f : Nat} {which : List Nat} {k o : Nat} (h : wEnds P which = false) {a b : List Nd × List Nat} (ha : mGrow P f (wAt which (wLeft P which)) (k + 1) o = a) (hb : mGrow P f (wAt which (wRight P which)) (k + 1 + a.1.length) (o + a.2.length) = b) :
  mGrow P (f + 1) which k o = ((bAll (wBox P which) which.length, 0, 0, ((k + 1 + a.1.length : Nat) : Int)) :: (a.1 ++ b.1), a.2 ++ b.2) := by
 subst ha
 subst hb
 conv => lhs; unfold mGrow
 rw [if_neg (by rw [h]; simp)]
theorem wSplit_less {P : Nat → Pr} {which : List Nat} (h : wEnds P which = false) : 0 < (wLeft P which).length ∧ 0 < (wRight P which).length ∧ (wLeft P which).length + (wRight P which).length = which.length := by
 unfold wEnds at h
 rw [Bool.or_eq_false_iff] at h
 have hs : (wSplit P which).2 = true := by simpa using h.2
 have hb := ix_both (isL (wSplit P which).1.1 (wSplit P which).1.2.2.1 (wSplit P which).1.2.2.2 (wSplit P which).1.2.1) (wBox P which) which.length
 rcases bBest_spec (wBox P which) which.length with e | ⟨a, k, ha, e, hlt, hok, _⟩
 · unfold wSplit at hs; rw [e] at hs; cases hs
 · have e' : wSplit P which = (((a : Int), (k : Int), mnV (wBox P which) which.length a, mxV (wBox P which) which.length a), true) := e
   have hk := (sOk_iff.1 hok).2.2
   rw [← ix_len, ← ix_len] at hk
   unfold wLeft wRight
   rw [e'] at hb ⊢
   dsimp only at hb ⊢
   exact ⟨Nat.pos_of_ne_zero hk.1, Nat.pos_of_ne_zero hk.2, hb⟩
theorem mGrow_len {P : Nat → Pr} : ∀ (f : Nat) (which : List Nat) (k o : Nat), which.length ≤ f → 0 < which.length → (mGrow P f which k o).2.length = which.length ∧ (mGrow P f which k o).1.length + 1 ≤ 2 * which.length ∧ 0 < (mGrow P f which k o).1.length
 | 0, which, k, o, h, h0 => by omega
 | f + 1, which, k, o, h, h0 => by
  cases he : wEnds P which with
  | true => rw [mGrow_leaf he]; exact ⟨rfl, by simp; omega, by simp⟩
  | false =>
   rw [mGrow_node he rfl rfl]
   obtain ⟨h1, h2, h3⟩ := wSplit_less he
   have ha := mGrow_len (P := P) f (wAt which (wLeft P which)) (k + 1) o (by rw [z0j]; omega) (by rw [z0j]; omega)
   generalize mGrow P f (wAt which (wLeft P which)) (k + 1) o = a at *
   have hb := mGrow_len (P := P) f (wAt which (wRight P which)) (k + 1 + a.1.length) (o + a.2.length) (by rw [z0j]; omega) (by rw [z0j]; omega)
   generalize mGrow P f (wAt which (wRight P which)) (k + 1 + a.1.length) (o + a.2.length) = b at *
   rw [z0j] at ha hb
   simp only [List.length_append, List.length_cons]
   omega
theorem wAt_mem {which some : List Nat} {j : Nat} (hs : ∀ i ∈ some, i < which.length) (h : j ∈ wAt which some) : j ∈ which := by
 unfold wAt at h
 obtain ⟨i, hi, rfl⟩ := List.mem_map.1 h
 have := hs i hi
 rw [List.getD_eq_getElem?_getD, List.getElem?_eq_getElem this]
 exact List.getElem_mem _
theorem mGrow_mem {P : Nat → Pr} : ∀ (f : Nat) (which : List Nat) (k o j : Nat), j ∈ (mGrow P f which k o).2 → j ∈ which
 | 0, which, k, o, j, h => by simp [mGrow] at h
 | f + 1, which, k, o, j, h => by
  cases he : wEnds P which with
  | true => rw [mGrow_leaf he] at h; exact h
  | false =>
   rw [mGrow_node he rfl rfl] at h
   rcases List.mem_append.1 h with h | h
   · exact wAt_mem (fun i hi => ix_lt hi) (mGrow_mem f _ _ _ _ h)
   · exact wAt_mem (fun i hi => ix_lt hi) (mGrow_mem f _ _ _ _ h)
def pAll (P : Nat → Pr) (n : Nat) : Bool := (List.range n).all (fun k => pRight (P k))
def mBuild (P : Nat → Pr) (n : Nat) : List Nd × List Nat := if 0 < n ∧ n ≤ 1024 ∧ pAll P n = true then mGrow P n (List.range n) 0 0 else ([], [])
end
end Go.Proofs.Sky
