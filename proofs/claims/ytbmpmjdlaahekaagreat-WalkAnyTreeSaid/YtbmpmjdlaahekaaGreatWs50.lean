/- Blocks of some cells at once: their cells in a class of worlds, in one -/
import Derived.Test.YtbmpmjdlaahekaaGreatWs48
set_option maxRecDepth 100000
set_option maxHeartbeats 8000000
set_option linter.unusedVariables false
set_option linter.unusedSimpArgs false
open Go.Proofs.Tryz
namespace Go.Proofs.Sky
section
open Go.RowKit
section
variable {w w' W W0 : World} {B b g : Nat} {t t' : TypeId} {cs ds : Array Value} {o : Obj}
section
variable {a0 v0 : Value}
end
section
variable {a0 a1 v0 v1 : Value}
end
section
variable {a0 a1 a2 v0 v1 v2 : Value}
end
section
variable {a0 a1 a2 a3 v0 v1 v2 v3 : Value}
end
section
variable {a0 a1 a2 a3 a4 v0 v1 v2 v3 v4 : Value}
theorem bwc5 (h : Bk W g t #[a0, a1, a2, a3, a4]) : (∀ p : BW W, p.w.cell? ⟨g, 0, none⟩ = some a0) ∧ (∀ p : BW W, p.w.cell? ⟨g, 1, none⟩ = some a1) ∧ (∀ p : BW W, p.w.cell? ⟨g, 2, none⟩ = some a2) ∧ (∀ p : BW W, p.w.cell? ⟨g, 3, none⟩ = some a3) ∧ (∀ p : BW W, p.w.cell? ⟨g, 4, none⟩ = some a4) := ⟨z01 (h.cell rfl), z01 (h.cell rfl), z01 (h.cell rfl), z01 (h.cell rfl), z01 (h.cell rfl)⟩
theorem bwf5 (h : Bk W g t cs) : (∀ p : BW W, p.w.frozen? ⟨g, 0, none⟩ = false) ∧ (∀ p : BW W, p.w.frozen? ⟨g, 1, none⟩ = false) ∧ (∀ p : BW W, p.w.frozen? ⟨g, 2, none⟩ = false) ∧ (∀ p : BW W, p.w.frozen? ⟨g, 3, none⟩ = false) ∧ (∀ p : BW W, p.w.frozen? ⟨g, 4, none⟩ = false) := ⟨bwf h 0, bwf h 1, bwf h 2, bwf h 3, bwf h 4⟩
theorem rwc5 (h : Bk W g t #[a0, a1, a2, a3, a4]) : W.cell? ⟨g, 0, none⟩ = some a0 ∧ W.cell? ⟨g, 1, none⟩ = some a1 ∧ W.cell? ⟨g, 2, none⟩ = some a2 ∧ W.cell? ⟨g, 3, none⟩ = some a3 ∧ W.cell? ⟨g, 4, none⟩ = some a4 := ⟨h.cell rfl, h.cell rfl, h.cell rfl, h.cell rfl, h.cell rfl⟩
theorem bkp5 (h : Bk w g t #[a0, a1, a2, a3, a4]) (v0 v1 v2 v3 v4 : Value) : Bk (((((w.setCell ⟨g, 0, none⟩ v0).setCell ⟨g, 1, none⟩ v1).setCell ⟨g, 2, none⟩ v2).setCell ⟨g, 3, none⟩ v3).setCell ⟨g, 4, none⟩ v4) g t #[v0, v1, v2, v3, v4] := (((((h.set 0 v0).set 1 v1).set 2 v2).set 3 v3).set 4 v4).cast (by simp)
theorem blp5 (h : Below B W0 w) (hB : B ≤ g) : Below B W0 (((((w.setCell ⟨g, 0, none⟩ v0).setCell ⟨g, 1, none⟩ v1).setCell ⟨g, 2, none⟩ v2).setCell ⟨g, 3, none⟩ v3).setCell ⟨g, 4, none⟩ v4) := (((((h.setCell (p := ⟨g, 0, none⟩) hB v0).setCell (p := ⟨g, 1, none⟩) hB v1).setCell (p := ⟨g, 2, none⟩) hB v2).setCell (p := ⟨g, 3, none⟩) hB v3).setCell (p := ⟨g, 4, none⟩) hB v4)
end
section
variable {a0 a1 a2 a3 a4 a5 v0 v1 v2 v3 v4 v5 : Value}
end
section
variable {a0 a1 a2 a3 a4 a5 a6 v0 v1 v2 v3 v4 v5 v6 : Value}
end
section
variable {a0 a1 a2 a3 a4 a5 a6 a7 v0 v1 v2 v3 v4 v5 v6 v7 : Value}
end
section
variable {a0 a1 a2 a3 a4 a5 a6 a7 a8 v0 v1 v2 v3 v4 v5 v6 v7 v8 : Value}
end
section
variable {a0 a1 a2 a3 a4 a5 a6 a7 a8 a9 a10 a11 v0 v1 v2 v3 v4 v5 v6 v7 v8 v9 v10 v11 : Value}
end
end
end
end Go.Proofs.Sky
namespace Go.Proofs.YtbmpmjdlaahekaaGreat
section
open Go.RowKit Go.Proofs.Sky
theorem Sl.nil (w : World) (a : Option Addr) (cap c : Nat) (V : Nat → List Value) : Sl w (.slice a 0 cap) 0 c V := ⟨a, cap, rfl, by unfold maxLen; omega, .inl rfl⟩
end
end Go.Proofs.YtbmpmjdlaahekaaGreat
namespace Go.Proofs.Sky
section
open Go.RowKit
theorem whole_each {ns : List Nd} {m : Int} (h : (mWhole ns m).2.2.2.2 = true) {j : Nat} (hj : j < ns.length) : (mPart ns m j (mFrom ns j)).2.2.2.2 = true := by
 obtain ⟨h1, h2, h3⟩ := whole_part h (by omega)
 exact (part_each (ns.length + 1) 0 0 (by omega) h1 rfl).2 j (by omega) (by omega)
theorem mFrom_nonneg {ns : List Nd} {m : Int} (h : (mWhole ns m).2.2.2.2 = true) : ∀ j, j ≤ ns.length → 0 ≤ mFrom ns j
 | 0, _ => Int.le_refl _
 | j + 1, hj => by
  rw [z1j, z0g (show j < ns.length by omega)]
  have ih := mFrom_nonneg h j (by omega)
  have hk := whole_each h (show j < ns.length by omega)
  split
  · rename_i hc
    obtain ⟨_, e, _⟩ := mPart_one (show j < ns.length by omega) (by omega) hk
    omega
  · exact ih
theorem node_leaf {ns : List Nd} {m : Int} (h : (mWhole ns m).2.2.2.2 = true) {j : Nat} (hj : j < ns.length) (hc : ns[j].2.2.1 ≠ 0) :
  0 < ns[j].2.2.1 ∧ ns[j].2.1 = mFrom ns j ∧ 0 ≤ mFrom ns j ∧ mThing ns m j = mFrom ns j + ns[j].2.2.1 ∧ mThing ns m j ≤ m := by
 have hk := whole_each h hj
 obtain ⟨h1, h2, h3, h4, h5, h6⟩ := mPart_one hj hc hk
 have hin := mPart_in hk
 exact ⟨h1, h2, mFrom_nonneg h j (by omega), h6, hin.2.2.2.1⟩
-- the least box around things
theorem bAll_congr {V U : Nat → Bx} : ∀ n, 0 < n → (∀ k, k < n → V k = U k) → bAll V n = bAll U n
 | 0, h, _ => by omega
 | 1, _, h => by show bJoin (V 0) (V 0) = bJoin (U 0) (U 0); rw [h 0 (by omega)]
 | n + 2, _, h => by
  show bJoin (bAll V (n + 1)) (V (n + 1)) = bJoin (bAll U (n + 1)) (U (n + 1))
  rw [bAll_congr (n + 1) (by omega) (fun k hk => h k (by omega)), h (n + 1) (by omega)]
end
section
open Go.RowKit
def lnOrd (n r : Nat) : List Int := (List.range n).map (fun i => (((i + r) % n : Nat) : Int))
theorem z15 (n r : Nat) : (lnOrd n r).length = n := by unfold lnOrd; simp
theorem lnOrd_at {n r i : Nat} (h : i < n) : (lnOrd n r).getD i 0 = (((i + r) % n : Nat) : Int) := by
 unfold lnOrd
 rw [z0g (by simpa using h)]
 simp
theorem lnOrd_mod (n r : Nat) : lnOrd n r = lnOrd n (r % n) := by
 unfold lnOrd
 congr 1
 funext i
 rw [Nat.add_mod_mod]
theorem lnOrd_few : ∀ n : Nat, n < 9 → ∀ r : Nat, r < 8 → r < n → mOnce (lnOrd n r) n = true := by decide +kernel
theorem lnOrd_once {n r : Nat} (h0 : 0 < n) (h8 : n ≤ 8) : mOnce (lnOrd n r) n = true := by
 rw [lnOrd_mod]
 have := Nat.mod_lt r h0
 exact lnOrd_few n (by omega) (r % n) (by omega) this
def lnNode (P : Nat → Pr) (ord : List Int) (n i : Nat) : List Nd :=
 (if i + 1 < n then [(mAt P ord i n, 0, 0, 2 * (i : Int) + 2)] else []) ++ [(mAt P ord i ((i : Int) + 1), (i : Int), 1, 0)]
def lnUp (P : Nat → Pr) (ord : List Int) (n k : Nat) : List Nd := (List.range k).flatMap (lnNode P ord n)
theorem lnUp_succ (P : Nat → Pr) (ord : List Int) (n k : Nat) : lnUp P ord n (k + 1) = lnUp P ord n k ++ lnNode P ord n k := by
 unfold lnUp; rw [List.range_succ, List.flatMap_append]; simp
theorem lnUp_len (P : Nat → Pr) (ord : List Int) (n : Nat) : ∀ k, k < n → (lnUp P ord n k).length = 2 * k
 | 0, _ => rfl
 | k + 1, h => by
  rw [lnUp_succ, List.length_append, lnUp_len P ord n k (by omega)]
  unfold lnNode
  rw [if_pos (by omega)]
  simp; omega
theorem lnAll_len {P : Nat → Pr} {ord : List Int} {n : Nat} (h : 0 < n) : (lnUp P ord n n).length = 2 * n - 1 := by
 obtain ⟨k, rfl⟩ : ∃ k, n = k + 1 := ⟨n - 1, by omega⟩
 rw [lnUp_succ, List.length_append, lnUp_len P ord (k + 1) k (by omega)]
 unfold lnNode
 rw [if_neg (by omega)]
 simp; omega
theorem lnUp_pre (P : Nat → Pr) (ord : List Int) (n k : Nat) : ∀ j, k ≤ j → ∃ t, lnUp P ord n j = lnUp P ord n k ++ t
 | 0, h => ⟨[], by (have e : k = 0 := by omega); rw [e]; simp⟩
 | j + 1, h => by
  by_cases e : k = j + 1
  · subst e; exact ⟨[], by simp⟩
  · obtain ⟨t, ht⟩ := lnUp_pre P ord n k j (by omega)
    exact ⟨t ++ lnNode P ord n j, by rw [lnUp_succ, ht, List.append_assoc]⟩
theorem ln_at {P : Nat → Pr} {ord : List Int} {n i : Nat} (h : i < n) : (i + 1 < n → (lnUp P ord n n)[2 * i]? = some (mAt P ord i n, 0, 0, 2 * (i : Int) + 2) ∧ (lnUp P ord n n)[2 * i + 1]? = some (mAt P ord i ((i : Int) + 1), (i : Int), 1, 0)) ∧ (i + 1 = n → (lnUp P ord n n)[2 * i]? = some (mAt P ord i ((i : Int) + 1), (i : Int), 1, 0)) := by
 obtain ⟨t, ht⟩ := lnUp_pre P ord n (i + 1) n (by omega)
 rw [ht, lnUp_succ]
 have hl := lnUp_len P ord n i h
 refine ⟨fun g => ?_, fun g => ?_⟩
 · unfold lnNode
   rw [if_pos g, List.append_assoc]
   constructor
   · rw [List.getElem?_append_right (by omega), hl, Nat.sub_self]; rfl
   · rw [List.getElem?_append_right (by omega), hl, show 2 * i + 1 - 2 * i = 1 by omega]; rfl
 · unfold lnNode
   rw [if_neg (by omega), List.append_assoc, List.getElem?_append_right (by omega), hl, Nat.sub_self]
   rfl
theorem ln_get {ns : List Nd} {k : Nat} {d : Nd} (h : ns[k]? = some d) : ∃ hk : k < ns.length, ns[k] = d := by
 obtain ⟨hk, e⟩ := List.getElem?_eq_some_iff.1 h
 exact ⟨hk, e⟩
theorem ln_leaf {ns : List Nd} {m : Int} {k i : Nat} {b : Bx} (h : ns[k]? = some (b, (i : Int), 1, 0)) (hm : (i : Int) + 1 ≤ m) : mPart ns m k i = ((k : Int) + 1, (i : Int) + 1, 1, 1, true) := by
 obtain ⟨hk, e⟩ := ln_get h
 rw [mPart_leaf hk (by rw [e]; dsimp only; omega), e]
 dsimp only
 rw [if_pos ⟨by omega, rfl, rfl, by omega⟩]
theorem ln_part {P : Nat → Pr} {ord : List Int} {n : Nat} (h0 : 0 < n) : ∀ (f i : Nat), i + f + 1 = n → (mPart (lnUp P ord n n) n (2 * i) i).1 = ((2 * n - 1 : Nat) : Int) ∧ (mPart (lnUp P ord n n) n (2 * i) i).2.1 = n ∧ (mPart (lnUp P ord n n) n (2 * i) i).2.2.2.2 = true
 | 0, i, h => by
  have hl := (ln_at (P := P) (ord := ord) (show i < n by omega)).2 (by omega)
  have e := ln_leaf (m := (n : Int)) hl (by omega)
  rw [e]
  dsimp only
  exact ⟨by omega, by omega, rfl⟩
 | f + 1, i, h => by
  obtain ⟨h1, h2⟩ := (ln_at (P := P) (ord := ord) (show i < n by omega)).1 (by omega)
  obtain ⟨ih1, ih2, ih3⟩ := ln_part (P := P) (ord := ord) h0 f (i + 1) (by omega)
  have el := ln_leaf (m := (n : Int)) h2 (by omega)
  obtain ⟨hk, e⟩ := ln_get h1
  have hn := mPart_node (m := (n : Int)) (th := (i : Int)) hk (by rw [e]) (by rw [e]) el
  rw [hn, e]
  dsimp only
  rw [if_neg (by simp; omega)]
  have e2 : (((2 * i + 1 : Nat) : Int) + 1).toNat = 2 * (i + 1) := by omega
  rw [e2, show (i : Int) + 1 = ((i + 1 : Nat) : Int) by omega]
  rw [if_neg (by rw [ih3]; simp)]
  exact ⟨ih1, ih2, rfl⟩
theorem ln_from {P : Nat → Pr} {ord : List Int} {n : Nat} : ∀ i, i < n → mFrom (lnUp P ord n n) (2 * i) = i ∧ (i + 1 < n → mFrom (lnUp P ord n n) (2 * i + 1) = i)
 | 0, h => by
  refine ⟨rfl, fun g => ?_⟩
  obtain ⟨hk, e⟩ := ln_get ((ln_at (P := P) (ord := ord) h).1 g).1
  rw [show 2 * 0 + 1 = 2 * 0 + 1 from rfl, z1j, z0g hk, e, if_neg (by dsimp only; omega)]
  rfl
 | i + 1, h => by
  obtain ⟨ih1, ih2⟩ := ln_from (P := P) (ord := ord) (n := n) i (by omega)
  obtain ⟨hk, e⟩ := ln_get ((ln_at (P := P) (ord := ord) (show i < n by omega)).1 h).2
  have h1 : mFrom (lnUp P ord n n) (2 * (i + 1)) = ((i + 1 : Nat) : Int) := by
   rw [show 2 * (i + 1) = (2 * i + 1) + 1 by omega, z1j, z0g hk, e, if_pos (by dsimp only; omega)]
   dsimp only; omega
  refine ⟨h1, fun g => ?_⟩
  obtain ⟨hk2, e2⟩ := ln_get ((ln_at (P := P) (ord := ord) h).1 g).1
  rw [z1j, z0g hk2, e2, if_neg (by dsimp only; omega)]
  exact h1
theorem ln_whole {P : Nat → Pr} {n r : Nat} (h0 : 0 < n) (h8 : n ≤ 8) (hP : pAll P n = true) : mWh (lnUp P (lnOrd n r) n n) P (lnOrd n r) n = true := by
 have hlen := lnAll_len (P := P) (ord := lnOrd n r) h0
 obtain ⟨p1, p2, p3⟩ := ln_part (P := P) (ord := lnOrd n r) h0 (n - 1) 0 (by omega)
 unfold mWh
 rw [z15]
 simp only [Bool.and_eq_true]
 refine ⟨?_, hP, lnOrd_once h0 h8, ?_⟩
 · unfold mWhole
   rw [if_neg (by omega)]
   have e : mPart (lnUp P (lnOrd n r) n n) n 0 0 = mPart (lnUp P (lnOrd n r) n n) n (2 * 0) ((0 : Nat) : Int) := rfl
   simp only [Bool.and_eq_true, decide_eq_true_eq]
   rw [e]
   exact ⟨p3, by rw [p1, hlen], p2⟩
 · rw [mBoxes_iff]
   intro j hj
   rw [hlen] at hj
   rw [z15]
   unfold mThing
   by_cases hp : j % 2 = 0
   · obtain ⟨i, rfl⟩ : ∃ i, j = 2 * i := ⟨j / 2, by omega⟩
     have hi : i < n := by omega
     rw [(ln_from i hi).1]
     obtain ⟨q1, q2, q3⟩ := ln_part (P := P) (ord := lnOrd n r) h0 (n - 1 - i) i (by omega)
     rw [q2]
     by_cases g : i + 1 < n
     · obtain ⟨hk, e⟩ := ln_get ((ln_at (P := P) (ord := lnOrd n r) hi).1 g).1
       rw [z0g hk, e]
     · obtain ⟨hk, e⟩ := ln_get ((ln_at (P := P) (ord := lnOrd n r) hi).2 (by omega))
       rw [z0g hk, e]
       dsimp only
       rw [show ((i : Int) + 1) = (n : Int) by omega]
   · obtain ⟨i, rfl⟩ : ∃ i, j = 2 * i + 1 := ⟨j / 2, by omega⟩
     have g : i + 1 < n := by omega
     have hl := ((ln_at (P := P) (ord := lnOrd n r) (show i < n by omega)).1 g).2
     obtain ⟨hk, e⟩ := ln_get hl
     rw [(ln_from i (by omega)).2 g, ln_leaf (m := (n : Int)) hl (by omega), z0g hk, e]
theorem build_first {P : Nat → Pr} {n : Nat} (h0 : 0 < n) (hn : n ≤ 1024) (hP : pAll P n = true) : ∃ h : 0 < (mBuild P n).1.length, (mBuild P n).1[0].1 = bAll (fun k => pBox (P k)) n := by
 have e : mBuild P n = mGrow P n (List.range n) 0 0 := by unfold mBuild; rw [if_pos ⟨h0, hn, hP⟩]
 have hb : bAll (wBox P (List.range n)) n = bAll (fun k => pBox (P k)) n := bAll_congr n h0 (fun k hk => by unfold wBox; rw [z0g (by simpa using hk)]; simp)
 obtain ⟨f, rfl⟩ : ∃ f, n = f + 1 := ⟨n - 1, by omega⟩
 cases he : wEnds P (List.range (f + 1)) with
 | true =>
  have e2 := mGrow_leaf (P := P) (f := f) (which := List.range (f + 1)) (k := 0) (o := 0) he
  simp only [e, e2]
  exact ⟨by simp, by simp only [List.getElem_cons_zero, List.length_range]; exact hb⟩
 | false =>
  have e2 := mGrow_node (P := P) (f := f) (which := List.range (f + 1)) (k := 0) (o := 0) he rfl rfl
  simp only [e, e2]
  exact ⟨by simp, by simp only [List.getElem_cons_zero, List.length_range]; exact hb⟩
theorem ln_box {P : Nat → Pr} {ord : List Int} {n i : Nat} (h : i < n) : mAt P ord i n = bAll (fun k => pBox (P (ord.getD (i + k) 0).toNat)) (n - i) := by
 unfold mAt mBox
 rw [show ((i : Int)).toNat = i by omega, show ((n : Int) - (i : Int)).toNat = n - i by omega]
theorem ln_box1 {P : Nat → Pr} {ord : List Int} {i : Nat} : mAt P ord i ((i : Int) + 1) = bAll (fun _ => pBox (P (ord.getD i 0).toNat)) 1 := by
 unfold mAt mBox
 rw [show ((i : Int)).toNat = i by omega, show ((i : Int) + 1 - (i : Int)).toNat = 1 by omega]
 exact bAll_congr 1 (by omega) (fun k hk => by (have e : k = 0 := by omega); rw [e]; rfl)
end
end Go.Proofs.Sky
namespace Go.Proofs.YtbmpmjdlaahekaaGreat
section
open Go.RowKit Go.Proofs.Sky
structure LSt (w W : World) (gt : Nat) (un uo : Value) (ns : List Nd) (od : List Int) : Prop where
 nod : RNodRow W w.heap.size un ns
 ord : OrdRow W w.heap.size uo od
 kr : Bk W w.heap.size 39 #[.slice none 0 0, .slice none 0 0]
 kt : Bk W gt 39 #[un, uo]
 bel : Below w.heap.size w W
 lt : w.heap.size < gt
theorem LSt.below {w W V : World} {gt : Nat} {un uo : Value} {ns : List Nd} {od : List Int} (h : LSt w W gt un uo ns od) (hb : Below W.heap.size W V) : LSt w V gt un uo ns od :=
 ⟨z07 h.nod hb, z07 h.ord hb, h.kr.below hb, h.kt.below hb, h.bel.trans (hb.mono h.bel.size), h.lt⟩
theorem LSt.alloc {w W : World} {gt : Nat} {un uo : Value} {ns : List Nd} {od : List Int} (h : LSt w W gt un uo ns od) (o : Obj) : LSt w (W.alloc o) gt un uo ns od := h.below (z0s o (Nat.le_refl _))
theorem LSt.putOrd {w W V : World} {gt : Nat} {un uo uo' : Value} {ns : List Nd} {od od' : List Int} (h : LSt w W gt un uo ns od) (ho : OrdRow V w.heap.size uo' od') (hg : W.grownBy V uo.ownBlock) : LSt w (V.setCell ⟨gt, 1, none⟩ uo') gt un uo' ns od' := by
 have hsz := h.bel.size
 have kt := z0q h.ord h.kt (by decide) hg
 have kr := z0q h.ord h.kr (by decide) hg
 have hn := z14 h.nod hg (z1b (z1e h.ord h.nod (by decide)))
 have hb := h.bel.grown hg hsz (fun j ej => (World.ownsRow.lt h.ord j ej).1)
 have hlt := h.lt
 exact ⟨z0f hn (a := ⟨gt, 1, none⟩) (z0e hn kt (by decide)) _, z0f ho (a := ⟨gt, 1, none⟩) (z0e ho kt (by decide)) _, kr.other (a := ⟨gt, 1, none⟩) (by show ¬ w.heap.size = gt; omega) _, (kt.set 1 uo').cast (by simp), hb.setCell (p := ⟨gt, 1, none⟩) (by show w.heap.size ≤ gt; omega) _, h.lt⟩
theorem LSt.putNode {w W V : World} {gt : Nat} {un uo un' : Value} {ns ns' : List Nd} {od : List Int} (h : LSt w W gt un uo ns od) (hn : RNodRow V w.heap.size un' ns') (hg : W.grownBy V un.ownBlock) : LSt w (V.setCell ⟨gt, 0, none⟩ un') gt un' uo ns' od := by
 have hsz := h.bel.size
 have kt := z0q h.nod h.kt (by decide) hg
 have kr := z0q h.nod h.kr (by decide) hg
 have ho := z14 h.ord hg (z1b (z1e h.nod h.ord (by decide)))
 have hb := h.bel.grown hg hsz (fun j ej => (World.ownsRow.lt h.nod j ej).1)
 have hlt := h.lt
 exact ⟨z0f hn (a := ⟨gt, 0, none⟩) (z0e hn kt (by decide)) _, z0f ho (a := ⟨gt, 0, none⟩) (z0e ho kt (by decide)) _, kr.other (a := ⟨gt, 0, none⟩) (by show ¬ w.heap.size = gt; omega) _, (kt.set 0 un').cast (by simp), hb.setCell (p := ⟨gt, 0, none⟩) (by show w.heap.size ≤ gt; omega) _, h.lt⟩
theorem prim_info17 : (Tryz.prog.info? 59).map (fun i => (i.zero, i.size, i.bytes)) = some (some (.agg #[.int .i64 0, .int .i64 0, .int .i64 0, .int .i64 0, .int .i64 0, .int .i64 0, .int .i64 0, .int .i64 0, .int .i64 0, .int .i64 0, .int .i64 0, .int .i64 0]), 12, 96) := by kernel_rfl
def rowL (P : Nat → Pr) (n : Nat) : List Value := (List.range n).flatMap (fun i => pcells (P i))
theorem rowL_succ17 (P : Nat → Pr) (n : Nat) : rowL P (n + 1) = rowL P n ++ pcells (P n) := by
 unfold rowL; rw [List.range_succ, List.flatMap_append]; simp
theorem rowL_len17 (P : Nat → Pr) (n : Nat) : (rowL P n).length = n * 12 := by
 induction n with
 | zero => rfl
 | succ n ih => rw [rowL_succ17, List.length_append, ih]; simp [pcells]; omega
theorem rowL_at17 (P : Nat → Pr) (n i : Nat) (h : i < n) (j : Nat) (hj : j < 12) : (rowL P n)[i * 12 + j]? = (pcells (P i))[j]? := by
 induction n with
 | zero => omega
 | succ n ih =>
  rw [rowL_succ17]
  by_cases g : i < n
  · rw [List.getElem?_append_left (by rw [rowL_len17]; omega)]
    exact ih g
  · obtain rfl : i = n := by omega
    rw [List.getElem?_append_right (by rw [rowL_len17]; omega), rowL_len17]
    simp
theorem owns_prims17 {w : World} {B n : Nat} {v : Value} {P : Nat → Pr} (h : w.ownsRow B 59 12 v n (rowL P n)) (hI : ∀ i, i < n → (P i).I) (hm : n ≤ maxLen) : ∃ (o : Option Addr) (cap : Nat), v = .slice o n cap ∧ Prims w (.slice o n cap) n P := by
 obtain ⟨hl, h⟩ := h
 rcases h with ⟨rfl, hz⟩ | ⟨g, cap, cur, rfl, hB, hg, hn, hms, hs, hx⟩
 · subst hz; exact ⟨none, 0, rfl, Sl.nil _ _ _ _ _, fun i hi => absurd hi (by omega)⟩
 · refine ⟨_, cap, rfl, ⟨_, cap, rfl, hm, ?_⟩, hI⟩
   by_cases hz : n = 0
   · exact .inl hz
   · refine .inr ⟨g, 0, rfl, (Array.getElem?_eq_some_iff.1 hg).1, fun i hi j hj => ?_⟩
     have e1 := rowL_at17 P n i hi j hj
     dsimp only
     rw [Nat.zero_add, ← e1]
     have hlt : i * 12 + j < n * 12 := by omega
     simp only [World.cell?, hg]
     rw [← hx, List.getElem?_take, if_pos hlt]
     simp
theorem ord_cell17 {w : World} {B g m cw : Nat} {l : List Int} (h : w.ownsRow B 3 1 (.slice (some ⟨g, 0, none⟩) m cw) m (l.map (Value.int .i64))) {j : Nat} {x : Int} (hj : l[j]? = some x) : w.cell? ⟨g, j, none⟩ = some (.int .i64 x) := by
 have e := World.ownsRow.cells h (g := g) rfl j (.int .i64 x) (by simp [hj])
 have hadd : (⟨g, 0, none⟩ : Addr).add j = ⟨g, j, none⟩ := by unfold Addr.add; split <;> simp_all
 rw [hadd] at e
 exact e
theorem prims_one17 {X : World} {g : Nat} {p : Pr} {n : Nat} {t : TypeId} (h : Bk X g t (pcells p).toArray) (hp : p.I) (hn : n ≤ 1) : Prims X (.slice (some ⟨g, 0, none⟩) n 1) n (fun _ => p) := by
 refine ⟨⟨some ⟨g, 0, none⟩, 1, rfl, by unfold maxLen; omega, .inr ⟨g, 0, rfl, h.lt, fun k hk j hj => ?_⟩⟩, fun _ _ => hp⟩
 have e : 0 + k * 12 + j = j := by omega
 rw [e]
 have hc := h.cell (i := j) (v := (pcells p)[j]'(by exact hj)) (by rw [List.getElem?_toArray]; exact List.getElem?_eq_getElem (by exact hj))
 rw [hc]
 exact (List.getElem?_eq_getElem (by exact hj)).symm
theorem build_box17 (lp : Option Addr) (n lc : Nat) (Q : Nat → Pr) (X : World) (a1 a2 a3 a4 a5 a6 : Int) (hs : Prims X (.slice lp n lc) n Q) (h0 : 0 < n) (hn : n ≤ 1024) (hP : pAll Q n = true) (hb : bAll (fun k => pBox (Q k)) n = ((a1, a2, a3), (a4, a5, a6))) :
  Calls prog 10 #[.slice lp n lc] X fun e w' => ∃ (g m c mo co : Nat) (ao : Option Addr), e = .returned (.agg #[.slice (some ⟨g, 0, none⟩) m c, .slice ao mo co]) ∧ 0 < m ∧ (w'.cell? ⟨g, 0, none⟩ = some (.int .i64 a1) ∧ w'.cell? ⟨g, 1, none⟩ = some (.int .i64 a2) ∧ w'.cell? ⟨g, 2, none⟩ = some (.int .i64 a3) ∧ w'.cell? ⟨g, 3, none⟩ = some (.int .i64 a4) ∧ w'.cell? ⟨g, 4, none⟩ = some (.int .i64 a5) ∧ w'.cell? ⟨g, 5, none⟩ = some (.int .i64 a6)) ∧ Below X.heap.size X w' := by
 refine (ref16_Build lp n lc Q X hs (by omega)).mono ?_
 rintro e w' ⟨u, v, rfl, hu, hv, hbw⟩
 obtain ⟨h1, h2⟩ := build_first h0 hn hP
 rw [hb] at h2
 obtain ⟨g, c, rfl, -, -, -⟩ := z1a hu h1
 obtain ⟨ao, co, rfl⟩ := z0d hv
 have hx := fun (j : Nat) (hj : j < 9) => owns_at (f := ncells) ncells_len (i := 0) (j := j) hu h1 hj
 have hbx : ∀ d : Nd, d.1 = ((a1, a2, a3), (a4, a5, a6)) → ncells d = [.int .i64 a1, .int .i64 a2, .int .i64 a3, .int .i64 a4, .int .i64 a5, .int .i64 a6, .int .i64 d.2.1, .int .i64 d.2.2.1, .int .i64 d.2.2.2] := by
  rintro ⟨b, c⟩ hd
  dsimp only at hd
  subst hd
  rfl
 rw [hbx _ h2] at hx
 exact ⟨g, _, c, _, co, ao, rfl, h1, ⟨hx 0 (by omega), hx 1 (by omega), hx 2 (by omega), hx 3 (by omega), hx 4 (by omega), hx 5 (by omega)⟩, hbw⟩
theorem LSt.setA {w W : World} {gt g : Nat} {un uo : Value} {ns : List Nd} {od : List Int} {t : TypeId} {cs : Array Value} (h : LSt w W gt un uo ns od) (ka : Bk W g t cs) (h1 : 63 ≠ t) (h2 : 3 ≠ t) (hg : gt < g) (i : Nat) (x : Value) : LSt w (W.setCell ⟨g, i, none⟩ x) gt un uo ns od := by
 have hlt := h.lt
 exact ⟨z0f h.nod (a := ⟨g, i, none⟩) (z0e h.nod ka h1) _, z0f h.ord (a := ⟨g, i, none⟩) (z0e h.ord ka h2) _, h.kr.other (a := ⟨g, i, none⟩) (by show ¬ w.heap.size = g; omega) _, h.kt.other (a := ⟨g, i, none⟩) (by show ¬ gt = g; omega) _, h.bel.setCell (p := ⟨g, i, none⟩) (by show w.heap.size ≤ g; omega) _, h.lt⟩
theorem LSt.setA6 {w W : World} {gt g : Nat} {un uo : Value} {ns : List Nd} {od : List Int} {t : TypeId} {cs : Array Value} (h : LSt w W gt un uo ns od) (ka : Bk W g t cs) (h1 : 63 ≠ t) (h2 : 3 ≠ t) (hg : gt < g) (x0 x1 x2 x3 x4 x5 : Value) : LSt w ((((((W.setCell ⟨g, 0, none⟩ x0).setCell ⟨g, 1, none⟩ x1).setCell ⟨g, 2, none⟩ x2).setCell ⟨g, 3, none⟩ x3).setCell ⟨g, 4, none⟩ x4).setCell ⟨g, 5, none⟩ x5) gt un uo ns od :=
 (((((h.setA ka h1 h2 hg 0 x0).setA (ka.set 0 x0) h1 h2 hg 1 x1).setA ((ka.set 0 x0).set 1 x1) h1 h2 hg 2 x2).setA (((ka.set 0 x0).set 1 x1).set 2 x2) h1 h2 hg 3 x3).setA ((((ka.set 0 x0).set 1 x1).set 2 x2).set 3 x3) h1 h2 hg 4 x4).setA (((((ka.set 0 x0).set 1 x1).set 2 x2).set 3 x3).set 4 x4) h1 h2 hg 5 x5
theorem LSt.fin {w W : World} {gt : Nat} {un uo : Value} {ns : List Nd} {od : List Int} (h : LSt w W gt un uo ns od) : RNodRow ((W.setCell ⟨w.heap.size, 0, none⟩ un).setCell ⟨w.heap.size, 1, none⟩ uo) w.heap.size un ns ∧ OrdRow ((W.setCell ⟨w.heap.size, 0, none⟩ un).setCell ⟨w.heap.size, 1, none⟩ uo) w.heap.size uo od ∧ Below w.heap.size w ((W.setCell ⟨w.heap.size, 0, none⟩ un).setCell ⟨w.heap.size, 1, none⟩ uo) := by
 have k1 := h.kr.set 0 un
 have n1 := z0f h.nod (a := ⟨w.heap.size, 0, none⟩) (z0e h.nod h.kr (by decide)) un
 have o1 := z0f h.ord (a := ⟨w.heap.size, 0, none⟩) (z0e h.ord h.kr (by decide)) un
 exact ⟨z0f n1 (a := ⟨w.heap.size, 1, none⟩) (z0e n1 k1 (by decide)) uo, z0f o1 (a := ⟨w.heap.size, 1, none⟩) (z0e o1 k1 (by decide)) uo, blp2 h.bel (Nat.le_refl _)⟩
end
end Go.Proofs.YtbmpmjdlaahekaaGreat
