/- Plain mathematics of layer 15: bins of boxes, groups of boxes, what a  -/
import Derived.Test.YtbmpmjdlaahekaaGreatWs48
set_option maxRecDepth 100000
set_option maxHeartbeats 8000000
set_option linter.unusedVariables false
set_option linter.unusedSimpArgs false
namespace Go.Proofs.Sky
section
open Go.RowKit
-- middles and bins
-- groups
theorem uJoin_assoc (a b c : Bx) : uJoin (uJoin a b) c = uJoin a (uJoin b c) := by
 unfold uJoin; simp only [Int.min_assoc, Int.max_assoc]
theorem uJoin_comm (a b : Bx) : uJoin a b = uJoin b a := by
 unfold uJoin; simp only [Int.min_comm, Int.max_comm]
theorem gW_assoc (g h k : Gp) : gW (gW g h) k = gW g (gW h k) := by
 by_cases h1 : g.2 = 0
 · have e : ∀ x, gW g x = x := fun x => by unfold gW; rw [if_pos h1]
   rw [e, e]
 · by_cases h2 : h.2 = 0
   · have e1 : gW g h = g := by unfold gW; rw [if_neg h1, if_pos h2]
     have e2 : gW h k = k := by unfold gW; rw [if_pos h2]
     rw [e1, e2]
   · have n1 : (gW g h).2 ≠ 0 := by rw [gW_count]; omega
     by_cases h3 : k.2 = 0
     · have e1 : gW (gW g h) k = gW g h := by
        rw [show ∀ x y : Gp, gW x y = if x.2 = 0 then y else if y.2 = 0 then x else (uJoin x.1 y.1, x.2 + y.2) from fun _ _ => rfl, if_neg n1, if_pos h3]
       have e2 : gW h k = h := by unfold gW; rw [if_neg h2, if_pos h3]
       rw [e1, e2]
     · have n2 : (gW h k).2 ≠ 0 := by rw [gW_count]; omega
       have e : ∀ x y : Gp, x.2 ≠ 0 → y.2 ≠ 0 → gW x y = (uJoin x.1 y.1, x.2 + y.2) := fun x y hx hy => by unfold gW; rw [if_neg hx, if_neg hy]
       rw [e _ _ n1 h3, e _ _ h1 n2, e _ _ h1 h2, e _ _ h2 h3]
       dsimp only
       rw [uJoin_assoc, Nat.add_assoc]
theorem gW_comm {g h : Gp} (hn : g.2 ≠ 0) : gW g h = gW h g := by
 unfold gW
 rw [if_neg hn]
 by_cases h2 : h.2 = 0
 · rw [if_pos h2, if_pos h2]
 · rw [if_neg h2, if_neg h2, if_neg hn, uJoin_comm, Nat.add_comm]
theorem gW_swap (g : Gp) (a b : Bx) : gW (gW g (a, 1)) (b, 1) = gW (gW g (b, 1)) (a, 1) := by
 rw [gW_assoc, gW_assoc, gW_comm (g := (a, 1)) (by simp)]
theorem gL_perm (p : Bx → Bool) {l m : List Bx} (h : l.Perm m) : gL p l = gL p m := by
 unfold gL
 refine h.foldl_eq' (fun x _ y _ z => ?_) g0
 unfold gPut
 cases p x <;> cases p y <;> simp [gW_swap]
-- areas
-- what a split costs
-- least and greatest middles
-- the best split
-- another order
-- indices of those on a side
end
section
open Go.RowKit
-- the least box around things
theorem bAll_perm {V U : Nat → Bx} {n : Nat} (hn : 0 < n) (hV : ∀ k, k < n → bRight (V k) = true) (hp : (bls V n).Perm (bls U n)) : bAll V n = bAll U n := by
 have hU : ∀ k, k < n → bRight (U k) = true := fun k hk => by
  obtain ⟨j, hj, e⟩ := bls_mem.1 (hp.mem_iff.2 (bls_mem.2 ⟨k, hk, rfl⟩))
  rw [← e]; exact hV j hj
 have e1 := bAll_gL (hV 0 hn) n hn hV
 have e2 := bAll_gL (hU 0 hn) n hn hU
 rw [gL_perm _ hp, ← e2] at e1
 exact (Prod.mk.inj e1).1
end
section
open Go.RowKit
-- what is built is ordered
theorem ctx_at {ns g : List Nd} {k i : Nat} (h : ∀ i, i < g.length → ns[k + i]? = g[i]?) (hi : i < g.length) : ∃ hk : k + i < ns.length, ns[k + i] = g[i] := by
 have e := h i hi
 rw [List.getElem?_eq_getElem hi] at e
 obtain ⟨hk, e⟩ := List.getElem?_eq_some_iff.1 e
 exact ⟨hk, e⟩
theorem grow_part {P : Nat → Pr} {ns : List Nd} {m : Int} : ∀ (f : Nat) (which : List Nat) (k o : Nat), which.length ≤ f → 0 < which.length → (∀ i, i < (mGrow P f which k o).1.length → ns[k + i]? = (mGrow P f which k o).1[i]?) → (o : Int) + which.length ≤ m →
  (mPart ns m k o).2.2.2.2 = true ∧ (mPart ns m k o).1 = k + (mGrow P f which k o).1.length ∧ (mPart ns m k o).2.1 = o + which.length ∧ (mPart ns m k o).2.2.1 ≤ which.length ∧ 2 * (mPart ns m k o).2.2.2.1 = (mGrow P f which k o).1.length + 1
 | 0, which, k, o, h, h0, _, _ => by omega
 | f + 1, which, k, o, h, h0, hc, hm => by
  cases he : wEnds P which with
  | true =>
   rw [mGrow_leaf he] at hc ⊢
   obtain ⟨hk, e⟩ := ctx_at (i := 0) hc (by simp)
   simp only [Nat.add_zero, List.getElem_cons_zero] at e hk
   rw [mPart_leaf hk (by rw [e]; dsimp only; omega), e]
   dsimp only
   rw [if_pos ⟨by omega, rfl, rfl, by omega⟩]
   dsimp only
   simp only [List.length_cons, List.length_nil]
   refine ⟨trivial, by omega, trivial, by omega, by omega⟩
  | false =>
   obtain ⟨l1, l2, l3⟩ := wSplit_less he
   rw [mGrow_node he rfl rfl] at hc ⊢
   have lena := mGrow_len (P := P) f (wAt which (wLeft P which)) (k + 1) o (by rw [z0j]; omega) (by rw [z0j]; omega)
   have iha := grow_part (P := P) (ns := ns) (m := m) f (wAt which (wLeft P which)) (k + 1) o (by rw [z0j]; omega) (by rw [z0j]; omega)
   have ihb := fun k o => grow_part (P := P) (ns := ns) (m := m) f (wAt which (wRight P which)) k o (by rw [z0j]; omega) (by rw [z0j]; omega)
   generalize mGrow P f (wAt which (wLeft P which)) (k + 1) o = a at *
   have ihb := ihb (k + 1 + a.1.length) (o + a.2.length)
   generalize mGrow P f (wAt which (wRight P which)) (k + 1 + a.1.length) (o + a.2.length) = b at *
   rw [z0j] at lena iha ihb
   obtain ⟨hk, e⟩ := ctx_at (i := 0) hc (by simp)
   simp only [Nat.add_zero, List.getElem_cons_zero] at e hk
   have ha := iha (fun i hi => by
    have h := hc (i + 1) (by simp; omega)
    rw [List.getElem?_cons_succ, List.getElem?_append_left hi] at h
    rw [show k + 1 + i = k + (i + 1) by omega]; exact h) (by omega)
   have hb := ihb (fun i hi => by
    have h := hc (a.1.length + i + 1) (by simp; omega)
    rw [List.getElem?_cons_succ, List.getElem?_append_right (by omega), Nat.add_sub_cancel_left] at h
    rw [show k + 1 + a.1.length + i = k + (a.1.length + i + 1) by omega]; exact h) (by omega)
   obtain ⟨a1, a2, a3, a4, a5⟩ := ha
   obtain ⟨b1, b2, b3, b4, b5⟩ := hb
   have hla := mPart_in a1
   have hlb := mPart_in b1
   rw [mPart_node hk (by rw [e]) (by rw [e]) rfl]
   have e1 : (mPart ns m (k + 1) o).1.toNat = k + 1 + a.1.length := by omega
   have e2 : (mPart ns m (k + 1) o).2.1 = ((o + a.2.length : Nat) : Int) := by omega
   rw [e1, e2, a1, e]
   rw [if_neg (by rintro (q | q); cases q; exact q (by dsimp only; omega)), if_neg (by rw [b1]; simp)]
   dsimp only
   simp only [List.length_cons, List.length_append]
   refine ⟨trivial, by omega, by omega, by omega, by omega⟩
theorem build_whole {P : Nat → Pr} {n : Nat} (h0 : 0 < n) : (mWhole (mGrow P n (List.range n) 0 0).1 n).2.2.2.2 = true ∧ mDeep (mGrow P n (List.range n) 0 0).1 n ≤ n ∧ 2 * mLeaves (mGrow P n (List.range n) 0 0).1 n = (mGrow P n (List.range n) 0 0).1.length + 1 := by
 have h := grow_part (P := P) (ns := (mGrow P n (List.range n) 0 0).1) (m := n) n (List.range n) 0 0 (by simp) (by simpa using h0) (fun i hi => by rw [Nat.zero_add]) (by simp)
 rw [List.length_range] at h
 generalize (mGrow P n (List.range n) 0 0).1 = ns at *
 rw [show ((0 : Nat) : Int) = 0 from rfl] at h
 obtain ⟨h1, h2, h3, h4, h5⟩ := h
 have hin := mPart_in h1
 have e : mWhole ns n = ((mPart ns n 0 0).1, (mPart ns n 0 0).2.1, (mPart ns n 0 0).2.2.1, (mPart ns n 0 0).2.2.2.1, (mPart ns n 0 0).2.2.2.2 && (decide ((mPart ns n 0 0).1 = ns.length) && decide ((mPart ns n 0 0).2.1 = n))) := by
  unfold mWhole; rw [if_neg (by omega)]
 have ok : (mWhole ns n).2.2.2.2 = true := by
  rw [e]
  dsimp only
  rw [h1, zt (by omega), zt (by omega)]
  rfl
 refine ⟨ok, ?_, ?_⟩
 · unfold mDeep
   rw [if_pos ok, e]
   exact h4
 · unfold mLeaves
   rw [if_pos ok, e]
   exact h5
-- the order is one of all things
theorem wAt_range (which : List Nat) : wAt which (List.range which.length) = which := by
 unfold wAt
 apply List.ext_getElem
 · simp
 · intro i h1 h2
   simp only [List.getElem_map, List.getElem_range]
   exact z0g h2
theorem split_perm (P : Nat → Pr) (which : List Nat) : (wAt which (wLeft P which) ++ wAt which (wRight P which)).Perm which := by
 have h := List.filter_append_perm (fun k => isL (wSplit P which).1.1 (wSplit P which).1.2.2.1 (wSplit P which).1.2.2.2 (wSplit P which).1.2.1 (wBox P which k)) (List.range which.length)
 have h2 := h.map (fun i => which.getD i 0)
 rw [List.map_append] at h2
 have e := wAt_range which
 unfold wAt at e
 rw [e] at h2
 exact h2
theorem grow_perm {P : Nat → Pr} : ∀ (f : Nat) (which : List Nat) (k o : Nat), which.length ≤ f → 0 < which.length → ((mGrow P f which k o).2).Perm which
 | 0, which, k, o, h, h0 => by omega
 | f + 1, which, k, o, h, h0 => by
  cases he : wEnds P which with
  | true => rw [mGrow_leaf he]
  | false =>
   obtain ⟨l1, l2, l3⟩ := wSplit_less he
   rw [mGrow_node he rfl rfl]
   exact ((grow_perm f _ _ _ (by rw [z0j]; omega) (by rw [z0j]; omega)).append (grow_perm f _ _ _ (by rw [z0j]; omega) (by rw [z0j]; omega))).trans (split_perm P which)
theorem count_range (i : Nat) : ∀ n : Nat, ((List.range n).map (fun k : Nat => (k : Int))).count (i : Int) = if i < n then 1 else 0
 | 0 => rfl
 | n + 1 => by
  rw [List.range_succ, List.map_append, List.count_append, count_range i n]
  simp only [List.map_cons, List.map_nil, List.count_singleton]
  by_cases h1 : i < n
  · rw [if_pos h1, if_pos (show i < n + 1 by omega), if_neg (show ¬ (((n : Int) == (i : Int)) = true) by rw [beq_iff_eq]; omega)]
  · by_cases h2 : i = n
    · rw [if_neg h1, if_pos (show i < n + 1 by omega), if_pos (show ((n : Int) == (i : Int)) = true by rw [beq_iff_eq]; omega)]
    · rw [if_neg h1, if_neg (show ¬ i < n + 1 by omega), if_neg (show ¬ (((n : Int) == (i : Int)) = true) by rw [beq_iff_eq]; omega)]
theorem build_once {P : Nat → Pr} {n : Nat} (h0 : 0 < n) : mOnce ((mGrow P n (List.range n) 0 0).2.map (fun k : Nat => (k : Int))) n = true := by
 have h := grow_perm (P := P) n (List.range n) 0 0 (by simp) (by simpa using h0)
 refine mOnce_iff.2 ⟨?_, fun i hi => ?_⟩
 · rw [List.length_map, h.length_eq, List.length_range]
 · rw [(h.map _).count_eq, count_range, if_pos hi]
-- its boxes are the least ones
theorem grow_boxes {P : Nat → Pr} {ns : List Nd} {ord : List Int} {n : Nat} (hP : pAll P n = true) : ∀ (f : Nat) (which : List Nat) (k o : Nat), which.length ≤ f → 0 < which.length → (∀ j ∈ which, j < n) →
  (∀ i, i < (mGrow P f which k o).1.length → ns[k + i]? = (mGrow P f which k o).1[i]?) → (∀ i, i < which.length → ord[o + i]? = ((mGrow P f which k o).2.map (fun k : Nat => (k : Int)))[i]?) → o + which.length ≤ ord.length → mFrom ns k = o →
  ∀ j, k ≤ j → j < k + (mGrow P f which k o).1.length → (ns.getD j nd0).1 = mAt P ord (mFrom ns j) (mThing ns ord.length j)
 | 0, which, k, o, h, h0, _, _, _, _, _ => by omega
 | f + 1, which, k, o, h, h0, hn, hc, ho, hm, hf => by
  have hp := grow_part (P := P) (ns := ns) (m := ord.length) (f + 1) which k o h h0 hc (by omega)
  have hper := grow_perm (P := P) (f + 1) which k o h h0
  -- the part's own node
  have own : (bAll (wBox P which) which.length) = mAt P ord (mFrom ns k) (mThing ns ord.length k) := by
   have ht : mThing ns ord.length k = ((o + which.length : Nat) : Int) := by unfold mThing; rw [hf, hp.2.2.1]; omega
   unfold mAt
   rw [ht, hf, show ((((o + which.length : Nat) : Int)) - (o : Int)).toNat = which.length by omega, show ((o : Int)).toNat = o by omega]
   refine bAll_perm h0 (fun i hi => ?_) ?_
   · unfold wBox
     rw [z0g hi]
     exact box_right (pAll_at hP (hn _ (List.getElem_mem _)))
   · have e1 : bls (wBox P which) which.length = which.map (fun j => pBox (P j)) := by
      unfold bls wBox
      apply List.ext_getElem
      · simp
      · intro i h1 h2
        simp only [List.getElem_map, List.getElem_range]
        rw [z0g (by simpa using h2)]
     have e2 : bls (fun i => mBox P ord (o + i)) which.length = (mGrow P (f + 1) which k o).2.map (fun j => pBox (P j)) := by
      unfold bls mBox
      apply List.ext_getElem
      · simp [hper.length_eq]
      · intro i h1 h2
        simp only [List.getElem_map, List.getElem_range]
        have hi : i < which.length := by simpa using h1
        have q := ho i hi
        have hi3 : i < (mGrow P (f + 1) which k o).2.length := by rw [hper.length_eq]; exact hi
        rw [List.getElem?_map, List.getElem?_eq_getElem hi3] at q
        rw [List.getD_eq_getElem?_getD, q]
        rfl
     rw [e1, e2]
     exact (hper.map _).symm
  cases he : wEnds P which with
  | true =>
   rw [mGrow_leaf he] at hc ⊢
   intro j h1 h2
   have hj : j = k := by simp at h2; omega
   subst hj
   obtain ⟨hk, e⟩ := ctx_at (i := 0) hc (by simp)
   simp only [Nat.add_zero, List.getElem_cons_zero] at e hk
   rw [z0g hk, e]
   exact own
  | false =>
   obtain ⟨l1, l2, l3⟩ := wSplit_less he
   rw [mGrow_node he rfl rfl] at hc ho ⊢
   have lena := mGrow_len (P := P) f (wAt which (wLeft P which)) (k + 1) o (by rw [z0j]; omega) (by rw [z0j]; omega)
   have gpa := grow_part (P := P) (ns := ns) (m := ord.length) f (wAt which (wLeft P which)) (k + 1) o (by rw [z0j]; omega) (by rw [z0j]; omega)
   have iha := grow_boxes (ns := ns) (ord := ord) hP f (wAt which (wLeft P which)) (k + 1) o (by rw [z0j]; omega) (by rw [z0j]; omega) (fun j hj => hn j (wAt_mem (fun i hi => ix_lt hi) hj))
   have ihb := fun k o => grow_boxes (ns := ns) (ord := ord) hP f (wAt which (wRight P which)) k o (by rw [z0j]; omega) (by rw [z0j]; omega) (fun j hj => hn j (wAt_mem (fun i hi => ix_lt hi) hj))
   generalize mGrow P f (wAt which (wLeft P which)) (k + 1) o = a at *
   have ihb := ihb (k + 1 + a.1.length) (o + a.2.length)
   generalize mGrow P f (wAt which (wRight P which)) (k + 1 + a.1.length) (o + a.2.length) = b at *
   rw [z0j] at lena gpa iha ihb
   obtain ⟨hk, e⟩ := ctx_at (i := 0) hc (by simp)
   simp only [Nat.add_zero, List.getElem_cons_zero] at e hk
   have hca : ∀ i, i < a.1.length → ns[k + 1 + i]? = a.1[i]? := fun i hi => by
    have h := hc (i + 1) (by simp; omega)
    rw [List.getElem?_cons_succ, List.getElem?_append_left hi] at h
    rw [show k + 1 + i = k + (i + 1) by omega]; exact h
   have hcb : ∀ i, i < b.1.length → ns[k + 1 + a.1.length + i]? = b.1[i]? := fun i hi => by
    have h := hc (a.1.length + i + 1) (by simp; omega)
    rw [List.getElem?_cons_succ, List.getElem?_append_right (by omega), Nat.add_sub_cancel_left] at h
    rw [show k + 1 + a.1.length + i = k + (a.1.length + i + 1) by omega]; exact h
   have f1 : mFrom ns (k + 1) = o := by rw [z1j, z0g hk, e, if_neg (by simp)]; exact hf
   obtain ⟨a1, a2, a3, _, _⟩ := gpa hca (by omega)
   have f2 := (part_each (ns := ns) (m := ord.length) (ns.length + 1) (k + 1) o (by omega) a1 f1).1
   rw [show (mPart ns ord.length (k + 1) o).1.toNat = k + 1 + a.1.length by omega, a3] at f2
   have ra := iha hca (fun i hi => by
    have q := ho i (by omega)
    rw [List.map_append, List.getElem?_append_left (by rw [List.length_map]; omega)] at q
    exact q) (by omega) f1
   have rb := ihb hcb (fun i hi => by
    have q := ho (a.2.length + i) (by omega)
    rw [List.map_append, List.getElem?_append_right (by rw [List.length_map]; omega), List.length_map, Nat.add_sub_cancel_left] at q
    rw [Nat.add_assoc]; exact q) (by omega) (by rw [f2]; omega)
   intro j h1 h2
   simp only [List.length_cons, List.length_append] at h2
   by_cases g0 : j = k
   · subst g0
     rw [z0g hk, e]
     exact own
   · by_cases g1 : j < k + 1 + a.1.length
     · exact ra j (by omega) g1
     · exact rb j (by omega) (by omega)
theorem build_wh {P : Nat → Pr} {n : Nat} (h0 : 0 < n) (hP : pAll P n = true) : mWh (mGrow P n (List.range n) 0 0).1 P ((mGrow P n (List.range n) 0 0).2.map (fun k : Nat => (k : Int))) n = true := by
 have hl := mGrow_len (P := P) n (List.range n) 0 0 (by simp) (by simpa using h0)
 rw [List.length_range] at hl
 have h1 := (build_whole (P := P) h0).1
 have h2 := build_once (P := P) h0
 have hlo : ((mGrow P n (List.range n) 0 0).2.map (fun k : Nat => (k : Int))).length = n := by rw [List.length_map, hl.1]
 unfold mWh
 rw [hlo, h1, hP, h2, Bool.true_and, Bool.true_and, Bool.true_and, mBoxes_iff]
 intro j hj
 have h := grow_boxes (P := P) (ns := (mGrow P n (List.range n) 0 0).1) (ord := (mGrow P n (List.range n) 0 0).2.map (fun k : Nat => (k : Int))) hP n (List.range n) 0 0 (by simp) (by simpa using h0) (fun j hj => List.mem_range.1 hj) (fun i hi => by rw [Nat.zero_add]) (fun i hi => by rw [Nat.zero_add]) (by rw [hlo, List.length_range]; omega) rfl j (by omega) (by omega)
 exact h
end
end Go.Proofs.Sky
namespace Go.Proofs.YtbmpmjdlaahekaaGreat
section
open Go.RowKit Go.Proofs.Sky
theorem build_mwh {P : Nat → Pr} {n : Nat} (hP : pAll P n = true) (hn : n ≤ 1024) : mWh (mBuild P n).1 P (bOrd P n) n = true := by
 unfold bOrd
 by_cases h0 : 0 < n
 · have e : mBuild P n = mGrow P n (List.range n) 0 0 := by unfold mBuild; rw [if_pos ⟨h0, hn, hP⟩]
   rw [e]
   exact build_wh h0 hP
 · obtain rfl : n = 0 := by omega
   have e : mBuild P 0 = ([], []) := by unfold mBuild; rw [if_neg (by omega)]
   rw [e]
   rfl
end
end Go.Proofs.YtbmpmjdlaahekaaGreat
