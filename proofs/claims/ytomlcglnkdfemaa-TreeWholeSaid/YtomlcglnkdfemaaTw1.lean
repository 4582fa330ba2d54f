/- What TreeWhole needs further. -/
import Derived.Test.YtomlcglnkdfemaaTt1
import Derived.Test.YtomlcglnkdfemaaTt2
import Derived.Test.YtomlcglnkdfemaaTt3
import Derived.Test.YtomlcglnkdfemaaTt4
import Derived.Test.YtomlcglnkdfemaaTt5
import Derived.Test.YtomlcglnkdfemaaTt6
import Derived.Test.YtomlcglnkdfemaaTt7
import Derived.Test.YtomlcglnkdfemaaTt8
import Derived.Test.YtomlcglnkdfemaaTt9
import Derived.Test.YtomlcglnkdfemaaTt10
import Derived.Test.YtomlcglnkdfemaaTt11
import Derived.Test.YtomlcglnkdfemaaTt12
import Derived.Test.YtomlcglnkdfemaaTt13
import Derived.Test.YtomlcglnkdfemaaTt14
import Derived.Test.YtomlcglnkdfemaaTt16
import Derived.Test.YtomlcglnkdfemaaTt17
import Derived.Test.YtomlcglnkdfemaaTt18
import Derived.Test.YtomlcglnkdfemaaTt19
import Derived.Test.YtomlcglnkdfemaaTt20
import Derived.Test.YtomlcglnkdfemaaTt21
import Derived.Test.YtomlcglnkdfemaaTt22
import Derived.Test.YtomlcglnkdfemaaTt23
import Derived.Test.YtomlcglnkdfemaaTt24
import Derived.Test.YtomlcglnkdfemaaTt25
import Derived.Test.YtomlcglnkdfemaaTt26
import Derived.Test.YtomlcglnkdfemaaTt27
import Derived.Test.YtomlcglnkdfemaaTt28
import Derived.Test.YtomlcglnkdfemaaTt29
import Derived.Test.YtomlcglnkdfemaaTt30
import Derived.Test.YtomlcglnkdfemaaTt31
import Derived.Test.YtomlcglnkdfemaaTt32
import Derived.Test.YtomlcglnkdfemaaTt34
import Derived.Test.YtomlcglnkdfemaaTt35
import Derived.Test.YtomlcglnkdfemaaTt36
import Derived.Test.YtomlcglnkdfemaaTt38
import Derived.Test.YtomlcglnkdfemaaTt39
import Derived.Test.YtomlcglnkdfemaaTt40
import Derived.Test.YtomlcglnkdfemaaTt41
import Derived.Test.YtomlcglnkdfemaaTt42
import Derived.Test.YtomlcglnkdfemaaTt43
import Derived.Test.YtomlcglnkdfemaaTt44
import Derived.Test.YtomlcglnkdfemaaTt45
import Derived.Test.YtomlcglnkdfemaaTt46
import Derived.Test.YtomlcglnkdfemaaTt47
import Derived.Test.YtomlcglnkdfemaaTt49
import Derived.Laws.OwnMore


namespace Go.Proofs.Sky
section

open Go.RowKit

set_option linter.unusedVariables false

section

variable {w w' W W0 : World} {B b g : Nat} {t t' : TypeId} {cs ds : Array Value} {o : Obj}

section

variable {a0 v0 : Value}

end

section

variable {a0 a1 v0 v1 : Value}

end

section

variable {a0 a1 a2 v0 v1 v2 : Value}

end

section

variable {a0 a1 a2 a3 v0 v1 v2 v3 : Value}

end

section

variable {a0 a1 a2 a3 a4 v0 v1 v2 v3 v4 : Value}

end

section

variable {a0 a1 a2 a3 a4 a5 v0 v1 v2 v3 v4 v5 : Value}

end

section

variable {a0 a1 a2 a3 a4 a5 a6 v0 v1 v2 v3 v4 v5 v6 : Value}

end

section

variable {a0 a1 a2 a3 a4 a5 a6 a7 v0 v1 v2 v3 v4 v5 v6 v7 : Value}

end

section

variable {a0 a1 a2 a3 a4 a5 a6 a7 a8 v0 v1 v2 v3 v4 v5 v6 v7 v8 : Value}

theorem bwf9 (h : Bk W g t cs) : (∀ p : BW W, p.w.frozen? ⟨g, 0, none⟩ = false) ∧ (∀ p : BW W, p.w.frozen? ⟨g, 1, none⟩ = false) ∧ (∀ p : BW W, p.w.frozen? ⟨g, 2, none⟩ = false) ∧ (∀ p : BW W, p.w.frozen? ⟨g, 3, none⟩ = false) ∧ (∀ p : BW W, p.w.frozen? ⟨g, 4, none⟩ = false) ∧ (∀ p : BW W, p.w.frozen? ⟨g, 5, none⟩ = false) ∧ (∀ p : BW W, p.w.frozen? ⟨g, 6, none⟩ = false) ∧ (∀ p : BW W, p.w.frozen? ⟨g, 7, none⟩ = false) ∧ (∀ p : BW W, p.w.frozen? ⟨g, 8, none⟩ = false) := ⟨bwf h 0, bwf h 1, bwf h 2, bwf h 3, bwf h 4, bwf h 5, bwf h 6, bwf h 7, bwf h 8⟩

end

section

variable {a0 a1 a2 a3 a4 a5 a6 a7 a8 a9 a10 a11 v0 v1 v2 v3 v4 v5 v6 v7 v8 v9 v10 v11 : Value}

end

end

end
end Go.Proofs.Sky

namespace Go.Proofs.Sky
section

open Go.RowKit

set_option linter.unusedVariables false

-- middles and bins

-- groups

theorem gW_swap (g : Gp) (a b : Bx) : gW (gW g (a, 1)) (b, 1) = gW (gW g (b, 1)) (a, 1) := by
  rw [gW_assoc, gW_assoc, gW_comm (g := (a, 1)) (by simp)]

theorem gL_perm (p : Bx → Bool) {l m : List Bx} (h : l.Perm m) : gL p l = gL p m := by
  unfold gL
  refine h.foldl_eq' (fun x _ y _ z => ?_) g0
  unfold gPut
  cases p x <;> cases p y <;> simp [gW_swap]

-- areas

-- what a split costs

-- least and greatest middles

-- the best split

-- another order

-- indices of those on a side

end
end Go.Proofs.Sky

namespace Go.Proofs.Sky
section

open Go.RowKit

set_option linter.unusedVariables false

-- growing

theorem mGrow_len {P : Nat → Pr} : ∀ (f : Nat) (which : List Nat) (k o : Nat), which.length ≤ f → 0 < which.length → (mGrow P f which k o).2.length = which.length ∧ (mGrow P f which k o).1.length + 1 ≤ 2 * which.length ∧ 0 < (mGrow P f which k o).1.length
  | 0, which, k, o, h, h0 => by omega
  | f + 1, which, k, o, h, h0 => by
    cases he : wEnds P which with
    | true => rw [mGrow_leaf he]; exact ⟨rfl, by simp; omega, by simp⟩
    | false =>
      rw [mGrow_node he rfl rfl]
      obtain ⟨h1, h2, h3⟩ := wSplit_less he
      have ha := mGrow_len (P := P) f (wAt which (wLeft P which)) (k + 1) o (by rw [wAt_len]; omega) (by rw [wAt_len]; omega)
      generalize mGrow P f (wAt which (wLeft P which)) (k + 1) o = a at *
      have hb := mGrow_len (P := P) f (wAt which (wRight P which)) (k + 1 + a.1.length) (o + a.2.length) (by rw [wAt_len]; omega) (by rw [wAt_len]; omega)
      generalize mGrow P f (wAt which (wRight P which)) (k + 1 + a.1.length) (o + a.2.length) = b at *
      rw [wAt_len] at ha hb
      simp only [List.length_append, List.length_cons]
      omega

end
end Go.Proofs.Sky

namespace Go.Proofs.Sky
section

open Go.RowKit

set_option linter.unusedVariables false

-- the least box around things

theorem bAll_perm {V U : Nat → Bx} {n : Nat} (hn : 0 < n) (hV : ∀ k, k < n → bRight (V k) = true) (hp : (bls V n).Perm (bls U n)) : bAll V n = bAll U n := by
  have hU : ∀ k, k < n → bRight (U k) = true := fun k hk => by
    obtain ⟨j, hj, e⟩ := bls_mem.1 (hp.mem_iff.2 (bls_mem.2 ⟨k, hk, rfl⟩))
    rw [← e]; exact hV j hj
  have e1 := bAll_gL (hV 0 hn) n hn hV
  have e2 := bAll_gL (hU 0 hn) n hn hU
  rw [gL_perm _ hp, ← e2] at e1
  exact (Prod.mk.inj e1).1

end
end Go.Proofs.Sky

namespace Go.Proofs.Sky
section

open Go.RowKit

set_option linter.unusedVariables false

-- what is built is ordered

theorem ctx_at {ns g : List Nd} {k i : Nat} (h : ∀ i, i < g.length → ns[k + i]? = g[i]?) (hi : i < g.length) : ∃ hk : k + i < ns.length, ns[k + i] = g[i] := by
  have e := h i hi
  rw [List.getElem?_eq_getElem hi] at e
  obtain ⟨hk, e⟩ := List.getElem?_eq_some_iff.1 e
  exact ⟨hk, e⟩

theorem grow_part {P : Nat → Pr} {ns : List Nd} {m : Int} : ∀ (f : Nat) (which : List Nat) (k o : Nat), which.length ≤ f → 0 < which.length → (∀ i, i < (mGrow P f which k o).1.length → ns[k + i]? = (mGrow P f which k o).1[i]?) → (o : Int) + which.length ≤ m →
    (mPart ns m k o).2.2.2.2 = true ∧ (mPart ns m k o).1 = k + (mGrow P f which k o).1.length ∧ (mPart ns m k o).2.1 = o + which.length ∧ (mPart ns m k o).2.2.1 ≤ which.length ∧ 2 * (mPart ns m k o).2.2.2.1 = (mGrow P f which k o).1.length + 1
  | 0, which, k, o, h, h0, _, _ => by omega
  | f + 1, which, k, o, h, h0, hc, hm => by
    cases he : wEnds P which with
    | true =>
      rw [mGrow_leaf he] at hc ⊢
      obtain ⟨hk, e⟩ := ctx_at (i := 0) hc (by simp)
      simp only [Nat.add_zero, List.getElem_cons_zero] at e hk
      rw [mPart_leaf hk (by rw [e]; dsimp only; omega), e]
      dsimp only
      rw [if_pos ⟨by omega, rfl, rfl, by omega⟩]
      dsimp only
      simp only [List.length_cons, List.length_nil]
      refine ⟨trivial, by omega, trivial, by omega, by omega⟩
    | false =>
      obtain ⟨l1, l2, l3⟩ := wSplit_less he
      rw [mGrow_node he rfl rfl] at hc ⊢
      have lena := mGrow_len (P := P) f (wAt which (wLeft P which)) (k + 1) o (by rw [wAt_len]; omega) (by rw [wAt_len]; omega)
      have iha := grow_part (P := P) (ns := ns) (m := m) f (wAt which (wLeft P which)) (k + 1) o (by rw [wAt_len]; omega) (by rw [wAt_len]; omega)
      have ihb := fun k o => grow_part (P := P) (ns := ns) (m := m) f (wAt which (wRight P which)) k o (by rw [wAt_len]; omega) (by rw [wAt_len]; omega)
      generalize mGrow P f (wAt which (wLeft P which)) (k + 1) o = a at *
      have ihb := ihb (k + 1 + a.1.length) (o + a.2.length)
      generalize mGrow P f (wAt which (wRight P which)) (k + 1 + a.1.length) (o + a.2.length) = b at *
      rw [wAt_len] at lena iha ihb
      obtain ⟨hk, e⟩ := ctx_at (i := 0) hc (by simp)
      simp only [Nat.add_zero, List.getElem_cons_zero] at e hk
      have ha := iha (fun i hi => by
        have h := hc (i + 1) (by simp; omega)
        rw [List.getElem?_cons_succ, List.getElem?_append_left hi] at h
        rw [show k + 1 + i = k + (i + 1) by omega]; exact h) (by omega)
      have hb := ihb (fun i hi => by
        have h := hc (a.1.length + i + 1) (by simp; omega)
        rw [List.getElem?_cons_succ, List.getElem?_append_right (by omega), Nat.add_sub_cancel_left] at h
        rw [show k + 1 + a.1.length + i = k + (a.1.length + i + 1) by omega]; exact h) (by omega)
      obtain ⟨a1, a2, a3, a4, a5⟩ := ha
      obtain ⟨b1, b2, b3, b4, b5⟩ := hb
      have hla := mPart_in a1
      have hlb := mPart_in b1
      rw [mPart_node hk (by rw [e]) (by rw [e]) rfl]
      have e1 : (mPart ns m (k + 1) o).1.toNat = k + 1 + a.1.length := by omega
      have e2 : (mPart ns m (k + 1) o).2.1 = ((o + a.2.length : Nat) : Int) := by omega
      rw [e1, e2, a1, e]
      rw [if_neg (by rintro (q | q); cases q; exact q (by dsimp only; omega)), if_neg (by rw [b1]; simp)]
      dsimp only
      simp only [List.length_cons, List.length_append]
      refine ⟨trivial, by omega, by omega, by omega, by omega⟩

theorem build_whole {P : Nat → Pr} {n : Nat} (h0 : 0 < n) : (mWhole (mGrow P n (List.range n) 0 0).1 n).2.2.2.2 = true ∧ mDeep (mGrow P n (List.range n) 0 0).1 n ≤ n ∧ 2 * mLeaves (mGrow P n (List.range n) 0 0).1 n = (mGrow P n (List.range n) 0 0).1.length + 1 := by
  have h := grow_part (P := P) (ns := (mGrow P n (List.range n) 0 0).1) (m := n) n (List.range n) 0 0 (by simp) (by simpa using h0) (fun i hi => by rw [Nat.zero_add]) (by simp)
  rw [List.length_range] at h
  generalize (mGrow P n (List.range n) 0 0).1 = ns at *
  rw [show ((0 : Nat) : Int) = 0 from rfl] at h
  obtain ⟨h1, h2, h3, h4, h5⟩ := h
  have hin := mPart_in h1
  have e : mWhole ns n = ((mPart ns n 0 0).1, (mPart ns n 0 0).2.1, (mPart ns n 0 0).2.2.1, (mPart ns n 0 0).2.2.2.1, (mPart ns n 0 0).2.2.2.2 && (decide ((mPart ns n 0 0).1 = ns.length) && decide ((mPart ns n 0 0).2.1 = n))) := by
    unfold mWhole; rw [if_neg (by omega)]
  have ok : (mWhole ns n).2.2.2.2 = true := by
    rw [e]
    dsimp only
    rw [h1, decide_eq_true (by omega), decide_eq_true (by omega)]
    rfl
  refine ⟨ok, ?_, ?_⟩
  · unfold mDeep
    rw [if_pos ok, e]
    exact h4
  · unfold mLeaves
    rw [if_pos ok, e]
    exact h5

-- the order is one of all things

theorem wAt_range (which : List Nat) : wAt which (List.range which.length) = which := by
  unfold wAt
  apply List.ext_getElem
  · simp
  · intro i h1 h2
    simp only [List.getElem_map, List.getElem_range]
    exact getD_at h2

theorem split_perm (P : Nat → Pr) (which : List Nat) : (wAt which (wLeft P which) ++ wAt which (wRight P which)).Perm which := by
  have h := List.filter_append_perm (fun k => isL (wSplit P which).1.1 (wSplit P which).1.2.2.1 (wSplit P which).1.2.2.2 (wSplit P which).1.2.1 (wBox P which k)) (List.range which.length)
  have h2 := h.map (fun i => which.getD i 0)
  rw [List.map_append] at h2
  have e := wAt_range which
  unfold wAt at e
  rw [e] at h2
  exact h2

theorem grow_perm {P : Nat → Pr} : ∀ (f : Nat) (which : List Nat) (k o : Nat), which.length ≤ f → 0 < which.length → ((mGrow P f which k o).2).Perm which
  | 0, which, k, o, h, h0 => by omega
  | f + 1, which, k, o, h, h0 => by
    cases he : wEnds P which with
    | true => rw [mGrow_leaf he]
    | false =>
      obtain ⟨l1, l2, l3⟩ := wSplit_less he
      rw [mGrow_node he rfl rfl]
      exact ((grow_perm f _ _ _ (by rw [wAt_len]; omega) (by rw [wAt_len]; omega)).append (grow_perm f _ _ _ (by rw [wAt_len]; omega) (by rw [wAt_len]; omega))).trans (split_perm P which)

theorem count_range (i : Nat) : ∀ n : Nat, ((List.range n).map (fun k : Nat => (k : Int))).count (i : Int) = if i < n then 1 else 0
  | 0 => rfl
  | n + 1 => by
    rw [List.range_succ, List.map_append, List.count_append, count_range i n]
    simp only [List.map_cons, List.map_nil, List.count_singleton]
    by_cases h1 : i < n
    · rw [if_pos h1, if_pos (show i < n + 1 by omega), if_neg (show ¬ (((n : Int) == (i : Int)) = true) by rw [beq_iff_eq]; omega)]
    · by_cases h2 : i = n
      · rw [if_neg h1, if_pos (show i < n + 1 by omega), if_pos (show ((n : Int) == (i : Int)) = true by rw [beq_iff_eq]; omega)]
      · rw [if_neg h1, if_neg (show ¬ i < n + 1 by omega), if_neg (show ¬ (((n : Int) == (i : Int)) = true) by rw [beq_iff_eq]; omega)]

theorem build_once {P : Nat → Pr} {n : Nat} (h0 : 0 < n) : mOnce ((mGrow P n (List.range n) 0 0).2.map (fun k : Nat => (k : Int))) n = true := by
  have h := grow_perm (P := P) n (List.range n) 0 0 (by simp) (by simpa using h0)
  refine mOnce_iff.2 ⟨?_, fun i hi => ?_⟩
  · rw [List.length_map, h.length_eq, List.length_range]
  · rw [(h.map _).count_eq, count_range, if_pos hi]

-- its boxes are the least ones

theorem grow_boxes {P : Nat → Pr} {ns : List Nd} {ord : List Int} {n : Nat} (hP : pAll P n = true) : ∀ (f : Nat) (which : List Nat) (k o : Nat), which.length ≤ f → 0 < which.length → (∀ j ∈ which, j < n) →
    (∀ i, i < (mGrow P f which k o).1.length → ns[k + i]? = (mGrow P f which k o).1[i]?) → (∀ i, i < which.length → ord[o + i]? = ((mGrow P f which k o).2.map (fun k : Nat => (k : Int)))[i]?) → o + which.length ≤ ord.length → mFrom ns k = o →
    ∀ j, k ≤ j → j < k + (mGrow P f which k o).1.length → (ns.getD j nd0).1 = mAt P ord (mFrom ns j) (mThing ns ord.length j)
  | 0, which, k, o, h, h0, _, _, _, _, _ => by omega
  | f + 1, which, k, o, h, h0, hn, hc, ho, hm, hf => by
    have hp := grow_part (P := P) (ns := ns) (m := ord.length) (f + 1) which k o h h0 hc (by omega)
    have hper := grow_perm (P := P) (f + 1) which k o h h0
    -- the part's own node
    have own : (bAll (wBox P which) which.length) = mAt P ord (mFrom ns k) (mThing ns ord.length k) := by
      have ht : mThing ns ord.length k = ((o + which.length : Nat) : Int) := by unfold mThing; rw [hf, hp.2.2.1]; omega
      unfold mAt
      rw [ht, hf, show ((((o + which.length : Nat) : Int)) - (o : Int)).toNat = which.length by omega, show ((o : Int)).toNat = o by omega]
      refine bAll_perm h0 (fun i hi => ?_) ?_
      · unfold wBox
        rw [getD_at hi]
        exact box_right (pAll_at hP (hn _ (List.getElem_mem _)))
      · have e1 : bls (wBox P which) which.length = which.map (fun j => pBox (P j)) := by
          unfold bls wBox
          apply List.ext_getElem
          · simp
          · intro i h1 h2
            simp only [List.getElem_map, List.getElem_range]
            rw [getD_at (by simpa using h2)]
        have e2 : bls (fun i => mBox P ord (o + i)) which.length = (mGrow P (f + 1) which k o).2.map (fun j => pBox (P j)) := by
          unfold bls mBox
          apply List.ext_getElem
          · simp [hper.length_eq]
          · intro i h1 h2
            simp only [List.getElem_map, List.getElem_range]
            have hi : i < which.length := by simpa using h1
            have q := ho i hi
            have hi3 : i < (mGrow P (f + 1) which k o).2.length := by rw [hper.length_eq]; exact hi
            rw [List.getElem?_map, List.getElem?_eq_getElem hi3] at q
            rw [List.getD_eq_getElem?_getD, q]
            rfl
        rw [e1, e2]
        exact (hper.map _).symm
    cases he : wEnds P which with
    | true =>
      rw [mGrow_leaf he] at hc ⊢
      intro j h1 h2
      have hj : j = k := by simp at h2; omega
      subst hj
      obtain ⟨hk, e⟩ := ctx_at (i := 0) hc (by simp)
      simp only [Nat.add_zero, List.getElem_cons_zero] at e hk
      rw [getD_at hk, e]
      exact own
    | false =>
      obtain ⟨l1, l2, l3⟩ := wSplit_less he
      rw [mGrow_node he rfl rfl] at hc ho ⊢
      have lena := mGrow_len (P := P) f (wAt which (wLeft P which)) (k + 1) o (by rw [wAt_len]; omega) (by rw [wAt_len]; omega)
      have gpa := grow_part (P := P) (ns := ns) (m := ord.length) f (wAt which (wLeft P which)) (k + 1) o (by rw [wAt_len]; omega) (by rw [wAt_len]; omega)
      have iha := grow_boxes (ns := ns) (ord := ord) hP f (wAt which (wLeft P which)) (k + 1) o (by rw [wAt_len]; omega) (by rw [wAt_len]; omega) (fun j hj => hn j (wAt_mem (fun i hi => ix_lt hi) hj))
      have ihb := fun k o => grow_boxes (ns := ns) (ord := ord) hP f (wAt which (wRight P which)) k o (by rw [wAt_len]; omega) (by rw [wAt_len]; omega) (fun j hj => hn j (wAt_mem (fun i hi => ix_lt hi) hj))
      generalize mGrow P f (wAt which (wLeft P which)) (k + 1) o = a at *
      have ihb := ihb (k + 1 + a.1.length) (o + a.2.length)
      generalize mGrow P f (wAt which (wRight P which)) (k + 1 + a.1.length) (o + a.2.length) = b at *
      rw [wAt_len] at lena gpa iha ihb
      obtain ⟨hk, e⟩ := ctx_at (i := 0) hc (by simp)
      simp only [Nat.add_zero, List.getElem_cons_zero] at e hk
      have hca : ∀ i, i < a.1.length → ns[k + 1 + i]? = a.1[i]? := fun i hi => by
        have h := hc (i + 1) (by simp; omega)
        rw [List.getElem?_cons_succ, List.getElem?_append_left hi] at h
        rw [show k + 1 + i = k + (i + 1) by omega]; exact h
      have hcb : ∀ i, i < b.1.length → ns[k + 1 + a.1.length + i]? = b.1[i]? := fun i hi => by
        have h := hc (a.1.length + i + 1) (by simp; omega)
        rw [List.getElem?_cons_succ, List.getElem?_append_right (by omega), Nat.add_sub_cancel_left] at h
        rw [show k + 1 + a.1.length + i = k + (a.1.length + i + 1) by omega]; exact h
      have f1 : mFrom ns (k + 1) = o := by rw [mFrom_succ, getD_at hk, e, if_neg (by simp)]; exact hf
      obtain ⟨a1, a2, a3, _, _⟩ := gpa hca (by omega)
      have f2 := (part_each (ns := ns) (m := ord.length) (ns.length + 1) (k + 1) o (by omega) a1 f1).1
      rw [show (mPart ns ord.length (k + 1) o).1.toNat = k + 1 + a.1.length by omega, a3] at f2
      have ra := iha hca (fun i hi => by
        have q := ho i (by omega)
        rw [List.map_append, List.getElem?_append_left (by rw [List.length_map]; omega)] at q
        exact q) (by omega) f1
      have rb := ihb hcb (fun i hi => by
        have q := ho (a.2.length + i) (by omega)
        rw [List.map_append, List.getElem?_append_right (by rw [List.length_map]; omega), List.length_map, Nat.add_sub_cancel_left] at q
        rw [Nat.add_assoc]; exact q) (by omega) (by rw [f2]; omega)
      intro j h1 h2
      simp only [List.length_cons, List.length_append] at h2
      by_cases g0 : j = k
      · subst g0
        rw [getD_at hk, e]
        exact own
      · by_cases g1 : j < k + 1 + a.1.length
        · exact ra j (by omega) g1
        · exact rb j (by omega) (by omega)

theorem build_wh {P : Nat → Pr} {n : Nat} (h0 : 0 < n) (hP : pAll P n = true) : mWh (mGrow P n (List.range n) 0 0).1 P ((mGrow P n (List.range n) 0 0).2.map (fun k : Nat => (k : Int))) n = true := by
  have hl := mGrow_len (P := P) n (List.range n) 0 0 (by simp) (by simpa using h0)
  rw [List.length_range] at hl
  have h1 := (build_whole (P := P) h0).1
  have h2 := build_once (P := P) h0
  have hlo : ((mGrow P n (List.range n) 0 0).2.map (fun k : Nat => (k : Int))).length = n := by rw [List.length_map, hl.1]
  unfold mWh
  rw [hlo, h1, hP, h2, Bool.true_and, Bool.true_and, Bool.true_and, mBoxes_iff]
  intro j hj
  have h := grow_boxes (P := P) (ns := (mGrow P n (List.range n) 0 0).1) (ord := (mGrow P n (List.range n) 0 0).2.map (fun k : Nat => (k : Int))) hP n (List.range n) 0 0 (by simp) (by simpa using h0) (fun j hj => List.mem_range.1 hj) (fun i hi => by rw [Nat.zero_add]) (fun i hi => by rw [Nat.zero_add]) (by rw [hlo, List.length_range]; omega) rfl j (by omega) (by omega)
  exact h

end
end Go.Proofs.Sky

namespace Go.Proofs.Sky
section

open Go.RowKit

set_option linter.unusedVariables false

/-- Nodes have the same numbers at all places of which p holds. -/
def NumAt (ns us : List Nd) (p : Nat → Prop) : Prop := ∀ j, p j → (ns.getD j nd0).2 = (us.getD j nd0).2

theorem part_same {ns us : List Nd} {m : Int} (hl : us.length = ns.length) : ∀ (f i : Nat) (th : Int), ns.length < i + f → (mPart ns m i th).2.2.2.2 = true → NumAt ns us (fun j => i ≤ j ∧ (j : Int) < (mPart ns m i th).1) → mPart us m i th = mPart ns m i th
  | 0, i, th, hf, h, _ => by rw [mPart_out (by omega)] at h; cases h
  | f + 1, i, th, hf, h, hn => by
    have hin := mPart_in h
    by_cases hi : i < ns.length
    · have hu : i < us.length := by omega
      have he := hn i ⟨Nat.le_refl _, hin.1⟩
      rw [getD_at hi, getD_at hu] at he
      by_cases hc : ns[i].2.2.1 = 0
      · obtain ⟨h1, h2, h3, h4, h5, h6⟩ := mPart_two hi hc h
        have ha := mPart_in h2
        have hb := mPart_in h4
        have ea := part_same hl f (i + 1) th (by omega) h2 (fun j hj => hn j ⟨by omega, by omega⟩)
        have eb := part_same hl f _ _ (by omega) h4 (fun j hj => hn j ⟨by omega, by omega⟩)
        rw [mPart_node hi hc h1 rfl, mPart_node hu (by rw [← he]; exact hc) (by rw [← he]; exact h1) rfl, ea, eb, ← he]
      · rw [mPart_leaf hi hc, mPart_leaf hu (by rw [← he]; exact hc), ← he]
    · rw [mPart_out hi] at h; cases h

theorem part_start {ns us : List Nd} {m : Int} (hl : us.length = ns.length) : ∀ (f i : Nat) (th tu : Int), ns.length < i + f → (mPart ns m i th).2.2.2.2 = true → (mPart us m i tu).2.2.2.2 = true → NumAt ns us (fun j => i ≤ j) → th = tu
  | 0, i, th, tu, hf, h, _, _ => by rw [mPart_out (by omega)] at h; cases h
  | f + 1, i, th, tu, hf, h, hu, hn => by
    have hin := mPart_in h
    by_cases hi : i < ns.length
    · have hiu : i < us.length := by omega
      have he := hn i (Nat.le_refl _)
      rw [getD_at hi, getD_at hiu] at he
      by_cases hc : ns[i].2.2.1 = 0
      · obtain ⟨_, h2, _⟩ := mPart_two hi hc h
        obtain ⟨_, u2, _⟩ := mPart_two hiu (by rw [← he]; exact hc) hu
        exact part_start hl f (i + 1) th tu (by omega) h2 u2 (fun j hj => hn j (by omega))
      · obtain ⟨_, h2, _⟩ := mPart_one hi hc h
        obtain ⟨_, u2, _⟩ := mPart_one hiu (by rw [← he]; exact hc) hu
        rw [← h2, ← u2, ← he]
    · rw [mPart_out hi] at h; cases h

/-- One number of a node is another one at most. -/
def OneNum (d e : Nd) : Prop := (d.2.1 = e.2.1 ∧ d.2.2.1 = e.2.2.1) ∨ (d.2.1 = e.2.1 ∧ d.2.2.2 = e.2.2.2) ∨ (d.2.2.1 = e.2.2.1 ∧ d.2.2.2 = e.2.2.2)

theorem num_eq {d e : Nd} (h1 : d.2.1 = e.2.1) (h2 : d.2.2.1 = e.2.2.1) (h3 : d.2.2.2 = e.2.2.2) : d.2 = e.2 := by
  obtain ⟨_, d1, d2, d3⟩ := d
  obtain ⟨_, e1, e2, e3⟩ := e
  dsimp only at h1 h2 h3
  subst h1; subst h2; subst h3; rfl

theorem part_one {ns us : List Nd} {m : Int} {c : Nat} (hl : us.length = ns.length) (hn : NumAt ns us (fun j => j ≠ c)) (h1 : OneNum (ns.getD c nd0) (us.getD c nd0)) : ∀ (f i : Nat) (th : Int), ns.length < i + f → i ≤ c → (mPart ns m i th).2.2.2.2 = true → (c : Int) < (mPart ns m i th).1 → (mPart us m i th).2.2.2.2 = true →
    (ns.getD c nd0).2 = (us.getD c nd0).2 ∨ ((mPart us m i th).1 = (mPart ns m i th).1 ∧ (mPart us m i th).2.1 ≠ (mPart ns m i th).2.1)
  | 0, i, th, hf, _, h, _, _ => by rw [mPart_out (by omega)] at h; cases h
  | f + 1, i, th, hf, hic, h, hcx, hu => by
    have hin := mPart_in h
    have hi : i < ns.length := by
      rcases Nat.lt_or_ge i ns.length with q | q
      · exact q
      · rw [mPart_out (by omega)] at h; cases h
    have hiu : i < us.length := by omega
    by_cases hc : i = c
    · subst hc
      rw [getD_at hi, getD_at hiu] at h1 ⊢
      by_cases c1 : ns[i].2.2.1 = 0
      · obtain ⟨p1, p2, p3, p4, p5, p6⟩ := mPart_two hi c1 h
        have pa := mPart_in p2
        by_cases c2 : us[i].2.2.1 = 0
        · obtain ⟨q1, q2, q3, q4, q5, q6⟩ := mPart_two hiu c2 hu
          have e := part_same hl (ns.length + 1) (i + 1) th (by omega) p2 (fun j hj => hn j (by omega))
          rw [e] at q3
          exact .inl (num_eq (by rw [p1, q1]) (by rw [c1, c2]) (by rw [p3, q3]))
        · obtain ⟨q1, q2, q3, q4, q5, q6⟩ := mPart_one hiu c2 hu
          rcases h1 with ⟨e1, e2⟩ | ⟨e1, e2⟩ | ⟨e1, e2⟩
          · exact absurd (by rw [← e2]; exact c1) c2
          · rw [q3, p3] at e2; omega
          · exact absurd (by rw [← e1]; exact c1) c2
      · obtain ⟨p1, p2, p3, p4, p5, p6⟩ := mPart_one hi c1 h
        by_cases c2 : us[i].2.2.1 = 0
        · obtain ⟨q1, q2, q3, q4, q5, q6⟩ := mPart_two hiu c2 hu
          have qa := mPart_in q2
          rcases h1 with ⟨e1, e2⟩ | ⟨e1, e2⟩ | ⟨e1, e2⟩
          · exact absurd (by rw [e2]; exact c2) c1
          · rw [p3, q3] at e2; omega
          · exact absurd (by rw [e1]; exact c2) c1
        · obtain ⟨q1, q2, q3, q4, q5, q6⟩ := mPart_one hiu c2 hu
          by_cases ec : ns[i].2.2.1 = us[i].2.2.1
          · exact .inl (num_eq (by rw [p2, q2]) ec (by rw [p3, q3]))
          · exact .inr ⟨by rw [p5, q5], by rw [p6, q6]; omega⟩
    · have he := hn i hc
      rw [getD_at hi, getD_at hiu] at he
      by_cases c1 : ns[i].2.2.1 = 0
      · obtain ⟨p1, p2, p3, p4, p5, p6⟩ := mPart_two hi c1 h
        obtain ⟨q1, q2, q3, q4, q5, q6⟩ := mPart_two hiu (by rw [← he]; exact c1) hu
        have pa := mPart_in p2
        have pb := mPart_in p4
        rw [p5] at hcx
        by_cases g : (c : Int) < (mPart ns m (i + 1) th).1
        · rcases part_one hl hn h1 f (i + 1) th (by omega) (by omega) p2 g q2 with e | ⟨e1, e2⟩
          · exact .inl e
          · rw [e1] at q4
            exact absurd (part_start hl (ns.length + 1) _ _ _ (by omega) p4 q4 (fun j hj => hn j (by omega))).symm e2
        · have e := part_same hl (ns.length + 1) (i + 1) th (by omega) p2 (fun j hj => hn j (by omega))
          rw [e] at q4 q5 q6
          rw [p5, p6, q5, q6]
          exact part_one hl hn h1 f _ _ (by omega) (by omega) p4 hcx q4
      · obtain ⟨_, _, _, _, p5, _⟩ := mPart_one hi c1 h
        omega

theorem whole_one {ns us : List Nd} {m : Int} {c : Nat} (hl : us.length = ns.length) (hcl : c < ns.length) (hn : NumAt ns us (fun j => j ≠ c)) (h1 : OneNum (ns.getD c nd0) (us.getD c nd0)) (h : (mWhole ns m).2.2.2.2 = true) (hu : (mWhole us m).2.2.2.2 = true) : (ns.getD c nd0).2 = (us.getD c nd0).2 := by
  obtain ⟨a1, a2, a3⟩ := whole_part h (by omega)
  obtain ⟨b1, b2, b3⟩ := whole_part hu (by omega)
  rcases part_one hl hn h1 (ns.length + 1) 0 0 (by omega) (by omega) a1 (by omega) b1 with e | ⟨e1, e2⟩
  · exact e
  · exact absurd (by rw [a3, b3]) e2

theorem from_same {ns us : List Nd} (hn : ∀ j, (ns.getD j nd0).2 = (us.getD j nd0).2) : ∀ k, mFrom us k = mFrom ns k
  | 0 => rfl
  | k + 1 => by rw [mFrom_succ, mFrom_succ, from_same hn k, hn k]

/-- With another box, or another number, in one of its nodes it is not whole. -/
theorem spoilt {ns us : List Nd} {P : Nat → Pr} {ord : List Int} {n c : Nat} (hl : us.length = ns.length) (hcl : c < ns.length) (hn : ∀ j, j ≠ c → ns.getD j nd0 = us.getD j nd0) (h1 : OneNum (ns.getD c nd0) (us.getD c nd0)) (h : mWh ns P ord n = true) (hu : mWh us P ord n = true) : us.getD c nd0 = ns.getD c nd0 := by
  unfold mWh at h hu
  rw [Bool.and_eq_true, Bool.and_eq_true, Bool.and_eq_true, mBoxes_iff] at h hu
  obtain ⟨w1, _, _, w4⟩ := h
  obtain ⟨u1, _, _, u4⟩ := hu
  have e := whole_one hl hcl (fun j hj => by rw [hn j hj]) h1 w1 u1
  have hnum : ∀ j, (ns.getD j nd0).2 = (us.getD j nd0).2 := fun j => by
    by_cases q : j = c
    · subst q; exact e
    · rw [hn j q]
  have hb : (us.getD c nd0).1 = (ns.getD c nd0).1 := by
    rw [w4 c hcl, u4 c (by omega)]
    have ef := from_same hnum c
    have et : mThing us ord.length c = mThing ns ord.length c := by
      unfold mThing
      rw [ef, part_same hl (ns.length + 1) c (mFrom ns c) (by omega) (whole_each w1 hcl) (fun j _ => hnum j)]
    rw [ef, et]
  exact Prod.ext hb e.symm

theorem getD_set {ns : List Nd} {c j : Nat} {d : Nd} (hc : c < ns.length) : (ns.set c d).getD j nd0 = if j = c then d else ns.getD j nd0 := by
  rw [List.getD_eq_getElem?_getD, List.getD_eq_getElem?_getD, List.getElem?_set]
  by_cases e : j = c
  · subst e; rw [if_pos rfl, if_pos rfl, if_pos hc]; rfl
  · rw [if_neg (fun q => e q.symm), if_neg e]

theorem set_whole {ns : List Nd} {P : Nat → Pr} {ord : List Int} {n c : Nat} {d : Nd} (hc : c < ns.length) (h1 : OneNum (ns.getD c nd0) d) (h : mWh ns P ord n = true) : mWh (ns.set c d) P ord n = decide (d = ns.getD c nd0) := by
  by_cases e : d = ns.getD c nd0
  · rw [decide_eq_true e, e]
    have : ns.set c (ns.getD c nd0) = ns := by
      apply List.ext_getElem?
      intro i
      rw [List.getElem?_set]
      by_cases q : c = i
      · subst q; rw [if_pos rfl, if_pos hc, getD_at hc, List.getElem?_eq_getElem hc]
      · rw [if_neg q]
    rw [this, h]
  · rw [decide_eq_false e]
    cases hu : mWh (ns.set c d) P ord n with
    | false => rfl
    | true =>
      have g := spoilt (ns := ns) (us := ns.set c d) (P := P) (ord := ord) (n := n) (c := c) List.length_set hc (fun j hj => by rw [getD_set hc, if_neg hj]) (by rw [getD_set hc, if_pos rfl]; exact h1) h hu
      rw [getD_set hc, if_pos rfl] at g
      exact absurd g e

end
end Go.Proofs.Sky

namespace Go.Proofs.Ytomlcglnkdfemaa
section

open Go.RowKit Go.Proofs.Sky

set_option linter.unusedVariables false

theorem flat_one {α : Type} {f : α → List Value} (h : ∀ x, ∀ u ∈ f x, u.oneCell' = true) (l : List α) : ∀ u ∈ l.flatMap f, u.oneCell' = true := by
  intro u hu
  rw [List.mem_flatMap] at hu
  obtain ⟨i, _, hu⟩ := hu
  exact h i u hu

end
end Go.Proofs.Ytomlcglnkdfemaa

namespace Go.Proofs.Ytomlcglnkdfemaa
section

open Go.RowKit Go.Proofs.Sky

set_option linter.unusedVariables false

set_option linter.unusedSimpArgs false

theorem owns_store {B : Nat} {e : TypeId} {size n cap g : Nat} : ∀ (vs : List Value) (o : Nat) (w : World) (xs : List Value), w.ownsRow B e size (.slice (some ⟨g, 0, none⟩) n cap) n xs → o + vs.length ≤ xs.length →
    (w.setCells g o vs).ownsRow B e size (.slice (some ⟨g, 0, none⟩) n cap) n (xs.take o ++ vs ++ xs.drop (o + vs.length)) ∧ w.grownBy (w.setCells g o vs) (some g)
  | [], o, w, xs, h, hl => by
    refine ⟨?_, ⟨rfl, rfl, rfl, Nat.le_refl _, fun _ _ _ => rfl⟩⟩
    show w.ownsRow B e size _ n _
    rw [List.append_nil, List.length_nil, Nat.add_zero, List.take_append_drop]
    exact h
  | v :: vs, o, w, xs, h, hl => by
    have h1 := World.ownsRow.stored h o v
    have h2 := owns_store vs (o + 1) _ _ h1.1 (by simp at hl ⊢; omega)
    refine ⟨?_, World.grownBy.trans h1.2 h2.2⟩
    show ((w.setCell ⟨g, o, none⟩ v).setCells g (o + 1) vs).ownsRow B e size _ n _
    have e1 : (xs.set o v).take (o + 1) ++ vs ++ (xs.set o v).drop (o + 1 + vs.length) = xs.take o ++ (v :: vs) ++ xs.drop (o + (v :: vs).length) := by
      have hlo : o < xs.length := by simp at hl; omega
      apply List.ext_getElem?
      intro i
      simp only [List.append_assoc, List.getElem?_append, List.length_take, List.length_set, List.getElem?_take, List.getElem?_drop, List.getElem?_set, List.length_cons]
      have q1 : min (o + 1) xs.length = o + 1 := by omega
      have q2 : min o xs.length = o := by omega
      rw [q1, q2]
      by_cases h1 : i < o
      · rw [if_pos (by omega), if_pos (by omega), if_neg (by omega), if_pos h1, if_pos h1]
      · by_cases h2 : i = o
        · subst h2
          rw [if_pos (by omega), if_pos (by omega), if_pos rfl, if_pos hlo, if_neg (by omega), Nat.sub_self]
          simp
        · rw [if_neg (by omega), if_neg h1]
          have e3 : i - o = (i - (o + 1)) + 1 := by omega
          simp only [e3, List.getElem?_cons_succ]
          by_cases h3 : i - (o + 1) < vs.length
          · rw [if_pos h3, if_pos (by omega)]
          · rw [if_neg h3, if_neg (by omega), if_neg (by omega)]
            congr 1
            omega
    rw [← e1]
    exact h2.1

theorem flat_store {α : Type} (f : α → List Value) (c : Nat) (hf : ∀ x, (f x).length = c) : ∀ (l : List α) (i : Nat) (x : α), i < l.length → (l.flatMap f).take (i * c) ++ f x ++ (l.flatMap f).drop (i * c + c) = (l.set i x).flatMap f
  | [], i, x, h => by simp at h
  | y :: l, 0, x, _ => by
    rw [Nat.zero_mul, Nat.zero_add, List.take_zero, List.nil_append, List.flatMap_cons, ← hf y, List.drop_left]
    rfl
  | y :: l, i + 1, x, h => by
    have ih := flat_store f c hf l i x (by simpa using h)
    rw [List.set_cons_succ, List.flatMap_cons, List.flatMap_cons, ← ih, List.take_append, List.drop_append, hf, List.take_of_length_le (by rw [hf, Nat.succ_mul]; omega), List.drop_eq_nil_of_le (by rw [hf, Nat.succ_mul]; omega), List.nil_append,
      show (i + 1) * c - c = i * c by rw [Nat.succ_mul]; omega, show (i + 1) * c + c - c = i * c + c by rw [Nat.succ_mul]; omega]
    simp only [List.append_assoc]

/-- A node of a row, written. -/
theorem nodrow_set {w : World} {B g cap k : Nat} {ns : List Nd} (d : Nd) (h : NodRow w B (.slice (some ⟨g, 0, none⟩) ns.length cap) ns) (hk : k < ns.length) :
    NodRow (w.setCells g (k * 9) (ncells d)) B (.slice (some ⟨g, 0, none⟩) ns.length cap) (ns.set k d) ∧ w.grownBy (w.setCells g (k * 9) (ncells d)) (some g) := by
  have hl := flat_len ncells 9 ncells_len ns
  have h2 := owns_store (ncells d) (k * 9) w _ h (by rw [hl, ncells_len]; omega)
  rw [ncells_len, flat_store ncells 9 ncells_len ns k d hk] at h2
  refine ⟨?_, h2.2⟩
  unfold NodRow
  rw [List.length_set]
  exact h2.1

set_option maxRecDepth 100000 in
theorem node_eq16 (a1 a2 a3 a4 a5 a6 a7 a8 a9 b1 b2 b3 b4 b5 b6 b7 b8 b9 : Int) (w : World) : (Op.equalIn 10000 48 (.agg #[.int .i64 a1, .int .i64 a2, .int .i64 a3, .int .i64 a4, .int .i64 a5, .int .i64 a6, .int .i64 a7, .int .i64 a8, .int .i64 a9]) (.agg #[.int .i64 b1, .int .i64 b2, .int .i64 b3, .int .i64 b4, .int .i64 b5, .int .i64 b6, .int .i64 b7, .int .i64 b8, .int .i64 b9])).run Try.prog w = .ok (decide (((((a1, a2, a3), a4, a5, a6), a7, a8, a9) : Nd) = (((b1, b2, b3), b4, b5, b6), b7, b8, b9))) w := by
  rw [run_equalIn_agg w 9999 48 _ _ (by kernel_rfl) (by kernel_rfl)]
  simp [Op.eqFields, go_sem]
  by_cases h1 : a1 = b1
  rotate_left
  · simp [h1]
  by_cases h2 : a2 = b2
  rotate_left
  · simp [h1, h2]
  by_cases h3 : a3 = b3
  rotate_left
  · simp [h1, h2, h3]
  by_cases h4 : a4 = b4
  rotate_left
  · simp [h1, h2, h3, h4]
  by_cases h5 : a5 = b5
  rotate_left
  · simp [h1, h2, h3, h4, h5]
  by_cases h6 : a6 = b6
  rotate_left
  · simp [h1, h2, h3, h4, h5, h6]
  by_cases h7 : a7 = b7
  rotate_left
  · simp [h1, h2, h3, h4, h5, h6, h7]
  by_cases h8 : a8 = b8
  rotate_left
  · simp [h1, h2, h3, h4, h5, h6, h7, h8]
  by_cases h9 : a9 = b9
  rotate_left
  · simp [h1, h2, h3, h4, h5, h6, h7, h8, h9]
  simp [h1, h2, h3, h4, h5, h6, h7, h8, h9]

theorem node_eql16 (a1 a2 a3 a4 a5 a6 a7 a8 a9 b1 b2 b3 b4 b5 b6 b7 b8 b9 : Int) (x y : Operand) (w : World) (ev : Operand → Value) (dst : Option Nat) (t : TypeId) (ps : String) (af : Array Edge) (gd : Option (Nat × Bool)) (hx : ev x = .agg #[.int .i64 a1, .int .i64 a2, .int .i64 a3, .int .i64 a4, .int .i64 a5, .int .i64 a6, .int .i64 a7, .int .i64 a8, .int .i64 a9]) (hy : ev y = .agg #[.int .i64 b1, .int .i64 b2, .int .i64 b3, .int .i64 b4, .int .i64 b5, .int .i64 b6, .int .i64 b7, .int .i64 b8, .int .i64 b9]) :
    (execOp ev { dst := dst, op := .binOp .eql 48 x y 48, type := t, pos := ps, after := af, guard := gd }).run Try.prog w = .ok (.value (.bool (decide (((((a1, a2, a3), a4, a5, a6), a7, a8, a9) : Nd) = (((b1, b2, b3), b4, b5, b6), b7, b8, b9))))) w := by
  have e := node_eq16 a1 a2 a3 a4 a5 a6 a7 a8 a9 b1 b2 b3 b4 b5 b6 b7 b8 b9 w
  have g : Try.prog.eqGuardType Try.prog.depth 48 = false := by kernel_rfl
  simp only [execOp, hx, hy]
  simp [run_eqGuard_agg _ _ _ _ _ _ _ g, run_eql_struct, e]

theorem owns_at16 {w : World} {B g c N k q : Nat} {ns : List Nd} {d : Nd} (h : NodRow w B (.slice (some ⟨g, 0, none⟩) N c) ns) (hN : N = ns.length) (hk : k < ns.length) (hd : ns.getD k nd0 = d) (hq : q < 9) : w.cell? ⟨g, k * 9 + q, none⟩ = (ncells d)[q]? := by
  subst hd hN
  rw [getD_at hk]
  have e := owns_at ncells_len h hk hq
  rw [e]

theorem ordrow_alloc {w W : World} {B : Nat} {v : Value} {l : List Int} {ob : Obj} (hW : W = w.alloc ob) (h : OrdRow w B v l) : OrdRow W B v l := by
  subst hW; exact World.ownsRow.alloc h ob

set_option maxRecDepth 100000 in
set_option maxHeartbeats 8000000 in
theorem wholelaw_a (lp : Option Addr) (n lc av kv : Nat) (o1 o2 o3 o4 o5 o6 o7 o8 o9 : Int) (w : World) (h1 : 24 < n) :
    Calls Try.prog 4 #[.slice lp n lc, .int .u8 (av : Int), .agg #[.int .i64 o1, .int .i64 o2, .int .i64 o3, .int .i64 o4, .int .i64 o5, .int .i64 o6, .int .i64 o7, .int .i64 o8, .int .i64 o9], .int .u8 (kv : Int)] w fun en w' => en = .returned (.bool true) ∧ Below w.heap.size w w' := by
  have t1 : decide (24 < (n : Int)) = true := decide_eq_true (by omega)
  clear h1
  have KA := Lib.hid (fun w => awake16 w)
  go_enter Try.func4, Try.ntmps4
  go_upto_region 1 with (fail)
  obtain ⟨W1, hW1⟩ : ∃ W, W = w.alloc (.cells #[.int .i64 o1, .int .i64 o2, .int .i64 o3, .int .i64 o4, .int .i64 o5, .int .i64 o6, .int .i64 o7, .int .i64 o8, .int .i64 o9] 43) := ⟨_, rfl⟩
  obtain ⟨k_o, B1⟩ := st1 hW1
  rw [← hW1]
  clear hW1
  obtain ⟨c_o_0, c_o_1, c_o_2, c_o_3, c_o_4, c_o_5, c_o_6, c_o_7, c_o_8⟩ := bwc9 (k_o)
  obtain ⟨p1, hp1⟩ : ∃ p : BW W1, p.w = W1 := ⟨BW.start W1, rfl⟩
  rw [← hp1]
  clear hp1
  go_wp2_with (go_at_call 5; (with_reducible refine (bw_call KA.out _).mono ?_); rintro e w' ⟨rfl, q, rfl⟩)
  go_ret
  exact ⟨rfl, bw_below B1 _⟩

set_option maxRecDepth 100000 in
set_option maxHeartbeats 8000000 in
theorem wholelaw_b (lp : Option Addr) (n lc av kv : Nat) (o1 o2 o3 o4 o5 o6 o7 o8 o9 : Int) (w : World) (h1 : n = 0) :
    Calls Try.prog 4 #[.slice lp n lc, .int .u8 (av : Int), .agg #[.int .i64 o1, .int .i64 o2, .int .i64 o3, .int .i64 o4, .int .i64 o5, .int .i64 o6, .int .i64 o7, .int .i64 o8, .int .i64 o9], .int .u8 (kv : Int)] w fun en w' => en = .returned (.bool true) ∧ Below w.heap.size w w' := by
  subst h1
  have KA := Lib.hid (fun w => awake16 w)
  go_enter Try.func4, Try.ntmps4
  go_upto_region 1 with (fail)
  obtain ⟨W1, hW1⟩ : ∃ W, W = w.alloc (.cells #[.int .i64 o1, .int .i64 o2, .int .i64 o3, .int .i64 o4, .int .i64 o5, .int .i64 o6, .int .i64 o7, .int .i64 o8, .int .i64 o9] 43) := ⟨_, rfl⟩
  obtain ⟨k_o, B1⟩ := st1 hW1
  rw [← hW1]
  clear hW1
  obtain ⟨c_o_0, c_o_1, c_o_2, c_o_3, c_o_4, c_o_5, c_o_6, c_o_7, c_o_8⟩ := bwc9 (k_o)
  obtain ⟨p1, hp1⟩ : ∃ p : BW W1, p.w = W1 := ⟨BW.start W1, rfl⟩
  rw [← hp1]
  clear hp1
  go_wp2_with (go_at_call 5; (with_reducible refine (bw_call KA.out _).mono ?_); rintro e w' ⟨rfl, q, rfl⟩)
  go_ret
  exact ⟨rfl, bw_below B1 _⟩

set_option maxRecDepth 100000 in
set_option maxHeartbeats 8000000 in
theorem wholelaw_c (lp : Option Addr) (n lc av kv : Nat) (o1 o2 o3 o4 o5 o6 o7 o8 o9 : Int) (w : World) (h1 : ¬ 24 < n) (h2 : ¬ n = 0) (KR : Hid (∀ X, Below w.heap.size w X → Calls Try.prog 15 #[.slice lp n lc] X fun e w' => e = .returned (.bool false) ∧ Below X.heap.size X w')) :
    Calls Try.prog 4 #[.slice lp n lc, .int .u8 (av : Int), .agg #[.int .i64 o1, .int .i64 o2, .int .i64 o3, .int .i64 o4, .int .i64 o5, .int .i64 o6, .int .i64 o7, .int .i64 o8, .int .i64 o9], .int .u8 (kv : Int)] w fun en w' => en = .returned (.bool true) ∧ Below w.heap.size w w' := by
  have t1 : decide (24 < (n : Int)) = false := decide_eq_false (by omega)
  have t2 : ((n : Int) == 0) = false := by rw [beq_eq_false_iff_ne]; omega
  clear h1 h2
  have KA := Lib.hid (fun w => awake16 w)
  go_enter Try.func4, Try.ntmps4
  go_upto_region 1 with (fail)
  obtain ⟨W1, hW1⟩ : ∃ W, W = w.alloc (.cells #[.int .i64 o1, .int .i64 o2, .int .i64 o3, .int .i64 o4, .int .i64 o5, .int .i64 o6, .int .i64 o7, .int .i64 o8, .int .i64 o9] 43) := ⟨_, rfl⟩
  obtain ⟨k_o, B1⟩ := st1 hW1
  rw [← hW1]
  clear hW1
  obtain ⟨c_o_0, c_o_1, c_o_2, c_o_3, c_o_4, c_o_5, c_o_6, c_o_7, c_o_8⟩ := bwc9 (k_o)
  obtain ⟨p1, hp1⟩ : ∃ p : BW W1, p.w = W1 := ⟨BW.start W1, rfl⟩
  rw [← hp1]
  clear hp1
  go_wp2_with (first
    | (go_at_call 5; (with_reducible refine (bw_call KA.out _).mono ?_); rintro e w' ⟨rfl, q, rfl⟩)
    | (go_at_call 15; (with_reducible refine (KR.out _ (bw_below B1 _)).mono ?_); rintro e w' ⟨rfl, hb2⟩; obtain ⟨q, rfl⟩ := bw_take hb2))
  go_ret
  exact ⟨rfl, bw_below B1 _⟩

set_option maxRecDepth 100000 in
set_option maxHeartbeats 8000000 in
theorem wholelaw_d (lp : Option Addr) (n lc av kv : Nat) (o1 o2 o3 o4 o5 o6 o7 o8 o9 : Int) (ns : List Nd) (ord : List Int) (N : Nat) (dp lv : Int) (wh : List Nd → Bool) (w : World) (h1 : ¬ 24 < n) (h2 : ¬ n = 0) (hN : N = ns.length) (hn : n = ord.length) (hav : av ≤ 255) (hkv : kv ≤ 255) (hN0 : 0 < N) (hN2 : N < 2 * n) (hd : dp ≤ n) (hlv : 2 * lv = N + 1) (hwt : wh ns = true) (hws : ∀ c d, c < ns.length → OneNum (ns.getD c nd0) d → wh (ns.set c d) = decide (d = ns.getD c nd0)) (KR : Hid (∀ X, Below w.heap.size w X → Calls Try.prog 15 #[.slice lp n lc] X fun e w' => e = .returned (.bool true) ∧ Below X.heap.size X w')) (KB : Hid (∀ X, Below w.heap.size w X → Calls Try.prog 16 #[.slice lp n lc] X fun e w1 => ∃ ga cu go co, e = .returned (.agg #[.slice (some ⟨ga, 0, none⟩) N cu, .slice (some ⟨go, 0, none⟩) n co]) ∧ NodRow w1 w.heap.size (.slice (some ⟨ga, 0, none⟩) N cu) ns ∧ OrdRow w1 w.heap.size (.slice (some ⟨go, 0, none⟩) n co) ord ∧ Below X.heap.size X w1)) (KW : Hid (∀ (X : World) (us : List Nd) (gu cu go co : Nat), Below w.heap.size w X → us.length = N → NodRow X w.heap.size (.slice (some ⟨gu, 0, none⟩) N cu) us → OrdRow X w.heap.size (.slice (some ⟨go, 0, none⟩) n co) ord → (Calls Try.prog 9 #[.agg #[.slice (some ⟨gu, 0, none⟩) N cu, .slice (some ⟨go, 0, none⟩) n co], .slice lp n lc] X fun e w' => e = .returned (.bool (wh us)) ∧ Below X.heap.size X w'))) (KO : Hid (∀ (X : World) (gu cu go co : Nat), Below w.heap.size w X → NodRow X w.heap.size (.slice (some ⟨gu, 0, none⟩) N cu) ns → Calls Try.prog 7 #[.agg #[.slice (some ⟨gu, 0, none⟩) N cu, .slice (some ⟨go, 0, none⟩) n co]] X fun e w' => e = .returned (.bool true) ∧ Below X.heap.size X w')) (KD : Hid (∀ (X : World) (gu cu go co : Nat), Below w.heap.size w X → NodRow X w.heap.size (.slice (some ⟨gu, 0, none⟩) N cu) ns → Calls Try.prog 11 #[.agg #[.slice (some ⟨gu, 0, none⟩) N cu, .slice (some ⟨go, 0, none⟩) n co]] X fun e w' => e = .returned (.int .i64 dp) ∧ Below X.heap.size X w')) (KL : Hid (∀ (X : World) (gu cu go co : Nat), Below w.heap.size w X → NodRow X w.heap.size (.slice (some ⟨gu, 0, none⟩) N cu) ns → Calls Try.prog 13 #[.agg #[.slice (some ⟨gu, 0, none⟩) N cu, .slice (some ⟨go, 0, none⟩) n co]] X fun e w' => e = .returned (.int .i64 lv) ∧ Below X.heap.size X w')) :
    Calls Try.prog 4 #[.slice lp n lc, .int .u8 (av : Int), .agg #[.int .i64 o1, .int .i64 o2, .int .i64 o3, .int .i64 o4, .int .i64 o5, .int .i64 o6, .int .i64 o7, .int .i64 o8, .int .i64 o9], .int .u8 (kv : Int)] w fun en w' => en = .returned (.bool true) ∧ Below w.heap.size w w' := by
  have t1 : decide (24 < (n : Int)) = false := decide_eq_false (by omega)
  have t2 : ((n : Int) == 0) = false := by rw [beq_eq_false_iff_ne]; omega
  have HN := Lib.hid hN
  have HNN := Lib.hid hn
  have HWT := Lib.hid hwt
  have HWS := Lib.hid hws
  have hn24 : n ≤ 24 := by omega
  have e1 : IntKind.i64.wrap (2 * (n : Int)) = 2 * (n : Int) := by rw [i64w]; omega
  have e2 : decide (2 * (n : Int) ≤ (N : Int)) = false := decide_eq_false (by omega)
  have e3 : ((N : Int) == 0) = false := by rw [beq_eq_false_iff_ne]; omega
  have e4 : decide ((n : Int) < dp) = false := decide_eq_false (by omega)
  have e5 : IntKind.i64.wrap (2 * lv) = (N : Int) + 1 := by rw [i64w]; omega
  have e6 : IntKind.i64.wrap ((N : Int) + 1) = (N : Int) + 1 := by rw [i64w]; omega
  have KA := Lib.hid (fun w => awake16 w)
  obtain ⟨i0, hi0, hz0, hz1, hz2⟩ := info_parts node_info
  obtain ⟨i1, hi1, hy0, hy1, hy2⟩ := info_parts int_info15
  clear h1 h2 hN hn hwt hws hd hlv
  go_enter Try.func4, Try.ntmps4
  go_upto_region 1 with (fail)
  obtain ⟨W1, hW1⟩ : ∃ W, W = w.alloc (.cells #[.int .i64 o1, .int .i64 o2, .int .i64 o3, .int .i64 o4, .int .i64 o5, .int .i64 o6, .int .i64 o7, .int .i64 o8, .int .i64 o9] 43) := ⟨_, rfl⟩
  obtain ⟨k_o, B1⟩ := st1 hW1
  rw [← hW1]
  clear hW1
  obtain ⟨c_o_0, c_o_1, c_o_2, c_o_3, c_o_4, c_o_5, c_o_6, c_o_7, c_o_8⟩ := bwc9 (k_o)
  obtain ⟨p1, hp1⟩ : ∃ p : BW W1, p.w = W1 := ⟨BW.start W1, rfl⟩
  rw [← hp1]
  clear hp1
  go_upto_region 4 with (first
    | (go_at_call 15; (with_reducible refine (KR.out _ (bw_below B1 _)).mono ?_); rintro e w' ⟨rfl, hb2⟩; obtain ⟨q, rfl⟩ := bw_take hb2)
    | (go_at_call 16; (with_reducible refine (KB.out _ (bw_below B1 _)).mono ?_); rintro e w2 ⟨ga, cu, go, co, rfl, hu, hv, hb2⟩; obtain ⟨q2, rfl⟩ := bw_take hb2))
  obtain ⟨W2, hW2⟩ : ∃ W, W = q2.w.alloc (.cells #[.slice (some ⟨ga, 0, none⟩) N cu, .slice (some ⟨go, 0, none⟩) n co] 30) := ⟨_, rfl⟩
  have B2 : Below w.heap.size w W2 := by rw [hW2]; exact (bw_below B1 q2).alloc (bw_below B1 q2).size _
  have l_t : w.heap.size < q2.w.heap.size := (k_o.below q2.h).lt
  have o_t : w.heap.size ≤ q2.w.heap.size := (bw_below B1 q2).size
  have k_o := bka hW2 (k_o.below q2.h)
  have hu := nodrow_alloc hW2 hu
  have hv := ordrow_alloc hW2 hv
  have k_t := bkn hW2
  rw [← hW2]
  clear hW2
  clear B1
  clear c_o_0 c_o_1 c_o_2 c_o_3 c_o_4 c_o_5 c_o_6 c_o_7 c_o_8
  generalize q2.w.heap.size = g_t at *
  have KW1 := Lib.hid (fun (Y : World) (hY : Below W2.heap.size W2 Y) => KW.out Y ns ga cu go co (B2.trans (hY.mono B2.size)) HN.out.symm (hu.below hY) (hv.below hY))
  rw [HWT.out] at KW1
  have KO1 := Lib.hid (fun (Y : World) (hY : Below W2.heap.size W2 Y) => KO.out Y ga cu go co (B2.trans (hY.mono B2.size)) (hu.below hY))
  have KD1 := Lib.hid (fun (Y : World) (hY : Below W2.heap.size W2 Y) => KD.out Y ga cu go co (B2.trans (hY.mono B2.size)) (hu.below hY))
  have KL1 := Lib.hid (fun (Y : World) (hY : Below W2.heap.size W2 Y) => KL.out Y ga cu go co (B2.trans (hY.mono B2.size)) (hu.below hY))
  obtain ⟨c_o_0, c_o_1, c_o_2, c_o_3, c_o_4, c_o_5, c_o_6, c_o_7, c_o_8⟩ := bwc9 (k_o)
  obtain ⟨c_t_0, c_t_1⟩ := bwc2 (k_t)
  obtain ⟨p2, hp2⟩ : ∃ p : BW W2, p.w = W2 := ⟨BW.start W2, rfl⟩
  rw [← hp2]
  clear hp2
  refine wp_region_bw (by kernel_rfl) (by kernel_rfl) ?_
  repeat (go_big_quiet_step (first
      | (go_at_call 9; (with_reducible exact (bw_callB KW1.out (Below.refl _ _) _)))
      | (go_at_call 7; (with_reducible exact (bw_callB KO1.out (Below.refl _ _) _)))
      | (go_at_call 11; (with_reducible exact (bw_callB KD1.out (Below.refl _ _) _)))
      | (go_at_call 13; (with_reducible exact (bw_callB KL1.out (Below.refl _ _) _)))))
  refine wpQuiet_nil ?_
  intro _ hw'
  obtain ⟨q, rfl⟩ := hw'
  clear KW1 KO1 KD1 KL1 KO KD KL KB e1 e2 e4 e5 e6
  go_upto_region 7 with (fail)
  obtain ⟨W3, hW3⟩ : ∃ W, W = q.w.alloc (.cells #[.slice none 0 0, .slice none 0 0] 30) := ⟨_, rfl⟩
  have B3 : Below w.heap.size w W3 := by rw [hW3]; exact (bw_below B2 q).alloc (bw_below B2 q).size _
  have l_u : g_t < q.w.heap.size := (k_t.below q.h).lt
  have o_u : w.heap.size ≤ q.w.heap.size := (bw_below B2 q).size
  have l_u_o : w.heap.size < q.w.heap.size := (k_o.below q.h).lt
  have k_o := bka hW3 (k_o.below q.h)
  have k_t := bka hW3 (k_t.below q.h)
  have hu := nodrow_alloc hW3 (hu.below q.h)
  have hv := ordrow_alloc hW3 (hv.below q.h)
  have k_u := bkn hW3
  rw [← hW3]
  clear hW3
  clear B2
  clear c_o_0 c_o_1 c_o_2 c_o_3 c_o_4 c_o_5 c_o_6 c_o_7 c_o_8 c_t_0 c_t_1
  generalize q.w.heap.size = g_u at *
  obtain ⟨c_o_0, c_o_1, c_o_2, c_o_3, c_o_4, c_o_5, c_o_6, c_o_7, c_o_8⟩ := bwc9 (k_o)
  obtain ⟨c_t_0, c_t_1⟩ := bwc2 (k_t)
  obtain ⟨c_u_0, c_u_1⟩ := bwc2 (k_u)
  obtain ⟨f_u_0, f_u_1⟩ := bwf2 (k_u)
  obtain ⟨p3, hp3⟩ : ∃ p : BW W3, p.w = W3 := ⟨BW.start W3, rfl⟩
  rw [← hp3]
  clear hp3
  go_wp2_with (at_builtin; refine wpList_append_at rfl _ _ 28 rfl w.heap.size 48 i0 _ 9 72 Try.underlying28 hi0 hz0 hz1 hz2 rfl (by decide) (.slice none 0 0) 0 [] rfl (World.ownsRow_nil _ _ _ _) ⟨ga, 0, none⟩ N cu (ns.flatMap ncells) rfl (by rw [flat_len ncells 9 ncells_len, ← HN.out]) ?g1 ?g2 ?g3 ?g4 ?g5 ?_)
  case g1 => exact World.ownsRow.cells (hu.below p3.h) rfl
  case g2 => exact flat_one ncells_one _
  case g3 => unfold maxLen; omega
  case g4 => omega
  case g5 => exact (bw_below B3 p3).size
  intro vn w1 hown hgrow hat
  try simp only [Nat.zero_add, List.nil_append] at hown
  have hx1 := (bw_below B3 p3).size
  obtain ⟨gn, cn, rfl, hgnB, hgnl, _⟩ := owns_some hown hN0
  have hgf : gn = p3.w.heap.size := by
    rcases hat with q | q
    · cases q
    · cases q; rfl
  have hr1 : NodRow w1 w.heap.size (.slice (some ⟨gn, 0, none⟩) N cn) ns := by unfold NodRow; rw [← HN.out]; exact hown
  have hu1 := owns_grown (hu.below p3.h) hgrow (fun j _ e => by cases e)
  have hv1 := owns_grown (hv.below p3.h) hgrow (fun j _ e => by cases e)
  have hne : ga < gn := by have h := (World.ownsRow.lt (hu.below p3.h) ga rfl).2; omega
  have hb1 : Below w.heap.size w w1 := (bw_below B3 p3).grown hgrow hx1 (fun j ej => by cases ej)
  have ko1 := Bk.grown (k_o.below p3.h) hgrow (fun e => by cases e)
  have kt1 := Bk.grown (k_t.below p3.h) hgrow (fun e => by cases e)
  have ku1 := Bk.grown (k_u.below p3.h) hgrow (fun e => by cases e)
  have q0 := ku1.cell (i := 0) rfl
  have q1 := ku1.frozen 0
  clear hown hgrow hat hu hv hgf
  go_upto_region 8 with (fail)
  obtain ⟨W4, hW4⟩ : ∃ W, W = w1.setCell ⟨g_u, 0, none⟩ (.slice (some ⟨gn, 0, none⟩) N cn) := ⟨_, rfl⟩
  have B4 : Below w.heap.size w W4 := by rw [hW4]; exact hb1.setCell (p := ⟨g_u, 0, none⟩) (by show w.heap.size ≤ g_u; omega) _
  have k_o : Bk W4 w.heap.size 43 #[.int .i64 o1, .int .i64 o2, .int .i64 o3, .int .i64 o4, .int .i64 o5, .int .i64 o6, .int .i64 o7, .int .i64 o8, .int .i64 o9] := by rw [hW4]; exact ko1.other (a := ⟨g_u, 0, none⟩) (by show ¬ w.heap.size = g_u; omega) _
  have k_t : Bk W4 g_t 30 #[.slice (some ⟨ga, 0, none⟩) N cu, .slice (some ⟨go, 0, none⟩) n co] := by rw [hW4]; exact kt1.other (a := ⟨g_u, 0, none⟩) (by show ¬ g_t = g_u; omega) _
  have k_u : Bk W4 g_u 30 #[.slice (some ⟨gn, 0, none⟩) N cn, .slice none 0 0] := by rw [hW4]; exact (ku1.set 0 _).cast (by simp)
  have hu : NodRow W4 w.heap.size (.slice (some ⟨ga, 0, none⟩) N cu) ns := by rw [hW4]; exact owns_setbk hu1 (a := ⟨g_u, 0, none⟩) (owns_bk hu1 ku1 (by decide)) _
  have hv : OrdRow W4 w.heap.size (.slice (some ⟨go, 0, none⟩) n co) ord := by rw [hW4]; exact owns_setbk hv1 (a := ⟨g_u, 0, none⟩) (owns_bk hv1 ku1 (by decide)) _
  have hr : NodRow W4 w.heap.size (.slice (some ⟨gn, 0, none⟩) N cn) ns := by rw [hW4]; exact owns_setbk hr1 (a := ⟨g_u, 0, none⟩) (owns_bk hr1 ku1 (by decide)) _
  rw [← hW4]
  clear hW4 hb1 ko1 kt1 ku1 q0 q1 hu1 hv1 hr1
  obtain ⟨c_o_0, c_o_1, c_o_2, c_o_3, c_o_4, c_o_5, c_o_6, c_o_7, c_o_8⟩ := bwc9 (k_o)
  obtain ⟨c_t_0, c_t_1⟩ := bwc2 (k_t)
  obtain ⟨c_u_0, c_u_1⟩ := bwc2 (k_u)
  obtain ⟨f_u_0, f_u_1⟩ := bwf2 (k_u)
  obtain ⟨p4, hp4⟩ : ∃ p : BW W4, p.w = W4 := ⟨BW.start W4, rfl⟩
  rw [← hp4]
  clear hp4
  go_wp2_with (at_builtin; refine wpList_append_at rfl _ _ 23 rfl w.heap.size 3 i1 _ 1 8 Try.underlying23 hi1 hy0 hy1 hy2 rfl (by decide) (.slice none 0 0) 0 [] rfl (World.ownsRow_nil _ _ _ _) ⟨go, 0, none⟩ n co (ord.map (Value.int .i64)) rfl (by rw [List.length_map, ← HNN.out, Nat.mul_one]) ?g1 ?g2 ?g3 ?g4 ?g5 ?_)
  case g1 => exact World.ownsRow.cells (hv.below p4.h) rfl
  case g2 => intro u hu; obtain ⟨k, _, rfl⟩ := List.mem_map.1 hu; rfl
  case g3 => unfold maxLen; omega
  case g4 => omega
  case g5 => exact (bw_below B4 p4).size
  intro vn w1 hown hgrow hat
  try simp only [Nat.zero_add, List.nil_append] at hown
  have hx1 := (bw_below B4 p4).size
  obtain ⟨gm, cm, rfl, hgmB, hgml, _⟩ := owns_some hown (by omega)
  have hs1 : OrdRow w1 w.heap.size (.slice (some ⟨gm, 0, none⟩) n cm) ord := by unfold OrdRow; rw [← HNN.out]; exact hown
  have hu1 := owns_grown (hu.below p4.h) hgrow (fun j _ e => by cases e)
  have hv1 := owns_grown (hv.below p4.h) hgrow (fun j _ e => by cases e)
  have hr1 := owns_grown (hr.below p4.h) hgrow (fun j _ e => by cases e)
  have hb1 : Below w.heap.size w w1 := (bw_below B4 p4).grown hgrow hx1 (fun j ej => by cases ej)
  have ko1 := Bk.grown (k_o.below p4.h) hgrow (fun e => by cases e)
  have kt1 := Bk.grown (k_t.below p4.h) hgrow (fun e => by cases e)
  have ku1 := Bk.grown (k_u.below p4.h) hgrow (fun e => by cases e)
  have q0 := ku1.cell (i := 1) rfl
  have q1 := ku1.frozen 1
  clear hown hgrow hat hu hv hr
  go_upto_region 9 with (fail)
  obtain ⟨W5, hW5⟩ : ∃ W, W = w1.setCell ⟨g_u, 1, none⟩ (.slice (some ⟨gm, 0, none⟩) n cm) := ⟨_, rfl⟩
  have B5 : Below w.heap.size w W5 := by rw [hW5]; exact hb1.setCell (p := ⟨g_u, 1, none⟩) (by show w.heap.size ≤ g_u; omega) _
  have k_o : Bk W5 w.heap.size 43 #[.int .i64 o1, .int .i64 o2, .int .i64 o3, .int .i64 o4, .int .i64 o5, .int .i64 o6, .int .i64 o7, .int .i64 o8, .int .i64 o9] := by rw [hW5]; exact ko1.other (a := ⟨g_u, 1, none⟩) (by show ¬ w.heap.size = g_u; omega) _
  have k_t : Bk W5 g_t 30 #[.slice (some ⟨ga, 0, none⟩) N cu, .slice (some ⟨go, 0, none⟩) n co] := by rw [hW5]; exact kt1.other (a := ⟨g_u, 1, none⟩) (by show ¬ g_t = g_u; omega) _
  have k_u : Bk W5 g_u 30 #[.slice (some ⟨gn, 0, none⟩) N cn, .slice (some ⟨gm, 0, none⟩) n cm] := by rw [hW5]; exact (ku1.set 1 _).cast (by simp)
  have hu : NodRow W5 w.heap.size (.slice (some ⟨ga, 0, none⟩) N cu) ns := by rw [hW5]; exact owns_setbk hu1 (a := ⟨g_u, 1, none⟩) (owns_bk hu1 ku1 (by decide)) _
  have hv : OrdRow W5 w.heap.size (.slice (some ⟨go, 0, none⟩) n co) ord := by rw [hW5]; exact owns_setbk hv1 (a := ⟨g_u, 1, none⟩) (owns_bk hv1 ku1 (by decide)) _
  have hr : NodRow W5 w.heap.size (.slice (some ⟨gn, 0, none⟩) N cn) ns := by rw [hW5]; exact owns_setbk hr1 (a := ⟨g_u, 1, none⟩) (owns_bk hr1 ku1 (by decide)) _
  have hs : OrdRow W5 w.heap.size (.slice (some ⟨gm, 0, none⟩) n cm) ord := by rw [hW5]; exact owns_setbk hs1 (a := ⟨g_u, 1, none⟩) (owns_bk hs1 ku1 (by decide)) _
  rw [← hW5]
  clear hW5 hb1 ko1 kt1 ku1 q0 q1 hu1 hv1 hr1 hs1
  obtain ⟨c_o_0, c_o_1, c_o_2, c_o_3, c_o_4, c_o_5, c_o_6, c_o_7, c_o_8⟩ := bwc9 (k_o)
  obtain ⟨c_t_0, c_t_1⟩ := bwc2 (k_t)
  obtain ⟨c_u_0, c_u_1⟩ := bwc2 (k_u)
  obtain ⟨p5, hp5⟩ : ∃ p : BW W5, p.w = W5 := ⟨BW.start W5, rfl⟩
  rw [← hp5]
  clear hp5
  obtain ⟨k, hk⟩ : ∃ k, k = av % N := ⟨_, rfl⟩
  have hkN : k < N := by rw [hk]; exact Nat.mod_lt _ hN0
  have m1 : (av : Int) % (N : Int) = (k : Int) := by rw [hk]; rfl
  have m2 : Int.tmod (av : Int) (N : Int) = (k : Int) := by rw [hk]; rfl
  have hNz : ¬ ((N : Int) = 0) := by omega
  have m3 : wrap64 (av : Int) = (av : Int) := by exact IntWalk.wrap64_in _ (by omega)
  have m4 : Int.tmod (wrap64 (av : Int)) (N : Int) = (k : Int) := by rw [m3]; exact m2
  clear hk
  have hkl : k < ns.length := by rw [← HN.out]; exact hkN
  have HWK := Lib.hid (fun d => HWS.out k d hkl)
  have HDK := Lib.hid (show ns.getD k nd0 = ns[k] from getD_at hkl)
  have x0 : W5.cell? ⟨gn, k * 9 + 0, none⟩ = some (.int .i64 ns[k].1.1.1) := owns_at ncells_len (by have h := hr; unfold NodRow at h; rw [← HN.out] at h; exact h) hkl (by omega : 0 < 9)
  have x1 : W5.cell? ⟨gn, k * 9 + 1, none⟩ = some (.int .i64 ns[k].1.1.2.1) := owns_at ncells_len (by have h := hr; unfold NodRow at h; rw [← HN.out] at h; exact h) hkl (by omega : 1 < 9)
  have x2 : W5.cell? ⟨gn, k * 9 + 2, none⟩ = some (.int .i64 ns[k].1.1.2.2) := owns_at ncells_len (by have h := hr; unfold NodRow at h; rw [← HN.out] at h; exact h) hkl (by omega : 2 < 9)
  have x3 : W5.cell? ⟨gn, k * 9 + 3, none⟩ = some (.int .i64 ns[k].1.2.1) := owns_at ncells_len (by have h := hr; unfold NodRow at h; rw [← HN.out] at h; exact h) hkl (by omega : 3 < 9)
  have x4 : W5.cell? ⟨gn, k * 9 + 4, none⟩ = some (.int .i64 ns[k].1.2.2.1) := owns_at ncells_len (by have h := hr; unfold NodRow at h; rw [← HN.out] at h; exact h) hkl (by omega : 4 < 9)
  have x5 : W5.cell? ⟨gn, k * 9 + 5, none⟩ = some (.int .i64 ns[k].1.2.2.2) := owns_at ncells_len (by have h := hr; unfold NodRow at h; rw [← HN.out] at h; exact h) hkl (by omega : 5 < 9)
  have x6 : W5.cell? ⟨gn, k * 9 + 6, none⟩ = some (.int .i64 ns[k].2.1) := owns_at ncells_len (by have h := hr; unfold NodRow at h; rw [← HN.out] at h; exact h) hkl (by omega : 6 < 9)
  have x7 : W5.cell? ⟨gn, k * 9 + 7, none⟩ = some (.int .i64 ns[k].2.2.1) := owns_at ncells_len (by have h := hr; unfold NodRow at h; rw [← HN.out] at h; exact h) hkl (by omega : 7 < 9)
  have x8 : W5.cell? ⟨gn, k * 9 + 8, none⟩ = some (.int .i64 ns[k].2.2.2) := owns_at ncells_len (by have h := hr; unfold NodRow at h; rw [← HN.out] at h; exact h) hkl (by omega : 8 < 9)
  have y0 : W5.cell? ⟨ga, k * 9 + 0, none⟩ = some (.int .i64 ns[k].1.1.1) := owns_at ncells_len (by have h := hu; unfold NodRow at h; rw [← HN.out] at h; exact h) hkl (by omega : 0 < 9)
  have y1 : W5.cell? ⟨ga, k * 9 + 1, none⟩ = some (.int .i64 ns[k].1.1.2.1) := owns_at ncells_len (by have h := hu; unfold NodRow at h; rw [← HN.out] at h; exact h) hkl (by omega : 1 < 9)
  have y2 : W5.cell? ⟨ga, k * 9 + 2, none⟩ = some (.int .i64 ns[k].1.1.2.2) := owns_at ncells_len (by have h := hu; unfold NodRow at h; rw [← HN.out] at h; exact h) hkl (by omega : 2 < 9)
  have y3 : W5.cell? ⟨ga, k * 9 + 3, none⟩ = some (.int .i64 ns[k].1.2.1) := owns_at ncells_len (by have h := hu; unfold NodRow at h; rw [← HN.out] at h; exact h) hkl (by omega : 3 < 9)
  have y4 : W5.cell? ⟨ga, k * 9 + 4, none⟩ = some (.int .i64 ns[k].1.2.2.1) := owns_at ncells_len (by have h := hu; unfold NodRow at h; rw [← HN.out] at h; exact h) hkl (by omega : 4 < 9)
  have y5 : W5.cell? ⟨ga, k * 9 + 5, none⟩ = some (.int .i64 ns[k].1.2.2.2) := owns_at ncells_len (by have h := hu; unfold NodRow at h; rw [← HN.out] at h; exact h) hkl (by omega : 5 < 9)
  have y6 : W5.cell? ⟨ga, k * 9 + 6, none⟩ = some (.int .i64 ns[k].2.1) := owns_at ncells_len (by have h := hu; unfold NodRow at h; rw [← HN.out] at h; exact h) hkl (by omega : 6 < 9)
  have y7 : W5.cell? ⟨ga, k * 9 + 7, none⟩ = some (.int .i64 ns[k].2.2.1) := owns_at ncells_len (by have h := hu; unfold NodRow at h; rw [← HN.out] at h; exact h) hkl (by omega : 7 < 9)
  have y8 : W5.cell? ⟨ga, k * 9 + 8, none⟩ = some (.int .i64 ns[k].2.2.2) := owns_at ncells_len (by have h := hu; unfold NodRow at h; rw [← HN.out] at h; exact h) hkl (by omega : 8 < 9)
  generalize ns[k] = nd at *
  obtain ⟨⟨⟨n1, n2, n3⟩, n4, n5, n6⟩, n7, n8, n9⟩ := nd
  dsimp only at x0 x1 x2 x3 x4 x5 x6 x7 x8 y0 y1 y2 y3 y4 y5 y6 y7 y8
  rw [Nat.add_zero] at x0 y0
  have c_x0 : ∀ p : BW W5, p.w.cell? ⟨gn, k * 9, none⟩ = some (.int .i64 n1) := bw_cell x0
  have c_x1 : ∀ p : BW W5, p.w.cell? ⟨gn, k * 9 + 1, none⟩ = some (.int .i64 n2) := bw_cell x1
  have c_x2 : ∀ p : BW W5, p.w.cell? ⟨gn, k * 9 + 2, none⟩ = some (.int .i64 n3) := bw_cell x2
  have c_x3 : ∀ p : BW W5, p.w.cell? ⟨gn, k * 9 + 3, none⟩ = some (.int .i64 n4) := bw_cell x3
  have c_x4 : ∀ p : BW W5, p.w.cell? ⟨gn, k * 9 + 4, none⟩ = some (.int .i64 n5) := bw_cell x4
  have c_x5 : ∀ p : BW W5, p.w.cell? ⟨gn, k * 9 + 5, none⟩ = some (.int .i64 n6) := bw_cell x5
  have c_x6 : ∀ p : BW W5, p.w.cell? ⟨gn, k * 9 + 6, none⟩ = some (.int .i64 n7) := bw_cell x6
  have c_x7 : ∀ p : BW W5, p.w.cell? ⟨gn, k * 9 + 7, none⟩ = some (.int .i64 n8) := bw_cell x7
  have c_x8 : ∀ p : BW W5, p.w.cell? ⟨gn, k * 9 + 8, none⟩ = some (.int .i64 n9) := bw_cell x8
  go_upto_region 11 with (fail)
  have zu : ga < p5.w.heap.size := (World.ownsRow.lt (hu.below p5.h) ga rfl).2
  have zv : go < p5.w.heap.size := (World.ownsRow.lt (hv.below p5.h) go rfl).2
  have zr : gn < p5.w.heap.size := (World.ownsRow.lt (hr.below p5.h) gn rfl).2
  have zs : gm < p5.w.heap.size := (World.ownsRow.lt (hs.below p5.h) gm rfl).2
  obtain ⟨W6, hW6⟩ : ∃ W, W = p5.w.alloc (.cells #[.int .i64 n1, .int .i64 n2, .int .i64 n3, .int .i64 n4, .int .i64 n5, .int .i64 n6, .int .i64 n7, .int .i64 n8, .int .i64 n9] 48) := ⟨_, rfl⟩
  have B6 : Below w.heap.size w W6 := by rw [hW6]; exact (bw_below B5 p5).alloc (bw_below B5 p5).size _
  have l_d : g_u < p5.w.heap.size := (k_u.below p5.h).lt
  have o_d : w.heap.size ≤ p5.w.heap.size := (bw_below B5 p5).size
  have l_d_o : w.heap.size < p5.w.heap.size := (k_o.below p5.h).lt
  have l_d_t : g_t < p5.w.heap.size := (k_t.below p5.h).lt
  have k_o := bka hW6 (k_o.below p5.h)
  have k_t := bka hW6 (k_t.below p5.h)
  have k_u := bka hW6 (k_u.below p5.h)
  have hu := nodrow_alloc hW6 (hu.below p5.h)
  have hv := ordrow_alloc hW6 (hv.below p5.h)
  have hr := nodrow_alloc hW6 (hr.below p5.h)
  have hs := ordrow_alloc hW6 (hs.below p5.h)
  have k_d := bkn hW6
  rw [← hW6]
  clear hW6
  clear B5
  clear c_o_0 c_o_1 c_o_2 c_o_3 c_o_4 c_o_5 c_o_6 c_o_7 c_o_8 c_t_0 c_t_1 c_u_0 c_u_1 c_x0 c_x1 c_x2 c_x3 c_x4 c_x5 c_x6 c_x7 c_x8
  generalize p5.w.heap.size = g_d at *
  obtain ⟨j, hj⟩ : ∃ j, j = kv % 4 := ⟨_, rfl⟩
  have hj4 : j < 4 := by omega
  obtain ⟨c_o_0, c_o_1, c_o_2, c_o_3, c_o_4, c_o_5, c_o_6, c_o_7, c_o_8⟩ := bwc9 (k_o)
  obtain ⟨c_t_0, c_t_1⟩ := bwc2 (k_t)
  obtain ⟨c_u_0, c_u_1⟩ := bwc2 (k_u)
  obtain ⟨c_d_0, c_d_1, c_d_2, c_d_3, c_d_4, c_d_5, c_d_6, c_d_7, c_d_8⟩ := bwc9 (k_d)
  obtain ⟨f_d_0, f_d_1, f_d_2, f_d_3, f_d_4, f_d_5, f_d_6, f_d_7, f_d_8⟩ := bwf9 (k_d)
  obtain ⟨p6, hp6⟩ : ∃ p : BW W6, p.w = W6 := ⟨BW.start W6, rfl⟩
  rw [← hp6]
  clear hp6
  obtain rfl | rfl | rfl | rfl : j = 0 ∨ j = 1 ∨ j = 2 ∨ j = 3 := by omega
  · have r1 : Int.tmod (kv : Int) 4 = 0 := by rw [Int.tmod_eq_emod_of_nonneg (by omega)]; omega
    have r2 : (kv : Int) % 4 = 0 := by omega
    clear hj hj4
    go_upto_region 19 with (fail)
    obtain ⟨W7, hW7⟩ : ∃ W, W = (((((p6.w.setCell ⟨g_d, 0, none⟩ (.int .i64 o1)).setCell ⟨g_d, 1, none⟩ (.int .i64 o2)).setCell ⟨g_d, 2, none⟩ (.int .i64 o3)).setCell ⟨g_d, 3, none⟩ (.int .i64 o4)).setCell ⟨g_d, 4, none⟩ (.int .i64 o5)).setCell ⟨g_d, 5, none⟩ (.int .i64 o6) := ⟨_, rfl⟩
    have B7 : Below w.heap.size w W7 := by rw [hW7]; exact (((((((bw_below B6 p6).setCell (p := ⟨g_d, 0, none⟩) (by show w.heap.size ≤ g_d; omega) _).setCell (p := ⟨g_d, 1, none⟩) (by show w.heap.size ≤ g_d; omega) _).setCell (p := ⟨g_d, 2, none⟩) (by show w.heap.size ≤ g_d; omega) _).setCell (p := ⟨g_d, 3, none⟩) (by show w.heap.size ≤ g_d; omega) _).setCell (p := ⟨g_d, 4, none⟩) (by show w.heap.size ≤ g_d; omega) _).setCell (p := ⟨g_d, 5, none⟩) (by show w.heap.size ≤ g_d; omega) _)
    have k_o : Bk W7 (w.heap.size) 43 #[.int .i64 o1, .int .i64 o2, .int .i64 o3, .int .i64 o4, .int .i64 o5, .int .i64 o6, .int .i64 o7, .int .i64 o8, .int .i64 o9] := by rw [hW7]; exact (((((((k_o.below p6.h).other (a := ⟨g_d, 0, none⟩) (by show ¬ w.heap.size = g_d; omega) (.int .i64 o1)).other (a := ⟨g_d, 1, none⟩) (by show ¬ w.heap.size = g_d; omega) (.int .i64 o2)).other (a := ⟨g_d, 2, none⟩) (by show ¬ w.heap.size = g_d; omega) (.int .i64 o3)).other (a := ⟨g_d, 3, none⟩) (by show ¬ w.heap.size = g_d; omega) (.int .i64 o4)).other (a := ⟨g_d, 4, none⟩) (by show ¬ w.heap.size = g_d; omega) (.int .i64 o5)).other (a := ⟨g_d, 5, none⟩) (by show ¬ w.heap.size = g_d; omega) (.int .i64 o6))
    have k_t : Bk W7 (g_t) 30 #[.slice (some ⟨ga, 0, none⟩) N cu, .slice (some ⟨go, 0, none⟩) n co] := by rw [hW7]; exact (((((((k_t.below p6.h).other (a := ⟨g_d, 0, none⟩) (by show ¬ g_t = g_d; omega) (.int .i64 o1)).other (a := ⟨g_d, 1, none⟩) (by show ¬ g_t = g_d; omega) (.int .i64 o2)).other (a := ⟨g_d, 2, none⟩) (by show ¬ g_t = g_d; omega) (.int .i64 o3)).other (a := ⟨g_d, 3, none⟩) (by show ¬ g_t = g_d; omega) (.int .i64 o4)).other (a := ⟨g_d, 4, none⟩) (by show ¬ g_t = g_d; omega) (.int .i64 o5)).other (a := ⟨g_d, 5, none⟩) (by show ¬ g_t = g_d; omega) (.int .i64 o6))
    have k_u : Bk W7 (g_u) 30 #[.slice (some ⟨gn, 0, none⟩) N cn, .slice (some ⟨gm, 0, none⟩) n cm] := by rw [hW7]; exact (((((((k_u.below p6.h).other (a := ⟨g_d, 0, none⟩) (by show ¬ g_u = g_d; omega) (.int .i64 o1)).other (a := ⟨g_d, 1, none⟩) (by show ¬ g_u = g_d; omega) (.int .i64 o2)).other (a := ⟨g_d, 2, none⟩) (by show ¬ g_u = g_d; omega) (.int .i64 o3)).other (a := ⟨g_d, 3, none⟩) (by show ¬ g_u = g_d; omega) (.int .i64 o4)).other (a := ⟨g_d, 4, none⟩) (by show ¬ g_u = g_d; omega) (.int .i64 o5)).other (a := ⟨g_d, 5, none⟩) (by show ¬ g_u = g_d; omega) (.int .i64 o6))
    have k_d : Bk W7 (g_d) 48 #[.int .i64 o1, .int .i64 o2, .int .i64 o3, .int .i64 o4, .int .i64 o5, .int .i64 o6, .int .i64 n7, .int .i64 n8, .int .i64 n9] := by rw [hW7]; exact (((((((k_d.below p6.h).set 0 (.int .i64 o1)).set 1 (.int .i64 o2)).set 2 (.int .i64 o3)).set 3 (.int .i64 o4)).set 4 (.int .i64 o5)).set 5 (.int .i64 o6)).cast (by simp)
    have hu : NodRow W7 w.heap.size (.slice (some ⟨ga, 0, none⟩) N cu) ns := by rw [hW7]; exact (owns_setbk (owns_setbk (owns_setbk (owns_setbk (owns_setbk (owns_setbk (hu.below p6.h) (a := ⟨g_d, 0, none⟩) (fun e => by have e1 := Option.some.inj (show some ga = some g_d from e); omega) (.int .i64 o1)) (a := ⟨g_d, 1, none⟩) (fun e => by have e1 := Option.some.inj (show some ga = some g_d from e); omega) (.int .i64 o2)) (a := ⟨g_d, 2, none⟩) (fun e => by have e1 := Option.some.inj (show some ga = some g_d from e); omega) (.int .i64 o3)) (a := ⟨g_d, 3, none⟩) (fun e => by have e1 := Option.some.inj (show some ga = some g_d from e); omega) (.int .i64 o4)) (a := ⟨g_d, 4, none⟩) (fun e => by have e1 := Option.some.inj (show some ga = some g_d from e); omega) (.int .i64 o5)) (a := ⟨g_d, 5, none⟩) (fun e => by have e1 := Option.some.inj (show some ga = some g_d from e); omega) (.int .i64 o6))
    have hv : OrdRow W7 w.heap.size (.slice (some ⟨go, 0, none⟩) n co) ord := by rw [hW7]; exact (owns_setbk (owns_setbk (owns_setbk (owns_setbk (owns_setbk (owns_setbk (hv.below p6.h) (a := ⟨g_d, 0, none⟩) (fun e => by have e1 := Option.some.inj (show some go = some g_d from e); omega) (.int .i64 o1)) (a := ⟨g_d, 1, none⟩) (fun e => by have e1 := Option.some.inj (show some go = some g_d from e); omega) (.int .i64 o2)) (a := ⟨g_d, 2, none⟩) (fun e => by have e1 := Option.some.inj (show some go = some g_d from e); omega) (.int .i64 o3)) (a := ⟨g_d, 3, none⟩) (fun e => by have e1 := Option.some.inj (show some go = some g_d from e); omega) (.int .i64 o4)) (a := ⟨g_d, 4, none⟩) (fun e => by have e1 := Option.some.inj (show some go = some g_d from e); omega) (.int .i64 o5)) (a := ⟨g_d, 5, none⟩) (fun e => by have e1 := Option.some.inj (show some go = some g_d from e); omega) (.int .i64 o6))
    have hr : NodRow W7 w.heap.size (.slice (some ⟨gn, 0, none⟩) N cn) ns := by rw [hW7]; exact (owns_setbk (owns_setbk (owns_setbk (owns_setbk (owns_setbk (owns_setbk (hr.below p6.h) (a := ⟨g_d, 0, none⟩) (fun e => by have e1 := Option.some.inj (show some gn = some g_d from e); omega) (.int .i64 o1)) (a := ⟨g_d, 1, none⟩) (fun e => by have e1 := Option.some.inj (show some gn = some g_d from e); omega) (.int .i64 o2)) (a := ⟨g_d, 2, none⟩) (fun e => by have e1 := Option.some.inj (show some gn = some g_d from e); omega) (.int .i64 o3)) (a := ⟨g_d, 3, none⟩) (fun e => by have e1 := Option.some.inj (show some gn = some g_d from e); omega) (.int .i64 o4)) (a := ⟨g_d, 4, none⟩) (fun e => by have e1 := Option.some.inj (show some gn = some g_d from e); omega) (.int .i64 o5)) (a := ⟨g_d, 5, none⟩) (fun e => by have e1 := Option.some.inj (show some gn = some g_d from e); omega) (.int .i64 o6))
    have hs : OrdRow W7 w.heap.size (.slice (some ⟨gm, 0, none⟩) n cm) ord := by rw [hW7]; exact (owns_setbk (owns_setbk (owns_setbk (owns_setbk (owns_setbk (owns_setbk (hs.below p6.h) (a := ⟨g_d, 0, none⟩) (fun e => by have e1 := Option.some.inj (show some gm = some g_d from e); omega) (.int .i64 o1)) (a := ⟨g_d, 1, none⟩) (fun e => by have e1 := Option.some.inj (show some gm = some g_d from e); omega) (.int .i64 o2)) (a := ⟨g_d, 2, none⟩) (fun e => by have e1 := Option.some.inj (show some gm = some g_d from e); omega) (.int .i64 o3)) (a := ⟨g_d, 3, none⟩) (fun e => by have e1 := Option.some.inj (show some gm = some g_d from e); omega) (.int .i64 o4)) (a := ⟨g_d, 4, none⟩) (fun e => by have e1 := Option.some.inj (show some gm = some g_d from e); omega) (.int .i64 o5)) (a := ⟨g_d, 5, none⟩) (fun e => by have e1 := Option.some.inj (show some gm = some g_d from e); omega) (.int .i64 o6))
    rw [← hW7]
    clear hW7
    clear B6
    clear c_o_0 c_o_1 c_o_2 c_o_3 c_o_4 c_o_5 c_o_6 c_o_7 c_o_8 c_t_0 c_t_1 c_u_0 c_u_1 c_d_0 c_d_1 c_d_2 c_d_3 c_d_4 c_d_5 c_d_6 c_d_7 c_d_8 f_d_0 f_d_1 f_d_2 f_d_3 f_d_4 f_d_5 f_d_6 f_d_7 f_d_8
    obtain ⟨c_o_0, c_o_1, c_o_2, c_o_3, c_o_4, c_o_5, c_o_6, c_o_7, c_o_8⟩ := bwc9 (k_o)
    obtain ⟨c_t_0, c_t_1⟩ := bwc2 (k_t)
    obtain ⟨c_u_0, c_u_1⟩ := bwc2 (k_u)
    obtain ⟨c_d_0, c_d_1, c_d_2, c_d_3, c_d_4, c_d_5, c_d_6, c_d_7, c_d_8⟩ := bwc9 (k_d)
    obtain ⟨p7, hp7⟩ : ∃ p : BW W7, p.w = W7 := ⟨BW.start W7, rfl⟩
    rw [← hp7]
    clear hp7
    have z0 : ∀ p : BW W7, p.w.frozen? ⟨gn, k * 9, none⟩ = false := fun p => World.ownsRow.frozenAt (by have h := hr.below p.h; unfold NodRow at h; rw [← HN.out] at h; exact h) _
    have z1 : ∀ p : BW W7, p.w.frozen? ⟨gn, k * 9 + 1, none⟩ = false := fun p => World.ownsRow.frozenAt (by have h := hr.below p.h; unfold NodRow at h; rw [← HN.out] at h; exact h) _
    have z2 : ∀ p : BW W7, p.w.frozen? ⟨gn, k * 9 + 2, none⟩ = false := fun p => World.ownsRow.frozenAt (by have h := hr.below p.h; unfold NodRow at h; rw [← HN.out] at h; exact h) _
    have z3 : ∀ p : BW W7, p.w.frozen? ⟨gn, k * 9 + 3, none⟩ = false := fun p => World.ownsRow.frozenAt (by have h := hr.below p.h; unfold NodRow at h; rw [← HN.out] at h; exact h) _
    have z4 : ∀ p : BW W7, p.w.frozen? ⟨gn, k * 9 + 4, none⟩ = false := fun p => World.ownsRow.frozenAt (by have h := hr.below p.h; unfold NodRow at h; rw [← HN.out] at h; exact h) _
    have z5 : ∀ p : BW W7, p.w.frozen? ⟨gn, k * 9 + 5, none⟩ = false := fun p => World.ownsRow.frozenAt (by have h := hr.below p.h; unfold NodRow at h; rw [← HN.out] at h; exact h) _
    have z6 : ∀ p : BW W7, p.w.frozen? ⟨gn, k * 9 + 6, none⟩ = false := fun p => World.ownsRow.frozenAt (by have h := hr.below p.h; unfold NodRow at h; rw [← HN.out] at h; exact h) _
    have z7 : ∀ p : BW W7, p.w.frozen? ⟨gn, k * 9 + 7, none⟩ = false := fun p => World.ownsRow.frozenAt (by have h := hr.below p.h; unfold NodRow at h; rw [← HN.out] at h; exact h) _
    have z8 : ∀ p : BW W7, p.w.frozen? ⟨gn, k * 9 + 8, none⟩ = false := fun p => World.ownsRow.frozenAt (by have h := hr.below p.h; unfold NodRow at h; rw [← HN.out] at h; exact h) _
    have c_x0 : ∀ p : BW W7, p.w.cell? ⟨gn, k * 9, none⟩ = some (.int .i64 n1) := bw_cell (owns_at16 (q := 0) hr HN.out hkl HDK.out (by omega))
    have c_x1 : ∀ p : BW W7, p.w.cell? ⟨gn, k * 9 + 1, none⟩ = some (.int .i64 n2) := bw_cell (owns_at16 (q := 1) hr HN.out hkl HDK.out (by omega))
    have c_x2 : ∀ p : BW W7, p.w.cell? ⟨gn, k * 9 + 2, none⟩ = some (.int .i64 n3) := bw_cell (owns_at16 (q := 2) hr HN.out hkl HDK.out (by omega))
    have c_x3 : ∀ p : BW W7, p.w.cell? ⟨gn, k * 9 + 3, none⟩ = some (.int .i64 n4) := bw_cell (owns_at16 (q := 3) hr HN.out hkl HDK.out (by omega))
    have c_x4 : ∀ p : BW W7, p.w.cell? ⟨gn, k * 9 + 4, none⟩ = some (.int .i64 n5) := bw_cell (owns_at16 (q := 4) hr HN.out hkl HDK.out (by omega))
    have c_x5 : ∀ p : BW W7, p.w.cell? ⟨gn, k * 9 + 5, none⟩ = some (.int .i64 n6) := bw_cell (owns_at16 (q := 5) hr HN.out hkl HDK.out (by omega))
    have c_x6 : ∀ p : BW W7, p.w.cell? ⟨gn, k * 9 + 6, none⟩ = some (.int .i64 n7) := bw_cell (owns_at16 (q := 6) hr HN.out hkl HDK.out (by omega))
    have c_x7 : ∀ p : BW W7, p.w.cell? ⟨gn, k * 9 + 7, none⟩ = some (.int .i64 n8) := bw_cell (owns_at16 (q := 7) hr HN.out hkl HDK.out (by omega))
    have c_x8 : ∀ p : BW W7, p.w.cell? ⟨gn, k * 9 + 8, none⟩ = some (.int .i64 n9) := bw_cell (owns_at16 (q := 8) hr HN.out hkl HDK.out (by omega))
    go_upto_region 20 with (fail)
    obtain ⟨W8, hW⟩ : ∃ W, W = ((((((((p7.w.setCell ⟨gn, k * 9, none⟩ (.int .i64 o1)).setCell ⟨gn, k * 9 + 1, none⟩ (.int .i64 o2)).setCell ⟨gn, k * 9 + 2, none⟩ (.int .i64 o3)).setCell ⟨gn, k * 9 + 3, none⟩ (.int .i64 o4)).setCell ⟨gn, k * 9 + 4, none⟩ (.int .i64 o5)).setCell ⟨gn, k * 9 + 5, none⟩ (.int .i64 o6)).setCell ⟨gn, k * 9 + 6, none⟩ (.int .i64 n7)).setCell ⟨gn, k * 9 + 7, none⟩ (.int .i64 n8)).setCell ⟨gn, k * 9 + 8, none⟩ (.int .i64 n9) := ⟨_, rfl⟩
    rw [← hW]
    have hW2 : W8 = p7.w.setCells gn (k * 9) (ncells ((((o1, o2, o3), o4, o5, o6), n7, n8, n9) : Nd)) := by rw [hW]; rfl
    clear hW
    have hr0 : NodRow p7.w w.heap.size (.slice (some ⟨gn, 0, none⟩) ns.length cn) ns := by rw [← HN.out]; exact hr.below p7.h
    obtain ⟨hr1, hgr⟩ := nodrow_set ((((o1, o2, o3), o4, o5, o6), n7, n8, n9) : Nd) hr0 hkl
    rw [← HN.out] at hr1
    rw [← hW2] at hr1 hgr
    have hb1 : Below w.heap.size w W8 := (bw_below B7 p7).grown hgr (bw_below B7 p7).size (fun j ej => by cases ej; exact hgnB)
    have hu1 : NodRow W8 w.heap.size (.slice (some ⟨ga, 0, none⟩) N cu) ns := owns_grown (hu.below p7.h) hgr (fun j e e1 => by have e2 : ga = j := Option.some.inj e; have e3 : gn = j := Option.some.inj e1; omega)
    have hv1 : OrdRow W8 w.heap.size (.slice (some ⟨go, 0, none⟩) n co) ord := owns_grown (hv.below p7.h) hgr (fun j e e1 => by cases e; cases e1; exact owns_types (hv.below p7.h) hr0 (by decide) _ rfl rfl)
    have hs1 : OrdRow W8 w.heap.size (.slice (some ⟨gm, 0, none⟩) n cm) ord := owns_grown (hs.below p7.h) hgr (fun j e e1 => by cases e; cases e1; exact owns_types (hs.below p7.h) hr0 (by decide) _ rfl rfl)
    have k_o1 := Bk.grown (k_o.below p7.h) hgr (fun e => by cases e; exact owns_bk hr0 (k_o.below p7.h) (by decide) rfl)
    have k_t1 := Bk.grown (k_t.below p7.h) hgr (fun e => by cases e; exact owns_bk hr0 (k_t.below p7.h) (by decide) rfl)
    have k_u1 := Bk.grown (k_u.below p7.h) hgr (fun e => by cases e; exact owns_bk hr0 (k_u.below p7.h) (by decide) rfl)
    have k_d1 := Bk.grown (k_d.below p7.h) hgr (fun e => by cases e; omega)
    clear hu hv hr hs hr0 hgr hW2 k_o k_t k_u k_d
    clear c_o_0 c_o_1 c_o_2 c_o_3 c_o_4 c_o_5 c_o_6 c_o_7 c_o_8 c_t_0 c_t_1 c_u_0 c_u_1 c_d_0 c_d_1 c_d_2 c_d_3 c_d_4 c_d_5 c_d_6 c_d_7 c_d_8 z0 z1 z2 z3 z4 z5 z6 z7 z8 c_x0 c_x1 c_x2 c_x3 c_x4 c_x5 c_x6 c_x7 c_x8 B7
    have k_o := k_o1
    have k_t := k_t1
    have k_u := k_u1
    have k_d := k_d1
    clear k_o1 k_t1 k_u1 k_d1
    have B8 := hb1
    clear hb1
    obtain ⟨c_o_0, c_o_1, c_o_2, c_o_3, c_o_4, c_o_5, c_o_6, c_o_7, c_o_8⟩ := bwc9 (k_o)
    obtain ⟨c_t_0, c_t_1⟩ := bwc2 (k_t)
    obtain ⟨c_u_0, c_u_1⟩ := bwc2 (k_u)
    obtain ⟨c_d_0, c_d_1, c_d_2, c_d_3, c_d_4, c_d_5, c_d_6, c_d_7, c_d_8⟩ := bwc9 (k_d)
    obtain ⟨p8, hp8⟩ : ∃ p : BW W8, p.w = W8 := ⟨BW.start W8, rfl⟩
    rw [← hp8]
    clear hp8
    have one : OneNum (ns.getD k nd0) ((((o1, o2, o3), o4, o5, o6), n7, n8, n9) : Nd) := by rw [HDK.out]; exact .inl ⟨rfl, rfl⟩
    obtain ⟨zz, hzz⟩ : ∃ zz, zz = decide (((((o1, o2, o3), o4, o5, o6), n7, n8, n9) : Nd) = ((((n1, n2, n3), n4, n5, n6), n7, n8, n9) : Nd)) := ⟨_, rfl⟩
    have KU := Lib.hid (fun (Y : World) (hY : Below W8.heap.size W8 Y) => KW.out Y (ns.set k ((((o1, o2, o3), o4, o5, o6), n7, n8, n9) : Nd)) gn cn gm cm (B8.trans (hY.mono B8.size)) (by rw [List.length_set]; exact HN.out.symm) (hr1.below hY) (hs1.below hY))
    rw [HWK.out _ one, HDK.out, ← hzz] at KU
    have KT := Lib.hid (fun (Y : World) (hY : Below W8.heap.size W8 Y) => KW.out Y ns ga cu go co (B8.trans (hY.mono B8.size)) HN.out.symm (hu1.below hY) (hv1.below hY))
    have HZ := Lib.hid hzz
    clear hzz one
    rw [HWT.out] at KT
    have c_y0 : ∀ p : BW W8, p.w.cell? ⟨ga, k * 9, none⟩ = some (.int .i64 n1) := bw_cell (owns_at16 (q := 0) hu1 HN.out hkl HDK.out (by omega))
    have c_y1 : ∀ p : BW W8, p.w.cell? ⟨ga, k * 9 + 1, none⟩ = some (.int .i64 n2) := bw_cell (owns_at16 (q := 1) hu1 HN.out hkl HDK.out (by omega))
    have c_y2 : ∀ p : BW W8, p.w.cell? ⟨ga, k * 9 + 2, none⟩ = some (.int .i64 n3) := bw_cell (owns_at16 (q := 2) hu1 HN.out hkl HDK.out (by omega))
    have c_y3 : ∀ p : BW W8, p.w.cell? ⟨ga, k * 9 + 3, none⟩ = some (.int .i64 n4) := bw_cell (owns_at16 (q := 3) hu1 HN.out hkl HDK.out (by omega))
    have c_y4 : ∀ p : BW W8, p.w.cell? ⟨ga, k * 9 + 4, none⟩ = some (.int .i64 n5) := bw_cell (owns_at16 (q := 4) hu1 HN.out hkl HDK.out (by omega))
    have c_y5 : ∀ p : BW W8, p.w.cell? ⟨ga, k * 9 + 5, none⟩ = some (.int .i64 n6) := bw_cell (owns_at16 (q := 5) hu1 HN.out hkl HDK.out (by omega))
    have c_y6 : ∀ p : BW W8, p.w.cell? ⟨ga, k * 9 + 6, none⟩ = some (.int .i64 n7) := bw_cell (owns_at16 (q := 6) hu1 HN.out hkl HDK.out (by omega))
    have c_y7 : ∀ p : BW W8, p.w.cell? ⟨ga, k * 9 + 7, none⟩ = some (.int .i64 n8) := bw_cell (owns_at16 (q := 7) hu1 HN.out hkl HDK.out (by omega))
    have c_y8 : ∀ p : BW W8, p.w.cell? ⟨ga, k * 9 + 8, none⟩ = some (.int .i64 n9) := bw_cell (owns_at16 (q := 8) hu1 HN.out hkl HDK.out (by omega))
    clear KW HWK HWT HWS hu1 hv1 hr1 hs1
    refine wp_region_bw (by kernel_rfl) (by kernel_rfl) ?_
    repeat (go_big_quiet_step (first
        | (go_at_call 9; (with_reducible first | exact (bw_callB KU.out (Below.refl _ _) _) | exact (bw_callB KT.out (Below.refl _ _) _)))
        | (go_at_call 5; (with_reducible exact (bw_call KA.out _)))))
    refine quiet_value (.bool zz) (by rfl) (fun w => by rw [HZ.out]; exact node_eql16 o1 o2 o3 o4 o5 o6 n7 n8 n9 n1 n2 n3 n4 n5 n6 n7 n8 n9 _ _ w _ _ _ _ _ _ rfl rfl) ?_
    simp only [Act.put, List.setIfInBounds_toArray, List.set_cons_zero, List.set_cons_succ]
    cases zz with
    | false =>
      repeat (go_big_quiet_step (first
        | (go_at_call 9; (with_reducible first | exact (bw_callB KU.out (Below.refl _ _) _) | exact (bw_callB KT.out (Below.refl _ _) _)))
        | (go_at_call 5; (with_reducible exact (bw_call KA.out _)))))
      refine wpQuiet_nil ?_
      intro _ hw'
      obtain ⟨q, rfl⟩ := hw'
      go_wp2
      go_ret
      exact ⟨rfl, bw_below B8 _⟩
    | true =>
      repeat (go_big_quiet_step (first
        | (go_at_call 9; (with_reducible first | exact (bw_callB KU.out (Below.refl _ _) _) | exact (bw_callB KT.out (Below.refl _ _) _)))
        | (go_at_call 5; (with_reducible exact (bw_call KA.out _)))))
      refine wpQuiet_nil ?_
      intro _ hw'
      obtain ⟨q, rfl⟩ := hw'
      go_wp2
      go_ret
      exact ⟨rfl, bw_below B8 _⟩
  · have r1 : Int.tmod (kv : Int) 4 = 1 := by rw [Int.tmod_eq_emod_of_nonneg (by omega)]; omega
    have r2 : (kv : Int) % 4 = 1 := by omega
    clear hj hj4
    go_upto_region 19 with (fail)
    obtain ⟨W7, hW7⟩ : ∃ W, W = p6.w.setCell ⟨g_d, 6, none⟩ (.int .i64 o7) := ⟨_, rfl⟩
    have B7 : Below w.heap.size w W7 := by rw [hW7]; exact ((bw_below B6 p6).setCell (p := ⟨g_d, 6, none⟩) (by show w.heap.size ≤ g_d; omega) _)
    have k_o : Bk W7 (w.heap.size) 43 #[.int .i64 o1, .int .i64 o2, .int .i64 o3, .int .i64 o4, .int .i64 o5, .int .i64 o6, .int .i64 o7, .int .i64 o8, .int .i64 o9] := by rw [hW7]; exact ((k_o.below p6.h).other (a := ⟨g_d, 6, none⟩) (by show ¬ w.heap.size = g_d; omega) (.int .i64 o7))
    have k_t : Bk W7 (g_t) 30 #[.slice (some ⟨ga, 0, none⟩) N cu, .slice (some ⟨go, 0, none⟩) n co] := by rw [hW7]; exact ((k_t.below p6.h).other (a := ⟨g_d, 6, none⟩) (by show ¬ g_t = g_d; omega) (.int .i64 o7))
    have k_u : Bk W7 (g_u) 30 #[.slice (some ⟨gn, 0, none⟩) N cn, .slice (some ⟨gm, 0, none⟩) n cm] := by rw [hW7]; exact ((k_u.below p6.h).other (a := ⟨g_d, 6, none⟩) (by show ¬ g_u = g_d; omega) (.int .i64 o7))
    have k_d : Bk W7 (g_d) 48 #[.int .i64 n1, .int .i64 n2, .int .i64 n3, .int .i64 n4, .int .i64 n5, .int .i64 n6, .int .i64 o7, .int .i64 n8, .int .i64 n9] := by rw [hW7]; exact ((k_d.below p6.h).set 6 (.int .i64 o7)).cast (by simp)
    have hu : NodRow W7 w.heap.size (.slice (some ⟨ga, 0, none⟩) N cu) ns := by rw [hW7]; exact (owns_setbk (hu.below p6.h) (a := ⟨g_d, 6, none⟩) (fun e => by have e1 := Option.some.inj (show some ga = some g_d from e); omega) (.int .i64 o7))
    have hv : OrdRow W7 w.heap.size (.slice (some ⟨go, 0, none⟩) n co) ord := by rw [hW7]; exact (owns_setbk (hv.below p6.h) (a := ⟨g_d, 6, none⟩) (fun e => by have e1 := Option.some.inj (show some go = some g_d from e); omega) (.int .i64 o7))
    have hr : NodRow W7 w.heap.size (.slice (some ⟨gn, 0, none⟩) N cn) ns := by rw [hW7]; exact (owns_setbk (hr.below p6.h) (a := ⟨g_d, 6, none⟩) (fun e => by have e1 := Option.some.inj (show some gn = some g_d from e); omega) (.int .i64 o7))
    have hs : OrdRow W7 w.heap.size (.slice (some ⟨gm, 0, none⟩) n cm) ord := by rw [hW7]; exact (owns_setbk (hs.below p6.h) (a := ⟨g_d, 6, none⟩) (fun e => by have e1 := Option.some.inj (show some gm = some g_d from e); omega) (.int .i64 o7))
    rw [← hW7]
    clear hW7
    clear B6
    clear c_o_0 c_o_1 c_o_2 c_o_3 c_o_4 c_o_5 c_o_6 c_o_7 c_o_8 c_t_0 c_t_1 c_u_0 c_u_1 c_d_0 c_d_1 c_d_2 c_d_3 c_d_4 c_d_5 c_d_6 c_d_7 c_d_8 f_d_0 f_d_1 f_d_2 f_d_3 f_d_4 f_d_5 f_d_6 f_d_7 f_d_8
    obtain ⟨c_o_0, c_o_1, c_o_2, c_o_3, c_o_4, c_o_5, c_o_6, c_o_7, c_o_8⟩ := bwc9 (k_o)
    obtain ⟨c_t_0, c_t_1⟩ := bwc2 (k_t)
    obtain ⟨c_u_0, c_u_1⟩ := bwc2 (k_u)
    obtain ⟨c_d_0, c_d_1, c_d_2, c_d_3, c_d_4, c_d_5, c_d_6, c_d_7, c_d_8⟩ := bwc9 (k_d)
    obtain ⟨p7, hp7⟩ : ∃ p : BW W7, p.w = W7 := ⟨BW.start W7, rfl⟩
    rw [← hp7]
    clear hp7
    have z0 : ∀ p : BW W7, p.w.frozen? ⟨gn, k * 9, none⟩ = false := fun p => World.ownsRow.frozenAt (by have h := hr.below p.h; unfold NodRow at h; rw [← HN.out] at h; exact h) _
    have z1 : ∀ p : BW W7, p.w.frozen? ⟨gn, k * 9 + 1, none⟩ = false := fun p => World.ownsRow.frozenAt (by have h := hr.below p.h; unfold NodRow at h; rw [← HN.out] at h; exact h) _
    have z2 : ∀ p : BW W7, p.w.frozen? ⟨gn, k * 9 + 2, none⟩ = false := fun p => World.ownsRow.frozenAt (by have h := hr.below p.h; unfold NodRow at h; rw [← HN.out] at h; exact h) _
    have z3 : ∀ p : BW W7, p.w.frozen? ⟨gn, k * 9 + 3, none⟩ = false := fun p => World.ownsRow.frozenAt (by have h := hr.below p.h; unfold NodRow at h; rw [← HN.out] at h; exact h) _
    have z4 : ∀ p : BW W7, p.w.frozen? ⟨gn, k * 9 + 4, none⟩ = false := fun p => World.ownsRow.frozenAt (by have h := hr.below p.h; unfold NodRow at h; rw [← HN.out] at h; exact h) _
    have z5 : ∀ p : BW W7, p.w.frozen? ⟨gn, k * 9 + 5, none⟩ = false := fun p => World.ownsRow.frozenAt (by have h := hr.below p.h; unfold NodRow at h; rw [← HN.out] at h; exact h) _
    have z6 : ∀ p : BW W7, p.w.frozen? ⟨gn, k * 9 + 6, none⟩ = false := fun p => World.ownsRow.frozenAt (by have h := hr.below p.h; unfold NodRow at h; rw [← HN.out] at h; exact h) _
    have z7 : ∀ p : BW W7, p.w.frozen? ⟨gn, k * 9 + 7, none⟩ = false := fun p => World.ownsRow.frozenAt (by have h := hr.below p.h; unfold NodRow at h; rw [← HN.out] at h; exact h) _
    have z8 : ∀ p : BW W7, p.w.frozen? ⟨gn, k * 9 + 8, none⟩ = false := fun p => World.ownsRow.frozenAt (by have h := hr.below p.h; unfold NodRow at h; rw [← HN.out] at h; exact h) _
    have c_x0 : ∀ p : BW W7, p.w.cell? ⟨gn, k * 9, none⟩ = some (.int .i64 n1) := bw_cell (owns_at16 (q := 0) hr HN.out hkl HDK.out (by omega))
    have c_x1 : ∀ p : BW W7, p.w.cell? ⟨gn, k * 9 + 1, none⟩ = some (.int .i64 n2) := bw_cell (owns_at16 (q := 1) hr HN.out hkl HDK.out (by omega))
    have c_x2 : ∀ p : BW W7, p.w.cell? ⟨gn, k * 9 + 2, none⟩ = some (.int .i64 n3) := bw_cell (owns_at16 (q := 2) hr HN.out hkl HDK.out (by omega))
    have c_x3 : ∀ p : BW W7, p.w.cell? ⟨gn, k * 9 + 3, none⟩ = some (.int .i64 n4) := bw_cell (owns_at16 (q := 3) hr HN.out hkl HDK.out (by omega))
    have c_x4 : ∀ p : BW W7, p.w.cell? ⟨gn, k * 9 + 4, none⟩ = some (.int .i64 n5) := bw_cell (owns_at16 (q := 4) hr HN.out hkl HDK.out (by omega))
    have c_x5 : ∀ p : BW W7, p.w.cell? ⟨gn, k * 9 + 5, none⟩ = some (.int .i64 n6) := bw_cell (owns_at16 (q := 5) hr HN.out hkl HDK.out (by omega))
    have c_x6 : ∀ p : BW W7, p.w.cell? ⟨gn, k * 9 + 6, none⟩ = some (.int .i64 n7) := bw_cell (owns_at16 (q := 6) hr HN.out hkl HDK.out (by omega))
    have c_x7 : ∀ p : BW W7, p.w.cell? ⟨gn, k * 9 + 7, none⟩ = some (.int .i64 n8) := bw_cell (owns_at16 (q := 7) hr HN.out hkl HDK.out (by omega))
    have c_x8 : ∀ p : BW W7, p.w.cell? ⟨gn, k * 9 + 8, none⟩ = some (.int .i64 n9) := bw_cell (owns_at16 (q := 8) hr HN.out hkl HDK.out (by omega))
    go_upto_region 20 with (fail)
    obtain ⟨W8, hW⟩ : ∃ W, W = ((((((((p7.w.setCell ⟨gn, k * 9, none⟩ (.int .i64 n1)).setCell ⟨gn, k * 9 + 1, none⟩ (.int .i64 n2)).setCell ⟨gn, k * 9 + 2, none⟩ (.int .i64 n3)).setCell ⟨gn, k * 9 + 3, none⟩ (.int .i64 n4)).setCell ⟨gn, k * 9 + 4, none⟩ (.int .i64 n5)).setCell ⟨gn, k * 9 + 5, none⟩ (.int .i64 n6)).setCell ⟨gn, k * 9 + 6, none⟩ (.int .i64 o7)).setCell ⟨gn, k * 9 + 7, none⟩ (.int .i64 n8)).setCell ⟨gn, k * 9 + 8, none⟩ (.int .i64 n9) := ⟨_, rfl⟩
    rw [← hW]
    have hW2 : W8 = p7.w.setCells gn (k * 9) (ncells ((((n1, n2, n3), n4, n5, n6), o7, n8, n9) : Nd)) := by rw [hW]; rfl
    clear hW
    have hr0 : NodRow p7.w w.heap.size (.slice (some ⟨gn, 0, none⟩) ns.length cn) ns := by rw [← HN.out]; exact hr.below p7.h
    obtain ⟨hr1, hgr⟩ := nodrow_set ((((n1, n2, n3), n4, n5, n6), o7, n8, n9) : Nd) hr0 hkl
    rw [← HN.out] at hr1
    rw [← hW2] at hr1 hgr
    have hb1 : Below w.heap.size w W8 := (bw_below B7 p7).grown hgr (bw_below B7 p7).size (fun j ej => by cases ej; exact hgnB)
    have hu1 : NodRow W8 w.heap.size (.slice (some ⟨ga, 0, none⟩) N cu) ns := owns_grown (hu.below p7.h) hgr (fun j e e1 => by have e2 : ga = j := Option.some.inj e; have e3 : gn = j := Option.some.inj e1; omega)
    have hv1 : OrdRow W8 w.heap.size (.slice (some ⟨go, 0, none⟩) n co) ord := owns_grown (hv.below p7.h) hgr (fun j e e1 => by cases e; cases e1; exact owns_types (hv.below p7.h) hr0 (by decide) _ rfl rfl)
    have hs1 : OrdRow W8 w.heap.size (.slice (some ⟨gm, 0, none⟩) n cm) ord := owns_grown (hs.below p7.h) hgr (fun j e e1 => by cases e; cases e1; exact owns_types (hs.below p7.h) hr0 (by decide) _ rfl rfl)
    have k_o1 := Bk.grown (k_o.below p7.h) hgr (fun e => by cases e; exact owns_bk hr0 (k_o.below p7.h) (by decide) rfl)
    have k_t1 := Bk.grown (k_t.below p7.h) hgr (fun e => by cases e; exact owns_bk hr0 (k_t.below p7.h) (by decide) rfl)
    have k_u1 := Bk.grown (k_u.below p7.h) hgr (fun e => by cases e; exact owns_bk hr0 (k_u.below p7.h) (by decide) rfl)
    have k_d1 := Bk.grown (k_d.below p7.h) hgr (fun e => by cases e; omega)
    clear hu hv hr hs hr0 hgr hW2 k_o k_t k_u k_d
    clear c_o_0 c_o_1 c_o_2 c_o_3 c_o_4 c_o_5 c_o_6 c_o_7 c_o_8 c_t_0 c_t_1 c_u_0 c_u_1 c_d_0 c_d_1 c_d_2 c_d_3 c_d_4 c_d_5 c_d_6 c_d_7 c_d_8 z0 z1 z2 z3 z4 z5 z6 z7 z8 c_x0 c_x1 c_x2 c_x3 c_x4 c_x5 c_x6 c_x7 c_x8 B7
    have k_o := k_o1
    have k_t := k_t1
    have k_u := k_u1
    have k_d := k_d1
    clear k_o1 k_t1 k_u1 k_d1
    have B8 := hb1
    clear hb1
    obtain ⟨c_o_0, c_o_1, c_o_2, c_o_3, c_o_4, c_o_5, c_o_6, c_o_7, c_o_8⟩ := bwc9 (k_o)
    obtain ⟨c_t_0, c_t_1⟩ := bwc2 (k_t)
    obtain ⟨c_u_0, c_u_1⟩ := bwc2 (k_u)
    obtain ⟨c_d_0, c_d_1, c_d_2, c_d_3, c_d_4, c_d_5, c_d_6, c_d_7, c_d_8⟩ := bwc9 (k_d)
    obtain ⟨p8, hp8⟩ : ∃ p : BW W8, p.w = W8 := ⟨BW.start W8, rfl⟩
    rw [← hp8]
    clear hp8
    have one : OneNum (ns.getD k nd0) ((((n1, n2, n3), n4, n5, n6), o7, n8, n9) : Nd) := by rw [HDK.out]; exact .inr (.inr ⟨rfl, rfl⟩)
    obtain ⟨zz, hzz⟩ : ∃ zz, zz = decide (((((n1, n2, n3), n4, n5, n6), o7, n8, n9) : Nd) = ((((n1, n2, n3), n4, n5, n6), n7, n8, n9) : Nd)) := ⟨_, rfl⟩
    have KU := Lib.hid (fun (Y : World) (hY : Below W8.heap.size W8 Y) => KW.out Y (ns.set k ((((n1, n2, n3), n4, n5, n6), o7, n8, n9) : Nd)) gn cn gm cm (B8.trans (hY.mono B8.size)) (by rw [List.length_set]; exact HN.out.symm) (hr1.below hY) (hs1.below hY))
    rw [HWK.out _ one, HDK.out, ← hzz] at KU
    have KT := Lib.hid (fun (Y : World) (hY : Below W8.heap.size W8 Y) => KW.out Y ns ga cu go co (B8.trans (hY.mono B8.size)) HN.out.symm (hu1.below hY) (hv1.below hY))
    have HZ := Lib.hid hzz
    clear hzz one
    rw [HWT.out] at KT
    have c_y0 : ∀ p : BW W8, p.w.cell? ⟨ga, k * 9, none⟩ = some (.int .i64 n1) := bw_cell (owns_at16 (q := 0) hu1 HN.out hkl HDK.out (by omega))
    have c_y1 : ∀ p : BW W8, p.w.cell? ⟨ga, k * 9 + 1, none⟩ = some (.int .i64 n2) := bw_cell (owns_at16 (q := 1) hu1 HN.out hkl HDK.out (by omega))
    have c_y2 : ∀ p : BW W8, p.w.cell? ⟨ga, k * 9 + 2, none⟩ = some (.int .i64 n3) := bw_cell (owns_at16 (q := 2) hu1 HN.out hkl HDK.out (by omega))
    have c_y3 : ∀ p : BW W8, p.w.cell? ⟨ga, k * 9 + 3, none⟩ = some (.int .i64 n4) := bw_cell (owns_at16 (q := 3) hu1 HN.out hkl HDK.out (by omega))
    have c_y4 : ∀ p : BW W8, p.w.cell? ⟨ga, k * 9 + 4, none⟩ = some (.int .i64 n5) := bw_cell (owns_at16 (q := 4) hu1 HN.out hkl HDK.out (by omega))
    have c_y5 : ∀ p : BW W8, p.w.cell? ⟨ga, k * 9 + 5, none⟩ = some (.int .i64 n6) := bw_cell (owns_at16 (q := 5) hu1 HN.out hkl HDK.out (by omega))
    have c_y6 : ∀ p : BW W8, p.w.cell? ⟨ga, k * 9 + 6, none⟩ = some (.int .i64 n7) := bw_cell (owns_at16 (q := 6) hu1 HN.out hkl HDK.out (by omega))
    have c_y7 : ∀ p : BW W8, p.w.cell? ⟨ga, k * 9 + 7, none⟩ = some (.int .i64 n8) := bw_cell (owns_at16 (q := 7) hu1 HN.out hkl HDK.out (by omega))
    have c_y8 : ∀ p : BW W8, p.w.cell? ⟨ga, k * 9 + 8, none⟩ = some (.int .i64 n9) := bw_cell (owns_at16 (q := 8) hu1 HN.out hkl HDK.out (by omega))
    clear KW HWK HWT HWS hu1 hv1 hr1 hs1
    refine wp_region_bw (by kernel_rfl) (by kernel_rfl) ?_
    repeat (go_big_quiet_step (first
        | (go_at_call 9; (with_reducible first | exact (bw_callB KU.out (Below.refl _ _) _) | exact (bw_callB KT.out (Below.refl _ _) _)))
        | (go_at_call 5; (with_reducible exact (bw_call KA.out _)))))
    refine quiet_value (.bool zz) (by rfl) (fun w => by rw [HZ.out]; exact node_eql16 n1 n2 n3 n4 n5 n6 o7 n8 n9 n1 n2 n3 n4 n5 n6 n7 n8 n9 _ _ w _ _ _ _ _ _ rfl rfl) ?_
    simp only [Act.put, List.setIfInBounds_toArray, List.set_cons_zero, List.set_cons_succ]
    cases zz with
    | false =>
      repeat (go_big_quiet_step (first
        | (go_at_call 9; (with_reducible first | exact (bw_callB KU.out (Below.refl _ _) _) | exact (bw_callB KT.out (Below.refl _ _) _)))
        | (go_at_call 5; (with_reducible exact (bw_call KA.out _)))))
      refine wpQuiet_nil ?_
      intro _ hw'
      obtain ⟨q, rfl⟩ := hw'
      go_wp2
      go_ret
      exact ⟨rfl, bw_below B8 _⟩
    | true =>
      repeat (go_big_quiet_step (first
        | (go_at_call 9; (with_reducible first | exact (bw_callB KU.out (Below.refl _ _) _) | exact (bw_callB KT.out (Below.refl _ _) _)))
        | (go_at_call 5; (with_reducible exact (bw_call KA.out _)))))
      refine wpQuiet_nil ?_
      intro _ hw'
      obtain ⟨q, rfl⟩ := hw'
      go_wp2
      go_ret
      exact ⟨rfl, bw_below B8 _⟩
  · have r1 : Int.tmod (kv : Int) 4 = 2 := by rw [Int.tmod_eq_emod_of_nonneg (by omega)]; omega
    have r2 : (kv : Int) % 4 = 2 := by omega
    clear hj hj4
    go_upto_region 19 with (fail)
    obtain ⟨W7, hW7⟩ : ∃ W, W = p6.w.setCell ⟨g_d, 7, none⟩ (.int .i64 o8) := ⟨_, rfl⟩
    have B7 : Below w.heap.size w W7 := by rw [hW7]; exact ((bw_below B6 p6).setCell (p := ⟨g_d, 7, none⟩) (by show w.heap.size ≤ g_d; omega) _)
    have k_o : Bk W7 (w.heap.size) 43 #[.int .i64 o1, .int .i64 o2, .int .i64 o3, .int .i64 o4, .int .i64 o5, .int .i64 o6, .int .i64 o7, .int .i64 o8, .int .i64 o9] := by rw [hW7]; exact ((k_o.below p6.h).other (a := ⟨g_d, 7, none⟩) (by show ¬ w.heap.size = g_d; omega) (.int .i64 o8))
    have k_t : Bk W7 (g_t) 30 #[.slice (some ⟨ga, 0, none⟩) N cu, .slice (some ⟨go, 0, none⟩) n co] := by rw [hW7]; exact ((k_t.below p6.h).other (a := ⟨g_d, 7, none⟩) (by show ¬ g_t = g_d; omega) (.int .i64 o8))
    have k_u : Bk W7 (g_u) 30 #[.slice (some ⟨gn, 0, none⟩) N cn, .slice (some ⟨gm, 0, none⟩) n cm] := by rw [hW7]; exact ((k_u.below p6.h).other (a := ⟨g_d, 7, none⟩) (by show ¬ g_u = g_d; omega) (.int .i64 o8))
    have k_d : Bk W7 (g_d) 48 #[.int .i64 n1, .int .i64 n2, .int .i64 n3, .int .i64 n4, .int .i64 n5, .int .i64 n6, .int .i64 n7, .int .i64 o8, .int .i64 n9] := by rw [hW7]; exact ((k_d.below p6.h).set 7 (.int .i64 o8)).cast (by simp)
    have hu : NodRow W7 w.heap.size (.slice (some ⟨ga, 0, none⟩) N cu) ns := by rw [hW7]; exact (owns_setbk (hu.below p6.h) (a := ⟨g_d, 7, none⟩) (fun e => by have e1 := Option.some.inj (show some ga = some g_d from e); omega) (.int .i64 o8))
    have hv : OrdRow W7 w.heap.size (.slice (some ⟨go, 0, none⟩) n co) ord := by rw [hW7]; exact (owns_setbk (hv.below p6.h) (a := ⟨g_d, 7, none⟩) (fun e => by have e1 := Option.some.inj (show some go = some g_d from e); omega) (.int .i64 o8))
    have hr : NodRow W7 w.heap.size (.slice (some ⟨gn, 0, none⟩) N cn) ns := by rw [hW7]; exact (owns_setbk (hr.below p6.h) (a := ⟨g_d, 7, none⟩) (fun e => by have e1 := Option.some.inj (show some gn = some g_d from e); omega) (.int .i64 o8))
    have hs : OrdRow W7 w.heap.size (.slice (some ⟨gm, 0, none⟩) n cm) ord := by rw [hW7]; exact (owns_setbk (hs.below p6.h) (a := ⟨g_d, 7, none⟩) (fun e => by have e1 := Option.some.inj (show some gm = some g_d from e); omega) (.int .i64 o8))
    rw [← hW7]
    clear hW7
    clear B6
    clear c_o_0 c_o_1 c_o_2 c_o_3 c_o_4 c_o_5 c_o_6 c_o_7 c_o_8 c_t_0 c_t_1 c_u_0 c_u_1 c_d_0 c_d_1 c_d_2 c_d_3 c_d_4 c_d_5 c_d_6 c_d_7 c_d_8 f_d_0 f_d_1 f_d_2 f_d_3 f_d_4 f_d_5 f_d_6 f_d_7 f_d_8
    obtain ⟨c_o_0, c_o_1, c_o_2, c_o_3, c_o_4, c_o_5, c_o_6, c_o_7, c_o_8⟩ := bwc9 (k_o)
    obtain ⟨c_t_0, c_t_1⟩ := bwc2 (k_t)
    obtain ⟨c_u_0, c_u_1⟩ := bwc2 (k_u)
    obtain ⟨c_d_0, c_d_1, c_d_2, c_d_3, c_d_4, c_d_5, c_d_6, c_d_7, c_d_8⟩ := bwc9 (k_d)
    obtain ⟨p7, hp7⟩ : ∃ p : BW W7, p.w = W7 := ⟨BW.start W7, rfl⟩
    rw [← hp7]
    clear hp7
    have z0 : ∀ p : BW W7, p.w.frozen? ⟨gn, k * 9, none⟩ = false := fun p => World.ownsRow.frozenAt (by have h := hr.below p.h; unfold NodRow at h; rw [← HN.out] at h; exact h) _
    have z1 : ∀ p : BW W7, p.w.frozen? ⟨gn, k * 9 + 1, none⟩ = false := fun p => World.ownsRow.frozenAt (by have h := hr.below p.h; unfold NodRow at h; rw [← HN.out] at h; exact h) _
    have z2 : ∀ p : BW W7, p.w.frozen? ⟨gn, k * 9 + 2, none⟩ = false := fun p => World.ownsRow.frozenAt (by have h := hr.below p.h; unfold NodRow at h; rw [← HN.out] at h; exact h) _
    have z3 : ∀ p : BW W7, p.w.frozen? ⟨gn, k * 9 + 3, none⟩ = false := fun p => World.ownsRow.frozenAt (by have h := hr.below p.h; unfold NodRow at h; rw [← HN.out] at h; exact h) _
    have z4 : ∀ p : BW W7, p.w.frozen? ⟨gn, k * 9 + 4, none⟩ = false := fun p => World.ownsRow.frozenAt (by have h := hr.below p.h; unfold NodRow at h; rw [← HN.out] at h; exact h) _
    have z5 : ∀ p : BW W7, p.w.frozen? ⟨gn, k * 9 + 5, none⟩ = false := fun p => World.ownsRow.frozenAt (by have h := hr.below p.h; unfold NodRow at h; rw [← HN.out] at h; exact h) _
    have z6 : ∀ p : BW W7, p.w.frozen? ⟨gn, k * 9 + 6, none⟩ = false := fun p => World.ownsRow.frozenAt (by have h := hr.below p.h; unfold NodRow at h; rw [← HN.out] at h; exact h) _
    have z7 : ∀ p : BW W7, p.w.frozen? ⟨gn, k * 9 + 7, none⟩ = false := fun p => World.ownsRow.frozenAt (by have h := hr.below p.h; unfold NodRow at h; rw [← HN.out] at h; exact h) _
    have z8 : ∀ p : BW W7, p.w.frozen? ⟨gn, k * 9 + 8, none⟩ = false := fun p => World.ownsRow.frozenAt (by have h := hr.below p.h; unfold NodRow at h; rw [← HN.out] at h; exact h) _
    have c_x0 : ∀ p : BW W7, p.w.cell? ⟨gn, k * 9, none⟩ = some (.int .i64 n1) := bw_cell (owns_at16 (q := 0) hr HN.out hkl HDK.out (by omega))
    have c_x1 : ∀ p : BW W7, p.w.cell? ⟨gn, k * 9 + 1, none⟩ = some (.int .i64 n2) := bw_cell (owns_at16 (q := 1) hr HN.out hkl HDK.out (by omega))
    have c_x2 : ∀ p : BW W7, p.w.cell? ⟨gn, k * 9 + 2, none⟩ = some (.int .i64 n3) := bw_cell (owns_at16 (q := 2) hr HN.out hkl HDK.out (by omega))
    have c_x3 : ∀ p : BW W7, p.w.cell? ⟨gn, k * 9 + 3, none⟩ = some (.int .i64 n4) := bw_cell (owns_at16 (q := 3) hr HN.out hkl HDK.out (by omega))
    have c_x4 : ∀ p : BW W7, p.w.cell? ⟨gn, k * 9 + 4, none⟩ = some (.int .i64 n5) := bw_cell (owns_at16 (q := 4) hr HN.out hkl HDK.out (by omega))
    have c_x5 : ∀ p : BW W7, p.w.cell? ⟨gn, k * 9 + 5, none⟩ = some (.int .i64 n6) := bw_cell (owns_at16 (q := 5) hr HN.out hkl HDK.out (by omega))
    have c_x6 : ∀ p : BW W7, p.w.cell? ⟨gn, k * 9 + 6, none⟩ = some (.int .i64 n7) := bw_cell (owns_at16 (q := 6) hr HN.out hkl HDK.out (by omega))
    have c_x7 : ∀ p : BW W7, p.w.cell? ⟨gn, k * 9 + 7, none⟩ = some (.int .i64 n8) := bw_cell (owns_at16 (q := 7) hr HN.out hkl HDK.out (by omega))
    have c_x8 : ∀ p : BW W7, p.w.cell? ⟨gn, k * 9 + 8, none⟩ = some (.int .i64 n9) := bw_cell (owns_at16 (q := 8) hr HN.out hkl HDK.out (by omega))
    go_upto_region 20 with (fail)
    obtain ⟨W8, hW⟩ : ∃ W, W = ((((((((p7.w.setCell ⟨gn, k * 9, none⟩ (.int .i64 n1)).setCell ⟨gn, k * 9 + 1, none⟩ (.int .i64 n2)).setCell ⟨gn, k * 9 + 2, none⟩ (.int .i64 n3)).setCell ⟨gn, k * 9 + 3, none⟩ (.int .i64 n4)).setCell ⟨gn, k * 9 + 4, none⟩ (.int .i64 n5)).setCell ⟨gn, k * 9 + 5, none⟩ (.int .i64 n6)).setCell ⟨gn, k * 9 + 6, none⟩ (.int .i64 n7)).setCell ⟨gn, k * 9 + 7, none⟩ (.int .i64 o8)).setCell ⟨gn, k * 9 + 8, none⟩ (.int .i64 n9) := ⟨_, rfl⟩
    rw [← hW]
    have hW2 : W8 = p7.w.setCells gn (k * 9) (ncells ((((n1, n2, n3), n4, n5, n6), n7, o8, n9) : Nd)) := by rw [hW]; rfl
    clear hW
    have hr0 : NodRow p7.w w.heap.size (.slice (some ⟨gn, 0, none⟩) ns.length cn) ns := by rw [← HN.out]; exact hr.below p7.h
    obtain ⟨hr1, hgr⟩ := nodrow_set ((((n1, n2, n3), n4, n5, n6), n7, o8, n9) : Nd) hr0 hkl
    rw [← HN.out] at hr1
    rw [← hW2] at hr1 hgr
    have hb1 : Below w.heap.size w W8 := (bw_below B7 p7).grown hgr (bw_below B7 p7).size (fun j ej => by cases ej; exact hgnB)
    have hu1 : NodRow W8 w.heap.size (.slice (some ⟨ga, 0, none⟩) N cu) ns := owns_grown (hu.below p7.h) hgr (fun j e e1 => by have e2 : ga = j := Option.some.inj e; have e3 : gn = j := Option.some.inj e1; omega)
    have hv1 : OrdRow W8 w.heap.size (.slice (some ⟨go, 0, none⟩) n co) ord := owns_grown (hv.below p7.h) hgr (fun j e e1 => by cases e; cases e1; exact owns_types (hv.below p7.h) hr0 (by decide) _ rfl rfl)
    have hs1 : OrdRow W8 w.heap.size (.slice (some ⟨gm, 0, none⟩) n cm) ord := owns_grown (hs.below p7.h) hgr (fun j e e1 => by cases e; cases e1; exact owns_types (hs.below p7.h) hr0 (by decide) _ rfl rfl)
    have k_o1 := Bk.grown (k_o.below p7.h) hgr (fun e => by cases e; exact owns_bk hr0 (k_o.below p7.h) (by decide) rfl)
    have k_t1 := Bk.grown (k_t.below p7.h) hgr (fun e => by cases e; exact owns_bk hr0 (k_t.below p7.h) (by decide) rfl)
    have k_u1 := Bk.grown (k_u.below p7.h) hgr (fun e => by cases e; exact owns_bk hr0 (k_u.below p7.h) (by decide) rfl)
    have k_d1 := Bk.grown (k_d.below p7.h) hgr (fun e => by cases e; omega)
    clear hu hv hr hs hr0 hgr hW2 k_o k_t k_u k_d
    clear c_o_0 c_o_1 c_o_2 c_o_3 c_o_4 c_o_5 c_o_6 c_o_7 c_o_8 c_t_0 c_t_1 c_u_0 c_u_1 c_d_0 c_d_1 c_d_2 c_d_3 c_d_4 c_d_5 c_d_6 c_d_7 c_d_8 z0 z1 z2 z3 z4 z5 z6 z7 z8 c_x0 c_x1 c_x2 c_x3 c_x4 c_x5 c_x6 c_x7 c_x8 B7
    have k_o := k_o1
    have k_t := k_t1
    have k_u := k_u1
    have k_d := k_d1
    clear k_o1 k_t1 k_u1 k_d1
    have B8 := hb1
    clear hb1
    obtain ⟨c_o_0, c_o_1, c_o_2, c_o_3, c_o_4, c_o_5, c_o_6, c_o_7, c_o_8⟩ := bwc9 (k_o)
    obtain ⟨c_t_0, c_t_1⟩ := bwc2 (k_t)
    obtain ⟨c_u_0, c_u_1⟩ := bwc2 (k_u)
    obtain ⟨c_d_0, c_d_1, c_d_2, c_d_3, c_d_4, c_d_5, c_d_6, c_d_7, c_d_8⟩ := bwc9 (k_d)
    obtain ⟨p8, hp8⟩ : ∃ p : BW W8, p.w = W8 := ⟨BW.start W8, rfl⟩
    rw [← hp8]
    clear hp8
    have one : OneNum (ns.getD k nd0) ((((n1, n2, n3), n4, n5, n6), n7, o8, n9) : Nd) := by rw [HDK.out]; exact .inr (.inl ⟨rfl, rfl⟩)
    obtain ⟨zz, hzz⟩ : ∃ zz, zz = decide (((((n1, n2, n3), n4, n5, n6), n7, o8, n9) : Nd) = ((((n1, n2, n3), n4, n5, n6), n7, n8, n9) : Nd)) := ⟨_, rfl⟩
    have KU := Lib.hid (fun (Y : World) (hY : Below W8.heap.size W8 Y) => KW.out Y (ns.set k ((((n1, n2, n3), n4, n5, n6), n7, o8, n9) : Nd)) gn cn gm cm (B8.trans (hY.mono B8.size)) (by rw [List.length_set]; exact HN.out.symm) (hr1.below hY) (hs1.below hY))
    rw [HWK.out _ one, HDK.out, ← hzz] at KU
    have KT := Lib.hid (fun (Y : World) (hY : Below W8.heap.size W8 Y) => KW.out Y ns ga cu go co (B8.trans (hY.mono B8.size)) HN.out.symm (hu1.below hY) (hv1.below hY))
    have HZ := Lib.hid hzz
    clear hzz one
    rw [HWT.out] at KT
    have c_y0 : ∀ p : BW W8, p.w.cell? ⟨ga, k * 9, none⟩ = some (.int .i64 n1) := bw_cell (owns_at16 (q := 0) hu1 HN.out hkl HDK.out (by omega))
    have c_y1 : ∀ p : BW W8, p.w.cell? ⟨ga, k * 9 + 1, none⟩ = some (.int .i64 n2) := bw_cell (owns_at16 (q := 1) hu1 HN.out hkl HDK.out (by omega))
    have c_y2 : ∀ p : BW W8, p.w.cell? ⟨ga, k * 9 + 2, none⟩ = some (.int .i64 n3) := bw_cell (owns_at16 (q := 2) hu1 HN.out hkl HDK.out (by omega))
    have c_y3 : ∀ p : BW W8, p.w.cell? ⟨ga, k * 9 + 3, none⟩ = some (.int .i64 n4) := bw_cell (owns_at16 (q := 3) hu1 HN.out hkl HDK.out (by omega))
    have c_y4 : ∀ p : BW W8, p.w.cell? ⟨ga, k * 9 + 4, none⟩ = some (.int .i64 n5) := bw_cell (owns_at16 (q := 4) hu1 HN.out hkl HDK.out (by omega))
    have c_y5 : ∀ p : BW W8, p.w.cell? ⟨ga, k * 9 + 5, none⟩ = some (.int .i64 n6) := bw_cell (owns_at16 (q := 5) hu1 HN.out hkl HDK.out (by omega))
    have c_y6 : ∀ p : BW W8, p.w.cell? ⟨ga, k * 9 + 6, none⟩ = some (.int .i64 n7) := bw_cell (owns_at16 (q := 6) hu1 HN.out hkl HDK.out (by omega))
    have c_y7 : ∀ p : BW W8, p.w.cell? ⟨ga, k * 9 + 7, none⟩ = some (.int .i64 n8) := bw_cell (owns_at16 (q := 7) hu1 HN.out hkl HDK.out (by omega))
    have c_y8 : ∀ p : BW W8, p.w.cell? ⟨ga, k * 9 + 8, none⟩ = some (.int .i64 n9) := bw_cell (owns_at16 (q := 8) hu1 HN.out hkl HDK.out (by omega))
    clear KW HWK HWT HWS hu1 hv1 hr1 hs1
    refine wp_region_bw (by kernel_rfl) (by kernel_rfl) ?_
    repeat (go_big_quiet_step (first
        | (go_at_call 9; (with_reducible first | exact (bw_callB KU.out (Below.refl _ _) _) | exact (bw_callB KT.out (Below.refl _ _) _)))
        | (go_at_call 5; (with_reducible exact (bw_call KA.out _)))))
    refine quiet_value (.bool zz) (by rfl) (fun w => by rw [HZ.out]; exact node_eql16 n1 n2 n3 n4 n5 n6 n7 o8 n9 n1 n2 n3 n4 n5 n6 n7 n8 n9 _ _ w _ _ _ _ _ _ rfl rfl) ?_
    simp only [Act.put, List.setIfInBounds_toArray, List.set_cons_zero, List.set_cons_succ]
    cases zz with
    | false =>
      repeat (go_big_quiet_step (first
        | (go_at_call 9; (with_reducible first | exact (bw_callB KU.out (Below.refl _ _) _) | exact (bw_callB KT.out (Below.refl _ _) _)))
        | (go_at_call 5; (with_reducible exact (bw_call KA.out _)))))
      refine wpQuiet_nil ?_
      intro _ hw'
      obtain ⟨q, rfl⟩ := hw'
      go_wp2
      go_ret
      exact ⟨rfl, bw_below B8 _⟩
    | true =>
      repeat (go_big_quiet_step (first
        | (go_at_call 9; (with_reducible first | exact (bw_callB KU.out (Below.refl _ _) _) | exact (bw_callB KT.out (Below.refl _ _) _)))
        | (go_at_call 5; (with_reducible exact (bw_call KA.out _)))))
      refine wpQuiet_nil ?_
      intro _ hw'
      obtain ⟨q, rfl⟩ := hw'
      go_wp2
      go_ret
      exact ⟨rfl, bw_below B8 _⟩
  · have r1 : Int.tmod (kv : Int) 4 = 3 := by rw [Int.tmod_eq_emod_of_nonneg (by omega)]; omega
    have r2 : (kv : Int) % 4 = 3 := by omega
    clear hj hj4
    go_upto_region 19 with (fail)
    obtain ⟨W7, hW7⟩ : ∃ W, W = p6.w.setCell ⟨g_d, 8, none⟩ (.int .i64 o9) := ⟨_, rfl⟩
    have B7 : Below w.heap.size w W7 := by rw [hW7]; exact ((bw_below B6 p6).setCell (p := ⟨g_d, 8, none⟩) (by show w.heap.size ≤ g_d; omega) _)
    have k_o : Bk W7 (w.heap.size) 43 #[.int .i64 o1, .int .i64 o2, .int .i64 o3, .int .i64 o4, .int .i64 o5, .int .i64 o6, .int .i64 o7, .int .i64 o8, .int .i64 o9] := by rw [hW7]; exact ((k_o.below p6.h).other (a := ⟨g_d, 8, none⟩) (by show ¬ w.heap.size = g_d; omega) (.int .i64 o9))
    have k_t : Bk W7 (g_t) 30 #[.slice (some ⟨ga, 0, none⟩) N cu, .slice (some ⟨go, 0, none⟩) n co] := by rw [hW7]; exact ((k_t.below p6.h).other (a := ⟨g_d, 8, none⟩) (by show ¬ g_t = g_d; omega) (.int .i64 o9))
    have k_u : Bk W7 (g_u) 30 #[.slice (some ⟨gn, 0, none⟩) N cn, .slice (some ⟨gm, 0, none⟩) n cm] := by rw [hW7]; exact ((k_u.below p6.h).other (a := ⟨g_d, 8, none⟩) (by show ¬ g_u = g_d; omega) (.int .i64 o9))
    have k_d : Bk W7 (g_d) 48 #[.int .i64 n1, .int .i64 n2, .int .i64 n3, .int .i64 n4, .int .i64 n5, .int .i64 n6, .int .i64 n7, .int .i64 n8, .int .i64 o9] := by rw [hW7]; exact ((k_d.below p6.h).set 8 (.int .i64 o9)).cast (by simp)
    have hu : NodRow W7 w.heap.size (.slice (some ⟨ga, 0, none⟩) N cu) ns := by rw [hW7]; exact (owns_setbk (hu.below p6.h) (a := ⟨g_d, 8, none⟩) (fun e => by have e1 := Option.some.inj (show some ga = some g_d from e); omega) (.int .i64 o9))
    have hv : OrdRow W7 w.heap.size (.slice (some ⟨go, 0, none⟩) n co) ord := by rw [hW7]; exact (owns_setbk (hv.below p6.h) (a := ⟨g_d, 8, none⟩) (fun e => by have e1 := Option.some.inj (show some go = some g_d from e); omega) (.int .i64 o9))
    have hr : NodRow W7 w.heap.size (.slice (some ⟨gn, 0, none⟩) N cn) ns := by rw [hW7]; exact (owns_setbk (hr.below p6.h) (a := ⟨g_d, 8, none⟩) (fun e => by have e1 := Option.some.inj (show some gn = some g_d from e); omega) (.int .i64 o9))
    have hs : OrdRow W7 w.heap.size (.slice (some ⟨gm, 0, none⟩) n cm) ord := by rw [hW7]; exact (owns_setbk (hs.below p6.h) (a := ⟨g_d, 8, none⟩) (fun e => by have e1 := Option.some.inj (show some gm = some g_d from e); omega) (.int .i64 o9))
    rw [← hW7]
    clear hW7
    clear B6
    clear c_o_0 c_o_1 c_o_2 c_o_3 c_o_4 c_o_5 c_o_6 c_o_7 c_o_8 c_t_0 c_t_1 c_u_0 c_u_1 c_d_0 c_d_1 c_d_2 c_d_3 c_d_4 c_d_5 c_d_6 c_d_7 c_d_8 f_d_0 f_d_1 f_d_2 f_d_3 f_d_4 f_d_5 f_d_6 f_d_7 f_d_8
    obtain ⟨c_o_0, c_o_1, c_o_2, c_o_3, c_o_4, c_o_5, c_o_6, c_o_7, c_o_8⟩ := bwc9 (k_o)
    obtain ⟨c_t_0, c_t_1⟩ := bwc2 (k_t)
    obtain ⟨c_u_0, c_u_1⟩ := bwc2 (k_u)
    obtain ⟨c_d_0, c_d_1, c_d_2, c_d_3, c_d_4, c_d_5, c_d_6, c_d_7, c_d_8⟩ := bwc9 (k_d)
    obtain ⟨p7, hp7⟩ : ∃ p : BW W7, p.w = W7 := ⟨BW.start W7, rfl⟩
    rw [← hp7]
    clear hp7
    have z0 : ∀ p : BW W7, p.w.frozen? ⟨gn, k * 9, none⟩ = false := fun p => World.ownsRow.frozenAt (by have h := hr.below p.h; unfold NodRow at h; rw [← HN.out] at h; exact h) _
    have z1 : ∀ p : BW W7, p.w.frozen? ⟨gn, k * 9 + 1, none⟩ = false := fun p => World.ownsRow.frozenAt (by have h := hr.below p.h; unfold NodRow at h; rw [← HN.out] at h; exact h) _
    have z2 : ∀ p : BW W7, p.w.frozen? ⟨gn, k * 9 + 2, none⟩ = false := fun p => World.ownsRow.frozenAt (by have h := hr.below p.h; unfold NodRow at h; rw [← HN.out] at h; exact h) _
    have z3 : ∀ p : BW W7, p.w.frozen? ⟨gn, k * 9 + 3, none⟩ = false := fun p => World.ownsRow.frozenAt (by have h := hr.below p.h; unfold NodRow at h; rw [← HN.out] at h; exact h) _
    have z4 : ∀ p : BW W7, p.w.frozen? ⟨gn, k * 9 + 4, none⟩ = false := fun p => World.ownsRow.frozenAt (by have h := hr.below p.h; unfold NodRow at h; rw [← HN.out] at h; exact h) _
    have z5 : ∀ p : BW W7, p.w.frozen? ⟨gn, k * 9 + 5, none⟩ = false := fun p => World.ownsRow.frozenAt (by have h := hr.below p.h; unfold NodRow at h; rw [← HN.out] at h; exact h) _
    have z6 : ∀ p : BW W7, p.w.frozen? ⟨gn, k * 9 + 6, none⟩ = false := fun p => World.ownsRow.frozenAt (by have h := hr.below p.h; unfold NodRow at h; rw [← HN.out] at h; exact h) _
    have z7 : ∀ p : BW W7, p.w.frozen? ⟨gn, k * 9 + 7, none⟩ = false := fun p => World.ownsRow.frozenAt (by have h := hr.below p.h; unfold NodRow at h; rw [← HN.out] at h; exact h) _
    have z8 : ∀ p : BW W7, p.w.frozen? ⟨gn, k * 9 + 8, none⟩ = false := fun p => World.ownsRow.frozenAt (by have h := hr.below p.h; unfold NodRow at h; rw [← HN.out] at h; exact h) _
    have c_x0 : ∀ p : BW W7, p.w.cell? ⟨gn, k * 9, none⟩ = some (.int .i64 n1) := bw_cell (owns_at16 (q := 0) hr HN.out hkl HDK.out (by omega))
    have c_x1 : ∀ p : BW W7, p.w.cell? ⟨gn, k * 9 + 1, none⟩ = some (.int .i64 n2) := bw_cell (owns_at16 (q := 1) hr HN.out hkl HDK.out (by omega))
    have c_x2 : ∀ p : BW W7, p.w.cell? ⟨gn, k * 9 + 2, none⟩ = some (.int .i64 n3) := bw_cell (owns_at16 (q := 2) hr HN.out hkl HDK.out (by omega))
    have c_x3 : ∀ p : BW W7, p.w.cell? ⟨gn, k * 9 + 3, none⟩ = some (.int .i64 n4) := bw_cell (owns_at16 (q := 3) hr HN.out hkl HDK.out (by omega))
    have c_x4 : ∀ p : BW W7, p.w.cell? ⟨gn, k * 9 + 4, none⟩ = some (.int .i64 n5) := bw_cell (owns_at16 (q := 4) hr HN.out hkl HDK.out (by omega))
    have c_x5 : ∀ p : BW W7, p.w.cell? ⟨gn, k * 9 + 5, none⟩ = some (.int .i64 n6) := bw_cell (owns_at16 (q := 5) hr HN.out hkl HDK.out (by omega))
    have c_x6 : ∀ p : BW W7, p.w.cell? ⟨gn, k * 9 + 6, none⟩ = some (.int .i64 n7) := bw_cell (owns_at16 (q := 6) hr HN.out hkl HDK.out (by omega))
    have c_x7 : ∀ p : BW W7, p.w.cell? ⟨gn, k * 9 + 7, none⟩ = some (.int .i64 n8) := bw_cell (owns_at16 (q := 7) hr HN.out hkl HDK.out (by omega))
    have c_x8 : ∀ p : BW W7, p.w.cell? ⟨gn, k * 9 + 8, none⟩ = some (.int .i64 n9) := bw_cell (owns_at16 (q := 8) hr HN.out hkl HDK.out (by omega))
    go_upto_region 20 with (fail)
    obtain ⟨W8, hW⟩ : ∃ W, W = ((((((((p7.w.setCell ⟨gn, k * 9, none⟩ (.int .i64 n1)).setCell ⟨gn, k * 9 + 1, none⟩ (.int .i64 n2)).setCell ⟨gn, k * 9 + 2, none⟩ (.int .i64 n3)).setCell ⟨gn, k * 9 + 3, none⟩ (.int .i64 n4)).setCell ⟨gn, k * 9 + 4, none⟩ (.int .i64 n5)).setCell ⟨gn, k * 9 + 5, none⟩ (.int .i64 n6)).setCell ⟨gn, k * 9 + 6, none⟩ (.int .i64 n7)).setCell ⟨gn, k * 9 + 7, none⟩ (.int .i64 n8)).setCell ⟨gn, k * 9 + 8, none⟩ (.int .i64 o9) := ⟨_, rfl⟩
    rw [← hW]
    have hW2 : W8 = p7.w.setCells gn (k * 9) (ncells ((((n1, n2, n3), n4, n5, n6), n7, n8, o9) : Nd)) := by rw [hW]; rfl
    clear hW
    have hr0 : NodRow p7.w w.heap.size (.slice (some ⟨gn, 0, none⟩) ns.length cn) ns := by rw [← HN.out]; exact hr.below p7.h
    obtain ⟨hr1, hgr⟩ := nodrow_set ((((n1, n2, n3), n4, n5, n6), n7, n8, o9) : Nd) hr0 hkl
    rw [← HN.out] at hr1
    rw [← hW2] at hr1 hgr
    have hb1 : Below w.heap.size w W8 := (bw_below B7 p7).grown hgr (bw_below B7 p7).size (fun j ej => by cases ej; exact hgnB)
    have hu1 : NodRow W8 w.heap.size (.slice (some ⟨ga, 0, none⟩) N cu) ns := owns_grown (hu.below p7.h) hgr (fun j e e1 => by have e2 : ga = j := Option.some.inj e; have e3 : gn = j := Option.some.inj e1; omega)
    have hv1 : OrdRow W8 w.heap.size (.slice (some ⟨go, 0, none⟩) n co) ord := owns_grown (hv.below p7.h) hgr (fun j e e1 => by cases e; cases e1; exact owns_types (hv.below p7.h) hr0 (by decide) _ rfl rfl)
    have hs1 : OrdRow W8 w.heap.size (.slice (some ⟨gm, 0, none⟩) n cm) ord := owns_grown (hs.below p7.h) hgr (fun j e e1 => by cases e; cases e1; exact owns_types (hs.below p7.h) hr0 (by decide) _ rfl rfl)
    have k_o1 := Bk.grown (k_o.below p7.h) hgr (fun e => by cases e; exact owns_bk hr0 (k_o.below p7.h) (by decide) rfl)
    have k_t1 := Bk.grown (k_t.below p7.h) hgr (fun e => by cases e; exact owns_bk hr0 (k_t.below p7.h) (by decide) rfl)
    have k_u1 := Bk.grown (k_u.below p7.h) hgr (fun e => by cases e; exact owns_bk hr0 (k_u.below p7.h) (by decide) rfl)
    have k_d1 := Bk.grown (k_d.below p7.h) hgr (fun e => by cases e; omega)
    clear hu hv hr hs hr0 hgr hW2 k_o k_t k_u k_d
    clear c_o_0 c_o_1 c_o_2 c_o_3 c_o_4 c_o_5 c_o_6 c_o_7 c_o_8 c_t_0 c_t_1 c_u_0 c_u_1 c_d_0 c_d_1 c_d_2 c_d_3 c_d_4 c_d_5 c_d_6 c_d_7 c_d_8 z0 z1 z2 z3 z4 z5 z6 z7 z8 c_x0 c_x1 c_x2 c_x3 c_x4 c_x5 c_x6 c_x7 c_x8 B7
    have k_o := k_o1
    have k_t := k_t1
    have k_u := k_u1
    have k_d := k_d1
    clear k_o1 k_t1 k_u1 k_d1
    have B8 := hb1
    clear hb1
    obtain ⟨c_o_0, c_o_1, c_o_2, c_o_3, c_o_4, c_o_5, c_o_6, c_o_7, c_o_8⟩ := bwc9 (k_o)
    obtain ⟨c_t_0, c_t_1⟩ := bwc2 (k_t)
    obtain ⟨c_u_0, c_u_1⟩ := bwc2 (k_u)
    obtain ⟨c_d_0, c_d_1, c_d_2, c_d_3, c_d_4, c_d_5, c_d_6, c_d_7, c_d_8⟩ := bwc9 (k_d)
    obtain ⟨p8, hp8⟩ : ∃ p : BW W8, p.w = W8 := ⟨BW.start W8, rfl⟩
    rw [← hp8]
    clear hp8
    have one : OneNum (ns.getD k nd0) ((((n1, n2, n3), n4, n5, n6), n7, n8, o9) : Nd) := by rw [HDK.out]; exact .inl ⟨rfl, rfl⟩
    obtain ⟨zz, hzz⟩ : ∃ zz, zz = decide (((((n1, n2, n3), n4, n5, n6), n7, n8, o9) : Nd) = ((((n1, n2, n3), n4, n5, n6), n7, n8, n9) : Nd)) := ⟨_, rfl⟩
    have KU := Lib.hid (fun (Y : World) (hY : Below W8.heap.size W8 Y) => KW.out Y (ns.set k ((((n1, n2, n3), n4, n5, n6), n7, n8, o9) : Nd)) gn cn gm cm (B8.trans (hY.mono B8.size)) (by rw [List.length_set]; exact HN.out.symm) (hr1.below hY) (hs1.below hY))
    rw [HWK.out _ one, HDK.out, ← hzz] at KU
    have KT := Lib.hid (fun (Y : World) (hY : Below W8.heap.size W8 Y) => KW.out Y ns ga cu go co (B8.trans (hY.mono B8.size)) HN.out.symm (hu1.below hY) (hv1.below hY))
    have HZ := Lib.hid hzz
    clear hzz one
    rw [HWT.out] at KT
    have c_y0 : ∀ p : BW W8, p.w.cell? ⟨ga, k * 9, none⟩ = some (.int .i64 n1) := bw_cell (owns_at16 (q := 0) hu1 HN.out hkl HDK.out (by omega))
    have c_y1 : ∀ p : BW W8, p.w.cell? ⟨ga, k * 9 + 1, none⟩ = some (.int .i64 n2) := bw_cell (owns_at16 (q := 1) hu1 HN.out hkl HDK.out (by omega))
    have c_y2 : ∀ p : BW W8, p.w.cell? ⟨ga, k * 9 + 2, none⟩ = some (.int .i64 n3) := bw_cell (owns_at16 (q := 2) hu1 HN.out hkl HDK.out (by omega))
    have c_y3 : ∀ p : BW W8, p.w.cell? ⟨ga, k * 9 + 3, none⟩ = some (.int .i64 n4) := bw_cell (owns_at16 (q := 3) hu1 HN.out hkl HDK.out (by omega))
    have c_y4 : ∀ p : BW W8, p.w.cell? ⟨ga, k * 9 + 4, none⟩ = some (.int .i64 n5) := bw_cell (owns_at16 (q := 4) hu1 HN.out hkl HDK.out (by omega))
    have c_y5 : ∀ p : BW W8, p.w.cell? ⟨ga, k * 9 + 5, none⟩ = some (.int .i64 n6) := bw_cell (owns_at16 (q := 5) hu1 HN.out hkl HDK.out (by omega))
    have c_y6 : ∀ p : BW W8, p.w.cell? ⟨ga, k * 9 + 6, none⟩ = some (.int .i64 n7) := bw_cell (owns_at16 (q := 6) hu1 HN.out hkl HDK.out (by omega))
    have c_y7 : ∀ p : BW W8, p.w.cell? ⟨ga, k * 9 + 7, none⟩ = some (.int .i64 n8) := bw_cell (owns_at16 (q := 7) hu1 HN.out hkl HDK.out (by omega))
    have c_y8 : ∀ p : BW W8, p.w.cell? ⟨ga, k * 9 + 8, none⟩ = some (.int .i64 n9) := bw_cell (owns_at16 (q := 8) hu1 HN.out hkl HDK.out (by omega))
    clear KW HWK HWT HWS hu1 hv1 hr1 hs1
    refine wp_region_bw (by kernel_rfl) (by kernel_rfl) ?_
    repeat (go_big_quiet_step (first
        | (go_at_call 9; (with_reducible first | exact (bw_callB KU.out (Below.refl _ _) _) | exact (bw_callB KT.out (Below.refl _ _) _)))
        | (go_at_call 5; (with_reducible exact (bw_call KA.out _)))))
    refine quiet_value (.bool zz) (by rfl) (fun w => by rw [HZ.out]; exact node_eql16 n1 n2 n3 n4 n5 n6 n7 n8 o9 n1 n2 n3 n4 n5 n6 n7 n8 n9 _ _ w _ _ _ _ _ _ rfl rfl) ?_
    simp only [Act.put, List.setIfInBounds_toArray, List.set_cons_zero, List.set_cons_succ]
    cases zz with
    | false =>
      repeat (go_big_quiet_step (first
        | (go_at_call 9; (with_reducible first | exact (bw_callB KU.out (Below.refl _ _) _) | exact (bw_callB KT.out (Below.refl _ _) _)))
        | (go_at_call 5; (with_reducible exact (bw_call KA.out _)))))
      refine wpQuiet_nil ?_
      intro _ hw'
      obtain ⟨q, rfl⟩ := hw'
      go_wp2
      go_ret
      exact ⟨rfl, bw_below B8 _⟩
    | true =>
      repeat (go_big_quiet_step (first
        | (go_at_call 9; (with_reducible first | exact (bw_callB KU.out (Below.refl _ _) _) | exact (bw_callB KT.out (Below.refl _ _) _)))
        | (go_at_call 5; (with_reducible exact (bw_call KA.out _)))))
      refine wpQuiet_nil ?_
      intro _ hw'
      obtain ⟨q, rfl⟩ := hw'
      go_wp2
      go_ret
      exact ⟨rfl, bw_below B8 _⟩

theorem law_TreeWhole (lp : Option Addr) (n lc av kv : Nat) (o1 o2 o3 o4 o5 o6 o7 o8 o9 : Int) (P : Nat → Pr) (w : World) (hs : Prims w (.slice lp n lc) n P) (hav : av ≤ 255) (hkv : kv ≤ 255) :
    Calls Try.prog 4 #[.slice lp n lc, .int .u8 (av : Int), .agg #[.int .i64 o1, .int .i64 o2, .int .i64 o3, .int .i64 o4, .int .i64 o5, .int .i64 o6, .int .i64 o7, .int .i64 o8, .int .i64 o9], .int .u8 (kv : Int)] w fun en w' => en = .returned (.bool true) ∧ Below w.heap.size w w' := by
  by_cases h1 : 24 < n
  · exact wholelaw_a lp n lc av kv o1 o2 o3 o4 o5 o6 o7 o8 o9 w h1
  by_cases h2 : n = 0
  · exact wholelaw_b lp n lc av kv o1 o2 o3 o4 o5 o6 o7 o8 o9 w h2
  have h0 : 0 < n := by omega
  have KR : ∀ X, Below w.heap.size w X → Calls Try.prog 15 #[.slice lp n lc] X fun e w' => e = .returned (.bool (pAll P n)) ∧ Below X.heap.size X w' := fun X hX => ref14_Right _ n P X (hs.below hX (Nat.le_refl _)) (by omega)
  cases hp : pAll P n with
  | false =>
    rw [hp] at KR
    exact wholelaw_c lp n lc av kv o1 o2 o3 o4 o5 o6 o7 o8 o9 w h1 h2 (Lib.hid KR)
  | true =>
    rw [hp] at KR
    have hl := mGrow_len (P := P) n (List.range n) 0 0 (by simp) (by simpa using h0)
    rw [List.length_range] at hl
    have hbw := build_whole (P := P) h0
    have hwh := build_wh h0 hp
    have hpm := grow_perm (P := P) n (List.range n) 0 0 (by simp) (by simpa using h0)
    have KB0 := fun X (hX : Below w.heap.size w X) => tree_Build lp n lc P X (hs.below hX (Nat.le_refl _)) (by omega)
    rw [show mBuild P n = mGrow P n (List.range n) 0 0 from by unfold mBuild; rw [if_pos ⟨h0, by omega, hp⟩]] at KB0
    generalize mGrow P n (List.range n) 0 0 = G at *
    obtain ⟨ns, od⟩ := G
    dsimp only at hl hbw hwh hpm KB0
    obtain ⟨l1, l2, l3⟩ := hl
    obtain ⟨b1, b2, b3⟩ := hbw
    have hlo : (od.map (fun k : Nat => (k : Int))).length = n := by rw [List.length_map, l1]
    have hI : ∀ x ∈ od.map (fun k : Nat => (k : Int)), I64 x := fun x hx => by
      obtain ⟨k, hk, rfl⟩ := List.mem_map.1 hx
      have h := List.mem_range.1 (hpm.mem_iff.1 hk)
      unfold I64
      omega
    have KB1 : ∀ X, Below w.heap.size w X → Calls Try.prog 16 #[.slice lp n lc] X fun e w1 => ∃ ga cu go co, e = .returned (.agg #[.slice (some ⟨ga, 0, none⟩) ns.length cu, .slice (some ⟨go, 0, none⟩) n co]) ∧ NodRow w1 w.heap.size (.slice (some ⟨ga, 0, none⟩) ns.length cu) ns ∧ OrdRow w1 w.heap.size (.slice (some ⟨go, 0, none⟩) n co) (od.map (fun k : Nat => (k : Int))) ∧ Below X.heap.size X w1 := fun X hX => (KB0 X hX).mono fun e w1 ⟨u, v, e1, hu, hv, hb⟩ => by
      have hv2 := ints_ord hv
      obtain ⟨ga, cu, rfl, _, _, _⟩ := owns_some hu l3
      obtain ⟨go, co, rfl, _, _, _⟩ := owns_some hv2 (by rw [hlo]; exact h0)
      have hv3 : OrdRow w1 w.heap.size (.slice (some ⟨go, 0, none⟩) (od.map (fun k : Nat => (k : Int))).length co) (od.map (fun k : Nat => (k : Int))) := owns_mono hv2 hX.size
      rw [hlo] at e1 hv3
      exact ⟨ga, cu, go, co, e1, owns_mono hu hX.size, hv3, hb⟩
    clear KB0
    generalize od.map (fun k : Nat => (k : Int)) = ord at *
    refine wholelaw_d lp n lc av kv o1 o2 o3 o4 o5 o6 o7 o8 o9 ns ord ns.length (mDeep ns n) (mLeaves ns n) (fun us => mWh us P ord n) w h1 h2 rfl hlo.symm hav hkv l3 (by omega) b2 b3 hwh (fun c d hc h => set_whole hc h hwh) (Lib.hid KR) (Lib.hid KB1) (Lib.hid ?_) (Lib.hid ?_) (Lib.hid ?_) (Lib.hid ?_)
    · intro X us gu cu go co hX hlu hr ho
      obtain ⟨a, cap, e, hc, hS⟩ := ordrow_slice ho hI
      have h := tree_Whole _ us a ord cap lp n lc P X (nodrow_nodes hr (by omega)) hS (hs.below hX (Nat.le_refl _)) hc (by omega) (by omega) (by omega)
      rw [← e] at h
      exact h
    · intro X gu cu go co hX hr
      have h := tree_Ordered _ ns (some ⟨go, 0, none⟩) n co X (nodrow_nodes hr (by omega)) (by omega) (by omega)
      rw [b1] at h
      exact h
    · intro X gu cu go co hX hr
      exact tree_Depth _ ns (some ⟨go, 0, none⟩) n co X (nodrow_nodes hr (by omega)) (by omega) (by omega)
    · intro X gu cu go co hX hr
      exact tree_Leaves _ ns (some ⟨go, 0, none⟩) n co X (nodrow_nodes hr (by omega)) (by omega) (by omega)

end
end Go.Proofs.Ytomlcglnkdfemaa
