/- Plain mathematics of layer 14: hits, and the first of them. Imports no -/
import Derived.Test.YtbmpmjdlaahekaaGreatWs12
set_option maxRecDepth 100000
set_option maxHeartbeats 8000000
set_option linter.unusedVariables false
set_option linter.unusedSimpArgs false
namespace Go.Proofs.Sky
section
open Go.RowKit
abbrev H3 := Int × Int × Int
def hb (a b : H3) : Bool := fless a.2.1 a.2.2 b.2.1 b.2.2 || (fsame a.2.1 a.2.2 b.2.1 b.2.2 && decide (a.1 < b.1))
def hitAt (p : Pr) (i : Nat) (o d : T3) (fr : Int) : List H3 := if (pHit p i o d fr).2 = true then [((i : Int), (pHit p i o d fr).1)] else []
def hUp (P : Nat → Pr) (k : Nat) (o d : T3) (fr : Int) : List H3 := (List.range k).flatMap (fun i => hitAt (P i) i o d fr)
def hBest (l : List H3) (x : H3) : Bool := l.all (fun y => !hb y x)
def hFirst (l : List H3) : H3 × Bool := match l.find? (hBest l) with | some x => (x, true) | none => ((0, 0, 0), false)
def hClosest (P : Nat → Pr) (n : Nat) (o d : T3) (fr : Int) : H3 × Bool := hFirst (hUp P n o d fr)
def hAny (P : Nat → Pr) (n : Nat) (o d : T3) (fr m e : Int) : Bool := (hUp P n o d fr).any (fun h => !decide (1 ≤ e) || fless h.2.1 h.2.2 m e)
def hSel (h : H3) (Z : Nat → Int) (n : Nat) : List H3 := (List.range n).flatMap (fun k => if Z k = h.1 then [h] else [])
def hSome (l : List H3) (Z : Nat → Int) (n : Nat) : List H3 := l.flatMap (fun h => hSel h Z n)
def hAmong (P : Nat → Pr) (n : Nat) (Z : Nat → Int) (m : Nat) (o d : T3) (fr : Int) : H3 × Bool := hFirst (hSome (hUp P n o d fr) Z m)
theorem hUp_succ (P : Nat → Pr) (k : Nat) (o d : T3) (fr : Int) : hUp P (k + 1) o d fr = hUp P k o d fr ++ hitAt (P k) k o d fr := by
 unfold hUp; rw [List.range_succ, List.flatMap_append]; simp
theorem hitAt_yes {p : Pr} {i : Nat} {o d : T3} {fr : Int} (h : (pHit p i o d fr).2 = true) : hitAt p i o d fr = [((i : Int), (pHit p i o d fr).1)] := by unfold hitAt; rw [if_pos h]
theorem hitAt_no {p : Pr} {i : Nat} {o d : T3} {fr : Int} (h : (pHit p i o d fr).2 = false) : hitAt p i o d fr = [] := by unfold hitAt; rw [h]; rfl
theorem hitAt_len (p : Pr) (i : Nat) (o d : T3) (fr : Int) : (hitAt p i o d fr).length ≤ 1 := by unfold hitAt; split <;> simp
theorem hUp_len (P : Nat → Pr) (o d : T3) (fr : Int) : ∀ k, (hUp P k o d fr).length ≤ k
 | 0 => by simp [hUp]
 | k + 1 => by
  rw [hUp_succ, List.length_append]
  have := hUp_len P o d fr k
  have := hitAt_len (P k) k o d fr
  omega
theorem hUp_mem {P : Nat → Pr} {n : Nat} {o d : T3} {fr : Int} {x : H3} (h : x ∈ hUp P n o d fr) : ∃ i : Nat, i < n ∧ x = ((i : Int), (pHit (P i) i o d fr).1) ∧ (pHit (P i) i o d fr).2 = true := by
 unfold hUp at h
 rw [List.mem_flatMap] at h
 obtain ⟨i, hi, hx⟩ := h
 refine ⟨i, List.mem_range.1 hi, ?_⟩
 unfold hitAt at hx
 split at hx
 · rename_i g; exact ⟨by simpa using hx, g⟩
 · simp at hx
theorem z11 {l : List H3} {x : H3} : hBest l x = true ↔ ∀ y ∈ l, hb y x = false := by unfold hBest; simp
def Hok (a : H3) : Prop := 1 ≤ a.2.1 ∧ 1 ≤ a.2.2
theorem mul_le_cancel {a b c : Int} (hc : 1 ≤ c) (h : a * c ≤ b * c) : a ≤ b := Int.le_of_mul_le_mul_right h (by omega)
theorem hb_iff {a b : H3} (ha : Hok a) (hb' : Hok b) : hb a b = true ↔ (a.2.1 * b.2.2 < b.2.1 * a.2.2 ∨ (a.2.1 * b.2.2 = b.2.1 * a.2.2 ∧ a.1 < b.1)) := by
 obtain ⟨_, a2⟩ := ha
 obtain ⟨_, b2⟩ := hb'
 unfold hb fless fsame
 rw [zt a2, zt b2]
 simp
theorem hb_irrefl {a : H3} (ha : Hok a) : hb a a = false := by
 cases h : hb a a with
 | false => rfl
 | true => rw [hb_iff ha ha] at h; omega
theorem hfrac_trans {n1 d1 n2 d2 n3 d3 : Int} (h1 : 1 ≤ d1) (h2 : 1 ≤ d2) (h3 : 1 ≤ d3) (a : n1 * d2 ≤ n2 * d1) (b : n2 * d3 ≤ n3 * d2) : n1 * d3 ≤ n3 * d1 ∧ (n1 * d2 < n2 * d1 ∨ n2 * d3 < n3 * d2 → n1 * d3 < n3 * d1) := by
 have e1 := Int.mul_le_mul_of_nonneg_right a (show 0 ≤ d3 by omega)
 have e2 := Int.mul_le_mul_of_nonneg_right b (show 0 ≤ d1 by omega)
 have r1 : n1 * d2 * d3 = n1 * d3 * d2 := by grind
 have r2 : n2 * d1 * d3 = n2 * d3 * d1 := by grind
 have r3 : n3 * d2 * d1 = n3 * d1 * d2 := by grind
 refine ⟨mul_le_cancel h2 (by omega), fun h => ?_⟩
 have key : n1 * d3 * d2 < n3 * d1 * d2 := by
  rcases h with h | h
  · have := Int.mul_lt_mul_of_pos_right h (show 0 < d3 by omega); omega
  · have := Int.mul_lt_mul_of_pos_right h (show 0 < d1 by omega); omega
 exact Int.lt_of_mul_lt_mul_right key (by omega)
theorem hb_trans {a b c : H3} (ha : Hok a) (hb' : Hok b) (hc : Hok c) (h1 : hb a b = true) (h2 : hb b c = true) : hb a c = true := by
 rw [hb_iff ha hb'] at h1
 rw [hb_iff hb' hc] at h2
 rw [hb_iff ha hc]
 obtain ⟨k1, k2⟩ := hfrac_trans ha.2 hb'.2 hc.2 (show a.2.1 * b.2.2 ≤ b.2.1 * a.2.2 by omega) (show b.2.1 * c.2.2 ≤ c.2.1 * b.2.2 by omega)
 rcases h1 with h1 | ⟨h1, i1⟩
 · exact .inl (k2 (.inl h1))
 · rcases h2 with h2 | ⟨h2, i2⟩
   · exact .inl (k2 (.inr h2))
   · by_cases g : a.2.1 * c.2.2 < c.2.1 * a.2.2
     · exact .inl g
     · exact .inr ⟨by omega, by omega⟩
theorem hb_total {a b : H3} (ha : Hok a) (hb' : Hok b) (h1 : hb a b = false) (h2 : hb b a = false) : a.1 = b.1 := by
 have n1 : ¬ hb a b = true := by rw [h1]; decide
 have n2 : ¬ hb b a = true := by rw [h2]; decide
 rw [hb_iff ha hb'] at n1
 rw [hb_iff hb' ha] at n2
 omega
theorem has_best : ∀ l : List H3, (∀ x ∈ l, Hok x) → l ≠ [] → ∃ x ∈ l, hBest l x = true
 | [], _, h => absurd rfl h
 | a :: l, hok, _ => by
  by_cases hl : l = []
  · subst hl
    refine ⟨a, by simp, ?_⟩
    rw [z11]
    intro y hy
    have : y = a := by simpa using hy
    rw [this]
    exact hb_irrefl (hok a (by simp))
  · obtain ⟨x, hx, hbx⟩ := has_best l (fun y hy => hok y (by simp [hy])) hl
    have oa := hok a (by simp)
    have ox := hok x (by simp [hx])
    rw [z11] at hbx
    cases h : hb a x with
    | false =>
     refine ⟨x, by simp [hx], ?_⟩
     rw [z11]
     intro y hy
     rcases List.mem_cons.1 hy with rfl | hy
     · exact h
     · exact hbx y hy
    | true =>
     refine ⟨a, by simp, ?_⟩
     rw [z11]
     intro y hy
     rcases List.mem_cons.1 hy with rfl | hy
     · exact hb_irrefl oa
     · cases g : hb y a with
       | false => rfl
       | true =>
        have := hb_trans (hok y (by simp [hy])) oa ox g h
        rw [hbx y hy] at this
        cases this
theorem hFirst_spec {l : List H3} (hok : ∀ x ∈ l, Hok x) : (l = [] ∧ hFirst l = ((0, 0, 0), false)) ∨ (l ≠ [] ∧ (hFirst l).2 = true ∧ (hFirst l).1 ∈ l ∧ hBest l (hFirst l).1 = true) := by
 by_cases hl : l = []
 · subst hl; exact .inl ⟨rfl, rfl⟩
 · right
   obtain ⟨x, hx, hbx⟩ := has_best l hok hl
   unfold hFirst
   cases h : l.find? (hBest l) with
   | none => rw [List.find?_eq_none] at h; exact absurd hbx (h x hx)
   | some y => exact ⟨hl, rfl, List.mem_of_find?_eq_some h, List.find?_some h⟩
theorem hFirst_unique {l : List H3} {x : H3} (hok : ∀ x ∈ l, Hok x) (hu : ∀ x ∈ l, ∀ y ∈ l, x.1 = y.1 → x = y) (hx : x ∈ l) (hb' : hBest l x = true) : hFirst l = (x, true) := by
 rcases hFirst_spec hok with ⟨rfl, _⟩ | ⟨hl, h1, h2, h3⟩
 · simp at hx
 · have e : (hFirst l).1 = x := hu _ h2 _ hx (hb_total (hok _ h2) (hok _ hx) (z11.1 hb' _ h2) (z11.1 h3 _ hx))
   rw [← e, ← h1]
theorem pHit_ok {p : Pr} {ix : Int} {o d : T3} {fr : Int} (h : (pHit p ix o d fr).2 = true) : 1 ≤ (pHit p ix o d fr).1.1 ∧ 1 ≤ (pHit p ix o d fr).1.2 := by
 unfold pHit at h ⊢
 by_cases g : pRight p = true
 · rw [if_pos g] at h ⊢
   by_cases hk : p.k = 1
   · rw [if_pos hk] at h ⊢
     by_cases hf : fr = ix
     · rw [if_pos hf] at h; cases h
     · rw [if_neg hf] at h ⊢; exact ⟨(tri_hits h).1, (tri_hits h).2.1⟩
   · rw [if_neg hk] at h ⊢
     by_cases hf : fr = ix
     · rw [if_pos hf] at h ⊢
       unfold ballT at h ⊢
       split at h
       · rename_i q
         rw [if_pos q]
         obtain ⟨q1, q2⟩ := q
         unfold ballM at q1
         simp only [Bool.and_eq_true, Bool.not_eq_true'] at q1
         have := dtT_pos q1.2.2.2
         dsimp only
         omega
       · cases h
     · rw [if_neg hf] at h ⊢; exact ⟨(ball_hits h).1, (ball_hits h).2.1⟩
 · rw [if_neg g] at h; cases h
theorem hUp_ok {P : Nat → Pr} {n : Nat} {o d : T3} {fr : Int} : ∀ x ∈ hUp P n o d fr, Hok x := fun x hx => by
 obtain ⟨i, _, rfl, h⟩ := hUp_mem hx
 exact pHit_ok h
theorem hUp_unique {P : Nat → Pr} {n : Nat} {o d : T3} {fr : Int} : ∀ x ∈ hUp P n o d fr, ∀ y ∈ hUp P n o d fr, x.1 = y.1 → x = y := fun x hx y hy e => by
 obtain ⟨i, _, rfl, _⟩ := hUp_mem hx
 obtain ⟨j, _, rfl, _⟩ := hUp_mem hy
 have : i = j := by dsimp only at e; omega
 subst this
 rfl
theorem hUp_I64 {P : Nat → Pr} {n : Nat} {o d : T3} {fr : Int} (hn : n ≤ 4611686018427387904) : ∀ x ∈ hUp P n o d fr, I64 x.1 ∧ I64 x.2.1 ∧ I64 x.2.2 := fun x hx => by
 obtain ⟨i, hi, rfl, _⟩ := hUp_mem hx
 exact ⟨by unfold I64; dsimp only; omega, pHit_I64 _ _ _ _ _⟩
end
section
open Go.RowKit
-- a part, gone through from any node on
theorem mPart_out {ns : List Nd} {m th : Int} {i : Nat} (h : ¬ i < ns.length) : mPart ns m i th = pt0 := by
 unfold mPart
 cases e : ns.length + 1 - i with
 | zero => rfl
 | succ f => exact mWalk_out h
theorem mPart_leaf {ns : List Nd} {m th : Int} {i : Nat} (h : i < ns.length) (hc : ns[i].2.2.1 ≠ 0) :
  mPart ns m i th = if 0 < ns[i].2.2.1 ∧ ns[i].2.1 = th ∧ ns[i].2.2.2 = 0 ∧ ns[i].2.2.1 ≤ m - th then ((i : Int) + 1, th + ns[i].2.2.1, 1, 1, true) else pt0 := by
 unfold mPart
 rw [show ns.length + 1 - i = (ns.length - i) + 1 by omega]
 exact mWalk_leaf h hc
theorem mPart_first {ns : List Nd} {m th : Int} {i : Nat} (h : i < ns.length) (hc : ns[i].2.2.1 = 0) (hf : ns[i].2.1 ≠ 0) : mPart ns m i th = pt0 := by
 unfold mPart
 rw [show ns.length + 1 - i = (ns.length - i) + 1 by omega]
 exact mWalk_first h hc hf
theorem mPart_in {ns : List Nd} {m : Int} {i : Nat} {th : Int} (h : (mPart ns m i th).2.2.2.2 = true) :
  (i : Int) < (mPart ns m i th).1 ∧ (mPart ns m i th).1 ≤ ns.length ∧ th < (mPart ns m i th).2.1 ∧ (mPart ns m i th).2.1 ≤ m ∧ 1 ≤ (mPart ns m i th).2.2.1 ∧ (mPart ns m i th).2.2.1 ≤ (mPart ns m i th).1 - i ∧ 1 ≤ (mPart ns m i th).2.2.2.1 ∧ (mPart ns m i th).2.2.2.1 ≤ (mPart ns m i th).1 - i := mWalk_in _ _ _ h
theorem mPart_node {ns : List Nd} {m th : Int} {i : Nat} (h : i < ns.length) (hc : ns[i].2.2.1 = 0) (hf : ns[i].2.1 = 0) {a : Pt} (ha : mPart ns m (i + 1) th = a) :
  mPart ns m i th = if a.2.2.2.2 = false ∨ ns[i].2.2.2 ≠ a.1 then pt0 else if (mPart ns m a.1.toNat a.2.1).2.2.2.2 = false then pt0 else ((mPart ns m a.1.toNat a.2.1).1, (mPart ns m a.1.toNat a.2.1).2.1, 1 + max a.2.2.1 (mPart ns m a.1.toNat a.2.1).2.2.1, a.2.2.2.1 + (mPart ns m a.1.toNat a.2.1).2.2.2.1, true) := by
 have e : mPart ns m i th = mWalk ns m ((ns.length - i) + 1) i th := by
  unfold mPart
  rw [show ns.length + 1 - i = (ns.length - i) + 1 by omega]
 have ha' : mWalk ns m (ns.length - i) (i + 1) th = a := by
  rw [← ha]
  unfold mPart
  exact mWalk_more _ _ _ _ (by omega) (by omega)
 rw [e, mWalk_node h hc hf ha']
 by_cases hk : a.2.2.2.2 = false ∨ ns[i].2.2.2 ≠ a.1
 · rw [if_pos hk, if_pos hk]
 · rw [if_neg hk, if_neg hk]
   have hin := mPart_in (ns := ns) (m := m) (i := i + 1) (th := th) (by rw [ha]; simpa using fun e => hk (.inl e))
   rw [ha] at hin
   have e2 : mWalk ns m (ns.length - i) a.1.toNat a.2.1 = mPart ns m a.1.toNat a.2.1 := by
    unfold mPart
    exact mWalk_more _ _ _ _ (by omega) (by omega)
   rw [e2]
theorem mPart_two {ns : List Nd} {m th : Int} {i : Nat} (h : i < ns.length) (hc : ns[i].2.2.1 = 0) (hk : (mPart ns m i th).2.2.2.2 = true) :
  ns[i].2.1 = 0 ∧ (mPart ns m (i + 1) th).2.2.2.2 = true ∧ ns[i].2.2.2 = (mPart ns m (i + 1) th).1 ∧ (mPart ns m (mPart ns m (i + 1) th).1.toNat (mPart ns m (i + 1) th).2.1).2.2.2.2 = true ∧
   (mPart ns m i th).1 = (mPart ns m (mPart ns m (i + 1) th).1.toNat (mPart ns m (i + 1) th).2.1).1 ∧ (mPart ns m i th).2.1 = (mPart ns m (mPart ns m (i + 1) th).1.toNat (mPart ns m (i + 1) th).2.1).2.1 := by
 by_cases hf : ns[i].2.1 = 0
 · rw [mPart_node h hc hf rfl] at hk ⊢
   split at hk
   · cases hk
   · rename_i h1
     split at hk
     · cases hk
     · rename_i h2
       rw [if_neg h1, if_neg h2]
       have g1 : (mPart ns m (i + 1) th).2.2.2.2 = true := by simpa using fun e => h1 (.inl e)
       have g2 : ns[i].2.2.2 = (mPart ns m (i + 1) th).1 := by
        by_cases g : ns[i].2.2.2 = (mPart ns m (i + 1) th).1
        · exact g
        · exact absurd (.inr g) h1
       exact ⟨hf, g1, g2, by simpa using h2, rfl, rfl⟩
 · rw [mPart_first h hc hf] at hk; cases hk
theorem mPart_one {ns : List Nd} {m th : Int} {i : Nat} (h : i < ns.length) (hc : ns[i].2.2.1 ≠ 0) (hk : (mPart ns m i th).2.2.2.2 = true) :
  0 < ns[i].2.2.1 ∧ ns[i].2.1 = th ∧ ns[i].2.2.2 = 0 ∧ ns[i].2.2.1 ≤ m - th ∧ (mPart ns m i th).1 = (i : Int) + 1 ∧ (mPart ns m i th).2.1 = th + ns[i].2.2.1 := by
 rw [mPart_leaf h hc] at hk ⊢
 split at hk
 · rename_i h1
   rw [if_pos h1]
   exact ⟨h1.1, h1.2.1, h1.2.2.1, h1.2.2.2, rfl, rfl⟩
 · cases hk
-- gone through with a stack
-- each index once
def mSeen (ord : List Int) (n : Nat) : Nat → Bool
 | 0 => true
 | k + 1 => mSeen ord n k && decide (0 ≤ ord.getD k 0 ∧ ord.getD k 0 < n ∧ ord.getD k 0 ∉ ord.take k)
def mOnce (ord : List Int) (n : Nat) : Bool := decide (ord.length = n) && mSeen ord n ord.length
theorem mSeen_succ (ord : List Int) (n k : Nat) : mSeen ord n (k + 1) = (mSeen ord n k && decide (0 ≤ ord.getD k 0 ∧ ord.getD k 0 < n ∧ ord.getD k 0 ∉ ord.take k)) := rfl
def mSum (ord : List Int) : Nat → Nat
 | 0 => 0
 | i + 1 => mSum ord i + ord.count (i : Int)
theorem mSum_nil : ∀ i, mSum [] i = 0
 | 0 => rfl
 | i + 1 => by unfold mSum; rw [mSum_nil i]; rfl
theorem mSum_cons (x : Int) (l : List Int) : ∀ n : Nat, mSum (x :: l) n = mSum l n + (if 0 ≤ x ∧ x < n then 1 else 0)
 | 0 => by rw [if_neg (by omega)]; rfl
 | n + 1 => by
  unfold mSum
  rw [mSum_cons x l n, List.count_cons]
  by_cases h1 : 0 ≤ x ∧ x < n
  · rw [if_pos h1, if_pos (show 0 ≤ x ∧ x < ((n + 1 : Nat) : Int) by omega), if_neg (show ¬ ((x == (n : Int)) = true) by rw [beq_iff_eq]; omega)]; omega
  · rw [if_neg h1]
    by_cases h2 : x = n
    · rw [if_pos (show (x == (n : Int)) = true by rw [beq_iff_eq]; exact h2), if_pos (show 0 ≤ x ∧ x < ((n + 1 : Nat) : Int) by omega)]; omega
    · rw [if_neg (show ¬ ((x == (n : Int)) = true) by rw [beq_iff_eq]; exact h2), if_neg (show ¬ (0 ≤ x ∧ x < ((n + 1 : Nat) : Int)) by omega)]; omega
theorem mSum_le (n : Nat) : ∀ l : List Int, mSum l n ≤ l.length
 | [] => by rw [mSum_nil]; exact Nat.le_refl _
 | x :: l => by
  rw [mSum_cons, List.length_cons]
  have := mSum_le n l
  split <;> omega
theorem mSum_all {n : Nat} : ∀ l : List Int, (mSum l n = l.length ↔ ∀ x ∈ l, 0 ≤ x ∧ x < n)
 | [] => by rw [mSum_nil]; simp
 | x :: l => by
  rw [mSum_cons, List.length_cons]
  have h := mSum_le n l
  have ih := mSum_all (n := n) l
  by_cases hx : 0 ≤ x ∧ x < n
  · rw [if_pos hx]
    constructor
    · intro e y hy
      rcases List.mem_cons.1 hy with rfl | hy
      · exact hx
      · exact ih.1 (by omega) y hy
    · intro e
      rw [ih.2 (fun y hy => e y (List.mem_cons_of_mem _ hy))]
  · rw [if_neg hx]
    constructor
    · intro e; omega
    · intro e; exact absurd (e x List.mem_cons_self) hx
theorem mSum_ones {l : List Int} : ∀ n : Nat, (∀ i : Nat, i < n → l.count (i : Int) ≤ 1) → mSum l n ≤ n ∧ (mSum l n = n → ∀ i : Nat, i < n → l.count (i : Int) = 1)
 | 0, _ => ⟨Nat.le_refl _, fun _ i hi => by omega⟩
 | n + 1, h => by
  obtain ⟨h1, h2⟩ := mSum_ones n (fun i hi => h i (by omega))
  have h3 := h n (by omega)
  unfold mSum
  refine ⟨by omega, fun e i hi => ?_⟩
  by_cases g : i = n
  · subst g; omega
  · exact h2 (by omega) i (by omega)
theorem mSum_one {l : List Int} : ∀ n : Nat, (∀ i : Nat, i < n → l.count (i : Int) = 1) → mSum l n = n
 | 0, _ => rfl
 | n + 1, h => by unfold mSum; rw [mSum_one n (fun i hi => h i (by omega)), h n (by omega)]
theorem take_snoc {ord : List Int} {k : Nat} (h : k < ord.length) : ord.take (k + 1) = ord.take k ++ [ord.getD k 0] := by
 rw [List.take_add_one, List.getElem?_eq_getElem h, List.getD_eq_getElem?_getD, List.getElem?_eq_getElem h]
 rfl
theorem mSeen_iff {ord : List Int} {n : Nat} : ∀ k, k ≤ ord.length → (mSeen ord n k = true ↔ (∀ x ∈ ord.take k, 0 ≤ x ∧ x < n) ∧ ∀ x, (ord.take k).count x ≤ 1)
 | 0, _ => by unfold mSeen; simp
 | k + 1, hk => by
  have ih := mSeen_iff (ord := ord) (n := n) k (by omega)
  rw [mSeen_succ, Bool.and_eq_true, ih, decide_eq_true_eq, take_snoc (by omega)]
  generalize ord.getD k 0 = y
  constructor
  · rintro ⟨⟨h1, h2⟩, h3, h4, h5⟩
    refine ⟨fun x hx => ?_, fun x => ?_⟩
    · rcases List.mem_append.1 hx with hx | hx
      · exact h1 x hx
      · rw [List.mem_singleton] at hx; subst hx; exact ⟨h3, h4⟩
    · rw [List.count_append, List.count_singleton]
      have := h2 x
      split
      · rename_i e
        rw [beq_iff_eq] at e
        subst e
        rw [List.count_eq_zero_of_not_mem h5]
        exact Nat.le_refl _
      · exact this
  · rintro ⟨h1, h2⟩
    have hy := h1 y (List.mem_append_right _ List.mem_cons_self)
    refine ⟨⟨fun x hx => h1 x (List.mem_append_left _ hx), fun x => ?_⟩, hy.1, hy.2, fun hm => ?_⟩
    · have := h2 x
      rw [List.count_append] at this
      omega
    · have := h2 y
      rw [List.count_append, List.count_singleton, if_pos (by rw [beq_iff_eq])] at this
      have := List.count_pos_iff.2 hm
      omega
theorem mOnce_iff {ord : List Int} {n : Nat} : mOnce ord n = true ↔ ord.length = n ∧ ∀ i : Nat, i < n → ord.count (i : Int) = 1 := by
 unfold mOnce
 rw [Bool.and_eq_true, decide_eq_true_eq, mSeen_iff _ (Nat.le_refl _), List.take_length]
 constructor
 · rintro ⟨h1, h2, h3⟩
   refine ⟨h1, (mSum_ones n (fun i _ => h3 _)).2 ?_⟩
   rw [(mSum_all ord).2 h2, h1]
 · rintro ⟨h1, h2⟩
   have h3 : ∀ x ∈ ord, 0 ≤ x ∧ x < n := (mSum_all ord).1 (by rw [mSum_one n h2, h1])
   refine ⟨h1, h3, fun x => ?_⟩
   by_cases hx : x ∈ ord
   · have hr := h3 x hx
     have := h2 x.toNat (by omega)
     rw [show ((x.toNat : Nat) : Int) = x by omega] at this
     omega
   · rw [List.count_eq_zero_of_not_mem hx]; omega
theorem mOnce_in {ord : List Int} {n : Nat} (h : mOnce ord n = true) : ∀ k, k < ord.length → 0 ≤ ord.getD k 0 ∧ ord.getD k 0 < n := by
 unfold mOnce at h
 rw [Bool.and_eq_true, mSeen_iff _ (Nat.le_refl _), List.take_length] at h
 intro k hk
 rw [List.getD_eq_getElem?_getD, List.getElem?_eq_getElem hk]
 exact h.2.1 _ (List.getElem_mem _)
end
end Go.Proofs.Sky
