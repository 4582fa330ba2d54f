/- Plain mathematics of layer 14: hits, and the first of them. Imports nothing of the translation. -/
import Derived.Test.YtokkankfaofooaaMath13
import Derived.Test.YtokkankfaofooaaMath03
namespace Go.Proofs.Sky
open Go.RowKit
set_option linter.unusedVariables false

abbrev H3 := Int × Int × Int
def hb (a b : H3) : Bool := fless a.2.1 a.2.2 b.2.1 b.2.2 || (fsame a.2.1 a.2.2 b.2.1 b.2.2 && decide (a.1 < b.1))
def hitAt (p : Pr) (i : Nat) (o d : T3) (fr : Int) : List H3 := if (pHit p i o d fr).2 = true then [((i : Int), (pHit p i o d fr).1)] else []
def hUp (P : Nat → Pr) (k : Nat) (o d : T3) (fr : Int) : List H3 := (List.range k).flatMap (fun i => hitAt (P i) i o d fr)
def hBest (l : List H3) (x : H3) : Bool := l.all (fun y => !hb y x)
def hFirst (l : List H3) : H3 × Bool := match l.find? (hBest l) with | some x => (x, true) | none => ((0, 0, 0), false)
def hClosest (P : Nat → Pr) (n : Nat) (o d : T3) (fr : Int) : H3 × Bool := hFirst (hUp P n o d fr)
def hAny (P : Nat → Pr) (n : Nat) (o d : T3) (fr m e : Int) : Bool := (hUp P n o d fr).any (fun h => !decide (1 ≤ e) || fless h.2.1 h.2.2 m e)
def hSel (h : H3) (Z : Nat → Int) (n : Nat) : List H3 := (List.range n).flatMap (fun k => if Z k = h.1 then [h] else [])
def hSome (l : List H3) (Z : Nat → Int) (n : Nat) : List H3 := l.flatMap (fun h => hSel h Z n)
def hAmong (P : Nat → Pr) (n : Nat) (Z : Nat → Int) (m : Nat) (o d : T3) (fr : Int) : H3 × Bool := hFirst (hSome (hUp P n o d fr) Z m)

theorem hUp_succ (P : Nat → Pr) (k : Nat) (o d : T3) (fr : Int) : hUp P (k + 1) o d fr = hUp P k o d fr ++ hitAt (P k) k o d fr := by
  unfold hUp; rw [List.range_succ, List.flatMap_append]; simp
theorem hitAt_yes {p : Pr} {i : Nat} {o d : T3} {fr : Int} (h : (pHit p i o d fr).2 = true) : hitAt p i o d fr = [((i : Int), (pHit p i o d fr).1)] := by unfold hitAt; rw [if_pos h]
theorem hitAt_no {p : Pr} {i : Nat} {o d : T3} {fr : Int} (h : (pHit p i o d fr).2 = false) : hitAt p i o d fr = [] := by unfold hitAt; rw [h]; rfl
theorem hitAt_len (p : Pr) (i : Nat) (o d : T3) (fr : Int) : (hitAt p i o d fr).length ≤ 1 := by unfold hitAt; split <;> simp
theorem hUp_len (P : Nat → Pr) (o d : T3) (fr : Int) : ∀ k, (hUp P k o d fr).length ≤ k
  | 0 => by simp [hUp]
  | k + 1 => by
    rw [hUp_succ, List.length_append]
    have := hUp_len P o d fr k
    have := hitAt_len (P k) k o d fr
    omega
theorem hUp_mem {P : Nat → Pr} {n : Nat} {o d : T3} {fr : Int} {x : H3} (h : x ∈ hUp P n o d fr) : ∃ i : Nat, i < n ∧ x = ((i : Int), (pHit (P i) i o d fr).1) ∧ (pHit (P i) i o d fr).2 = true := by
  unfold hUp at h
  rw [List.mem_flatMap] at h
  obtain ⟨i, hi, hx⟩ := h
  refine ⟨i, List.mem_range.1 hi, ?_⟩
  unfold hitAt at hx
  split at hx
  · rename_i g; exact ⟨by simpa using hx, g⟩
  · simp at hx
theorem hSel_succ (h : H3) (Z : Nat → Int) (k : Nat) : hSel h Z (k + 1) = hSel h Z k ++ (if Z k = h.1 then [h] else []) := by
  unfold hSel; rw [List.range_succ, List.flatMap_append]; simp
theorem hSel_len (h : H3) (Z : Nat → Int) : ∀ k, (hSel h Z k).length ≤ k
  | 0 => by simp [hSel]
  | k + 1 => by
    rw [hSel_succ, List.length_append]
    have := hSel_len h Z k
    split <;> simp <;> omega

theorem hFirst_yes {l : List H3} {i : Nat} (h : i < l.length) (hb : hBest l l[i] = true) (hn : ∀ j (q : j < l.length), j < i → hBest l l[j] = false) : hFirst l = (l[i], true) := by
  have : l.find? (hBest l) = some l[i] := by
    rw [List.find?_eq_some_iff_getElem]
    exact ⟨hb, i, h, rfl, fun j hj => by rw [hn j (by omega) hj]; rfl⟩
  unfold hFirst
  rw [this]
theorem hFirst_no {l : List H3} (hn : ∀ j (q : j < l.length), hBest l l[j] = false) : hFirst l = ((0, 0, 0), false) := by
  have : l.find? (hBest l) = none := by
    rw [List.find?_eq_none]
    intro x hx
    obtain ⟨j, q, rfl⟩ := List.getElem_of_mem hx
    rw [hn j q]; decide
  unfold hFirst
  rw [this]
theorem hBest_true {l : List H3} {x : H3} : hBest l x = true ↔ ∀ y ∈ l, hb y x = false := by unfold hBest; simp

/-- A hit that may be. -/
def Hok (a : H3) : Prop := 1 ≤ a.2.1 ∧ 1 ≤ a.2.2
theorem mul_le_cancel {a b c : Int} (hc : 1 ≤ c) (h : a * c ≤ b * c) : a ≤ b := Int.le_of_mul_le_mul_right h (by omega)
theorem hb_iff {a b : H3} (ha : Hok a) (hb' : Hok b) : hb a b = true ↔ (a.2.1 * b.2.2 < b.2.1 * a.2.2 ∨ (a.2.1 * b.2.2 = b.2.1 * a.2.2 ∧ a.1 < b.1)) := by
  obtain ⟨_, a2⟩ := ha
  obtain ⟨_, b2⟩ := hb'
  unfold hb fless fsame
  rw [decide_eq_true a2, decide_eq_true b2]
  simp
theorem hb_irrefl {a : H3} (ha : Hok a) : hb a a = false := by
  cases h : hb a a with
  | false => rfl
  | true => rw [hb_iff ha ha] at h; omega
/-- n1/d1 ≤ n2/d2 ≤ n3/d3. -/
theorem hfrac_trans {n1 d1 n2 d2 n3 d3 : Int} (h1 : 1 ≤ d1) (h2 : 1 ≤ d2) (h3 : 1 ≤ d3) (a : n1 * d2 ≤ n2 * d1) (b : n2 * d3 ≤ n3 * d2) : n1 * d3 ≤ n3 * d1 ∧ (n1 * d2 < n2 * d1 ∨ n2 * d3 < n3 * d2 → n1 * d3 < n3 * d1) := by
  have e1 := Int.mul_le_mul_of_nonneg_right a (show 0 ≤ d3 by omega)
  have e2 := Int.mul_le_mul_of_nonneg_right b (show 0 ≤ d1 by omega)
  have r1 : n1 * d2 * d3 = n1 * d3 * d2 := by grind
  have r2 : n2 * d1 * d3 = n2 * d3 * d1 := by grind
  have r3 : n3 * d2 * d1 = n3 * d1 * d2 := by grind
  refine ⟨mul_le_cancel h2 (by omega), fun h => ?_⟩
  have key : n1 * d3 * d2 < n3 * d1 * d2 := by
    rcases h with h | h
    · have := Int.mul_lt_mul_of_pos_right h (show 0 < d3 by omega); omega
    · have := Int.mul_lt_mul_of_pos_right h (show 0 < d1 by omega); omega
  exact Int.lt_of_mul_lt_mul_right key (by omega)
theorem hb_trans {a b c : H3} (ha : Hok a) (hb' : Hok b) (hc : Hok c) (h1 : hb a b = true) (h2 : hb b c = true) : hb a c = true := by
  rw [hb_iff ha hb'] at h1
  rw [hb_iff hb' hc] at h2
  rw [hb_iff ha hc]
  obtain ⟨k1, k2⟩ := hfrac_trans ha.2 hb'.2 hc.2 (show a.2.1 * b.2.2 ≤ b.2.1 * a.2.2 by omega) (show b.2.1 * c.2.2 ≤ c.2.1 * b.2.2 by omega)
  rcases h1 with h1 | ⟨h1, i1⟩
  · exact .inl (k2 (.inl h1))
  · rcases h2 with h2 | ⟨h2, i2⟩
    · exact .inl (k2 (.inr h2))
    · by_cases g : a.2.1 * c.2.2 < c.2.1 * a.2.2
      · exact .inl g
      · exact .inr ⟨by omega, by omega⟩
theorem hb_total {a b : H3} (ha : Hok a) (hb' : Hok b) (h1 : hb a b = false) (h2 : hb b a = false) : a.1 = b.1 := by
  have n1 : ¬ hb a b = true := by rw [h1]; decide
  have n2 : ¬ hb b a = true := by rw [h2]; decide
  rw [hb_iff ha hb'] at n1
  rw [hb_iff hb' ha] at n2
  omega

/-- Every list of hits that may be, but the empty one, has a best one. -/
theorem has_best : ∀ l : List H3, (∀ x ∈ l, Hok x) → l ≠ [] → ∃ x ∈ l, hBest l x = true
  | [], _, h => absurd rfl h
  | a :: l, hok, _ => by
    by_cases hl : l = []
    · subst hl
      refine ⟨a, by simp, ?_⟩
      rw [hBest_true]
      intro y hy
      have : y = a := by simpa using hy
      rw [this]
      exact hb_irrefl (hok a (by simp))
    · obtain ⟨x, hx, hbx⟩ := has_best l (fun y hy => hok y (by simp [hy])) hl
      have oa := hok a (by simp)
      have ox := hok x (by simp [hx])
      rw [hBest_true] at hbx
      cases h : hb a x with
      | false =>
        refine ⟨x, by simp [hx], ?_⟩
        rw [hBest_true]
        intro y hy
        rcases List.mem_cons.1 hy with rfl | hy
        · exact h
        · exact hbx y hy
      | true =>
        refine ⟨a, by simp, ?_⟩
        rw [hBest_true]
        intro y hy
        rcases List.mem_cons.1 hy with rfl | hy
        · exact hb_irrefl oa
        · cases g : hb y a with
          | false => rfl
          | true =>
            have := hb_trans (hok y (by simp [hy])) oa ox g h
            rw [hbx y hy] at this
            cases this

/-- What a first one is. -/
theorem hFirst_spec {l : List H3} (hok : ∀ x ∈ l, Hok x) : (l = [] ∧ hFirst l = ((0, 0, 0), false)) ∨ (l ≠ [] ∧ (hFirst l).2 = true ∧ (hFirst l).1 ∈ l ∧ hBest l (hFirst l).1 = true) := by
  by_cases hl : l = []
  · subst hl; exact .inl ⟨rfl, rfl⟩
  · right
    obtain ⟨x, hx, hbx⟩ := has_best l hok hl
    unfold hFirst
    cases h : l.find? (hBest l) with
    | none => rw [List.find?_eq_none] at h; exact absurd hbx (h x hx)
    | some y => exact ⟨hl, rfl, List.mem_of_find?_eq_some h, List.find?_some h⟩

/-- Where indices tell the hits apart, a best one is the first one. -/
theorem hFirst_unique {l : List H3} {x : H3} (hok : ∀ x ∈ l, Hok x) (hu : ∀ x ∈ l, ∀ y ∈ l, x.1 = y.1 → x = y) (hx : x ∈ l) (hb' : hBest l x = true) : hFirst l = (x, true) := by
  rcases hFirst_spec hok with ⟨rfl, _⟩ | ⟨hl, h1, h2, h3⟩
  · simp at hx
  · have e : (hFirst l).1 = x := hu _ h2 _ hx (hb_total (hok _ h2) (hok _ hx) (hBest_true.1 hb' _ h2) (hBest_true.1 h3 _ hx))
    rw [← e, ← h1]

/-- A hit's numbers are 1 or more. -/
theorem pHit_ok {p : Pr} {ix : Int} {o d : T3} {fr : Int} (h : (pHit p ix o d fr).2 = true) : 1 ≤ (pHit p ix o d fr).1.1 ∧ 1 ≤ (pHit p ix o d fr).1.2 := by
  unfold pHit at h ⊢
  by_cases g : pRight p = true
  · rw [if_pos g] at h ⊢
    by_cases hk : p.k = 1
    · rw [if_pos hk] at h ⊢
      by_cases hf : fr = ix
      · rw [if_pos hf] at h; cases h
      · rw [if_neg hf] at h ⊢; exact ⟨(tri_hits h).1, (tri_hits h).2.1⟩
    · rw [if_neg hk] at h ⊢
      by_cases hf : fr = ix
      · rw [if_pos hf] at h ⊢
        unfold ballT at h ⊢
        split at h
        · rename_i q
          rw [if_pos q]
          obtain ⟨q1, q2⟩ := q
          unfold ballM at q1
          simp only [Bool.and_eq_true, Bool.not_eq_true'] at q1
          have := dtT_pos q1.2.2.2
          dsimp only
          omega
        · cases h
      · rw [if_neg hf] at h ⊢; exact ⟨(ball_hits h).1, (ball_hits h).2.1⟩
  · rw [if_neg g] at h; cases h
theorem hUp_ok {P : Nat → Pr} {n : Nat} {o d : T3} {fr : Int} : ∀ x ∈ hUp P n o d fr, Hok x := fun x hx => by
  obtain ⟨i, _, rfl, h⟩ := hUp_mem hx
  exact pHit_ok h
theorem hUp_unique {P : Nat → Pr} {n : Nat} {o d : T3} {fr : Int} : ∀ x ∈ hUp P n o d fr, ∀ y ∈ hUp P n o d fr, x.1 = y.1 → x = y := fun x hx y hy e => by
  obtain ⟨i, _, rfl, _⟩ := hUp_mem hx
  obtain ⟨j, _, rfl, _⟩ := hUp_mem hy
  have : i = j := by dsimp only at e; omega
  subst this
  rfl
theorem hUp_I64 {P : Nat → Pr} {n : Nat} {o d : T3} {fr : Int} (hn : n ≤ 4611686018427387904) : ∀ x ∈ hUp P n o d fr, I64 x.1 ∧ I64 x.2.1 ∧ I64 x.2.2 := fun x hx => by
  obtain ⟨i, hi, rfl, _⟩ := hUp_mem hx
  exact ⟨by unfold I64; dsimp only; omega, pHit_I64 _ _ _ _ _⟩
theorem hUp_idx {P : Nat → Pr} {n : Nat} {o d : T3} {fr : Int} {x : H3} (hx : x ∈ hUp P n o d fr) : 0 ≤ x.1 ∧ x.1 < n := by
  obtain ⟨i, hi, rfl, _⟩ := hUp_mem hx
  dsimp only
  omega

/-- P14.2: there is one ahead just if the closest one is. -/
theorem any_first {l : List H3} {m e : Int} (hok : ∀ x ∈ l, Hok x) (he : 1 ≤ e) : l.any (fun h => !decide (1 ≤ e) || fless h.2.1 h.2.2 m e) = ((hFirst l).2 && fless (hFirst l).1.2.1 (hFirst l).1.2.2 m e) := by
  rcases hFirst_spec hok with ⟨rfl, h⟩ | ⟨hl, h1, h2, h3⟩
  · rw [h]; rfl
  · rw [h1, Bool.true_and, decide_eq_true he]
    simp only [Bool.not_true, Bool.false_or]
    cases g : fless (hFirst l).1.2.1 (hFirst l).1.2.2 m e with
    | true => exact List.any_eq_true.2 ⟨_, h2, g⟩
    | false =>
      rw [List.any_eq_false]
      intro y hy hlt
      have oy := hok y hy
      have of := hok _ h2
      have hn := hBest_true.1 h3 y hy
      generalize (hFirst l).1 = f at *
      have n1 : ¬ hb y f = true := by rw [hn]; decide
      rw [hb_iff oy of] at n1
      unfold fless at g hlt
      rw [decide_eq_true of.2, decide_eq_true he] at g
      rw [decide_eq_true oy.2, decide_eq_true he] at hlt
      simp only [Bool.true_and, decide_eq_false_iff_not, decide_eq_true_eq] at g hlt
      obtain ⟨_, k2⟩ := hfrac_trans of.2 oy.2 he (show f.2.1 * y.2.2 ≤ y.2.1 * f.2.2 by omega) (show y.2.1 * e ≤ m * y.2.2 by omega)
      exact g (k2 (.inr hlt))
theorem any_all {l : List H3} (hok : ∀ x ∈ l, Hok x) : l.any (fun h => !decide ((1 : Int) ≤ 0) || fless h.2.1 h.2.2 0 0) = (hFirst l).2 := by
  rcases hFirst_spec hok with ⟨rfl, h⟩ | ⟨hl, h1, h2, h3⟩
  · rw [h]; rfl
  · rw [h1]
    exact List.any_eq_true.2 ⟨_, h2, by simp⟩

/-- One more behind: what the place alone picks. -/
theorem some_last {l t : List H3} {n : Int} (hl : ∀ x ∈ l, x.1 < n) (ht : ∀ x ∈ t, x.1 = n) : hSome (l ++ t) (fun _ => n) 1 = t := by
  have s1 : ∀ x : H3, hSel x (fun _ => n) 1 = if n = x.1 then [x] else [] := fun x => by unfold hSel; simp [List.range_succ]
  unfold hSome
  rw [List.flatMap_append]
  have a : l.flatMap (fun h => hSel h (fun _ => n) 1) = [] := by
    rw [List.flatMap_eq_nil_iff]
    intro x hx
    rw [s1, if_neg (by have := hl x hx; omega)]
  have b : ∀ t : List H3, (∀ x ∈ t, x.1 = n) → t.flatMap (fun h => hSel h (fun _ => n) 1) = t := by
    intro t
    induction t with
    | nil => intro _; rfl
    | cons x t ih =>
      intro h
      rw [List.flatMap_cons, s1, if_pos (h x (by simp)).symm, ih (fun y hy => h y (by simp [hy]))]
      rfl
  rw [a, b t ht, List.nil_append]

/-- P14.3: one more behind a list. -/
theorem first_more {l : List H3} {j : H3} (hok : ∀ x ∈ l ++ [j], Hok x) (hu : ∀ x ∈ l ++ [j], ∀ y ∈ l ++ [j], x.1 = y.1 → x = y) :
    (((hFirst l).2 = false ∨ hb j (hFirst l).1 = true) → hFirst (l ++ [j]) = (j, true)) ∧ ((hFirst l).2 = true → hb j (hFirst l).1 = false → hFirst (l ++ [j]) = ((hFirst l).1, true)) := by
  have okl : ∀ x ∈ l, Hok x := fun x hx => hok x (by simp [hx])
  have okj : Hok j := hok j (by simp)
  rcases hFirst_spec okl with ⟨rfl, h⟩ | ⟨hl, h1, h2, h3⟩
  · rw [h]
    refine ⟨fun _ => ?_, fun h => by cases h⟩
    refine hFirst_unique hok hu (by simp) ?_
    rw [hBest_true]
    intro y hy
    have : y = j := by simpa using hy
    rw [this]; exact hb_irrefl okj
  · generalize (hFirst l).1 = f at *
    rw [h1]
    rw [hBest_true] at h3
    refine ⟨fun h => ?_, fun _ hj => ?_⟩
    · have hj : hb j f = true := by
        rcases h with h | h
        · cases h
        · exact h
      refine hFirst_unique hok hu (by simp) ?_
      rw [hBest_true]
      intro y hy
      rcases List.mem_append.1 hy with hy | hy
      · cases g : hb y j with
        | false => rfl
        | true =>
          have := hb_trans (okl y hy) okj (okl f h2) g hj
          rw [h3 y hy] at this
          cases this
      · have : y = j := by simpa using hy
        rw [this]; exact hb_irrefl okj
    · refine hFirst_unique hok hu (by simp [h2]) ?_
      rw [hBest_true]
      intro y hy
      rcases List.mem_append.1 hy with hy | hy
      · exact h3 y hy
      · have : y = j := by simpa using hy
        rw [this]; exact hj

end Go.Proofs.Sky
