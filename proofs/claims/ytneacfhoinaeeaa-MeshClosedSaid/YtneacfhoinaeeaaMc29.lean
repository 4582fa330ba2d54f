/- Plain mathematics of layer 19: edges, and when triangles are closed. Imports nothing of the translation. -/
import Derived.Test.YtneacfhoinaeeaaMc27


namespace Go.Proofs.Sky
section

open Go.RowKit

set_option linter.unusedVariables false

abbrev Ed := T3 × T3

def edg (p : Pr) : List Ed := [(p.a, p.b), (p.b, p.c), (p.c, p.a)]

def rv (e : Ed) : Ed := (e.2, e.1)

def bump (C : Ed → Int) (x : Ed) (d : Int) : Ed → Int := fun y => if y = x then C y + d else C y

def netE (C : Ed → Int) (e : Ed) : Ed → Int := bump (bump C e 1) (rv e) (-1)

def netP (C : Ed → Int) (p : Pr) : Ed → Int := netE (netE (netE C (p.a, p.b)) (p.b, p.c)) (p.c, p.a)

def net (l : List Pr) : Ed → Int := l.foldl netP (fun _ => 0)

def hasE (p : Pr) (a b : T3) : Bool := (decide (p.a = a) && decide (p.b = b)) || ((decide (p.b = a) && decide (p.c = b)) || (decide (p.c = a) && decide (p.a = b)))

def wys (l : List Pr) (a b : T3) : Nat := l.countP (fun p => hasE p a b)

def closedP (l : List Pr) (p : Pr) : Bool := decide (p.k = 1) && (decide (wys l p.a p.b = wys l p.b p.a) && (decide (wys l p.b p.c = wys l p.c p.b) && decide (wys l p.c p.a = wys l p.a p.c)))

def mClosed (l : List Pr) : Bool := l.all (closedP l)

theorem rv_rv (e : Ed) : rv (rv e) = e := rfl

def one (p : Prop) [Decidable p] : Int := if p then 1 else 0

theorem one_pos {p : Prop} [Decidable p] (h : p) : one p = 1 := if_pos h

theorem one_neg {p : Prop} [Decidable p] (h : ¬ p) : one p = 0 := if_neg h

theorem bump_at (C : Ed → Int) (x : Ed) (d : Int) (y : Ed) : bump C x d y = C y + d * one (y = x) := by
  unfold bump one
  split <;> omega

theorem netE_at (C : Ed → Int) (e y : Ed) : netE C e y = C y + one (y = e) - one (rv y = e) := by
  unfold netE
  rw [bump_at, bump_at]
  have h : one (y = rv e) = one (rv y = e) := by
    by_cases h : y = rv e
    · rw [one_pos h, one_pos (by rw [h, rv_rv])]
    · rw [one_neg h, one_neg (fun e1 => h (by rw [← e1, rv_rv]))]
  rw [h]
  omega

def cnt (p : Pr) (y : Ed) : Int := one (y = (p.a, p.b)) + one (y = (p.b, p.c)) + one (y = (p.c, p.a))

theorem netP_at (C : Ed → Int) (p : Pr) (y : Ed) : netP C p y = C y + cnt p y - cnt p (rv y) := by
  unfold netP cnt
  rw [netE_at, netE_at, netE_at]
  omega

def tot (l : List Pr) (y : Ed) : Int := match l with
  | [] => 0
  | p :: r => cnt p y - cnt p (rv y) + tot r y

theorem foldl_at : ∀ (l : List Pr) (C : Ed → Int) (y : Ed), l.foldl netP C y = C y + tot l y
  | [], C, y => by simp [tot]
  | p :: r, C, y => by
    rw [List.foldl_cons, foldl_at r, netP_at]
    show _ = C y + (cnt p y - cnt p (rv y) + tot r y)
    omega

theorem net_tot (l : List Pr) (y : Ed) : net l y = tot l y := by
  unfold net
  rw [foldl_at]; omega

theorem cnt_has (p : Pr) (a b : T3) (h : a ≠ b) : cnt p (a, b) = if hasE p a b = true then 1 else 0 := by
  obtain ⟨k, A, B, D, r, m⟩ := p
  unfold cnt hasE
  dsimp only
  simp only [Prod.mk.injEq, Bool.or_eq_true, Bool.and_eq_true, decide_eq_true_eq]
  by_cases h1 : A = a ∧ B = b
  · obtain ⟨rfl, rfl⟩ := h1
    rw [one_pos ⟨rfl, rfl⟩, one_neg (fun e => h e.1), one_neg (fun e => h e.2.symm), if_pos (.inl ⟨rfl, rfl⟩)]
    rfl
  · by_cases h2 : B = a ∧ D = b
    · obtain ⟨rfl, rfl⟩ := h2
      rw [one_neg (fun e => h1 ⟨e.1.symm, e.2.symm⟩), one_pos ⟨rfl, rfl⟩, one_neg (fun e => h e.1), if_pos (.inr (.inl ⟨rfl, rfl⟩))]
      rfl
    · by_cases h3 : D = a ∧ A = b
      · rw [one_neg (fun e => h1 ⟨e.1.symm, e.2.symm⟩), one_neg (fun e => h2 ⟨e.1.symm, e.2.symm⟩), one_pos ⟨h3.1.symm, h3.2.symm⟩, if_pos (.inr (.inr h3))]
        rfl
      · rw [one_neg (fun e => h1 ⟨e.1.symm, e.2.symm⟩), one_neg (fun e => h2 ⟨e.1.symm, e.2.symm⟩), one_neg (fun e => h3 ⟨e.1.symm, e.2.symm⟩), if_neg (by rintro (e | e | e); exact h1 e; exact h2 e; exact h3 e)]
        rfl

theorem tot_ways : ∀ (l : List Pr) (a b : T3), a ≠ b → tot l (a, b) = (wys l a b : Int) - (wys l b a : Int)
  | [], a, b, _ => rfl
  | p :: r, a, b, h => by
    have e1 := cnt_has p a b h
    have e2 := cnt_has p b a (Ne.symm h)
    have ih := tot_ways r a b h
    show cnt p (a, b) - cnt p (b, a) + tot r (a, b) = _
    unfold wys at *
    rw [List.countP_cons, List.countP_cons, ih, e1, e2]
    split <;> split <;> omega

theorem tot_same : ∀ (l : List Pr) (a : T3), tot l (a, a) = 0
  | [], a => rfl
  | p :: r, a => by
    show cnt p (a, a) - cnt p (a, a) + tot r (a, a) = 0
    rw [tot_same r a]; omega

theorem has_ways {l : List Pr} {a b : T3} (h : wys l a b ≠ 0) : ∃ p ∈ l, hasE p a b = true := by
  unfold wys at h
  have : 0 < l.countP (fun p => hasE p a b) := by omega
  rw [List.countP_pos_iff] at this
  exact this

theorem closed_pair {l : List Pr} (h : mClosed l = true) (a b : T3) : wys l a b = wys l b a := by
  unfold mClosed at h
  rw [List.all_eq_true] at h
  have key : ∀ a b, wys l a b ≠ 0 → wys l a b = wys l b a := fun a b h0 => by
    obtain ⟨p, hp, hh⟩ := has_ways h0
    have hc := h p hp
    unfold closedP at hc
    simp only [Bool.and_eq_true, decide_eq_true_eq] at hc
    unfold hasE at hh
    simp only [Bool.or_eq_true, Bool.and_eq_true, decide_eq_true_eq] at hh
    rcases hh with ⟨rfl, rfl⟩ | ⟨rfl, rfl⟩ | ⟨rfl, rfl⟩
    · exact hc.2.1
    · exact hc.2.2.1
    · exact hc.2.2.2
  by_cases h1 : wys l a b = 0
  · by_cases h2 : wys l b a = 0
    · rw [h1, h2]
    · exact (key b a h2).symm
  · exact key a b h1

theorem closed_net {l : List Pr} (hk : ∀ p ∈ l, p.k = 1) : mClosed l = true ↔ ∀ y, net l y = 0 := by
  constructor
  · intro h y
    obtain ⟨a, b⟩ := y
    rw [net_tot]
    by_cases e : a = b
    · subst e; exact tot_same l a
    · rw [tot_ways l a b e, closed_pair h a b]; omega
  · intro h
    have hw : ∀ a b, wys l a b = wys l b a := fun a b => by
      by_cases e : a = b
      · subst e; rfl
      · have := h (a, b)
        rw [net_tot, tot_ways l a b e] at this
        omega
    unfold mClosed
    rw [List.all_eq_true]
    intro p hp
    unfold closedP
    simp only [Bool.and_eq_true, decide_eq_true_eq]
    exact ⟨hk p hp, hw _ _, hw _ _, hw _ _⟩

theorem closed_kind {l : List Pr} {p : Pr} (hp : p ∈ l) (h : p.k ≠ 1) : mClosed l = false := by
  rw [Bool.eq_false_iff]
  intro e
  unfold mClosed at e
  rw [List.all_eq_true] at e
  have := e p hp
  unfold closedP at this
  rw [decide_eq_false h] at this
  cases this

theorem net_take {l : List Pr} {k : Nat} (h : k < l.length) : net (l.take (k + 1)) = netP (net (l.take k)) l[k] := by
  unfold net
  rw [List.take_add_one, List.getElem?_eq_getElem h, List.foldl_append]
  rfl

/-- No count is greater than six a triangle. -/
theorem cnt_small (p : Pr) (y : Ed) : 0 ≤ cnt p y ∧ cnt p y ≤ 3 := by
  have one_le : ∀ (q : Prop) [Decidable q], 0 ≤ one q ∧ one q ≤ 1 := fun q _ => by unfold one; split <;> omega
  unfold cnt
  have h1 := one_le (y = (p.a, p.b))
  have h2 := one_le (y = (p.b, p.c))
  have h3 := one_le (y = (p.c, p.a))
  omega

theorem tot_small : ∀ (l : List Pr) (y : Ed), -(3 * (l.length : Int)) ≤ tot l y ∧ tot l y ≤ 3 * (l.length : Int)
  | [], y => by simp [tot]
  | p :: r, y => by
    have h := tot_small r y
    have h1 := cnt_small p y
    have h2 := cnt_small p (rv y)
    show _ ≤ cnt p y - cnt p (rv y) + tot r y ∧ cnt p y - cnt p (rv y) + tot r y ≤ _
    rw [List.length_cons]
    omega

theorem net_small (l : List Pr) (y : Ed) : -(3 * (l.length : Int)) ≤ net l y ∧ net l y ≤ 3 * (l.length : Int) := by rw [net_tot]; exact tot_small l y

end
end Go.Proofs.Sky
