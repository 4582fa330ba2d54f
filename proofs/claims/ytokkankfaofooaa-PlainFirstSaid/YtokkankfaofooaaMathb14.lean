/- Plain mathematics of layer 14, for what landed: hits over a row of indices, and the first of them as it is found. Imports nothing of the translation. -/
import Derived.Test.YtokkankfaofooaaMath14
namespace Go.Proofs.Sky
open Go.RowKit
set_option linter.unusedVariables false

def hAt (P : Nat → Pr) (n : Nat) (o d : T3) (fr : Int) (z : Int) : List H3 := if 0 ≤ z ∧ z < n then hitAt (P z.toNat) z.toNat o d fr else []
def hOver (P : Nat → Pr) (n : Nat) (o d : T3) (fr : Int) (zs : List Int) : List H3 := zs.flatMap (hAt P n o d fr)
def rowOf (Z : Nat → Int) (n : Nat) : List Int := (List.range n).map Z
def stepH (b : H3 × Bool) (x : H3) : H3 × Bool := if b.2 = false ∨ hb x b.1 = true then (x, true) else b
def pFirst (l : List H3) : H3 × Bool := l.foldl stepH ((0, 0, 0), false)

theorem hOver_nil (P : Nat → Pr) (n : Nat) (o d : T3) (fr : Int) : hOver P n o d fr [] = [] := rfl
theorem hOver_snoc (P : Nat → Pr) (n : Nat) (o d : T3) (fr : Int) (pre : List Int) (x : Int) : hOver P n o d fr (pre ++ [x]) = hOver P n o d fr pre ++ hAt P n o d fr x := by
  unfold hOver; rw [List.flatMap_append]; simp
theorem hOver_split (P : Nat → Pr) (n : Nat) (o d : T3) (fr : Int) (pre rest : List Int) (x : Int) : hOver P n o d fr (pre ++ x :: rest) = hOver P n o d fr pre ++ (hAt P n o d fr x ++ hOver P n o d fr rest) := by
  unfold hOver; rw [List.flatMap_append, List.flatMap_cons]
theorem hAt_out {P : Nat → Pr} {n : Nat} {o d : T3} {fr z : Int} (h : z < 0 ∨ (n : Int) ≤ z) : hAt P n o d fr z = [] := by
  unfold hAt; rw [if_neg (by omega)]
theorem hAt_in {P : Nat → Pr} {n : Nat} {o d : T3} {fr : Int} {k : Nat} (h : k < n) : hAt P n o d fr (k : Int) = hitAt (P k) k o d fr := by
  unfold hAt; rw [if_pos (by omega)]; simp
theorem rowOf_succ (Z : Nat → Int) (k : Nat) : rowOf Z (k + 1) = rowOf Z k ++ [Z k] := by
  unfold rowOf; rw [List.range_succ, List.map_append]; rfl
theorem rowOf_len (Z : Nat → Int) (k : Nat) : (rowOf Z k).length = k := by unfold rowOf; simp
theorem rowOf_split (Z : Nat → Int) (n k : Nat) (h : k < n) : ∃ rest, rowOf Z n = rowOf Z k ++ Z k :: rest := by
  refine ⟨(rowOf Z n).drop (k + 1), ?_⟩
  have hl : k < (rowOf Z n).length := by rw [rowOf_len]; exact h
  have e1 : (rowOf Z n).take k = rowOf Z k := by
    unfold rowOf
    rw [← List.map_take, List.take_range, Nat.min_eq_left (by omega)]
  have e2 : (rowOf Z n)[k] = Z k := by
    have : (rowOf Z n)[k]? = some (Z k) := by unfold rowOf; simp [h]
    rw [List.getElem?_eq_getElem hl] at this
    exact Option.some.inj this
  rw [← e1, ← e2, ← List.drop_eq_getElem_cons hl, List.take_append_drop]

/-- All indices: all hits. -/
theorem hOver_all (P : Nat → Pr) (n : Nat) (o d : T3) (fr : Int) : hOver P n o d fr (rowOf (fun i => (i : Int)) n) = hUp P n o d fr := by
  have key : ∀ k, k ≤ n → hOver P n o d fr (rowOf (fun i => (i : Int)) k) = hUp P k o d fr := by
    intro k
    induction k with
    | zero => intro _; rfl
    | succ k ih =>
      intro hk
      rw [rowOf_succ, hOver_snoc, hUp_succ, ih (by omega), hAt_in (by omega)]
  exact key n (Nat.le_refl _)

theorem hOver_len (P : Nat → Pr) (n : Nat) (o d : T3) (fr : Int) : ∀ zs, (hOver P n o d fr zs).length ≤ zs.length
  | [] => by simp [hOver]
  | z :: zs => by
    have h := hOver_len P n o d fr zs
    unfold hOver at *
    rw [List.flatMap_cons, List.length_append, List.length_cons]
    have : (hAt P n o d fr z).length ≤ 1 := by
      unfold hAt
      split
      · exact hitAt_len _ _ _ _ _
      · simp
    omega

/-- What a hit over a row of indices is: one of all, whose index is in the row. -/
theorem hOver_mem {P : Nat → Pr} {n : Nat} {o d : T3} {fr : Int} {zs : List Int} {x : H3} : x ∈ hOver P n o d fr zs ↔ x ∈ hUp P n o d fr ∧ x.1 ∈ zs := by
  unfold hOver hUp
  rw [List.mem_flatMap, List.mem_flatMap]
  constructor
  · rintro ⟨z, hz, hx⟩
    unfold hAt at hx
    split at hx
    · rename_i g
      refine ⟨⟨z.toNat, List.mem_range.2 (by omega), hx⟩, ?_⟩
      unfold hitAt at hx
      split at hx
      · have : x = ((z.toNat : Int), (pHit (P z.toNat) z.toNat o d fr).1) := by simpa using hx
        rw [this]
        dsimp only
        rw [show ((z.toNat : Nat) : Int) = z by omega]
        exact hz
      · simp at hx
    · simp at hx
  · rintro ⟨⟨i, hi, hx⟩, hz⟩
    have hin := List.mem_range.1 hi
    have e : x.1 = (i : Int) := by
      unfold hitAt at hx
      split at hx
      · have : x = ((i : Int), (pHit (P i) i o d fr).1) := by simpa using hx
        rw [this]
      · simp at hx
    exact ⟨x.1, hz, by rw [e, hAt_in hin]; exact hx⟩

theorem pFirst_snoc (l : List H3) (x : H3) : pFirst (l ++ [x]) = stepH (pFirst l) x := by unfold pFirst; rw [List.foldl_append]; rfl

theorem pFirst_in : ∀ n (l : List H3), l.length = n → (pFirst l).1 ∈ l ∨ (pFirst l).1 = (0, 0, 0)
  | 0, l, hn => by rw [List.length_eq_zero_iff.1 hn]; exact .inr rfl
  | n + 1, l, hn => by
    have hne : l ≠ [] := fun e => by rw [e] at hn; simp at hn
    obtain ⟨m, x, rfl⟩ : ∃ m x, l = m ++ [x] := ⟨l.dropLast, l.getLast hne, (List.dropLast_concat_getLast hne).symm⟩
    rw [pFirst_snoc]
    unfold stepH
    split
    · exact .inl (by simp)
    · rcases pFirst_in n m (by simp at hn; omega) with h | h
      · exact .inl (by simp [h])
      · exact .inr h
theorem pFirst_I64 {l : List H3} (h : ∀ x ∈ l, I64 x.1 ∧ I64 x.2.1 ∧ I64 x.2.2) : I64 (pFirst l).1.1 ∧ I64 (pFirst l).1.2.1 ∧ I64 (pFirst l).1.2.2 := by
  rcases pFirst_in _ l rfl with g | g
  · exact h _ g
  · rw [g]; refine ⟨?_, ?_, ?_⟩ <;> (unfold I64; dsimp only; omega)
theorem stepH_none (f x : H3) : stepH (f, false) x = (x, true) := by unfold stepH; rw [if_pos (.inl rfl)]
theorem stepH_yes {f x : H3} (h : hb x f = true) : stepH (f, true) x = (x, true) := by unfold stepH; rw [if_pos (.inr h)]
theorem stepH_no {f x : H3} (h : hb x f = false) : stepH (f, true) x = (f, true) := by unfold stepH; rw [if_neg (by simp [h])]

/-- What the first one is, as it is found. -/
theorem pFirst_spec : ∀ n (l : List H3), l.length = n → (∀ x ∈ l, Hok x) → (l = [] ∧ pFirst l = ((0, 0, 0), false)) ∨ (l ≠ [] ∧ (pFirst l).2 = true ∧ (pFirst l).1 ∈ l ∧ hBest l (pFirst l).1 = true)
  | 0, l, hn, _ => .inl ⟨List.length_eq_zero_iff.1 hn, by rw [List.length_eq_zero_iff.1 hn]; rfl⟩
  | n + 1, l, hn, hok => by
    right
    have hne : l ≠ [] := fun e => by rw [e] at hn; simp at hn
    refine ⟨hne, ?_⟩
    obtain ⟨m, x, rfl⟩ : ∃ m x, l = m ++ [x] := ⟨l.dropLast, l.getLast hne, (List.dropLast_concat_getLast hne).symm⟩
    have hl : m.length = n := by simp at hn; omega
    have okm : ∀ y ∈ m, Hok y := fun y hy => hok y (by simp [hy])
    have okx : Hok x := hok x (by simp)
    rw [pFirst_snoc]
    rcases pFirst_spec n m hl okm with ⟨rfl, e⟩ | ⟨hm, h1, h2, h3⟩
    · rw [e]
      unfold stepH
      rw [if_pos (.inl rfl)]
      refine ⟨rfl, by simp, ?_⟩
      rw [hBest_true]
      intro y hy
      have : y = x := by simpa using hy
      rw [this]; exact hb_irrefl okx
    · rw [hBest_true] at h3
      unfold stepH
      generalize pFirst m = f at *
      obtain ⟨f, ok⟩ := f
      dsimp only at h1 h2 h3 ⊢
      subst h1
      cases hj : hb x f with
      | true =>
        rw [if_pos (.inr rfl)]
        refine ⟨rfl, by simp, ?_⟩
        rw [hBest_true]
        intro y hy
        dsimp only
        rcases List.mem_append.1 hy with hy | hy
        · cases g : hb y x with
          | false => rfl
          | true =>
            have := hb_trans (okm y hy) okx (okm f h2) g hj
            rw [h3 y hy] at this
            cases this
        · have : y = x := by simpa using hy
          rw [this]; exact hb_irrefl okx
      | false =>
        rw [if_neg (by simp)]
        refine ⟨rfl, by simp [h2], ?_⟩
        rw [hBest_true]
        intro y hy
        dsimp only
        rcases List.mem_append.1 hy with hy | hy
        · exact h3 y hy
        · have : y = x := by simpa using hy
          rw [this]; exact hj

/-- The first one of a list is that of any other list of the same hits, where indices tell them apart. -/
theorem pFirst_same {l m : List H3} (hok : ∀ x ∈ m, Hok x) (hu : ∀ x ∈ m, ∀ y ∈ m, x.1 = y.1 → x = y) (hs : ∀ x, x ∈ l ↔ x ∈ m) : pFirst l = hFirst m := by
  rcases pFirst_spec _ l rfl (fun x hx => hok x ((hs x).1 hx)) with ⟨rfl, e⟩ | ⟨hl, h1, h2, h3⟩
  · have : m = [] := by
      cases m with
      | nil => rfl
      | cons y m => exact absurd ((hs y).2 (by simp)) (by simp)
    rw [e, this]; rfl
  · rw [hFirst_unique hok hu ((hs _).1 h2) (by rw [hBest_true] at h3 ⊢; exact fun y hy => h3 y ((hs y).2 hy)), ← h1]

theorem hSome_mem {l : List H3} {Z : Nat → Int} {m : Nat} {x : H3} : x ∈ hSome l Z m ↔ x ∈ l ∧ x.1 ∈ rowOf Z m := by
  unfold hSome hSel rowOf
  simp only [List.mem_flatMap, List.mem_range, List.mem_map]
  constructor
  · rintro ⟨h, hh, k, hk, hx⟩
    split at hx
    · rename_i e
      have : x = h := by simpa using hx
      subst this
      exact ⟨hh, k, hk, e⟩
    · simp at hx
  · rintro ⟨hx, k, hk, e⟩
    exact ⟨x, hx, k, hk, by rw [if_pos e]; simp⟩

theorem pFirst_all (P : Nat → Pr) (n : Nat) (o d : T3) (fr : Int) : pFirst (hOver P n o d fr (rowOf (fun i => (i : Int)) n)) = hClosest P n o d fr := by
  rw [hOver_all]
  exact pFirst_same hUp_ok hUp_unique (fun x => Iff.rfl)
theorem pFirst_among (P : Nat → Pr) (n : Nat) (o d : T3) (fr : Int) (Z : Nat → Int) (m : Nat) : pFirst (hOver P n o d fr (rowOf Z m)) = hAmong P n Z m o d fr := by
  refine pFirst_same (fun x hx => ?_) (fun x hx y hy e => ?_) (fun x => ?_)
  · exact hUp_ok x (hSome_mem.1 hx).1
  · exact hUp_unique x (hSome_mem.1 hx).1 y (hSome_mem.1 hy).1 e
  · rw [hOver_mem, hSome_mem]

/-- Any: as it is found. -/
theorem any_split {pre rest : List H3} {x : H3} {p : H3 → Bool} (h : p x = true) : (pre ++ x :: rest).any p = true := by simp [h]
theorem any_none {l : List H3} {p : H3 → Bool} (h : ∀ x ∈ l, p x = false) : l.any p = false := by rw [List.any_eq_false]; intro x hx; rw [h x hx]; decide

end Go.Proofs.Sky
