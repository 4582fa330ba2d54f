/- Plain mathematics of layer 10: intervals of times, and that a ray meets a box just if the three axes' intervals share a time. Imports nothing of the translation. -/
import Derived.Test.YtgdclpbnjoampaaMath10
import Derived.Test.YtgdclpbnjoampaaMath03
import Derived.Test.YtgdclpbnjoampaaMath06
namespace Go.Proofs.Sky
open Go.RowKit
set_option linter.unusedVariables false

/-- From the first fraction on, up to the last one (no end, where that is none). -/
abbrev Iv := (Int × Int) × (Int × Int)
def ivLater (a b : Int × Int) : Int × Int := if fless a.1 a.2 b.1 b.2 = true then b else a
def ivEarlier (a b : Int × Int) : Int × Int := if a.2 < 1 ∨ fless b.1 b.2 a.1 a.2 = true then b else a
def ivShared (i o : Iv) : Iv := (ivLater i.1 o.1, ivEarlier i.2 o.2)
def ivEmpty (i : Iv) : Bool := fless i.2.1 i.2.2 i.1.1 i.1.2
def btw (lo hi way : Int) : Iv := if way = 0 then (if 0 < lo ∨ hi < 0 then ((1, 1), (0, 1)) else ((0, 1), (0, 0))) else if way < 0 then ((-hi, -way), (-lo, -way)) else ((lo, way), (hi, way))
/-- p / q lies in it. -/
def Inn (i : Iv) (p q : Int) : Prop := i.1.1 * q ≤ p * i.1.2 ∧ (1 ≤ i.2.2 → p * i.2.2 ≤ i.2.1 * q)
def ivInts (i : Iv) : Prop := I64 i.1.1 ∧ I64 i.1.2 ∧ I64 i.2.1 ∧ I64 i.2.2
def iv4 (i : Iv) : Array Value := #[.int .i64 i.1.1, .int .i64 i.1.2, .int .i64 i.2.1, .int .i64 i.2.2]
/-- What is left behind some axes. -/
def ivFold (i : Iv) (l : List Iv) : Iv := l.foldl ivShared i
theorem ivFold_snoc (i : Iv) (l : List Iv) (x : Iv) : ivFold i (l ++ [x]) = ivShared (ivFold i l) x := by unfold ivFold; rw [List.foldl_append]; rfl

theorem fless_iff {n d m e : Int} : fless n d m e = true ↔ 1 ≤ d ∧ 1 ≤ e ∧ n * e < m * d := by
  unfold fless; simp only [Bool.and_eq_true, decide_eq_true_eq]
/-- a/b ≤ c/d, c/d ≤ p/q: a/b ≤ p/q. -/
theorem frac_trans {a b c d p q : Int} (hb : 1 ≤ b) (hd : 1 ≤ d) (hq : 1 ≤ q) (h1 : a * d ≤ c * b) (h2 : c * q ≤ p * d) : a * q ≤ p * b := by
  have e1 := Int.mul_le_mul_of_nonneg_right h1 (show 0 ≤ q by omega)
  have e2 := Int.mul_le_mul_of_nonneg_right h2 (show 0 ≤ b by omega)
  have e3 : a * q * d ≤ p * b * d := by
    have r1 : a * q * d = a * d * q := by rw [Int.mul_right_comm]
    have r2 : p * b * d = p * d * b := by rw [Int.mul_right_comm]
    have r3 : c * b * q = c * q * b := by rw [Int.mul_right_comm]
    rw [r1, r2]
    omega
  exact Int.le_of_mul_le_mul_right e3 (by omega)
theorem inn_later {a b : Int × Int} {p q : Int} (ha : 1 ≤ a.2) (hb : 1 ≤ b.2) (hq : 1 ≤ q) : (ivLater a b).1 * q ≤ p * (ivLater a b).2 ↔ (a.1 * q ≤ p * a.2 ∧ b.1 * q ≤ p * b.2) := by
  unfold ivLater
  cases h : fless a.1 a.2 b.1 b.2 with
  | true =>
    rw [if_pos rfl]
    have h' := (fless_iff.1 h).2.2
    exact ⟨fun g => ⟨frac_trans ha hb hq (by omega) g, g⟩, fun g => g.2⟩
  | false =>
    rw [if_neg (by simp)]
    have h' : b.1 * a.2 ≤ a.1 * b.2 := by
      have : ¬ (1 ≤ a.2 ∧ 1 ≤ b.2 ∧ a.1 * b.2 < b.1 * a.2) := fun g => by rw [fless_iff.2 g] at h; cases h
      omega
    exact ⟨fun g => ⟨g, frac_trans hb ha hq h' g⟩, fun g => g.1⟩
theorem inn_earlier {a b : Int × Int} {p q : Int} (hq : 1 ≤ q) : (1 ≤ (ivEarlier a b).2 → p * (ivEarlier a b).2 ≤ (ivEarlier a b).1 * q) ↔ ((1 ≤ a.2 → p * a.2 ≤ a.1 * q) ∧ (1 ≤ b.2 → p * b.2 ≤ b.1 * q)) := by
  unfold ivEarlier
  by_cases ha : a.2 < 1
  · rw [if_pos (.inl ha)]
    exact ⟨fun g => ⟨fun k => by omega, g⟩, fun g => g.2⟩
  · cases h : fless b.1 b.2 a.1 a.2 with
    | true =>
      rw [if_pos (.inr rfl)]
      obtain ⟨h1, h2, h3⟩ := fless_iff.1 h
      refine ⟨fun g => ⟨fun k => ?_, g⟩, fun g => g.2⟩
      -- p/q ≤ b ≤ a
      have g' := g h1
      exact frac_trans hq h1 (by omega) g' (by omega)
    | false =>
      rw [if_neg (by simp; omega)]
      refine ⟨fun g => ⟨g, fun k => ?_⟩, fun g => g.1⟩
      have h' : a.1 * b.2 ≤ b.1 * a.2 := by
        have : ¬ (1 ≤ b.2 ∧ 1 ≤ a.2 ∧ b.1 * a.2 < a.1 * b.2) := fun g => by rw [fless_iff.2 g] at h; cases h
        omega
      have g' := g (by omega)
      exact frac_trans hq (show 1 ≤ a.2 by omega) k g' h'
theorem inn_shared {i o : Iv} {p q : Int} (hi : 1 ≤ i.1.2) (ho : 1 ≤ o.1.2) (hq : 1 ≤ q) : Inn (ivShared i o) p q ↔ Inn i p q ∧ Inn o p q := by
  unfold Inn ivShared
  rw [inn_later hi ho hq, inn_earlier hq]
  exact ⟨fun g => ⟨⟨g.1.1, g.2.1⟩, g.1.2, g.2.2⟩, fun g => ⟨⟨g.1.1, g.2.1⟩, g.1.2, g.2.2⟩⟩
theorem ivShared_ok {i o : Iv} (hi : 1 ≤ i.1.2) (ho : 1 ≤ o.1.2) : 1 ≤ (ivShared i o).1.2 := by
  unfold ivShared ivLater; dsimp only; split <;> assumption
theorem ivShared_ints {i o : Iv} (hi : ivInts i) (ho : ivInts o) : ivInts (ivShared i o) := by
  obtain ⟨i1, i2, i3, i4⟩ := hi
  obtain ⟨o1, o2, o3, o4⟩ := ho
  unfold ivInts ivShared ivLater ivEarlier
  dsimp only
  refine ⟨?_, ?_, ?_, ?_⟩ <;> split <;> assumption
theorem empty_iff {i : Iv} (hi : 1 ≤ i.1.2) : ivEmpty i = false ↔ ∃ p q, 1 ≤ q ∧ Inn i p q := by
  unfold ivEmpty
  constructor
  · intro h
    refine ⟨i.1.1, i.1.2, hi, Int.le_refl _, fun g => ?_⟩
    have : ¬ (1 ≤ i.2.2 ∧ 1 ≤ i.1.2 ∧ i.2.1 * i.1.2 < i.1.1 * i.2.2) := fun k => by rw [fless_iff.2 k] at h; cases h
    omega
  · rintro ⟨p, q, hq, h1, h2⟩
    cases h : fless i.2.1 i.2.2 i.1.1 i.1.2 with
    | false => rfl
    | true =>
      obtain ⟨g1, g2, g3⟩ := fless_iff.1 h
      have := frac_trans hi hq g1 h1 (h2 g1)
      omega
theorem empty_more {i o : Iv} (hi : 1 ≤ i.1.2) (ho : 1 ≤ o.1.2) (h : ivEmpty i = true) : ivEmpty (ivShared i o) = true := by
  cases g : ivEmpty (ivShared i o) with
  | true => rfl
  | false =>
    obtain ⟨p, q, hq, k⟩ := (empty_iff (ivShared_ok hi ho)).1 g
    rw [inn_shared hi ho hq] at k
    rw [(empty_iff hi).2 ⟨p, q, hq, k.1⟩] at h
    cases h
theorem empty_fold {l : List Iv} : ∀ {i : Iv}, 1 ≤ i.1.2 → (∀ x ∈ l, 1 ≤ x.1.2) → ivEmpty i = true → ivEmpty (ivFold i l) = true := by
  induction l with
  | nil => intro i _ _ h; exact h
  | cons x l ih =>
    intro i hi hl h
    exact ih (ivShared_ok hi (hl x (by simp))) (fun y hy => hl y (by simp [hy])) (empty_more hi (hl x (by simp)) h)
theorem inn_btw {lo hi o d p q : Int} (hp : 0 ≤ p) (hq : 1 ≤ q) : Inn (btw (lo - o) (hi - o) d) p q ↔ onAx lo hi o d p q := by
  have e1 : (lo - o) * q = lo * q - o * q := Int.sub_mul ..
  have e2 : (hi - o) * q = hi * q - o * q := Int.sub_mul ..
  unfold btw
  by_cases h0 : d = 0
  · subst h0
    rw [if_pos rfl]
    unfold onAx
    rw [Int.zero_mul, Int.add_zero]
    by_cases h : 0 < lo - o ∨ hi - o < 0
    · rw [if_pos h]
      unfold Inn
      dsimp only
      constructor
      · rintro ⟨g1, g2⟩; have := g2 (by omega); omega
      · rintro ⟨g1, g2⟩
        exfalso
        rcases h with h | h
        · have := Int.mul_pos h (show 0 < q by omega); omega
        · have := Int.mul_pos (show 0 < -(hi - o) by omega) (show 0 < q by omega)
          rw [Int.neg_mul] at this
          omega
    · rw [if_neg h]
      unfold Inn
      dsimp only
      have g1 := Int.mul_le_mul_of_nonneg_right (show lo - o ≤ 0 by omega) (show 0 ≤ q by omega)
      have g2 := Int.mul_le_mul_of_nonneg_right (show 0 ≤ hi - o by omega) (show 0 ≤ q by omega)
      constructor
      · intro _; omega
      · intro _; exact ⟨by omega, fun k => by omega⟩
  · rw [if_neg h0]
    have e3 : p * d = d * p := Int.mul_comm ..
    by_cases h : d < 0
    · rw [if_pos h]
      unfold Inn onAx
      dsimp only
      rw [Int.neg_mul, Int.neg_mul, Int.mul_neg]
      constructor
      · rintro ⟨g1, g2⟩; have := g2 (by omega); omega
      · rintro ⟨g1, g2⟩; exact ⟨by omega, fun _ => by omega⟩
    · rw [if_neg h]
      unfold Inn onAx
      dsimp only
      constructor
      · rintro ⟨g1, g2⟩; have := g2 (by omega); omega
      · rintro ⟨g1, g2⟩; exact ⟨by omega, fun _ => by omega⟩
theorem btw_ok {lo hi d : Int} : 1 ≤ (btw lo hi d).1.2 := by
  unfold btw
  split
  · split <;> simp
  · split
    · dsimp only; omega
    · dsimp only; omega
theorem btw_ints {lo hi d : Int} (h1 : -4194304 ≤ lo ∧ lo ≤ 4194304) (h2 : -4194304 ≤ hi ∧ hi ≤ 4194304) (h3 : -4194304 ≤ d ∧ d ≤ 4194304) : ivInts (btw lo hi d) := by
  unfold btw
  split
  · split <;> (unfold ivInts I64; simp)
  · split <;> (unfold ivInts I64; dsimp only; omega)
/-- The three axes' intervals. -/
def ivs (b : Bx) (o d : T3) : List Iv := [btw (b.1.1 - o.1) (b.2.1 - o.1) d.1, btw (b.1.2.1 - o.2.1) (b.2.2.1 - o.2.1) d.2.1, btw (b.1.2.2 - o.2.2) (b.2.2.2 - o.2.2) d.2.2]
theorem ivs_ok {b : Bx} {o d : T3} : ∀ x ∈ ivs b o d, 1 ≤ x.1.2 := by
  intro x hx
  simp only [ivs, List.mem_cons, List.not_mem_nil, or_false] at hx
  rcases hx with rfl | rfl | rfl <;> exact btw_ok
theorem ivs_ints {b : Bx} {o d : T3} (hb : bRight b = true) (ho : nrT o = true) (hd : nrT d = true) : ∀ x ∈ ivs b o d, ivInts x := by
  rw [bRight_iff, nrT_iff, nrT_iff] at hb
  rw [nrT_iff] at ho hd
  intro x hx
  simp only [ivs, List.mem_cons, List.not_mem_nil, or_false] at hx
  rcases hx with rfl | rfl | rfl <;> exact btw_ints (by omega) (by omega) (by omega)
theorem hits_iff {b : Bx} {o d : T3} {n m : Int} : hits b o d n m ↔ ivEmpty (ivFold ((0, 1), (n, m)) (ivs b o d)) = false := by
  have k0 : 1 ≤ (((0, 1), (n, m)) : Iv).1.2 := by simp
  have k1 := ivShared_ok k0 (btw_ok (lo := b.1.1 - o.1) (hi := b.2.1 - o.1) (d := d.1))
  have k2 := ivShared_ok k1 (btw_ok (lo := b.1.2.1 - o.2.1) (hi := b.2.2.1 - o.2.1) (d := d.2.1))
  have k3 := ivShared_ok k2 (btw_ok (lo := b.1.2.2 - o.2.2) (hi := b.2.2.2 - o.2.2) (d := d.2.2))
  show _ ↔ ivEmpty (ivShared (ivShared (ivShared ((0, 1), (n, m)) _) _) _) = false
  rw [empty_iff k3]
  unfold hits
  have one : ∀ p q : Int, 1 ≤ q → (Inn ((0, 1), (n, m)) p q ↔ 0 ≤ p ∧ (1 ≤ m → p * m ≤ n * q)) := fun p q hq => by
    unfold Inn; dsimp only; rw [Int.zero_mul, Int.mul_one]
  constructor
  · rintro ⟨p, q, hq, hp, hm, h1, h2, h3⟩
    refine ⟨p, q, hq, ?_⟩
    rw [inn_shared k2 btw_ok hq, inn_shared k1 btw_ok hq, inn_shared k0 btw_ok hq, one p q hq, inn_btw hp hq, inn_btw hp hq, inn_btw hp hq]
    exact ⟨⟨⟨⟨hp, hm⟩, h1⟩, h2⟩, h3⟩
  · rintro ⟨p, q, hq, h⟩
    rw [inn_shared k2 btw_ok hq, inn_shared k1 btw_ok hq, inn_shared k0 btw_ok hq, one p q hq] at h
    obtain ⟨⟨⟨⟨hp, hm⟩, h1⟩, h2⟩, h3⟩ := h
    rw [inn_btw hp hq] at h1 h2 h3
    exact ⟨p, q, hq, hp, hm, h1, h2, h3⟩
theorem bHit_no {b : Bx} {o d : T3} {n m : Int} (h : ¬ (bRight b = true ∧ nrT o = true ∧ nrT d = true)) : bHit b o d n m = false := by
  cases g : bHit b o d n m with
  | false => rfl
  | true => have := bHit_iff.1 g; exact (h ⟨this.1, this.2.1, this.2.2.1⟩).elim
theorem bHit_yes {b : Bx} {o d : T3} {n m : Int} (hb : bRight b = true) (ho : nrT o = true) (hd : nrT d = true) : bHit b o d n m = !(ivEmpty (ivFold ((0, 1), (n, m)) (ivs b o d))) := by
  rw [Bool.eq_iff_iff, bHit_iff, hits_iff]
  simp [hb, ho, hd]
/-- The end of all rounds, and of a stop. -/
theorem bHit_stop {b : Bx} {o d : T3} {n m : Int} {pre rest : List Iv} (h : ivs b o d = pre ++ rest) (he : ivEmpty (ivFold ((0, 1), (n, m)) pre) = true) (k : 1 ≤ (ivFold ((0, 1), (n, m)) pre).1.2) : bHit b o d n m = false := by
  by_cases hc : bRight b = true ∧ nrT o = true ∧ nrT d = true
  · rw [bHit_yes hc.1 hc.2.1 hc.2.2, h]
    have : ivFold ((0, 1), (n, m)) (pre ++ rest) = ivFold (ivFold ((0, 1), (n, m)) pre) rest := by unfold ivFold; rw [List.foldl_append]
    rw [this, empty_fold k (fun x hx => ivs_ok (b := b) (o := o) (d := d) x (by rw [h]; simp [hx])) he]
    rfl
  · exact bHit_no hc
theorem ivFold_ok {l : List Iv} : ∀ {i : Iv}, 1 ≤ i.1.2 → (∀ x ∈ l, 1 ≤ x.1.2) → 1 ≤ (ivFold i l).1.2 := by
  induction l with
  | nil => intro i h _; exact h
  | cons x l ih => intro i h hl; exact ih (ivShared_ok h (hl x (by simp))) (fun y hy => hl y (by simp [hy]))
theorem ivFold_ints {l : List Iv} : ∀ {i : Iv}, ivInts i → (∀ x ∈ l, ivInts x) → ivInts (ivFold i l) := by
  induction l with
  | nil => intro i h _; exact h
  | cons x l ih => intro i h hl; exact ih (ivShared_ints h (hl x (by simp))) (fun y hy => hl y (by simp [hy]))

end Go.Proofs.Sky
