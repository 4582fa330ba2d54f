/- Rows of things that a call makes: a slice that came in, appended to nothing; and what such a row is. -/
import Derived.Test.YtokkankfaofooaaMem14
import Derived.Laws.AppendOwn
import Derived.Laws.OwnMore
import Derived.Tactics
namespace Go.Proofs.Ytokkankfaofooaa
open Go.RowKit Go.Proofs.Sky
set_option linter.unusedVariables false

theorem run_append_none {P : Program} {w : World} (t ty e : TypeId) (i : TypeInfo) (ht : P.underlying t = some (.slice e)) (hi : P.info? e = some i) (cap : Nat) :
    (Builtin.append_ #[t, t] ty #[.slice none 0 0, .slice none 0 cap]).run P w = .ok (.slice none 0 0) w := by
  simp [Builtin.append_, run_underlying ht, sizeOf, typeInfo, hi, Builtin.lenOf, Builtin.firstCells]

theorem wpList_append_row {P : Program} {w : World} {ops : Array Oper} {rest : List Oper} {o : Oper} {a : Act} {Q : Exit → Act → World → Prop} (hgd : o.guard = none) (s x : Operand) (t : TypeId)
    (ho : o.op = .call { callee := .builtin .append, args := #[s, x], argTypes := #[t, t] })
    (base : Nat) (e : TypeId) (i : TypeInfo) (z : Value) (size bytes : Nat) (ht : P.underlying t = some (.slice e)) (hi : P.info? e = some i) (hz : i.zero = some z)
    (hsize : i.size = size) (hby : i.bytes = bytes) (hzs : z.cells.size = size) (hsz : 0 < size) (hs : a.eval s = .slice none 0 0)
    (src : Option Addr) (m cap : Nat) (news : List Value) (hx : a.eval x = .slice src m cap) (hl : news.length = m * size) (hnews : m = 0 ∨ ∃ ad, src = some ad ∧ ∀ j u, news[j]? = some u → w.cell? (ad.add j) = some u) (h1 : ∀ u ∈ news, u.oneCell' = true)
    (h63 : m ≤ maxLen) (hbytes : m * bytes ≤ 140737488355328) (hbase : base ≤ w.heap.size)
    (h : ∀ v' w', w'.ownsRow base e size v' m news → w.grownBy w' none → wpList P ops Q rest (a.put o.dst v') w') : wpList P ops Q (o :: rest) a w := by
  cases src with
  | none =>
    have hm : m = 0 := by
      rcases hnews with h | ⟨_, h, _⟩
      · exact h
      · cases h
    subst hm
    have hn : news = [] := List.length_eq_zero_iff.1 (by simpa using hl)
    subst hn
    refine wpList_plain hgd fun K hK => ?_
    have hrun := run_append_none (P := P) (w := w) t o.type e i ht hi cap
    unfold Oper.wp
    simp [execOp, ho, resolve, invoke, builtin, hs, hx, hrun, Result.andThen]
    exact hK _ _ (h _ _ (World.ownsRow_nil _ _ _ _) ⟨rfl, rfl, rfl, Nat.le_refl _, fun _ _ _ => rfl⟩)
  | some ad =>
    refine wpList_append_own w hgd s x t ho base e i z size bytes ht hi hz hsize hby hzs hsz (.slice none 0 0) 0 [] hs (World.ownsRow_nil _ _ _ _) ad m cap news hx hl ?_ h1 (by omega) (by rw [Nat.zero_add]; exact hbytes) hbase ?_
    · intro j u hj
      rcases hnews with h | ⟨ad', h, hc⟩
      · subst h
        have hn : news = [] := List.length_eq_zero_iff.1 (by simpa using hl)
        subst hn
        cases hj
      · cases h
        exact hc j u hj
    · intro v' w' h2 h3 _
      rw [Nat.zero_add, List.nil_append] at h2
      exact h v' w' h2 h3

theorem prim_info : (Try.prog.info? 26).map (fun i => (i.zero, i.size, i.bytes)) = some (some (.agg #[.int .i64 0, .int .i64 0, .int .i64 0, .int .i64 0, .int .i64 0, .int .i64 0, .int .i64 0, .int .i64 0, .int .i64 0, .int .i64 0, .int .i64 0, .int .i64 0]), 12, 96) := by kernel_rfl

def rowP (P : Nat → Pr) (n : Nat) : List Value := (List.range n).flatMap (fun i => pcells (P i))

theorem rowP_succ (P : Nat → Pr) (n : Nat) : rowP P (n + 1) = rowP P n ++ pcells (P n) := by
  unfold rowP; rw [List.range_succ, List.flatMap_append]; simp

theorem rowP_congr {P Q : Nat → Pr} {n : Nat} (h : ∀ i, i < n → P i = Q i) : rowP P n = rowP Q n := by
  unfold rowP
  induction n with
  | zero => rfl
  | succ n ih => rw [List.range_succ, List.flatMap_append, List.flatMap_append, ih (fun i hi => h i (by omega))]; simp [h n (by omega)]

theorem rowP_len (P : Nat → Pr) (n : Nat) : (rowP P n).length = n * 12 := by
  induction n with
  | zero => rfl
  | succ n ih => rw [rowP_succ, List.length_append, ih]; simp [pcells]; omega

theorem rowP_at (P : Nat → Pr) (n i : Nat) (h : i < n) (j : Nat) (hj : j < 12) : (rowP P n)[i * 12 + j]? = (pcells (P i))[j]? := by
  induction n with
  | zero => omega
  | succ n ih =>
    rw [rowP_succ]
    by_cases g : i < n
    · rw [List.getElem?_append_left (by rw [rowP_len]; omega)]
      exact ih g
    · obtain rfl : i = n := by omega
      rw [List.getElem?_append_right (by rw [rowP_len]; omega), rowP_len]
      simp

theorem rowP_one (P : Nat → Pr) (n : Nat) : ∀ u ∈ rowP P n, u.oneCell' = true := by
  intro u hu
  unfold rowP at hu
  rw [List.mem_flatMap] at hu
  obtain ⟨i, _, hu⟩ := hu
  simp only [pcells, List.mem_cons, List.not_mem_nil, or_false] at hu
  rcases hu with rfl | rfl | rfl | rfl | rfl | rfl | rfl | rfl | rfl | rfl | rfl | rfl <;> rfl

/-- The cells of a slice of things, as a row. -/
theorem prims_row {w : World} {a : Option Addr} {n cap : Nat} {P : Nat → Pr} (h : Prims w (.slice a n cap) n P) : n = 0 ∨ ∃ ad, a = some ad ∧ ∀ j u, (rowP P n)[j]? = some u → w.cell? (ad.add j) = some u := by
  obtain ⟨⟨a', cap', e, hm, hS⟩, _⟩ := h
  cases e
  rcases hS with h | ⟨b, off, rfl, hb, hc⟩
  · exact .inl h
  · refine .inr ⟨_, rfl, fun j u hj => ?_⟩
    have hlt : j < n * 12 := by
      have := (List.getElem?_eq_some_iff.1 hj).1
      rwa [rowP_len] at this
    have hi : j / 12 < n := by omega
    have h1 := hc (j / 12) hi (j % 12) (by omega)
    have h2 := rowP_at P n (j / 12) hi (j % 12) (by omega)
    have e : j / 12 * 12 + j % 12 = j := by omega
    rw [e] at h2
    dsimp only at h1
    rw [Nat.add_assoc, e, ← h2, hj] at h1
    by_cases h0 : j = 0
    · subst h0; exact h1
    · simpa [Addr.add, h0] using h1

/-- A row of things that a call made, as a slice of things. -/
theorem owns_prims {w : World} {B n : Nat} {v : Value} {P : Nat → Pr} (h : w.ownsRow B 26 12 v n (rowP P n)) (hI : ∀ i, i < n → (P i).I) (hm : n ≤ maxLen) : ∃ (o : Option Addr) (cap : Nat), v = .slice o n cap ∧ Prims w (.slice o n cap) n P := by
  obtain ⟨hl, h⟩ := h
  rcases h with ⟨rfl, hz⟩ | ⟨g, cap, cur, rfl, hB, hg, hn, hms, hs, hx⟩
  · subst hz; exact ⟨none, 0, rfl, Sl.nil _ _ _ _ _, fun i hi => absurd hi (by omega)⟩
  · refine ⟨_, cap, rfl, ⟨_, cap, rfl, hm, ?_⟩, hI⟩
    by_cases hz : n = 0
    · exact .inl hz
    · refine .inr ⟨g, 0, rfl, (Array.getElem?_eq_some_iff.1 hg).1, fun i hi j hj => ?_⟩
      have e1 := rowP_at P n i hi j hj
      dsimp only
      rw [Nat.zero_add, ← e1]
      have hlt : i * 12 + j < n * 12 := by omega
      simp only [World.cell?, hg]
      rw [← hx, List.getElem?_take, if_pos hlt]
      simp

end Go.Proofs.Ytokkankfaofooaa
