/- What the walk of WordLines asks of its texts. -/
import Derived.Test.YtlhamgcmkodjeaaDoorPlain18
import Derived.Test.YtlhamgcmkodjeaaDoorOpen18
import Derived.Test.YtlhamgcmkodjeaaDoorWordRows
namespace Go.Proofs.YtlhamgcmkodjeaaDoor
open Go.RowKit Go.Shelf Go.Proofs.Sky
set_option linter.unusedVariables false
set_option linter.unusedSimpArgs false

theorem jn_join (l : List (List UInt8)) : jn l = Lib.join l [32] := by
  induction l with
  | nil => rfl
  | cons x l ih =>
    cases l with
    | nil => simp [jn, Lib.join]
    | cons y l =>
      show x ++ 32 :: jn (y :: l) = _
      rw [ih]
      simp [Lib.join]

/-- A line's words as the statement lets them pass. -/
def Fit (x : List (List UInt8)) : Prop := x ≠ [] ∧ x.length ≤ 6 ∧ ∀ y ∈ x, y.length ≤ 10 ∧ IsWord y

theorem jn_len (l : List (List UInt8)) (h : ∀ y ∈ l, y.length ≤ 10) : (jn l).length ≤ 11 * l.length := by
  induction l with
  | nil => exact Nat.le_refl _
  | cons x l ih =>
    have hx := h x List.mem_cons_self
    have := ih (fun y hy => h y (List.mem_cons_of_mem _ hy))
    cases l with
    | nil => simp [jn]; omega
    | cons y l =>
      show (x ++ 32 :: jn (y :: l)).length ≤ _
      simp only [List.length_append, List.length_cons] at this ⊢
      omega

theorem fit_len {x : List (List UInt8)} (h : Fit x) : (lineOf x).length ≤ 67 := by
  have h1 := jn_len x (fun y hy => (h.2.2 y hy).1)
  have h2 := h.2.1
  unfold lineOf
  rw [← jn_join, List.length_append]
  simp
  omega

def txt (tab : Bool) (rem : List UInt8) (ls : List (List (List UInt8))) : List UInt8 := 10 :: 32 :: 35 :: rem ++ 10 :: body tab ls

theorem ahd_len (tab : Bool) : (ahd tab).length ≤ 3 := by cases tab <;> decide

theorem body_len (tab : Bool) (ls : List (List (List UInt8))) (h : ∀ x ∈ ls, Fit x) : (body tab ls).length ≤ 80 * ls.length := by
  induction ls with
  | nil => exact Nat.le_refl _
  | cons x ls ih =>
    have hx := h x List.mem_cons_self
    have h1 := jn_len x (fun y hy => (hx.2.2 y hy).1)
    have h2 := hx.2.1
    have h3 := ahd_len tab
    have := ih (fun y hy => h y (List.mem_cons_of_mem _ hy))
    show (ahd tab ++ jn x ++ 10 :: 32 :: 10 :: body tab ls).length ≤ _
    simp only [List.length_append, List.length_cons]
    omega

theorem txt_len (tab : Bool) (rem : List UInt8) (ls : List (List (List UInt8))) (h : ∀ x ∈ ls, Fit x) (hn : ls.length ≤ 6) (hr : rem.length ≤ 20) : (txt tab rem ls).length ≤ 600 := by
  have := body_len tab ls h
  unfold txt
  simp only [List.length_append, List.length_cons]
  omega

theorem txt_next {tab : Bool} {rem : List UInt8} {ls : List (List (List UInt8))} {i : Nat} {x : List (List UInt8)} (h : ls[i]? = some x) : txt tab rem (ls.take (i + 1)) = ((txt tab rem (ls.take i) ++ ahd tab) ++ lineOf x) ++ [32, 10] := by
  unfold txt lineOf
  rw [body_take h, ← jn_join]
  simp

theorem rows_txt (tab : Bool) (rem : List UInt8) (ls : List (List (List UInt8))) (hr : ∀ c ∈ rem, nl c = false) (h : ∀ x ∈ ls, Fit x) : rowsOf (txt tab rem ls) = rws tab 3 ls :=
  rows_text tab rem ls hr (fun x hx => ⟨(h x hx).1, fun y hy => ((h x hx).2.2 y hy).2⟩)

theorem take_all {α : Type} {p : α → Prop} {l : List α} {k : Nat} {x : α} (h : ∀ y ∈ l.take k, p y) (hx : l[k]? = some x) (hp : p x) : ∀ y ∈ l.take (k + 1), p y := by
  intro y hy
  rw [List.take_add_one, hx] at hy
  rcases List.mem_append.1 hy with hy | hy
  · exact h y hy
  · obtain rfl : y = x := by simpa using hy
    exact hp

theorem take_whole {α : Type} {p : α → Prop} {l : List α} (h : ∀ y ∈ l.take l.length, p y) : ∀ y ∈ l, p y := by
  rw [List.take_length] at h
  exact h

/-- The rows that came back, cell by cell. -/
theorem rows_back {tab : Bool} {ls : List (List (List UInt8))} {w : World} {v : Value} (h : RowsAt18 w v (rws tab 3 ls)) :
    ∃ (a : Option Addr) (c : Nat), v = .slice a ls.length c ∧ ∀ (i : Nat) x, ls[i]? = some x → ∃ b off a2 c2, a = some ⟨b, off, none⟩ ∧ b < w.heap.size ∧ w.cell? ⟨b, off + i * 3, none⟩ = some (.int .i64 (3 + 2 * (i : Int))) ∧ w.cell? ⟨b, off + i * 3 + 1, none⟩ = some (.int .i64 (reach (ofs tab) x : Int)) ∧ w.cell? ⟨b, off + i * 3 + 2, none⟩ = some (.slice a2 x.length c2) ∧
      ∀ (k : Nat) y, x[k]? = some y → ∃ b2 off2, a2 = some ⟨b2, off2, none⟩ ∧ b2 < w.heap.size ∧ w.cell? ⟨b2, off2 + k * 3, none⟩ = some (sval y) ∧ w.cell? ⟨b2, off2 + k * 3 + 1, none⟩ = some (.int .i64 (3 + 2 * (i : Int))) ∧ w.cell? ⟨b2, off2 + k * 3 + 2, none⟩ = some (.int .i64 ((reach (ofs tab) (x.take k) : Int) + 1)) := by
  obtain ⟨a, c, e, hc⟩ := rows_cells h
  rw [rws_len] at e
  refine ⟨a, c, e, fun i x hx => ?_⟩
  have hg := rws_at tab ls 3 i x hx
  obtain ⟨hi, hg⟩ := List.getElem?_eq_some_iff.1 hg
  obtain ⟨b, off, b2, off2, a2, c2, ea, hb, x0, x1, x2, X⟩ := hc i hi
  simp only [hg] at x0 x1 x2 X
  rw [tag_len] at x2
  refine ⟨b, off, a2, c2, ea, hb, by rw [x0]; simp, x1, x2, fun k y hy => ?_⟩
  have hk : k < x.length := (List.getElem?_eq_some_iff.1 hy).1
  obtain ⟨e2, hb2, y0, y1, y2⟩ := X k (by rw [tag_len]; exact hk)
  have ht := tag_at x (ofs tab) k y hy
  obtain ⟨hk2, ht⟩ := List.getElem?_eq_some_iff.1 ht
  simp only [ht] at y0 y2
  exact ⟨b2, off2, e2, hb2, y0, by rw [y1]; simp, y2⟩

theorem reach_small (x : List (List UInt8)) (h : ∀ y ∈ x, y.length ≤ 10) : ∀ k, reach k x ≤ k + 11 * x.length := by
  induction x with
  | nil => intro k; exact Nat.le_refl _
  | cons y x ih =>
    intro k
    have hy := h y List.mem_cons_self
    have := ih (fun z hz => h z (List.mem_cons_of_mem _ hz)) (k + y.length + 1)
    show reach (k + y.length + 1) x ≤ _
    rw [List.length_cons]
    omega

end Go.Proofs.YtlhamgcmkodjeaaDoor
