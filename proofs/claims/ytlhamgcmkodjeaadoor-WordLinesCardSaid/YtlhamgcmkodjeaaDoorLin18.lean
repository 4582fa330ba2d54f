/- Words that are put in lines, and the rows of such a text. Imports nothing of the translation. -/
import Derived.Test.YtlhamgcmkodjeaaDoorWrd18
namespace Go.Proofs.Sky
open Go
set_option linter.unusedVariables false

/-- Is a text one word? -/
def IsWord (x : List UInt8) : Prop := x ≠ [] ∧ x.head? ≠ some 35 ∧ ∀ c ∈ x, bl c = false ∧ nl c = false

theorem mem_tw {α : Type} (p : α → Bool) (l : List α) : ∀ x ∈ l.takeWhile p, p x = true := by
  induction l with
  | nil => intro x hx; cases hx
  | cons y l ih =>
    intro x hx
    rw [List.takeWhile_cons] at hx
    split at hx
    · rename_i h
      rcases List.mem_cons.1 hx with rfl | hx
      · exact h
      · exact ih x hx
    · cases hx

theorem sel_is (l : List (Nat × List UInt8)) : ∀ x ∈ sel l, x.2 ≠ [] ∧ x.2.head? ≠ some 35 := by
  intro x hx
  unfold sel at hx
  have h1 := (List.mem_filter.1 ((List.takeWhile_sublist _).subset hx)).2
  have h2 := mem_tw _ _ x hx
  refine ⟨fun e => ?_, fun e => ?_⟩
  · rw [e] at h1; simp at h1
  · rw [e] at h2; simp at h2

theorem tag_mem (l : List (List UInt8)) : ∀ k, ∀ x ∈ tag k l, x.2 ∈ l := by
  induction l with
  | nil => intro k x hx; cases hx
  | cons y l ih =>
    intro k x hx
    rcases List.mem_cons.1 hx with rfl | hx
    · exact List.mem_cons_self
    · exact List.mem_cons_of_mem _ (ih _ x hx)

theorem toks_is (line : List UInt8) (h : ∀ c ∈ line, nl c = false) : ∀ x ∈ toks line, IsWord x.2 := by
  intro x hx
  obtain ⟨a, b⟩ := sel_is _ x hx
  refine ⟨a, b, fun c hc => ?_⟩
  obtain ⟨d, e⟩ := spl_mem line x.2 (tag_mem _ _ x (sel_mem _ x hx)) c hc
  exact ⟨e, h c d⟩

theorem rowsFrom_is (L : List (List UInt8)) (h : ∀ x ∈ L, ∀ c ∈ x, nl c = false) : ∀ n, ∀ r ∈ rowsFrom n L, ∀ y ∈ r.ws, IsWord y.2 := by
  induction L with
  | nil => intro n r hr; cases hr
  | cons x L ih =>
    intro n r hr
    rw [rowsFrom_c] at hr
    have hL := ih (fun y hy => h y (List.mem_cons_of_mem _ hy)) (n + 1)
    split at hr
    · exact hL r hr
    · rcases List.mem_cons.1 hr with rfl | hr
      · exact toks_is x (h x List.mem_cons_self)
      · exact hL r hr

theorem rowsOf_is (l : List UInt8) : ∀ r ∈ rowsOf l, ∀ y ∈ r.ws, IsWord y.2 :=
  rowsFrom_is _ (fun x hx c hc => (spl_mem l x hx c hc).2) 1

/-- What the document's Plain answers. -/
def plainB (l : List UInt8) : Bool := match rowsOf l with
  | [r] => match r.ws with
    | [y] => y.2 == l
    | _ => false
  | _ => false

theorem plainB_is {l : List UInt8} (h : plainB l = true) : IsWord l := by
  unfold plainB at h
  split at h
  · rename_i r hr
    split at h
    · rename_i y hy
      have := rowsOf_is l r (by rw [hr]; simp) y (by rw [hy]; simp)
      rw [eq_of_beq h] at this
      exact this
    · cases h
  · cases h

/-- Words between blanks. -/
def jn : List (List UInt8) → List UInt8
  | [] => []
  | [x] => x
  | x :: y :: l => x ++ 32 :: jn (y :: l)

theorem spl_jn (x : List UInt8) (l : List (List UInt8)) (h : ∀ y ∈ x :: l, IsWord y) : spl bl (jn (x :: l)) = x :: l := by
  induction l generalizing x with
  | nil => exact spl_free (fun c hc => ((h x List.mem_cons_self).2.2 c hc).1)
  | cons y l ih =>
    show spl bl (x ++ 32 :: jn (y :: l)) = _
    rw [spl_sep rfl, ih y (fun z hz => h z (List.mem_cons_of_mem _ hz)), spl_free (fun c hc => ((h x List.mem_cons_self).2.2 c hc).1)]
    rfl

theorem jn_nl (l : List (List UInt8)) (h : ∀ y ∈ l, IsWord y) : ∀ c ∈ jn l, nl c = false := by
  induction l with
  | nil => intro c hc; cases hc
  | cons x l ih =>
    cases l with
    | nil => intro c hc; exact ((h x List.mem_cons_self).2.2 c hc).2
    | cons y l =>
      intro c hc
      have hc' : c ∈ x ++ 32 :: jn (y :: l) := hc
      rcases List.mem_append.1 hc' with hc | hc
      · exact ((h x List.mem_cons_self).2.2 c hc).2
      · rcases List.mem_cons.1 hc with rfl | hc
        · rfl
        · exact ih (fun z hz => h z (List.mem_cons_of_mem _ hz)) c hc

theorem sel_all (l : List (List UInt8)) (h : ∀ y ∈ l, IsWord y) : ∀ k, sel (tag k l) = tag k l := by
  induction l with
  | nil => intro k; rfl
  | cons x l ih =>
    intro k
    show sel ((k, x) :: tag _ l) = _
    rw [sel_word _ _ _ (h x List.mem_cons_self).1 (h x List.mem_cons_self).2.1, ih (fun z hz => h z (List.mem_cons_of_mem _ hz))]
    rfl

/-- What stands ahead of a line. -/
def ahd (tab : Bool) : List UInt8 := if tab then [9, 32, 32] else []
def ofs (tab : Bool) : Nat := if tab then 3 else 0

theorem toks_line (tab : Bool) (x : List UInt8) (l : List (List UInt8)) (h : ∀ y ∈ x :: l, IsWord y) : toks (ahd tab ++ jn (x :: l)) = tag (ofs tab) (x :: l) := by
  have hs := spl_jn x l h
  cases tab with
  | false => show sel (tag 0 (spl bl (jn (x :: l)))) = _; rw [hs]; exact sel_all _ h _
  | true =>
    have e : spl bl (ahd true ++ jn (x :: l)) = [] :: [] :: [] :: (x :: l) := by
      show spl bl ([] ++ 9 :: ([] ++ 32 :: ([] ++ 32 :: jn (x :: l)))) = _
      rw [spl_sep rfl, spl_sep rfl, spl_sep rfl, hs]
      rfl
    unfold toks
    rw [e]
    show sel ((0, []) :: (1, []) :: (2, []) :: tag 3 (x :: l)) = _
    rw [sel_nil, sel_nil, sel_nil]
    exact sel_all _ h _

theorem endOf_tag (l : List (List UInt8)) : ∀ (x : List UInt8) k, endOf (tag k (x :: l)) = reach k (x :: l) := by
  induction l with
  | nil => intro x k; rfl
  | cons y l ih =>
    intro x k
    show endOf ((k, x) :: (k + x.length + 1, y) :: tag (k + x.length + 1 + y.length + 1) l) = _
    exact ih y (k + x.length + 1)

/-- The text of lines. -/
def body (tab : Bool) : List (List (List UInt8)) → List UInt8
  | [] => []
  | x :: l => ahd tab ++ jn x ++ 10 :: 32 :: 10 :: body tab l

/-- Their rows. -/
def rws (tab : Bool) : Nat → List (List (List UInt8)) → List Rw
  | _, [] => []
  | n, x :: l => ⟨n, reach (ofs tab) x, tag (ofs tab) x⟩ :: rws tab (n + 2) l

theorem ahd_nl (tab : Bool) : ∀ c ∈ ahd tab, nl c = false := by
  cases tab with
  | false => intro c hc; cases hc
  | true => intro c hc; simp [ahd] at hc; rcases hc with rfl | rfl <;> rfl

theorem spl_body (tab : Bool) (x : List (List UInt8)) (l : List (List (List UInt8))) (h : ∀ y ∈ x, IsWord y) : spl nl (body tab (x :: l)) = (ahd tab ++ jn x) :: [32] :: spl nl (body tab l) := by
  show spl nl ((ahd tab ++ jn x) ++ 10 :: ([32] ++ 10 :: body tab l)) = _
  rw [spl_sep rfl, spl_sep rfl, spl_free (fun c hc => ?_), spl_free (fun c hc => ?_)]
  · rfl
  · obtain rfl := List.mem_singleton.1 hc; rfl
  · rcases List.mem_append.1 hc with hc | hc
    · exact ahd_nl tab c hc
    · exact jn_nl x h c hc

theorem rows_body (tab : Bool) (ls : List (List (List UInt8))) (h : ∀ x ∈ ls, x ≠ [] ∧ ∀ y ∈ x, IsWord y) : ∀ n, rowsFrom n (spl nl (body tab ls)) = rws tab n ls := by
  induction ls with
  | nil => intro n; rfl
  | cons x ls ih =>
    intro n
    obtain ⟨h0, h1⟩ := h x List.mem_cons_self
    rw [spl_body tab x ls h1, rowsFrom_c, rowsFrom_c, ih (fun z hz => h z (List.mem_cons_of_mem _ hz))]
    cases x with
    | nil => exact absurd rfl h0
    | cons y x =>
      have e := toks_line tab y x h1
      rw [if_neg (by rw [e]; simp [tag]), if_pos (show toks [32] = [] from rfl)]
      show lineRow n _ :: _ = _
      unfold lineRow
      rw [e, endOf_tag]
      rfl

theorem rows_text (tab : Bool) (rem : List UInt8) (ls : List (List (List UInt8))) (hr : ∀ c ∈ rem, nl c = false) (h : ∀ x ∈ ls, x ≠ [] ∧ ∀ y ∈ x, IsWord y) : rowsOf (10 :: 32 :: 35 :: rem ++ 10 :: body tab ls) = rws tab 3 ls := by
  have e : spl nl (10 :: 32 :: 35 :: rem ++ 10 :: body tab ls) = [] :: (32 :: 35 :: rem) :: spl nl (body tab ls) := by
    show spl nl ([] ++ 10 :: ((32 :: 35 :: rem) ++ 10 :: body tab ls)) = _
    rw [spl_sep rfl, spl_sep rfl, spl_free (b := 32 :: 35 :: rem) (fun c hc => ?_)]
    · rfl
    · rcases List.mem_cons.1 hc with rfl | hc
      · rfl
      · rcases List.mem_cons.1 hc with rfl | hc
        · rfl
        · exact hr c hc
  unfold rowsOf
  rw [e, rowsFrom_c, rowsFrom_c, rows_body tab ls h]
  have h1 : toks [] = [] := rfl
  have h2 : toks (32 :: 35 :: rem) = [] := by
    obtain ⟨y, t, e1⟩ := spl_cons bl rem
    have e2 : spl bl (32 :: 35 :: rem) = [] :: (35 :: y) :: t := by
      show spl bl ([] ++ 32 :: (35 :: rem)) = _
      rw [spl_sep rfl, spl_c]
      rw [if_neg (by decide), e1]
      rfl
    unfold toks
    rw [e2]
    show sel ((0, []) :: (1, 35 :: y) :: _) = []
    rw [sel_nil, sel_rem _ _ _ rfl]
  rw [h1, h2, if_pos rfl, if_pos rfl]

theorem rws_len (tab : Bool) (ls : List (List (List UInt8))) : ∀ n, (rws tab n ls).length = ls.length := by
  induction ls with
  | nil => intro n; rfl
  | cons x ls ih => intro n; simp [rws, ih]

theorem rws_at (tab : Bool) (ls : List (List (List UInt8))) : ∀ (n i : Nat) (x : List (List UInt8)), ls[i]? = some x → (rws tab n ls)[i]? = some (⟨n + 2 * i, reach (ofs tab) x, tag (ofs tab) x⟩ : Rw) := by
  induction ls with
  | nil => intro n i x h; cases h
  | cons y ls ih =>
    intro n i x h
    cases i with
    | zero => simp at h; subst h; rfl
    | succ i =>
      have := ih (n + 2) i x (by simpa using h)
      show (rws tab (n + 2) ls)[i]? = _
      rw [this, show n + 2 + 2 * i = n + 2 * (i + 1) by omega]

theorem tag_at (l : List (List UInt8)) : ∀ k j y, l[j]? = some y → (tag k l)[j]? = some (reach k (l.take j), y) := by
  induction l with
  | nil => intro k j y h; cases h
  | cons x l ih =>
    intro k j y h
    cases j with
    | zero => simp at h; subst h; rfl
    | succ j => exact ih _ j y (by simpa using h)

theorem reach_snoc (l : List (List UInt8)) (x : List UInt8) : ∀ k, reach k (l ++ [x]) = reach k l + x.length + 1 := fun k => by
  rw [reach_append]; rfl

theorem reach_take {l : List (List UInt8)} {j : Nat} {y : List UInt8} (h : l[j]? = some y) (k : Nat) : reach k (l.take (j + 1)) = reach k (l.take j) + y.length + 1 := by
  rw [List.take_add_one, h]
  exact reach_snoc _ _ _

theorem body_snoc (tab : Bool) (ls : List (List (List UInt8))) (x : List (List UInt8)) : body tab (ls ++ [x]) = body tab ls ++ (ahd tab ++ jn x ++ [10, 32, 10]) := by
  induction ls with
  | nil => simp [body]
  | cons y ls ih => simp [body, ih]

theorem body_take {tab : Bool} {ls : List (List (List UInt8))} {i : Nat} {x : List (List UInt8)} (h : ls[i]? = some x) : body tab (ls.take (i + 1)) = body tab (ls.take i) ++ (ahd tab ++ jn x ++ [10, 32, 10]) := by
  rw [List.take_add_one, h]
  exact body_snoc _ _ _

end Go.Proofs.Sky
