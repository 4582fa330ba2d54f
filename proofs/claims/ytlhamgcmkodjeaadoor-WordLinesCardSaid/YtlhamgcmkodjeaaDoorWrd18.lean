/- Words of a text: its lines, its words and where they stand, its rows. Imports nothing of the translation. -/
import Derived.Laws.RangeAny
namespace Go.Proofs.Sky
open Go
set_option linter.unusedVariables false

def nl (c : UInt8) : Bool := c == 10
def bl (c : UInt8) : Bool := c == 32 || c == 9

/-- What lies between the bytes that part. -/
def spl (p : UInt8 → Bool) : List UInt8 → List (List UInt8)
  | [] => [[]]
  | c :: l => if p c then [] :: spl p l else (c :: (spl p l).headD []) :: (spl p l).tail

theorem spl_c (p : UInt8 → Bool) (c : UInt8) (l : List UInt8) : spl p (c :: l) = if p c then [] :: spl p l else (c :: (spl p l).headD []) :: (spl p l).tail := rfl

theorem spl_ne (p : UInt8 → Bool) (l : List UInt8) : spl p l ≠ [] := by
  cases l with
  | nil => simp [spl]
  | cons c l => unfold spl; split <;> simp

theorem spl_cons (p : UInt8 → Bool) (l : List UInt8) : ∃ h t, spl p l = h :: t := by
  cases e : spl p l with
  | nil => exact absurd e (spl_ne p l)
  | cons h t => exact ⟨h, t, rfl⟩

theorem spl_sep {p : UInt8 → Bool} {c : UInt8} (h : p c = true) (a b : List UInt8) : spl p (a ++ c :: b) = spl p a ++ spl p b := by
  induction a with
  | nil => simp [spl, h]
  | cons d a ih =>
    obtain ⟨x, t, e⟩ := spl_cons p a
    show spl p (d :: (a ++ c :: b)) = _
    rw [spl_c, spl_c, ih, e]
    by_cases hd : p d = true
    · simp [hd]
    · simp [hd]

theorem spl_free {p : UInt8 → Bool} {b : List UInt8} (h : ∀ c ∈ b, p c = false) : spl p b = [b] := by
  induction b with
  | nil => rfl
  | cons c b ih =>
    unfold spl
    rw [ih (fun c hc => h c (List.mem_cons_of_mem _ hc)), h c (List.mem_cons_self)]
    rfl

theorem spl_add {p : UInt8 → Bool} {b : List UInt8} (h : ∀ c ∈ b, p c = false) (a : List UInt8) : ∀ D x, spl p a = D ++ [x] → spl p (a ++ b) = D ++ [x ++ b] := by
  induction a with
  | nil =>
    intro D x e
    have hD : D = [] ∧ x = [] := by
      cases D with
      | nil => simpa [spl] using e.symm
      | cons y D => simp [spl] at e
    rw [hD.1, hD.2]
    simpa using spl_free h
  | cons c a ih =>
    intro D x e
    obtain ⟨y, t, e1⟩ := spl_cons p a
    show spl p (c :: (a ++ b)) = _
    unfold spl at e ⊢
    by_cases hc : p c = true
    · rw [if_pos hc] at e ⊢
      cases D with
      | nil => rw [e1] at e; simp at e
      | cons z D =>
        simp only [List.cons_append, List.cons.injEq] at e ⊢
        exact ⟨e.1, ih D x e.2⟩
    · rw [if_neg hc] at e ⊢
      cases D with
      | nil =>
        rw [e1] at e
        simp at e
        obtain ⟨rfl, rfl⟩ := e
        rw [ih [] y (by simpa using e1)]
        simp
      | cons z D =>
        rw [e1] at e
        simp only [List.headD_cons, List.tail_cons, List.cons_append, List.cons.injEq] at e
        obtain ⟨rfl, e⟩ := e
        rw [ih (y :: D) x (by rw [e1, e]; rfl)]
        simp

theorem spl_snoc {p : UInt8 → Bool} {c : UInt8} (h : p c = true) {a : List UInt8} {D : List (List UInt8)} {x : List UInt8} (e : spl p a = D ++ [x]) : spl p (a ++ [c]) = D ++ [x] ++ [[]] := by
  rw [spl_sep h, e]
  rfl

theorem spl_mem {p : UInt8 → Bool} (l : List UInt8) : ∀ x ∈ spl p l, ∀ c ∈ x, c ∈ l ∧ p c = false := by
  induction l with
  | nil => intro x hx c hc; simp [spl] at hx; subst hx; cases hc
  | cons d l ih =>
    intro x hx c hc
    unfold spl at hx
    by_cases hd : p d = true
    · rw [if_pos hd] at hx
      rcases List.mem_cons.1 hx with rfl | hx
      · cases hc
      · obtain ⟨a, b⟩ := ih x hx c hc
        exact ⟨List.mem_cons_of_mem _ a, b⟩
    · rw [if_neg hd] at hx
      obtain ⟨y, t, e⟩ := spl_cons p l
      rw [e] at hx ih
      rcases List.mem_cons.1 hx with rfl | hx
      · rcases List.mem_cons.1 hc with rfl | hc
        · exact ⟨List.mem_cons_self, by simpa using hd⟩
        · obtain ⟨a, b⟩ := ih y (List.mem_cons_self) c hc
          exact ⟨List.mem_cons_of_mem _ a, b⟩
      · obtain ⟨a, b⟩ := ih x (List.mem_cons_of_mem _ hx) c hc
        exact ⟨List.mem_cons_of_mem _ a, b⟩

/-- Pieces with the places of their first bytes. -/
def tag (k : Nat) : List (List UInt8) → List (Nat × List UInt8)
  | [] => []
  | x :: l => (k, x) :: tag (k + x.length + 1) l

/-- How far pieces reach. -/
def reach (k : Nat) : List (List UInt8) → Nat
  | [] => k
  | x :: l => reach (k + x.length + 1) l

theorem tag_append (a b : List (List UInt8)) : ∀ k, tag k (a ++ b) = tag k a ++ tag (reach k a) b := by
  induction a with
  | nil => intro k; rfl
  | cons x a ih => intro k; simp [tag, reach, ih]

theorem reach_append (a b : List (List UInt8)) : ∀ k, reach k (a ++ b) = reach (reach k a) b := by
  induction a with
  | nil => intro k; rfl
  | cons x a ih => intro k; simp [reach, ih]

theorem reach_spl (p : UInt8 → Bool) (l : List UInt8) : ∀ k, reach k (spl p l) = k + l.length + 1 := by
  induction l with
  | nil => intro k; rfl
  | cons c l ih =>
    intro k
    unfold spl
    by_cases hc : p c = true
    · rw [if_pos hc]
      show reach (k + 0 + 1) (spl p l) = _
      rw [ih]
      simp
      omega
    · rw [if_neg hc]
      obtain ⟨y, t, e⟩ := spl_cons p l
      have := ih (k + 1)
      rw [e] at this ⊢
      simp only [reach, List.headD_cons, List.tail_cons, List.length_cons] at this ⊢
      rw [show k + (y.length + 1) + 1 = k + 1 + y.length + 1 by omega, this]
      omega

theorem spl_one {p : UInt8 → Bool} (l : List UInt8) : ∀ h, spl p l = [h] → h = l := by
  induction l with
  | nil => intro h e; simpa [spl] using e.symm
  | cons c l ih =>
    intro h e
    rw [spl_c] at e
    by_cases hc : p c = true
    · rw [if_pos hc] at e
      exact absurd (List.cons.inj e).2 (spl_ne p l)
    · rw [if_neg hc] at e
      obtain ⟨y, t, e1⟩ := spl_cons p l
      rw [e1] at e
      simp only [List.headD_cons, List.tail_cons, List.cons.injEq] at e
      obtain ⟨rfl, rfl⟩ := e
      rw [ih y e1]

/-- Where the last piece lies. -/
theorem spl_cut {p : UInt8 → Bool} (a : List UInt8) : ∀ D x, spl p a = D ++ [x] → reach 0 D + x.length = a.length ∧ a.drop (reach 0 D) = x := by
  intro D x e
  have hr := reach_spl p a 0
  rw [e, reach_append] at hr
  have hr' : reach 0 D + x.length = a.length := by
    simp only [reach] at hr
    omega
  refine ⟨hr', ?_⟩
  clear hr
  induction a generalizing D x with
  | nil =>
    have hD : D = [] ∧ x = [] := by
      cases D with
      | nil => simpa [spl] using e.symm
      | cons y D => simp [spl] at e
    rw [hD.1, hD.2]; rfl
  | cons c a ih =>
    rw [spl_c] at e
    by_cases hc : p c = true
    · rw [if_pos hc] at e
      cases D with
      | nil => exact absurd (List.cons.inj e).2 (spl_ne p a)
      | cons z D =>
        simp only [List.cons_append, List.cons.injEq] at e
        obtain ⟨rfl, e⟩ := e
        have hx : ∀ k, reach (k + 1) D = reach k D + 1 := fun k => by
          clear e hr' ih
          induction D generalizing k with
          | nil => rfl
          | cons y D ih => simp only [reach]; rw [← ih]; congr 1; omega
        have e2 : reach 0 ([] :: D) = reach 0 D + 1 := hx 0
        rw [e2] at hr' ⊢
        rw [List.drop_succ_cons]
        exact ih D x e (by simp at hr'; omega)
    · rw [if_neg hc] at e
      obtain ⟨y, t, e1⟩ := spl_cons p a
      rw [e1] at e
      simp only [List.headD_cons, List.tail_cons] at e
      cases D with
      | nil =>
        simp only [List.nil_append, List.cons.injEq] at e
        obtain ⟨rfl, rfl⟩ := e
        rw [spl_one a y e1]
        rfl
      | cons z D =>
        simp only [List.cons_append, List.cons.injEq] at e
        obtain ⟨rfl, e⟩ := e
        have hx : ∀ (D : List (List UInt8)) k, reach (k + 1) D = reach k D + 1 := fun D => by
          induction D with
          | nil => intro k; rfl
          | cons y D ih => intro k; simp only [reach]; rw [← ih]; congr 1; omega
        have e2 : reach 0 ((c :: y) :: D) = reach 0 (y :: D) + 1 := by
          simp only [reach, List.length_cons]
          rw [← hx]
          congr 1 <;> omega
        rw [e2] at hr' ⊢
        rw [List.drop_succ_cons]
        exact ih (y :: D) x (by rw [e1, e]; rfl) (by simp at hr'; omega)

theorem spl_last (p : UInt8 → Bool) (a : List UInt8) : ∃ D x, spl p a = D ++ [x] := by
  rcases List.eq_nil_or_concat (spl p a) with h | ⟨D, x, h⟩
  · exact absurd h (spl_ne p a)
  · exact ⟨D, x, by simpa using h⟩

/-- The words that count, of pieces: those that are not empty, up to a remark. -/
def sel (l : List (Nat × List UInt8)) : List (Nat × List UInt8) := (l.filter (fun x => !x.2.isEmpty)).takeWhile (fun x => !(x.2.head? == some 35))

/-- The words of a line, with the places of their first bytes. -/
def toks (line : List UInt8) : List (Nat × List UInt8) := sel (tag 0 (spl bl line))

theorem sel_nil (k : Nat) (l : List (Nat × List UInt8)) : sel ((k, []) :: l) = sel l := by simp [sel]
theorem sel_rem (k : Nat) (x : List UInt8) (l : List (Nat × List UInt8)) (h : x.head? = some 35) : sel ((k, x) :: l) = [] := by
  cases x with
  | nil => cases h
  | cons c x => simp at h; subst h; simp [sel]
theorem sel_word (k : Nat) (x : List UInt8) (l : List (Nat × List UInt8)) (h0 : x ≠ []) (h : x.head? ≠ some 35) : sel ((k, x) :: l) = (k, x) :: sel l := by
  cases x with
  | nil => exact absurd rfl h0
  | cons c x =>
    have : (c == 35) = false := by simpa using h
    simp [sel, this]

/-- The same, byte by byte: prev: does a blank, or nothing, stand ahead? -/
def scan : Nat → Bool → List UInt8 → List (Nat × List UInt8)
  | _, _, [] => []
  | i, prev, c :: l => if bl c then scan (i + 1) true l else if !prev then scan (i + 1) false l else if c == 35 then [] else (i, c :: l.takeWhile (fun c => !bl c)) :: scan (i + 1) false l

theorem scan_c (i : Nat) (prev : Bool) (c : UInt8) (l : List UInt8) : scan i prev (c :: l) = if bl c then scan (i + 1) true l else if !prev then scan (i + 1) false l else if c == 35 then [] else (i, c :: l.takeWhile (fun c => !bl c)) :: scan (i + 1) false l := rfl

theorem scan_skip {l : List UInt8} {k : Nat} {prev : Bool} (hk : k < l.length) (h : bl (l[k]'hk) = true ∨ prev = false) : scan k prev (l.drop k) = scan (k + 1) (bl (l[k]'hk)) (l.drop (k + 1)) := by
  rw [List.drop_eq_getElem_cons hk, scan_c]
  rcases h with h | h
  · rw [if_pos h, h]
  · by_cases hb : bl l[k] = true
    · rw [if_pos hb, hb]
    · rw [if_neg hb, h]
      simp [hb]

theorem scan_rem {l : List UInt8} {k : Nat} (hk : k < l.length) (h : (l[k]'hk) = 35) : scan k true (l.drop k) = [] := by
  rw [List.drop_eq_getElem_cons hk, scan_c, h]
  rfl

theorem scan_word {l : List UInt8} {k : Nat} (hk : k < l.length) (hb : bl (l[k]'hk) = false) (h : (l[k]'hk) ≠ 35) :
    scan k true (l.drop k) = (k, (l.drop k).takeWhile (fun c => !bl c)) :: scan (k + 1) false (l.drop (k + 1)) := by
  rw [List.drop_eq_getElem_cons hk, scan_c]
  have h35 : (l[k] == 35) = false := by simpa using h
  rw [hb, h35, List.takeWhile_cons, hb]
  simp

theorem scan_out {l : List UInt8} {k : Nat} {prev : Bool} (hk : l.length ≤ k) : scan k prev (l.drop k) = [] := by
  rw [List.drop_eq_nil_iff.2 hk]
  rfl

/-- A longest row of bytes that are no blanks. -/
theorem word_upto {l : List UInt8} {k j : Nat} (hk : k ≤ j) (hj : j ≤ l.length) (hall : ∀ i (h : i < l.length), k ≤ i → i < j → bl (l[i]'h) = false) (hend : j = l.length ∨ ∃ h : j < l.length, bl (l[j]'h) = true) :
    (l.drop k).takeWhile (fun c => !bl c) = (l.drop k).take (j - k) := by
  induction hd : j - k generalizing k with
  | zero =>
    have : k = j := by omega
    subst this
    rw [List.take_zero]
    rcases hend with h | ⟨h, hb⟩
    · rw [List.drop_eq_nil_iff.2 (by omega)]; rfl
    · rw [List.drop_eq_getElem_cons h, List.takeWhile_cons, hb]; rfl
  | succ d ih =>
    have hkl : k < l.length := by omega
    rw [List.drop_eq_getElem_cons hkl, List.takeWhile_cons, hall k hkl (Nat.le_refl _) (by omega), List.take_succ_cons]
    simp only [Bool.not_false, if_true]
    rw [ih (by omega) (fun i h h1 h2 => hall i h (by omega) h2) (by omega)]

/-- Does a blank, or nothing, stand ahead of the place k? -/
def aheadB (l : List UInt8) (k : Nat) : Bool := if k = 0 then true else bl (l.getD (k - 1) 0)

theorem aheadB_succ {l : List UInt8} {k : Nat} (hk : k < l.length) : aheadB l (k + 1) = bl (l[k]'hk) := by
  unfold aheadB
  rw [if_neg (by omega), Nat.add_sub_cancel, List.getD_eq_getElem?_getD, List.getElem?_eq_getElem hk]
  rfl

theorem spl_head {p : UInt8 → Bool} (l : List UInt8) : (spl p l).headD [] = l.takeWhile (fun c => !p c) := by
  induction l with
  | nil => rfl
  | cons c l ih =>
    unfold spl
    by_cases hc : p c = true
    · simp [hc]
    · simp [hc]
      simpa using ih

theorem scan_sel (l : List UInt8) : ∀ k, scan k true l = sel (tag k (spl bl l)) ∧ scan k false l = sel ((tag k (spl bl l)).tail) := by
  induction l with
  | nil => intro k; exact ⟨rfl, rfl⟩
  | cons c l ih =>
    intro k
    have h1 := ih (k + 1)
    obtain ⟨y, t, e⟩ := spl_cons bl l
    have hh := spl_head (p := bl) l
    rw [e] at h1 hh
    unfold scan spl
    by_cases hc : bl c = true
    · rw [if_pos hc, if_pos hc, if_pos hc, e]
      refine ⟨?_, ?_⟩
      · rw [h1.1]; show _ = sel ((k, []) :: tag (k + 0 + 1) (y :: t)); rw [sel_nil]
      · exact h1.1
    · rw [if_neg hc, if_neg hc, if_neg hc, e]
      simp only [List.headD_cons, List.tail_cons] at hh ⊢
      have ht : (tag k ((c :: y) :: t)).tail = (tag (k + 1) (y :: t)).tail := by
        simp only [tag, List.tail_cons, List.length_cons]
        rw [show k + (y.length + 1) + 1 = k + 1 + y.length + 1 by omega]
      refine ⟨?_, ?_⟩
      · simp only [Bool.not_true, Bool.false_eq_true, if_false]
        by_cases h35 : (c == 35) = true
        · rw [if_pos h35]
          have : c = 35 := by simpa using h35
          subst this
          show _ = sel ((k, 35 :: y) :: _)
          rw [sel_rem _ _ _ rfl]
        · rw [if_neg h35, h1.2, ← ht, ← hh]
          show _ = sel ((k, c :: y) :: tag (k + (y.length + 1) + 1) t)
          rw [sel_word _ _ _ (by simp) (by simpa using h35)]
          rfl
      · rw [ht]
        simpa using h1.2

theorem toks_scan (l : List UInt8) : toks l = scan 0 true l := ((scan_sel l 0).1).symm

theorem spl_len (p : UInt8 → Bool) (l : List UInt8) : 1 ≤ (spl p l).length ∧ (spl p l).length ≤ l.length + 1 := by
  induction l with
  | nil => exact ⟨Nat.le_refl _, Nat.le_refl _⟩
  | cons c l ih =>
    rw [spl_c]
    obtain ⟨y, t, e⟩ := spl_cons p l
    rw [e] at ih
    split
    · rw [e]; simp at ih ⊢; omega
    · rw [e]; simp at ih ⊢; omega

theorem spl_size (p : UInt8 → Bool) (l : List UInt8) : ∀ x ∈ spl p l, x.length ≤ l.length := by
  induction l with
  | nil => intro x hx; simp [spl] at hx; subst hx; exact Nat.le_refl _
  | cons c l ih =>
    intro x hx
    rw [spl_c] at hx
    obtain ⟨y, t, e⟩ := spl_cons p l
    rw [e] at ih hx
    by_cases hc : p c = true
    · rw [if_pos hc] at hx
      rcases List.mem_cons.1 hx with rfl | hx
      · simp
      · have := ih x hx; simp; omega
    · rw [if_neg hc] at hx
      simp only [List.headD_cons, List.tail_cons] at hx
      rcases List.mem_cons.1 hx with rfl | hx
      · have := ih y List.mem_cons_self; simp; omega
      · have := ih x (List.mem_cons_of_mem _ hx); simp; omega

theorem tag_len (l : List (List UInt8)) : ∀ k, (tag k l).length = l.length := by
  induction l with
  | nil => intro k; rfl
  | cons x l ih => intro k; simp [tag, ih]

theorem takeWhile_len {α : Type} (p : α → Bool) (l : List α) : (l.takeWhile p).length ≤ l.length := by
  induction l with
  | nil => exact Nat.le_refl _
  | cons x l ih =>
    rw [List.takeWhile_cons]
    split
    · simp; omega
    · simp

theorem sel_len (l : List (Nat × List UInt8)) : (sel l).length ≤ l.length := by
  unfold sel
  exact Nat.le_trans (takeWhile_len _ _) (List.length_filter_le _ _)

theorem toks_len (l : List UInt8) : (toks l).length ≤ l.length + 1 := by
  unfold toks
  refine Nat.le_trans (sel_len _) ?_
  rw [tag_len]
  exact (spl_len bl l).2

theorem tag_reach (l : List (List UInt8)) : ∀ k, ∀ x ∈ tag k l, x.1 + x.2.length + 1 ≤ reach k l := by
  induction l with
  | nil => intro k x hx; cases hx
  | cons y l ih =>
    intro k x hx
    have hle : ∀ (l : List (List UInt8)) k, k ≤ reach k l := fun l => by
      induction l with
      | nil => intro k; exact Nat.le_refl _
      | cons z l ih => intro k; exact Nat.le_trans (by omega) (ih _)
    unfold tag at hx
    rcases List.mem_cons.1 hx with rfl | hx
    · exact hle l _
    · exact ih _ x hx

theorem sel_mem (l : List (Nat × List UInt8)) : ∀ x ∈ sel l, x ∈ l := fun x hx => by
  unfold sel at hx
  exact (List.mem_filter.1 ((List.takeWhile_sublist _).subset hx)).1

theorem toks_place (l : List UInt8) : ∀ x ∈ toks l, x.1 + x.2.length ≤ l.length := fun x hx => by
  have := tag_reach _ _ x (sel_mem _ x hx)
  rw [reach_spl] at this
  omega

/-- A row: its line's number, its end, its words. -/
structure Rw where
  line : Nat
  fin : Nat
  ws : List (Nat × List UInt8)

def endOf : List (Nat × List UInt8) → Nat
  | [] => 0
  | [x] => x.1 + x.2.length + 1
  | _ :: l => endOf l

theorem endOf_snoc (l : List (Nat × List UInt8)) (x : Nat × List UInt8) : endOf (l ++ [x]) = x.1 + x.2.length + 1 := by
  induction l with
  | nil => rfl
  | cons y l ih =>
    cases l with
    | nil => rfl
    | cons z l => exact ih

theorem endOf_le (l : List UInt8) : endOf (toks l) ≤ l.length + 1 := by
  rcases List.eq_nil_or_concat (toks l) with h | ⟨D, x, h⟩
  · rw [h]; simp [endOf]
  · have hx : x ∈ toks l := by rw [h]; simp
    have := toks_place l x hx
    rw [h, List.concat_eq_append, endOf_snoc]
    omega

def lineRow (n : Nat) (line : List UInt8) : Rw := ⟨n, endOf (toks line), toks line⟩

/-- The rows of lines, the first of which is the line n. -/
def rowsFrom (n : Nat) : List (List UInt8) → List Rw
  | [] => []
  | x :: l => if toks x = [] then rowsFrom (n + 1) l else lineRow n x :: rowsFrom (n + 1) l

theorem rowsFrom_c (n : Nat) (x : List UInt8) (l : List (List UInt8)) : rowsFrom n (x :: l) = if toks x = [] then rowsFrom (n + 1) l else lineRow n x :: rowsFrom (n + 1) l := rfl

def rowsOf (text : List UInt8) : List Rw := rowsFrom 1 (spl nl text)

theorem rowsFrom_append (a b : List (List UInt8)) : ∀ n, rowsFrom n (a ++ b) = rowsFrom n a ++ rowsFrom (n + a.length) b := by
  induction a with
  | nil => intro n; rfl
  | cons x a ih =>
    intro n
    show rowsFrom n (x :: (a ++ b)) = _
    rw [rowsFrom_c, rowsFrom_c, ih, show n + 1 + a.length = n + (x :: a).length by simp; omega]
    split <;> rfl

theorem rowsFrom_snoc (a : List (List UInt8)) (x : List UInt8) (n : Nat) : rowsFrom n (a ++ [x]) = rowsFrom n a ++ if toks x = [] then [] else [lineRow (n + a.length) x] := by
  rw [rowsFrom_append]
  rfl

/-- Decoded runes: what parts a text is a byte of its own, and what is passed over with a rune parts nothing. -/
theorem rune_part (s : ByteArray) (pos : Nat) (h : pos < s.size) (ha : (s[pos]'h).toNat < 128) : Utf8.decode s pos = ((s[pos]'h).toNat, 1) := decode_ascii s pos h ha

theorem decode_tail (s : ByteArray) (pos : Nat) (h : pos < s.size) : pos + (Utf8.decode s pos).2 ≤ s.size ∧ ∀ k (hk : k < s.size), pos < k → k < pos + (Utf8.decode s pos).2 → 128 ≤ (s[k]'hk).toNat := by
  have ge : ∀ k (hk : k < s.size), s.get! k = s[k]'hk := fun k hk => by have := get_at s k hk; simpa using this
  have key : ∀ j, (decide (pos + j < s.size) = true ∧ ((s.get! (pos + j)).toNat / 64 == 2) = true) → pos + j < s.size ∧ ∀ k (hk : k < s.size), k = pos + j → 128 ≤ (s[k]'hk).toNat := fun j hj => by
    simp only [decide_eq_true_eq, beq_iff_eq] at hj
    refine ⟨hj.1, fun k hk e => ?_⟩
    subst e
    rw [← ge _ hk]
    omega
  have one : pos + 1 ≤ s.size ∧ ∀ k (hk : k < s.size), pos < k → k < pos + 1 → 128 ≤ (s[k]'hk).toNat := ⟨by omega, fun k hk h1 h2 => by omega⟩
  unfold Utf8.decode
  dsimp only
  split
  · exact one
  · split
    · rename_i h1
      simp only [Bool.and_eq_true] at h1
      have k1 := key 1 h1.2
      split
      · exact ⟨by omega, fun k hk a b => k1.2 k hk (by omega)⟩
      · exact one
    · split
      · rename_i h1
        simp only [Bool.and_eq_true] at h1
        have k1 := key 1 h1.1.2
        have k2 := key 2 h1.2
        split
        · exact ⟨by omega, fun k hk a b => by
            by_cases e : k = pos + 1
            · exact k1.2 k hk e
            · exact k2.2 k hk (by omega)⟩
        · exact one
      · split
        · rename_i h1
          simp only [Bool.and_eq_true] at h1
          have k1 := key 1 h1.1.1.2
          have k2 := key 2 h1.1.2
          have k3 := key 3 h1.2
          split
          · exact ⟨by omega, fun k hk a b => by
              by_cases e : k = pos + 1
              · exact k1.2 k hk e
              · by_cases e : k = pos + 2
                · exact k2.2 k hk e
                · exact k3.2 k hk (by omega)⟩
          · exact one
        · exact one

end Go.Proofs.Sky
