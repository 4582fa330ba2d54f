/- Rows of texts, of words, and of rows of words. -/
import Derived.Test.YtlhamgcmkodjeaaDoorGrow
import Derived.Test.YtlhamgcmkodjeaaDoorSl
import Derived.Test.YtlhamgcmkodjeaaDoorWrd18
import Derived.Test.YtlhamgcmkodjeaaDoorStr18
namespace Go.Proofs.YtlhamgcmkodjeaaDoor
open Go.RowKit Go.Proofs.Sky
set_option linter.unusedVariables false

theorem bk_at18 {w : World} {b : Nat} {t : TypeId} {cs : List Value} (h : Bk w b t cs.toArray) : ∀ j u, cs[j]? = some u → w.cell? ((⟨b, 0, none⟩ : Addr).add j) = some u := fun j u hj => by
  have e : (⟨b, 0, none⟩ : Addr).add j = ⟨b, j, none⟩ := by
    unfold Addr.add
    split
    · rename_i h0; subst h0; rfl
    · simp
  rw [e]
  exact h.cell (by simpa using hj)

/-- A text, as a value. -/
def sval (l : List UInt8) : Value := .string ⟨l.toArray⟩

/-- A row of texts. -/
def StrRow (w : World) (B : Nat) (v : Value) (D : List (List UInt8)) : Prop := w.ownsRow B 9 1 v D.length (D.map sval)

/-- A word's cells: its text, its line, its place. -/
def tcells (n : Nat) (x : Nat × List UInt8) : List Value := [sval x.2, .int .i64 (n : Int), .int .i64 ((x.1 : Int) + 1)]

theorem tcells_len (n : Nat) (x : Nat × List UInt8) : (tcells n x).length = 3 := rfl

theorem tcells_one (n : Nat) (x : Nat × List UInt8) : ∀ u ∈ tcells n x, u.oneCell' = true := by
  intro u hu
  simp only [tcells, List.mem_cons, List.not_mem_nil, or_false] at hu
  rcases hu with rfl | rfl | rfl <;> rfl

/-- A row of words of the line n. -/
def TokRow (w : World) (B : Nat) (e : TypeId) (v : Value) (n : Nat) (ts : List (Nat × List UInt8)) : Prop := w.ownsRow B e 3 v ts.length (ts.flatMap (tcells n))

theorem tok_snoc (n : Nat) (ts : List (Nat × List UInt8)) (x : Nat × List UInt8) : (ts ++ [x]).flatMap (tcells n) = ts.flatMap (tcells n) ++ tcells n x := by simp

/-- A row of words that a call made, as a slice. -/
theorem TokRow.sll {w : World} {B : Nat} {e : TypeId} {v : Value} {n : Nat} {ts : List (Nat × List UInt8)} (h : TokRow w B e v n ts) (hm : ts.length ≤ maxLen) : Sll w v 3 (tcells n) ts :=
  owns_sll (tcells_len n) (by decide) rfl hm h

/-- A row's cells: its line, its end, its words. -/
def rcells (p : Rw × Value) : List Value := [.int .i64 (p.1.line : Int), .int .i64 (p.1.fin : Int), p.2]

theorem rcells_len (p : Rw × Value) : (rcells p).length = 3 := rfl

/-- A row of rows. -/
def RowRow (w : World) (B : Nat) (e et : TypeId) (v : Value) (L : List (Rw × Value)) : Prop := w.ownsRow B e 3 v L.length (L.flatMap rcells) ∧ ∀ p ∈ L, TokRow w B et p.2 p.1.line p.1.ws

theorem row_snoc (L : List (Rw × Value)) (x : Rw × Value) : (L ++ [x]).flatMap rcells = L.flatMap rcells ++ rcells x := by simp

theorem RowRow.below {w w' : World} {B : Nat} {e et : TypeId} {v : Value} {L : List (Rw × Value)} (h : RowRow w B e et v L) (hb : Below w.heap.size w w') : RowRow w' B e et v L :=
  ⟨owns_below h.1 hb, fun p hp => owns_below (h.2 p hp) hb⟩

/-- A slice of rows, as one reads it. -/
def RowsAt18 (w : World) (v : Value) (rs : List Rw) : Prop := ∃ L : List (Rw × Value), L.map (·.1) = rs ∧ Sll w v 3 rcells L ∧ ∀ p ∈ L, Sll w p.2 3 (tcells p.1.line) p.1.ws

theorem RowsAt18.below {w w' : World} {v : Value} {rs : List Rw} (h : RowsAt18 w v rs) (hb : Below w.heap.size w w') : RowsAt18 w' v rs := by
  obtain ⟨L, e, h1, h2⟩ := h
  exact ⟨L, e, h1.below hb (Nat.le_refl _), fun p hp => (h2 p hp).below hb (Nat.le_refl _)⟩

theorem RowRow.at {w : World} {B : Nat} {e et : TypeId} {v : Value} {L : List (Rw × Value)} (h : RowRow w B e et v L) (hm : L.length ≤ maxLen) (hw : ∀ p ∈ L, p.1.ws.length ≤ maxLen) : RowsAt18 w v (L.map (·.1)) :=
  ⟨L, rfl, owns_sll rcells_len (by decide) rfl hm h.1, fun p hp => (h.2 p hp).sll (hw p hp)⟩

/-- One row more. -/
theorem RowRow.put {w w' : World} {B : Nat} {e et : TypeId} {v v' : Value} {L : List (Rw × Value)} {x : Rw × Value} (h : RowRow w B e et v L) (hown : w'.ownsRow B e 3 v' (L.length + 1) (L.flatMap rcells ++ rcells x)) (hg : w.grownBy w' v.ownBlock)
    (hx : TokRow w B et x.2 x.1.line x.1.ws) (hne : e ≠ et) : RowRow w' B e et v' (L ++ [x]) := by
  have keep : ∀ {u : Value} {n : Nat} {ts : List (Nat × List UInt8)}, TokRow w B et u n ts → TokRow w' B et u n ts := fun {u n ts} ht =>
    owns_grown ht hg (fun j hj => owns_types ht h.1 (fun e' => hne e'.symm) j hj)
  refine ⟨?_, fun p hp => ?_⟩
  · rw [List.length_append, row_snoc]; exact hown
  · rcases List.mem_append.1 hp with hp | hp
    · exact keep (h.2 p hp)
    · obtain rfl := List.mem_singleton.1 hp
      exact keep hx

theorem rcells_one (p : Rw × Value) (a : Option Addr) (n c : Nat) (h : p.2 = .slice a n c) : ∀ u ∈ rcells p, u.oneCell' = true := by
  intro u hu
  simp only [rcells, h, List.mem_cons, List.not_mem_nil, or_false] at hu
  rcases hu with rfl | rfl | rfl <;> rfl

theorem flat_one (D : List (List UInt8)) : D.flatMap (fun x => [sval x]) = D.map sval := by
  induction D with
  | nil => rfl
  | cons x D ih => rw [List.flatMap_cons, List.map_cons, ih]; rfl

/-- A row of texts, as a slice. -/
theorem StrRow.sll {w : World} {B : Nat} {v : Value} {D : List (List UInt8)} (h : StrRow w B v D) (hm : D.length ≤ maxLen) : Sll w v 1 (fun x => [sval x]) D :=
  owns_sll (fun _ => rfl) (by decide) rfl hm (by rw [flat_one]; exact h)

theorem str_info : (Tryd.prog.info? 9).map (fun i => (i.zero, i.size, i.bytes)) = some (some (.string ⟨#[]⟩), 1, 16) := by kernel_rfl

theorem tok_info : (Tryd.prog.info? 45).map (fun i => (i.zero, i.size, i.bytes)) = some (some (.agg #[.string ⟨#[]⟩, .int .i64 0, .int .i64 0]), 3, 32) := by kernel_rfl

theorem rtok_info : (Tryd.prog.info? 57).map (fun i => (i.zero, i.size, i.bytes)) = some (some (.agg #[.string ⟨#[]⟩, .int .i64 0, .int .i64 0]), 3, 32) := by kernel_rfl

theorem row_info : (Tryd.prog.info? 43).map (fun i => (i.zero, i.size, i.bytes)) = some (some (.agg #[.int .i64 0, .int .i64 0, .slice none 0 0]), 3, 40) := by kernel_rfl

theorem rrow_info : (Tryd.prog.info? 56).map (fun i => (i.zero, i.size, i.bytes)) = some (some (.agg #[.int .i64 0, .int .i64 0, .slice none 0 0]), 3, 40) := by kernel_rfl

end Go.Proofs.YtlhamgcmkodjeaaDoor
