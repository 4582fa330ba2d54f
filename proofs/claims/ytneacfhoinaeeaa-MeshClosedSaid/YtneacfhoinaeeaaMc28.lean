/- Rows of corners, of triangles by places, and of things; blocks with great cells. -/
import Derived.Test.YtneacfhoinaeeaaMc27
import Derived.Test.YtneacfhoinaeeaaMc12
import Derived.Test.YtneacfhoinaeeaaMc19
import Derived.Test.YtneacfhoinaeeaaMc23
import Derived.Test.YtneacfhoinaeeaaMc8
import Derived.OwnWalk
import Derived.Deep.WholeRow


namespace Go.Proofs.Ytneacfhoinaeeaa
section

open Go.RowKit Go.Proofs.Sky

set_option linter.unusedVariables false

set_option linter.unusedSimpArgs false

def tcells (t : Tg) : List Value := [.int .i64 (t.1 : Int), .int .i64 (t.2.1 : Int), .int .i64 (t.2.2 : Int)]

/-- Rows that a call made. -/
def VRow (w : World) (B : Nat) (v : Value) (l : List T3) : Prop := w.ownsRow B 23 3 v l.length (l.flatMap vcells)

def TRow (w : World) (B : Nat) (v : Value) (l : List Tg) : Prop := w.ownsRow B 74 3 v l.length (l.flatMap tcells)

def PRow (w : World) (B : Nat) (v : Value) (l : List Pr) : Prop := w.ownsRow B 45 12 v l.length (l.flatMap pcells)

theorem VRow.below {w w' : World} {B : Nat} {v : Value} {l : List T3} (h : VRow w B v l) (hb : Below w.heap.size w w') : VRow w' B v l := owns_below h hb

theorem TRow.below {w w' : World} {B : Nat} {v : Value} {l : List Tg} (h : TRow w B v l) (hb : Below w.heap.size w w') : TRow w' B v l := owns_below h hb

theorem PRow.below {w w' : World} {B : Nat} {v : Value} {l : List Pr} (h : PRow w B v l) (hb : Below w.heap.size w w') : PRow w' B v l := owns_below h hb

theorem vrow_alloc {w W : World} {B : Nat} {v : Value} {l : List T3} {o : Obj} (hW : W = w.alloc o) (h : VRow w B v l) : VRow W B v l := by
  subst hW; exact World.ownsRow.alloc h o

theorem prow_alloc {w W : World} {B : Nat} {v : Value} {l : List Pr} {o : Obj} (hW : W = w.alloc o) (h : PRow w B v l) : PRow W B v l := by
  subst hW; exact World.ownsRow.alloc h o

theorem owns_val19 {w : World} {B : Nat} {e : TypeId} {size n : Nat} {v : Value} {xs : List Value} (h : w.ownsRow B e size v n xs) : ∃ a cap, v = .slice a n cap := owns_slice h

theorem owns_set19 {w : World} {B : Nat} {e t : TypeId} {size n g : Nat} {v : Value} {xs : List Value} {cs : Array Value} (h : w.ownsRow B e size v n xs) (hb : Bk w g t cs) (hne : e ≠ t) (i : Nat) (x : Value) : (w.setCell ⟨g, i, none⟩ x).ownsRow B e size v n xs :=
  Go.Proofs.Sky.owns_set (a := ⟨g, i, none⟩) h (owns_bk h hb hne)

theorem bk_grown19 {w w' : World} {B g : Nat} {e t : TypeId} {size n : Nat} {v : Value} {xs : List Value} {cs : Array Value} (h : w.ownsRow B e size v n xs) (hb : Bk w g t cs) (hne : e ≠ t) (hg : w.grownBy w' v.ownBlock) : Bk w' g t cs :=
  hb.grown hg (fun e1 => owns_bk h hb hne e1.symm)

theorem vec_info19 : (Try.prog.info? 23).map (fun i => (i.zero, i.size, i.bytes)) = some (some (.agg #[.int .i64 0, .int .i64 0, .int .i64 0]), 3, 24) := by kernel_rfl

theorem prim_info19 : (Try.prog.info? 45).map (fun i => (i.zero, i.size, i.bytes)) = some (some (.agg #[.int .i64 0, .int .i64 0, .int .i64 0, .int .i64 0, .int .i64 0, .int .i64 0, .int .i64 0, .int .i64 0, .int .i64 0, .int .i64 0, .int .i64 0, .int .i64 0]), 12, 96) := by kernel_rfl

theorem tri_info19 : (Try.prog.info? 74).map (fun i => (i.zero, i.size, i.bytes)) = some (some (.agg #[.int .i64 0, .int .i64 0, .int .i64 0]), 3, 24) := by kernel_rfl

theorem vcells_one (v : T3) : ∀ u ∈ vcells v, u.oneCell' = true := by
  intro u hu; simp only [vcells, List.mem_cons, List.not_mem_nil, or_false] at hu; rcases hu with rfl | rfl | rfl <;> rfl

theorem tcells_one (t : Tg) : ∀ u ∈ tcells t, u.oneCell' = true := by
  intro u hu; simp only [tcells, List.mem_cons, List.not_mem_nil, or_false] at hu; rcases hu with rfl | rfl | rfl <;> rfl

theorem pcells_one (p : Pr) : ∀ u ∈ pcells p, u.oneCell' = true := by
  intro u hu; simp only [pcells, List.mem_cons, List.not_mem_nil, or_false] at hu; rcases hu with rfl | rfl | rfl | rfl | rfl | rfl | rfl | rfl | rfl | rfl | rfl | rfl <;> rfl

theorem flat_one19 {α : Type} {f : α → List Value} (h : ∀ x, ∀ u ∈ f x, u.oneCell' = true) (l : List α) : ∀ u ∈ l.flatMap f, u.oneCell' = true := by
  intro u hu
  obtain ⟨x, _, hx⟩ := List.mem_flatMap.1 hu
  exact h x u hx

theorem cells_at19 {w : World} {g : Nat} {t : TypeId} {cs : List Value} (h : Bk w g t cs.toArray) : ∀ j u, cs[j]? = some u → w.cell? ((⟨g, 0, none⟩ : Addr).add j) = some u := fun j u hj => by
  have hadd : (⟨g, 0, none⟩ : Addr).add j = ⟨g, j, none⟩ := by unfold Addr.add; split <;> simp_all
  rw [hadd]
  refine h.cell ?_
  rw [List.getElem?_toArray]
  exact hj

/-- A great block's first store, its cells by name. -/
theorem store_block19 {P : Program} {a : Act} {w : World} {next : Act → World → Prop} {Q : Exit → Act → World → Prop} {ty t : TypeId} {ps : String} {af : Array Edge} {gd : Option (Nat × Bool)} {p v : Operand} {c c' : Array Value}
    (hp : a.eval p = .pointer (some ⟨w.heap.size, 0, none⟩)) (hv : a.eval v = .agg c') (hi : (P.info? t).map (·.size) = some c'.size) (ho : c.size = c'.size) (h1 : c'.all (·.oneCell') = true) (hK : next a (w.alloc (.cells c' t))) :
    Oper.wp P { dst := none, op := .store t p v, type := ty, pos := ps, after := af, guard := gd } a (w.alloc (.cells c t)) next Q := by
  unfold Oper.wp
  have e : (execOp a.eval { dst := none, op := .store t p v, type := ty, pos := ps, after := af, guard := gd }).run P (w.alloc (.cells c t)) = .ok .skip (w.alloc (.cells c' t)) := by
    simp only [execOp, hp, hv, Sem.run_bind, run_storeAt_new w t c c' hi ho h1, Sem.run_pure, Result.andThen]
  rw [e]
  exact hK

theorem vrow_nil (w : World) (B : Nat) : VRow w B (.slice none 0 0) [] := World.ownsRow_nil _ _ _ _

theorem trow_nil (w : World) (B : Nat) : TRow w B (.slice none 0 0) [] := World.ownsRow_nil _ _ _ _

theorem prow_nil (w : World) (B : Nat) : PRow w B (.slice none 0 0) [] := World.ownsRow_nil _ _ _ _

end
end Go.Proofs.Ytneacfhoinaeeaa
