/- Blocks of some cells at once: their cells in a class of worlds, in one world, all of them written. Imports nothing of the translation. -/
import Derived.Test.YtneacfhoinaeeaaMc6
import Derived.Test.YtneacfhoinaeeaaMc1


namespace Go.Proofs.Sky
section

open Go.RowKit

set_option linter.unusedVariables false

section

variable {w w' W W0 : World} {B b g : Nat} {t t' : TypeId} {cs ds : Array Value} {o : Obj}

theorem bka (hW : W = w.alloc o) (h : Bk w b t cs) : Bk W b t cs := by subst hW; exact h.alloc o

theorem bkn (hW : W = w.alloc (.cells cs t)) : Bk W w.heap.size t cs := by subst hW; exact Bk.new _ _ _

theorem bwf (h : Bk W g t cs) (i : Nat) : ∀ p : BW W, p.w.frozen? ⟨g, i, none⟩ = false := fun p => (h.below p.h).frozen i

section

variable {a0 v0 : Value}

end

section

variable {a0 a1 v0 v1 : Value}

theorem bwc2 (h : Bk W g t #[a0, a1]) : (∀ p : BW W, p.w.cell? ⟨g, 0, none⟩ = some a0) ∧ (∀ p : BW W, p.w.cell? ⟨g, 1, none⟩ = some a1) := ⟨bw_cell (h.cell rfl), bw_cell (h.cell rfl)⟩

theorem bwf2 (h : Bk W g t cs) : (∀ p : BW W, p.w.frozen? ⟨g, 0, none⟩ = false) ∧ (∀ p : BW W, p.w.frozen? ⟨g, 1, none⟩ = false) := ⟨bwf h 0, bwf h 1⟩

theorem rwc2 (h : Bk W g t #[a0, a1]) : W.cell? ⟨g, 0, none⟩ = some a0 ∧ W.cell? ⟨g, 1, none⟩ = some a1 := ⟨h.cell rfl, h.cell rfl⟩

theorem bkp2 (h : Bk w g t #[a0, a1]) (v0 v1 : Value) : Bk ((w.setCell ⟨g, 0, none⟩ v0).setCell ⟨g, 1, none⟩ v1) g t #[v0, v1] := ((h.set 0 v0).set 1 v1).cast (by simp)

theorem blp2 (h : Below B W0 w) (hB : B ≤ g) : Below B W0 ((w.setCell ⟨g, 0, none⟩ v0).setCell ⟨g, 1, none⟩ v1) := ((h.setCell (p := ⟨g, 0, none⟩) hB v0).setCell (p := ⟨g, 1, none⟩) hB v1)

end

section

variable {a0 a1 a2 v0 v1 v2 : Value}

theorem bwc3 (h : Bk W g t #[a0, a1, a2]) : (∀ p : BW W, p.w.cell? ⟨g, 0, none⟩ = some a0) ∧ (∀ p : BW W, p.w.cell? ⟨g, 1, none⟩ = some a1) ∧ (∀ p : BW W, p.w.cell? ⟨g, 2, none⟩ = some a2) := ⟨bw_cell (h.cell rfl), bw_cell (h.cell rfl), bw_cell (h.cell rfl)⟩

theorem bwf3 (h : Bk W g t cs) : (∀ p : BW W, p.w.frozen? ⟨g, 0, none⟩ = false) ∧ (∀ p : BW W, p.w.frozen? ⟨g, 1, none⟩ = false) ∧ (∀ p : BW W, p.w.frozen? ⟨g, 2, none⟩ = false) := ⟨bwf h 0, bwf h 1, bwf h 2⟩

theorem rwc3 (h : Bk W g t #[a0, a1, a2]) : W.cell? ⟨g, 0, none⟩ = some a0 ∧ W.cell? ⟨g, 1, none⟩ = some a1 ∧ W.cell? ⟨g, 2, none⟩ = some a2 := ⟨h.cell rfl, h.cell rfl, h.cell rfl⟩

theorem bkp3 (h : Bk w g t #[a0, a1, a2]) (v0 v1 v2 : Value) : Bk (((w.setCell ⟨g, 0, none⟩ v0).setCell ⟨g, 1, none⟩ v1).setCell ⟨g, 2, none⟩ v2) g t #[v0, v1, v2] := (((h.set 0 v0).set 1 v1).set 2 v2).cast (by simp)

theorem bko3 (h : Bk w b t cs) (hne : b ≠ g) : Bk (((w.setCell ⟨g, 0, none⟩ v0).setCell ⟨g, 1, none⟩ v1).setCell ⟨g, 2, none⟩ v2) b t cs := (((h.other (a := ⟨g, 0, none⟩) hne v0).other (a := ⟨g, 1, none⟩) hne v1).other (a := ⟨g, 2, none⟩) hne v2)

theorem blp3 (h : Below B W0 w) (hB : B ≤ g) : Below B W0 (((w.setCell ⟨g, 0, none⟩ v0).setCell ⟨g, 1, none⟩ v1).setCell ⟨g, 2, none⟩ v2) := (((h.setCell (p := ⟨g, 0, none⟩) hB v0).setCell (p := ⟨g, 1, none⟩) hB v1).setCell (p := ⟨g, 2, none⟩) hB v2)

theorem bkpe3 (hW : W = (((w.setCell ⟨g, 0, none⟩ v0).setCell ⟨g, 1, none⟩ v1).setCell ⟨g, 2, none⟩ v2)) (h : Bk w g t #[a0, a1, a2]) : Bk W g t #[v0, v1, v2] := by subst hW; exact bkp3 h v0 v1 v2

theorem bkoe3 (hW : W = (((w.setCell ⟨g, 0, none⟩ v0).setCell ⟨g, 1, none⟩ v1).setCell ⟨g, 2, none⟩ v2)) (h : Bk w b t cs) (hne : b ≠ g) : Bk W b t cs := by subst hW; exact bko3 h hne

end

section

variable {a0 a1 a2 a3 v0 v1 v2 v3 : Value}

theorem bwc4 (h : Bk W g t #[a0, a1, a2, a3]) : (∀ p : BW W, p.w.cell? ⟨g, 0, none⟩ = some a0) ∧ (∀ p : BW W, p.w.cell? ⟨g, 1, none⟩ = some a1) ∧ (∀ p : BW W, p.w.cell? ⟨g, 2, none⟩ = some a2) ∧ (∀ p : BW W, p.w.cell? ⟨g, 3, none⟩ = some a3) := ⟨bw_cell (h.cell rfl), bw_cell (h.cell rfl), bw_cell (h.cell rfl), bw_cell (h.cell rfl)⟩

end

section

variable {a0 a1 a2 a3 a4 v0 v1 v2 v3 v4 : Value}

end

section

variable {a0 a1 a2 a3 a4 a5 v0 v1 v2 v3 v4 v5 : Value}

theorem bwc6 (h : Bk W g t #[a0, a1, a2, a3, a4, a5]) : (∀ p : BW W, p.w.cell? ⟨g, 0, none⟩ = some a0) ∧ (∀ p : BW W, p.w.cell? ⟨g, 1, none⟩ = some a1) ∧ (∀ p : BW W, p.w.cell? ⟨g, 2, none⟩ = some a2) ∧ (∀ p : BW W, p.w.cell? ⟨g, 3, none⟩ = some a3) ∧ (∀ p : BW W, p.w.cell? ⟨g, 4, none⟩ = some a4) ∧ (∀ p : BW W, p.w.cell? ⟨g, 5, none⟩ = some a5) := ⟨bw_cell (h.cell rfl), bw_cell (h.cell rfl), bw_cell (h.cell rfl), bw_cell (h.cell rfl), bw_cell (h.cell rfl), bw_cell (h.cell rfl)⟩

end

section

variable {a0 a1 a2 a3 a4 a5 a6 v0 v1 v2 v3 v4 v5 v6 : Value}

end

section

variable {a0 a1 a2 a3 a4 a5 a6 a7 v0 v1 v2 v3 v4 v5 v6 v7 : Value}

end

section

variable {a0 a1 a2 a3 a4 a5 a6 a7 a8 v0 v1 v2 v3 v4 v5 v6 v7 v8 : Value}

end

section

variable {a0 a1 a2 a3 a4 a5 a6 a7 a8 a9 a10 a11 v0 v1 v2 v3 v4 v5 v6 v7 v8 v9 v10 v11 : Value}

theorem bwc12 (h : Bk W g t #[a0, a1, a2, a3, a4, a5, a6, a7, a8, a9, a10, a11]) : (∀ p : BW W, p.w.cell? ⟨g, 0, none⟩ = some a0) ∧ (∀ p : BW W, p.w.cell? ⟨g, 1, none⟩ = some a1) ∧ (∀ p : BW W, p.w.cell? ⟨g, 2, none⟩ = some a2) ∧ (∀ p : BW W, p.w.cell? ⟨g, 3, none⟩ = some a3) ∧ (∀ p : BW W, p.w.cell? ⟨g, 4, none⟩ = some a4) ∧ (∀ p : BW W, p.w.cell? ⟨g, 5, none⟩ = some a5) ∧ (∀ p : BW W, p.w.cell? ⟨g, 6, none⟩ = some a6) ∧ (∀ p : BW W, p.w.cell? ⟨g, 7, none⟩ = some a7) ∧ (∀ p : BW W, p.w.cell? ⟨g, 8, none⟩ = some a8) ∧ (∀ p : BW W, p.w.cell? ⟨g, 9, none⟩ = some a9) ∧ (∀ p : BW W, p.w.cell? ⟨g, 10, none⟩ = some a10) ∧ (∀ p : BW W, p.w.cell? ⟨g, 11, none⟩ = some a11) := ⟨bw_cell (h.cell rfl), bw_cell (h.cell rfl), bw_cell (h.cell rfl), bw_cell (h.cell rfl), bw_cell (h.cell rfl), bw_cell (h.cell rfl), bw_cell (h.cell rfl), bw_cell (h.cell rfl), bw_cell (h.cell rfl), bw_cell (h.cell rfl), bw_cell (h.cell rfl), bw_cell (h.cell rfl)⟩

theorem bwf12 (h : Bk W g t cs) : (∀ p : BW W, p.w.frozen? ⟨g, 0, none⟩ = false) ∧ (∀ p : BW W, p.w.frozen? ⟨g, 1, none⟩ = false) ∧ (∀ p : BW W, p.w.frozen? ⟨g, 2, none⟩ = false) ∧ (∀ p : BW W, p.w.frozen? ⟨g, 3, none⟩ = false) ∧ (∀ p : BW W, p.w.frozen? ⟨g, 4, none⟩ = false) ∧ (∀ p : BW W, p.w.frozen? ⟨g, 5, none⟩ = false) ∧ (∀ p : BW W, p.w.frozen? ⟨g, 6, none⟩ = false) ∧ (∀ p : BW W, p.w.frozen? ⟨g, 7, none⟩ = false) ∧ (∀ p : BW W, p.w.frozen? ⟨g, 8, none⟩ = false) ∧ (∀ p : BW W, p.w.frozen? ⟨g, 9, none⟩ = false) ∧ (∀ p : BW W, p.w.frozen? ⟨g, 10, none⟩ = false) ∧ (∀ p : BW W, p.w.frozen? ⟨g, 11, none⟩ = false) := ⟨bwf h 0, bwf h 1, bwf h 2, bwf h 3, bwf h 4, bwf h 5, bwf h 6, bwf h 7, bwf h 8, bwf h 9, bwf h 10, bwf h 11⟩

theorem rwc12 (h : Bk W g t #[a0, a1, a2, a3, a4, a5, a6, a7, a8, a9, a10, a11]) : W.cell? ⟨g, 0, none⟩ = some a0 ∧ W.cell? ⟨g, 1, none⟩ = some a1 ∧ W.cell? ⟨g, 2, none⟩ = some a2 ∧ W.cell? ⟨g, 3, none⟩ = some a3 ∧ W.cell? ⟨g, 4, none⟩ = some a4 ∧ W.cell? ⟨g, 5, none⟩ = some a5 ∧ W.cell? ⟨g, 6, none⟩ = some a6 ∧ W.cell? ⟨g, 7, none⟩ = some a7 ∧ W.cell? ⟨g, 8, none⟩ = some a8 ∧ W.cell? ⟨g, 9, none⟩ = some a9 ∧ W.cell? ⟨g, 10, none⟩ = some a10 ∧ W.cell? ⟨g, 11, none⟩ = some a11 := ⟨h.cell rfl, h.cell rfl, h.cell rfl, h.cell rfl, h.cell rfl, h.cell rfl, h.cell rfl, h.cell rfl, h.cell rfl, h.cell rfl, h.cell rfl, h.cell rfl⟩

theorem bkp12 (h : Bk w g t #[a0, a1, a2, a3, a4, a5, a6, a7, a8, a9, a10, a11]) (v0 v1 v2 v3 v4 v5 v6 v7 v8 v9 v10 v11 : Value) : Bk ((((((((((((w.setCell ⟨g, 0, none⟩ v0).setCell ⟨g, 1, none⟩ v1).setCell ⟨g, 2, none⟩ v2).setCell ⟨g, 3, none⟩ v3).setCell ⟨g, 4, none⟩ v4).setCell ⟨g, 5, none⟩ v5).setCell ⟨g, 6, none⟩ v6).setCell ⟨g, 7, none⟩ v7).setCell ⟨g, 8, none⟩ v8).setCell ⟨g, 9, none⟩ v9).setCell ⟨g, 10, none⟩ v10).setCell ⟨g, 11, none⟩ v11) g t #[v0, v1, v2, v3, v4, v5, v6, v7, v8, v9, v10, v11] := ((((((((((((h.set 0 v0).set 1 v1).set 2 v2).set 3 v3).set 4 v4).set 5 v5).set 6 v6).set 7 v7).set 8 v8).set 9 v9).set 10 v10).set 11 v11).cast (by simp)

theorem blp12 (h : Below B W0 w) (hB : B ≤ g) : Below B W0 ((((((((((((w.setCell ⟨g, 0, none⟩ v0).setCell ⟨g, 1, none⟩ v1).setCell ⟨g, 2, none⟩ v2).setCell ⟨g, 3, none⟩ v3).setCell ⟨g, 4, none⟩ v4).setCell ⟨g, 5, none⟩ v5).setCell ⟨g, 6, none⟩ v6).setCell ⟨g, 7, none⟩ v7).setCell ⟨g, 8, none⟩ v8).setCell ⟨g, 9, none⟩ v9).setCell ⟨g, 10, none⟩ v10).setCell ⟨g, 11, none⟩ v11) := ((((((((((((h.setCell (p := ⟨g, 0, none⟩) hB v0).setCell (p := ⟨g, 1, none⟩) hB v1).setCell (p := ⟨g, 2, none⟩) hB v2).setCell (p := ⟨g, 3, none⟩) hB v3).setCell (p := ⟨g, 4, none⟩) hB v4).setCell (p := ⟨g, 5, none⟩) hB v5).setCell (p := ⟨g, 6, none⟩) hB v6).setCell (p := ⟨g, 7, none⟩) hB v7).setCell (p := ⟨g, 8, none⟩) hB v8).setCell (p := ⟨g, 9, none⟩) hB v9).setCell (p := ⟨g, 10, none⟩) hB v10).setCell (p := ⟨g, 11, none⟩) hB v11)

end

theorem st1 {c0 : Array Value} {t0 : TypeId} (hW : W = (w.alloc (.cells c0 t0))) : Bk W (w.heap.size) t0 c0 ∧ Below w.heap.size w W := by
  subst hW
  refine ⟨(Bk.new_at _ _ _ _ (by simp)), ?_⟩
  go_grown

theorem st2 {c0 c1 : Array Value} {t0 t1 : TypeId} (hW : W = ((w.alloc (.cells c0 t0)).alloc (.cells c1 t1))) : Bk W (w.heap.size) t0 c0 ∧ Bk W (w.heap.size + 1) t1 c1 ∧ Below w.heap.size w W := by
  subst hW
  refine ⟨((Bk.new_at _ _ _ _ (by simp)).alloc _), (Bk.new_at _ _ _ _ (by simp)), ?_⟩
  go_grown

theorem st3 {c0 c1 c2 : Array Value} {t0 t1 t2 : TypeId} (hW : W = (((w.alloc (.cells c0 t0)).alloc (.cells c1 t1)).alloc (.cells c2 t2))) : Bk W (w.heap.size) t0 c0 ∧ Bk W (w.heap.size + 1) t1 c1 ∧ Bk W (w.heap.size + 1 + 1) t2 c2 ∧ Below w.heap.size w W := by
  subst hW
  refine ⟨(((Bk.new_at _ _ _ _ (by simp)).alloc _).alloc _), ((Bk.new_at _ _ _ _ (by simp)).alloc _), (Bk.new_at _ _ _ _ (by simp)), ?_⟩
  go_grown

theorem st4 {c0 c1 c2 c3 : Array Value} {t0 t1 t2 t3 : TypeId} (hW : W = ((((w.alloc (.cells c0 t0)).alloc (.cells c1 t1)).alloc (.cells c2 t2)).alloc (.cells c3 t3))) : Bk W (w.heap.size) t0 c0 ∧ Bk W (w.heap.size + 1) t1 c1 ∧ Bk W (w.heap.size + 1 + 1) t2 c2 ∧ Bk W (w.heap.size + 1 + 1 + 1) t3 c3 ∧ Below w.heap.size w W := by
  subst hW
  refine ⟨((((Bk.new_at _ _ _ _ (by simp)).alloc _).alloc _).alloc _), (((Bk.new_at _ _ _ _ (by simp)).alloc _).alloc _), ((Bk.new_at _ _ _ _ (by simp)).alloc _), (Bk.new_at _ _ _ _ (by simp)), ?_⟩
  go_grown

end

end
end Go.Proofs.Sky
