/- Blocks of some cells at once: their cells in a class of worlds, in one -/
import Derived.Test.YtbmpmjdlaahekaaGreatWs3
set_option maxRecDepth 100000
set_option maxHeartbeats 8000000
set_option linter.unusedVariables false
set_option linter.unusedSimpArgs false
namespace Go.Proofs.Sky
section
open Go.RowKit
section
variable {w w' W W0 : World} {B b g : Nat} {t t' : TypeId} {cs ds : Array Value} {o : Obj}
theorem bka (hW : W = w.alloc o) (h : Bk w b t cs) : Bk W b t cs := by subst hW; exact h.alloc o
theorem bkn (hW : W = w.alloc (.cells cs t)) : Bk W w.heap.size t cs := by subst hW; exact Bk.new _ _ _
theorem bwf (h : Bk W g t cs) (i : Nat) : ∀ p : BW W, p.w.frozen? ⟨g, i, none⟩ = false := fun p => (h.below p.h).frozen i
section
variable {a0 v0 : Value}
theorem bwc1 (h : Bk W g t #[a0]) : (∀ p : BW W, p.w.cell? ⟨g, 0, none⟩ = some a0) := z01 (h.cell rfl)
theorem bwf1 (h : Bk W g t cs) : (∀ p : BW W, p.w.frozen? ⟨g, 0, none⟩ = false) := bwf h 0
theorem rwc1 (h : Bk W g t #[a0]) : W.cell? ⟨g, 0, none⟩ = some a0 := h.cell rfl
theorem bkp1 (h : Bk w g t #[a0]) (v0 : Value) : Bk (w.setCell ⟨g, 0, none⟩ v0) g t #[v0] := (h.set 0 v0).cast (by simp)
theorem bko1 (h : Bk w b t cs) (hne : b ≠ g) : Bk (w.setCell ⟨g, 0, none⟩ v0) b t cs := (h.other (a := ⟨g, 0, none⟩) hne v0)
theorem blp1 (h : Below B W0 w) (hB : B ≤ g) : Below B W0 (w.setCell ⟨g, 0, none⟩ v0) := (h.setCell (p := ⟨g, 0, none⟩) hB v0)
end
section
variable {a0 a1 v0 v1 : Value}
theorem bwc2 (h : Bk W g t #[a0, a1]) : (∀ p : BW W, p.w.cell? ⟨g, 0, none⟩ = some a0) ∧ (∀ p : BW W, p.w.cell? ⟨g, 1, none⟩ = some a1) := ⟨z01 (h.cell rfl), z01 (h.cell rfl)⟩
theorem bwf2 (h : Bk W g t cs) : (∀ p : BW W, p.w.frozen? ⟨g, 0, none⟩ = false) ∧ (∀ p : BW W, p.w.frozen? ⟨g, 1, none⟩ = false) := ⟨bwf h 0, bwf h 1⟩
theorem rwc2 (h : Bk W g t #[a0, a1]) : W.cell? ⟨g, 0, none⟩ = some a0 ∧ W.cell? ⟨g, 1, none⟩ = some a1 := ⟨h.cell rfl, h.cell rfl⟩
theorem bkp2 (h : Bk w g t #[a0, a1]) (v0 v1 : Value) : Bk ((w.setCell ⟨g, 0, none⟩ v0).setCell ⟨g, 1, none⟩ v1) g t #[v0, v1] := ((h.set 0 v0).set 1 v1).cast (by simp)
theorem bko2 (h : Bk w b t cs) (hne : b ≠ g) : Bk ((w.setCell ⟨g, 0, none⟩ v0).setCell ⟨g, 1, none⟩ v1) b t cs := ((h.other (a := ⟨g, 0, none⟩) hne v0).other (a := ⟨g, 1, none⟩) hne v1)
theorem blp2 (h : Below B W0 w) (hB : B ≤ g) : Below B W0 ((w.setCell ⟨g, 0, none⟩ v0).setCell ⟨g, 1, none⟩ v1) := ((h.setCell (p := ⟨g, 0, none⟩) hB v0).setCell (p := ⟨g, 1, none⟩) hB v1)
theorem bkpe2 (hW : W = ((w.setCell ⟨g, 0, none⟩ v0).setCell ⟨g, 1, none⟩ v1)) (h : Bk w g t #[a0, a1]) : Bk W g t #[v0, v1] := by subst hW; exact bkp2 h v0 v1
theorem bkoe2 (hW : W = ((w.setCell ⟨g, 0, none⟩ v0).setCell ⟨g, 1, none⟩ v1)) (h : Bk w b t cs) (hne : b ≠ g) : Bk W b t cs := by subst hW; exact bko2 h hne
end
section
variable {a0 a1 a2 v0 v1 v2 : Value}
theorem bwc3 (h : Bk W g t #[a0, a1, a2]) : (∀ p : BW W, p.w.cell? ⟨g, 0, none⟩ = some a0) ∧ (∀ p : BW W, p.w.cell? ⟨g, 1, none⟩ = some a1) ∧ (∀ p : BW W, p.w.cell? ⟨g, 2, none⟩ = some a2) := ⟨z01 (h.cell rfl), z01 (h.cell rfl), z01 (h.cell rfl)⟩
theorem bwf3 (h : Bk W g t cs) : (∀ p : BW W, p.w.frozen? ⟨g, 0, none⟩ = false) ∧ (∀ p : BW W, p.w.frozen? ⟨g, 1, none⟩ = false) ∧ (∀ p : BW W, p.w.frozen? ⟨g, 2, none⟩ = false) := ⟨bwf h 0, bwf h 1, bwf h 2⟩
theorem rwc3 (h : Bk W g t #[a0, a1, a2]) : W.cell? ⟨g, 0, none⟩ = some a0 ∧ W.cell? ⟨g, 1, none⟩ = some a1 ∧ W.cell? ⟨g, 2, none⟩ = some a2 := ⟨h.cell rfl, h.cell rfl, h.cell rfl⟩
theorem bkp3 (h : Bk w g t #[a0, a1, a2]) (v0 v1 v2 : Value) : Bk (((w.setCell ⟨g, 0, none⟩ v0).setCell ⟨g, 1, none⟩ v1).setCell ⟨g, 2, none⟩ v2) g t #[v0, v1, v2] := (((h.set 0 v0).set 1 v1).set 2 v2).cast (by simp)
theorem bko3 (h : Bk w b t cs) (hne : b ≠ g) : Bk (((w.setCell ⟨g, 0, none⟩ v0).setCell ⟨g, 1, none⟩ v1).setCell ⟨g, 2, none⟩ v2) b t cs := (((h.other (a := ⟨g, 0, none⟩) hne v0).other (a := ⟨g, 1, none⟩) hne v1).other (a := ⟨g, 2, none⟩) hne v2)
theorem blp3 (h : Below B W0 w) (hB : B ≤ g) : Below B W0 (((w.setCell ⟨g, 0, none⟩ v0).setCell ⟨g, 1, none⟩ v1).setCell ⟨g, 2, none⟩ v2) := (((h.setCell (p := ⟨g, 0, none⟩) hB v0).setCell (p := ⟨g, 1, none⟩) hB v1).setCell (p := ⟨g, 2, none⟩) hB v2)
theorem bkpe3 (hW : W = (((w.setCell ⟨g, 0, none⟩ v0).setCell ⟨g, 1, none⟩ v1).setCell ⟨g, 2, none⟩ v2)) (h : Bk w g t #[a0, a1, a2]) : Bk W g t #[v0, v1, v2] := by subst hW; exact bkp3 h v0 v1 v2
theorem bkoe3 (hW : W = (((w.setCell ⟨g, 0, none⟩ v0).setCell ⟨g, 1, none⟩ v1).setCell ⟨g, 2, none⟩ v2)) (h : Bk w b t cs) (hne : b ≠ g) : Bk W b t cs := by subst hW; exact bko3 h hne
end
section
variable {a0 a1 a2 a3 v0 v1 v2 v3 : Value}
theorem bwc4 (h : Bk W g t #[a0, a1, a2, a3]) : (∀ p : BW W, p.w.cell? ⟨g, 0, none⟩ = some a0) ∧ (∀ p : BW W, p.w.cell? ⟨g, 1, none⟩ = some a1) ∧ (∀ p : BW W, p.w.cell? ⟨g, 2, none⟩ = some a2) ∧ (∀ p : BW W, p.w.cell? ⟨g, 3, none⟩ = some a3) := ⟨z01 (h.cell rfl), z01 (h.cell rfl), z01 (h.cell rfl), z01 (h.cell rfl)⟩
theorem bwf4 (h : Bk W g t cs) : (∀ p : BW W, p.w.frozen? ⟨g, 0, none⟩ = false) ∧ (∀ p : BW W, p.w.frozen? ⟨g, 1, none⟩ = false) ∧ (∀ p : BW W, p.w.frozen? ⟨g, 2, none⟩ = false) ∧ (∀ p : BW W, p.w.frozen? ⟨g, 3, none⟩ = false) := ⟨bwf h 0, bwf h 1, bwf h 2, bwf h 3⟩
theorem rwc4 (h : Bk W g t #[a0, a1, a2, a3]) : W.cell? ⟨g, 0, none⟩ = some a0 ∧ W.cell? ⟨g, 1, none⟩ = some a1 ∧ W.cell? ⟨g, 2, none⟩ = some a2 ∧ W.cell? ⟨g, 3, none⟩ = some a3 := ⟨h.cell rfl, h.cell rfl, h.cell rfl, h.cell rfl⟩
theorem bkp4 (h : Bk w g t #[a0, a1, a2, a3]) (v0 v1 v2 v3 : Value) : Bk ((((w.setCell ⟨g, 0, none⟩ v0).setCell ⟨g, 1, none⟩ v1).setCell ⟨g, 2, none⟩ v2).setCell ⟨g, 3, none⟩ v3) g t #[v0, v1, v2, v3] := ((((h.set 0 v0).set 1 v1).set 2 v2).set 3 v3).cast (by simp)
theorem bko4 (h : Bk w b t cs) (hne : b ≠ g) : Bk ((((w.setCell ⟨g, 0, none⟩ v0).setCell ⟨g, 1, none⟩ v1).setCell ⟨g, 2, none⟩ v2).setCell ⟨g, 3, none⟩ v3) b t cs := ((((h.other (a := ⟨g, 0, none⟩) hne v0).other (a := ⟨g, 1, none⟩) hne v1).other (a := ⟨g, 2, none⟩) hne v2).other (a := ⟨g, 3, none⟩) hne v3)
theorem blp4 (h : Below B W0 w) (hB : B ≤ g) : Below B W0 ((((w.setCell ⟨g, 0, none⟩ v0).setCell ⟨g, 1, none⟩ v1).setCell ⟨g, 2, none⟩ v2).setCell ⟨g, 3, none⟩ v3) := ((((h.setCell (p := ⟨g, 0, none⟩) hB v0).setCell (p := ⟨g, 1, none⟩) hB v1).setCell (p := ⟨g, 2, none⟩) hB v2).setCell (p := ⟨g, 3, none⟩) hB v3)
theorem bkpe4 (hW : W = ((((w.setCell ⟨g, 0, none⟩ v0).setCell ⟨g, 1, none⟩ v1).setCell ⟨g, 2, none⟩ v2).setCell ⟨g, 3, none⟩ v3)) (h : Bk w g t #[a0, a1, a2, a3]) : Bk W g t #[v0, v1, v2, v3] := by subst hW; exact bkp4 h v0 v1 v2 v3
theorem bkoe4 (hW : W = ((((w.setCell ⟨g, 0, none⟩ v0).setCell ⟨g, 1, none⟩ v1).setCell ⟨g, 2, none⟩ v2).setCell ⟨g, 3, none⟩ v3)) (h : Bk w b t cs) (hne : b ≠ g) : Bk W b t cs := by subst hW; exact bko4 h hne
theorem blpe4 (hW : W = ((((w.setCell ⟨g, 0, none⟩ v0).setCell ⟨g, 1, none⟩ v1).setCell ⟨g, 2, none⟩ v2).setCell ⟨g, 3, none⟩ v3)) (h : Below B W0 w) (hB : B ≤ g) : Below B W0 W := by subst hW; exact blp4 h hB
end
section
variable {a0 a1 a2 a3 a4 v0 v1 v2 v3 v4 : Value}
end
section
variable {a0 a1 a2 a3 a4 a5 v0 v1 v2 v3 v4 v5 : Value}
theorem bwc6 (h : Bk W g t #[a0, a1, a2, a3, a4, a5]) : (∀ p : BW W, p.w.cell? ⟨g, 0, none⟩ = some a0) ∧ (∀ p : BW W, p.w.cell? ⟨g, 1, none⟩ = some a1) ∧ (∀ p : BW W, p.w.cell? ⟨g, 2, none⟩ = some a2) ∧ (∀ p : BW W, p.w.cell? ⟨g, 3, none⟩ = some a3) ∧ (∀ p : BW W, p.w.cell? ⟨g, 4, none⟩ = some a4) ∧ (∀ p : BW W, p.w.cell? ⟨g, 5, none⟩ = some a5) := ⟨z01 (h.cell rfl), z01 (h.cell rfl), z01 (h.cell rfl), z01 (h.cell rfl), z01 (h.cell rfl), z01 (h.cell rfl)⟩
theorem bwf6 (h : Bk W g t cs) : (∀ p : BW W, p.w.frozen? ⟨g, 0, none⟩ = false) ∧ (∀ p : BW W, p.w.frozen? ⟨g, 1, none⟩ = false) ∧ (∀ p : BW W, p.w.frozen? ⟨g, 2, none⟩ = false) ∧ (∀ p : BW W, p.w.frozen? ⟨g, 3, none⟩ = false) ∧ (∀ p : BW W, p.w.frozen? ⟨g, 4, none⟩ = false) ∧ (∀ p : BW W, p.w.frozen? ⟨g, 5, none⟩ = false) := ⟨bwf h 0, bwf h 1, bwf h 2, bwf h 3, bwf h 4, bwf h 5⟩
theorem rwc6 (h : Bk W g t #[a0, a1, a2, a3, a4, a5]) : W.cell? ⟨g, 0, none⟩ = some a0 ∧ W.cell? ⟨g, 1, none⟩ = some a1 ∧ W.cell? ⟨g, 2, none⟩ = some a2 ∧ W.cell? ⟨g, 3, none⟩ = some a3 ∧ W.cell? ⟨g, 4, none⟩ = some a4 ∧ W.cell? ⟨g, 5, none⟩ = some a5 := ⟨h.cell rfl, h.cell rfl, h.cell rfl, h.cell rfl, h.cell rfl, h.cell rfl⟩
theorem bkp6 (h : Bk w g t #[a0, a1, a2, a3, a4, a5]) (v0 v1 v2 v3 v4 v5 : Value) : Bk ((((((w.setCell ⟨g, 0, none⟩ v0).setCell ⟨g, 1, none⟩ v1).setCell ⟨g, 2, none⟩ v2).setCell ⟨g, 3, none⟩ v3).setCell ⟨g, 4, none⟩ v4).setCell ⟨g, 5, none⟩ v5) g t #[v0, v1, v2, v3, v4, v5] := ((((((h.set 0 v0).set 1 v1).set 2 v2).set 3 v3).set 4 v4).set 5 v5).cast (by simp)
theorem bko6 (h : Bk w b t cs) (hne : b ≠ g) : Bk ((((((w.setCell ⟨g, 0, none⟩ v0).setCell ⟨g, 1, none⟩ v1).setCell ⟨g, 2, none⟩ v2).setCell ⟨g, 3, none⟩ v3).setCell ⟨g, 4, none⟩ v4).setCell ⟨g, 5, none⟩ v5) b t cs := ((((((h.other (a := ⟨g, 0, none⟩) hne v0).other (a := ⟨g, 1, none⟩) hne v1).other (a := ⟨g, 2, none⟩) hne v2).other (a := ⟨g, 3, none⟩) hne v3).other (a := ⟨g, 4, none⟩) hne v4).other (a := ⟨g, 5, none⟩) hne v5)
theorem blp6 (h : Below B W0 w) (hB : B ≤ g) : Below B W0 ((((((w.setCell ⟨g, 0, none⟩ v0).setCell ⟨g, 1, none⟩ v1).setCell ⟨g, 2, none⟩ v2).setCell ⟨g, 3, none⟩ v3).setCell ⟨g, 4, none⟩ v4).setCell ⟨g, 5, none⟩ v5) := ((((((h.setCell (p := ⟨g, 0, none⟩) hB v0).setCell (p := ⟨g, 1, none⟩) hB v1).setCell (p := ⟨g, 2, none⟩) hB v2).setCell (p := ⟨g, 3, none⟩) hB v3).setCell (p := ⟨g, 4, none⟩) hB v4).setCell (p := ⟨g, 5, none⟩) hB v5)
theorem bkpe6 (hW : W = ((((((w.setCell ⟨g, 0, none⟩ v0).setCell ⟨g, 1, none⟩ v1).setCell ⟨g, 2, none⟩ v2).setCell ⟨g, 3, none⟩ v3).setCell ⟨g, 4, none⟩ v4).setCell ⟨g, 5, none⟩ v5)) (h : Bk w g t #[a0, a1, a2, a3, a4, a5]) : Bk W g t #[v0, v1, v2, v3, v4, v5] := by subst hW; exact bkp6 h v0 v1 v2 v3 v4 v5
theorem bkoe6 (hW : W = ((((((w.setCell ⟨g, 0, none⟩ v0).setCell ⟨g, 1, none⟩ v1).setCell ⟨g, 2, none⟩ v2).setCell ⟨g, 3, none⟩ v3).setCell ⟨g, 4, none⟩ v4).setCell ⟨g, 5, none⟩ v5)) (h : Bk w b t cs) (hne : b ≠ g) : Bk W b t cs := by subst hW; exact bko6 h hne
end
section
variable {a0 a1 a2 a3 a4 a5 a6 v0 v1 v2 v3 v4 v5 v6 : Value}
theorem bwc7 (h : Bk W g t #[a0, a1, a2, a3, a4, a5, a6]) : (∀ p : BW W, p.w.cell? ⟨g, 0, none⟩ = some a0) ∧ (∀ p : BW W, p.w.cell? ⟨g, 1, none⟩ = some a1) ∧ (∀ p : BW W, p.w.cell? ⟨g, 2, none⟩ = some a2) ∧ (∀ p : BW W, p.w.cell? ⟨g, 3, none⟩ = some a3) ∧ (∀ p : BW W, p.w.cell? ⟨g, 4, none⟩ = some a4) ∧ (∀ p : BW W, p.w.cell? ⟨g, 5, none⟩ = some a5) ∧ (∀ p : BW W, p.w.cell? ⟨g, 6, none⟩ = some a6) := ⟨z01 (h.cell rfl), z01 (h.cell rfl), z01 (h.cell rfl), z01 (h.cell rfl), z01 (h.cell rfl), z01 (h.cell rfl), z01 (h.cell rfl)⟩
theorem bwf7 (h : Bk W g t cs) : (∀ p : BW W, p.w.frozen? ⟨g, 0, none⟩ = false) ∧ (∀ p : BW W, p.w.frozen? ⟨g, 1, none⟩ = false) ∧ (∀ p : BW W, p.w.frozen? ⟨g, 2, none⟩ = false) ∧ (∀ p : BW W, p.w.frozen? ⟨g, 3, none⟩ = false) ∧ (∀ p : BW W, p.w.frozen? ⟨g, 4, none⟩ = false) ∧ (∀ p : BW W, p.w.frozen? ⟨g, 5, none⟩ = false) ∧ (∀ p : BW W, p.w.frozen? ⟨g, 6, none⟩ = false) := ⟨bwf h 0, bwf h 1, bwf h 2, bwf h 3, bwf h 4, bwf h 5, bwf h 6⟩
theorem bkp7 (h : Bk w g t #[a0, a1, a2, a3, a4, a5, a6]) (v0 v1 v2 v3 v4 v5 v6 : Value) : Bk (((((((w.setCell ⟨g, 0, none⟩ v0).setCell ⟨g, 1, none⟩ v1).setCell ⟨g, 2, none⟩ v2).setCell ⟨g, 3, none⟩ v3).setCell ⟨g, 4, none⟩ v4).setCell ⟨g, 5, none⟩ v5).setCell ⟨g, 6, none⟩ v6) g t #[v0, v1, v2, v3, v4, v5, v6] := (((((((h.set 0 v0).set 1 v1).set 2 v2).set 3 v3).set 4 v4).set 5 v5).set 6 v6).cast (by simp)
theorem bko7 (h : Bk w b t cs) (hne : b ≠ g) : Bk (((((((w.setCell ⟨g, 0, none⟩ v0).setCell ⟨g, 1, none⟩ v1).setCell ⟨g, 2, none⟩ v2).setCell ⟨g, 3, none⟩ v3).setCell ⟨g, 4, none⟩ v4).setCell ⟨g, 5, none⟩ v5).setCell ⟨g, 6, none⟩ v6) b t cs := (((((((h.other (a := ⟨g, 0, none⟩) hne v0).other (a := ⟨g, 1, none⟩) hne v1).other (a := ⟨g, 2, none⟩) hne v2).other (a := ⟨g, 3, none⟩) hne v3).other (a := ⟨g, 4, none⟩) hne v4).other (a := ⟨g, 5, none⟩) hne v5).other (a := ⟨g, 6, none⟩) hne v6)
theorem blp7 (h : Below B W0 w) (hB : B ≤ g) : Below B W0 (((((((w.setCell ⟨g, 0, none⟩ v0).setCell ⟨g, 1, none⟩ v1).setCell ⟨g, 2, none⟩ v2).setCell ⟨g, 3, none⟩ v3).setCell ⟨g, 4, none⟩ v4).setCell ⟨g, 5, none⟩ v5).setCell ⟨g, 6, none⟩ v6) := (((((((h.setCell (p := ⟨g, 0, none⟩) hB v0).setCell (p := ⟨g, 1, none⟩) hB v1).setCell (p := ⟨g, 2, none⟩) hB v2).setCell (p := ⟨g, 3, none⟩) hB v3).setCell (p := ⟨g, 4, none⟩) hB v4).setCell (p := ⟨g, 5, none⟩) hB v5).setCell (p := ⟨g, 6, none⟩) hB v6)
theorem bkpe7 (hW : W = (((((((w.setCell ⟨g, 0, none⟩ v0).setCell ⟨g, 1, none⟩ v1).setCell ⟨g, 2, none⟩ v2).setCell ⟨g, 3, none⟩ v3).setCell ⟨g, 4, none⟩ v4).setCell ⟨g, 5, none⟩ v5).setCell ⟨g, 6, none⟩ v6)) (h : Bk w g t #[a0, a1, a2, a3, a4, a5, a6]) : Bk W g t #[v0, v1, v2, v3, v4, v5, v6] := by subst hW; exact bkp7 h v0 v1 v2 v3 v4 v5 v6
theorem bkoe7 (hW : W = (((((((w.setCell ⟨g, 0, none⟩ v0).setCell ⟨g, 1, none⟩ v1).setCell ⟨g, 2, none⟩ v2).setCell ⟨g, 3, none⟩ v3).setCell ⟨g, 4, none⟩ v4).setCell ⟨g, 5, none⟩ v5).setCell ⟨g, 6, none⟩ v6)) (h : Bk w b t cs) (hne : b ≠ g) : Bk W b t cs := by subst hW; exact bko7 h hne
end
section
variable {a0 a1 a2 a3 a4 a5 a6 a7 v0 v1 v2 v3 v4 v5 v6 v7 : Value}
end
section
variable {a0 a1 a2 a3 a4 a5 a6 a7 a8 v0 v1 v2 v3 v4 v5 v6 v7 v8 : Value}
theorem bwc9 (h : Bk W g t #[a0, a1, a2, a3, a4, a5, a6, a7, a8]) : (∀ p : BW W, p.w.cell? ⟨g, 0, none⟩ = some a0) ∧ (∀ p : BW W, p.w.cell? ⟨g, 1, none⟩ = some a1) ∧ (∀ p : BW W, p.w.cell? ⟨g, 2, none⟩ = some a2) ∧ (∀ p : BW W, p.w.cell? ⟨g, 3, none⟩ = some a3) ∧ (∀ p : BW W, p.w.cell? ⟨g, 4, none⟩ = some a4) ∧ (∀ p : BW W, p.w.cell? ⟨g, 5, none⟩ = some a5) ∧ (∀ p : BW W, p.w.cell? ⟨g, 6, none⟩ = some a6) ∧ (∀ p : BW W, p.w.cell? ⟨g, 7, none⟩ = some a7) ∧ (∀ p : BW W, p.w.cell? ⟨g, 8, none⟩ = some a8) := ⟨z01 (h.cell rfl), z01 (h.cell rfl), z01 (h.cell rfl), z01 (h.cell rfl), z01 (h.cell rfl), z01 (h.cell rfl), z01 (h.cell rfl), z01 (h.cell rfl), z01 (h.cell rfl)⟩
end
section
variable {a0 a1 a2 a3 a4 a5 a6 a7 a8 a9 a10 a11 v0 v1 v2 v3 v4 v5 v6 v7 v8 v9 v10 v11 : Value}
theorem bwc12 (h : Bk W g t #[a0, a1, a2, a3, a4, a5, a6, a7, a8, a9, a10, a11]) : (∀ p : BW W, p.w.cell? ⟨g, 0, none⟩ = some a0) ∧ (∀ p : BW W, p.w.cell? ⟨g, 1, none⟩ = some a1) ∧ (∀ p : BW W, p.w.cell? ⟨g, 2, none⟩ = some a2) ∧ (∀ p : BW W, p.w.cell? ⟨g, 3, none⟩ = some a3) ∧ (∀ p : BW W, p.w.cell? ⟨g, 4, none⟩ = some a4) ∧ (∀ p : BW W, p.w.cell? ⟨g, 5, none⟩ = some a5) ∧ (∀ p : BW W, p.w.cell? ⟨g, 6, none⟩ = some a6) ∧ (∀ p : BW W, p.w.cell? ⟨g, 7, none⟩ = some a7) ∧ (∀ p : BW W, p.w.cell? ⟨g, 8, none⟩ = some a8) ∧ (∀ p : BW W, p.w.cell? ⟨g, 9, none⟩ = some a9) ∧ (∀ p : BW W, p.w.cell? ⟨g, 10, none⟩ = some a10) ∧ (∀ p : BW W, p.w.cell? ⟨g, 11, none⟩ = some a11) := ⟨z01 (h.cell rfl), z01 (h.cell rfl), z01 (h.cell rfl), z01 (h.cell rfl), z01 (h.cell rfl), z01 (h.cell rfl), z01 (h.cell rfl), z01 (h.cell rfl), z01 (h.cell rfl), z01 (h.cell rfl), z01 (h.cell rfl), z01 (h.cell rfl)⟩
end
theorem st1 {c0 : Array Value} {t0 : TypeId} (hW : W = (w.alloc (.cells c0 t0))) : Bk W (w.heap.size) t0 c0 ∧ Below w.heap.size w W := by
 subst hW
 refine ⟨(Bk.new_at _ _ _ _ (by simp)), ?_⟩
 go_grown
theorem wst1 {P : Program} {c : Code} {Q : Exit → Act → World → Prop} {a : Act} {c0 : Array Value} {t0 : TypeId} (h : ∀ W, Bk W (w.heap.size) t0 c0 → Below w.heap.size w W → c.wp P Q a W) : c.wp P Q a (w.alloc (.cells c0 t0)) := by
  obtain ⟨k0, B⟩ := st1 (w := w) (W := (w.alloc (.cells c0 t0))) rfl
  exact h _ k0 B
theorem st2 {c0 c1 : Array Value} {t0 t1 : TypeId} (hW : W = ((w.alloc (.cells c0 t0)).alloc (.cells c1 t1))) : Bk W (w.heap.size) t0 c0 ∧ Bk W (w.heap.size + 1) t1 c1 ∧ Below w.heap.size w W := by
 subst hW
 refine ⟨((Bk.new_at _ _ _ _ (by simp)).alloc _), (Bk.new_at _ _ _ _ (by simp)), ?_⟩
 go_grown
theorem wst2 {P : Program} {c : Code} {Q : Exit → Act → World → Prop} {a : Act} {c0 c1 : Array Value} {t0 t1 : TypeId} (h : ∀ W, Bk W (w.heap.size) t0 c0 → Bk W (w.heap.size + 1) t1 c1 → Below w.heap.size w W → c.wp P Q a W) : c.wp P Q a ((w.alloc (.cells c0 t0)).alloc (.cells c1 t1)) := by
  obtain ⟨k0, k1, B⟩ := st2 (w := w) (W := ((w.alloc (.cells c0 t0)).alloc (.cells c1 t1))) rfl
  exact h _ k0 k1 B
theorem st3 {c0 c1 c2 : Array Value} {t0 t1 t2 : TypeId} (hW : W = (((w.alloc (.cells c0 t0)).alloc (.cells c1 t1)).alloc (.cells c2 t2))) : Bk W (w.heap.size) t0 c0 ∧ Bk W (w.heap.size + 1) t1 c1 ∧ Bk W (w.heap.size + 1 + 1) t2 c2 ∧ Below w.heap.size w W := by
 subst hW
 refine ⟨(((Bk.new_at _ _ _ _ (by simp)).alloc _).alloc _), ((Bk.new_at _ _ _ _ (by simp)).alloc _), (Bk.new_at _ _ _ _ (by simp)), ?_⟩
 go_grown
theorem wst3 {P : Program} {c : Code} {Q : Exit → Act → World → Prop} {a : Act} {c0 c1 c2 : Array Value} {t0 t1 t2 : TypeId} (h : ∀ W, Bk W (w.heap.size) t0 c0 → Bk W (w.heap.size + 1) t1 c1 → Bk W (w.heap.size + 1 + 1) t2 c2 → Below w.heap.size w W → c.wp P Q a W) : c.wp P Q a (((w.alloc (.cells c0 t0)).alloc (.cells c1 t1)).alloc (.cells c2 t2)) := by
  obtain ⟨k0, k1, k2, B⟩ := st3 (w := w) (W := (((w.alloc (.cells c0 t0)).alloc (.cells c1 t1)).alloc (.cells c2 t2))) rfl
  exact h _ k0 k1 k2 B
theorem st4 {c0 c1 c2 c3 : Array Value} {t0 t1 t2 t3 : TypeId} (hW : W = ((((w.alloc (.cells c0 t0)).alloc (.cells c1 t1)).alloc (.cells c2 t2)).alloc (.cells c3 t3))) : Bk W (w.heap.size) t0 c0 ∧ Bk W (w.heap.size + 1) t1 c1 ∧ Bk W (w.heap.size + 1 + 1) t2 c2 ∧ Bk W (w.heap.size + 1 + 1 + 1) t3 c3 ∧ Below w.heap.size w W := by
 subst hW
 refine ⟨((((Bk.new_at _ _ _ _ (by simp)).alloc _).alloc _).alloc _), (((Bk.new_at _ _ _ _ (by simp)).alloc _).alloc _), ((Bk.new_at _ _ _ _ (by simp)).alloc _), (Bk.new_at _ _ _ _ (by simp)), ?_⟩
 go_grown
theorem wst4 {P : Program} {c : Code} {Q : Exit → Act → World → Prop} {a : Act} {c0 c1 c2 c3 : Array Value} {t0 t1 t2 t3 : TypeId} (h : ∀ W, Bk W (w.heap.size) t0 c0 → Bk W (w.heap.size + 1) t1 c1 → Bk W (w.heap.size + 1 + 1) t2 c2 → Bk W (w.heap.size + 1 + 1 + 1) t3 c3 → Below w.heap.size w W → c.wp P Q a W) : c.wp P Q a ((((w.alloc (.cells c0 t0)).alloc (.cells c1 t1)).alloc (.cells c2 t2)).alloc (.cells c3 t3)) := by
  obtain ⟨k0, k1, k2, k3, B⟩ := st4 (w := w) (W := ((((w.alloc (.cells c0 t0)).alloc (.cells c1 t1)).alloc (.cells c2 t2)).alloc (.cells c3 t3))) rfl
  exact h _ k0 k1 k2 k3 B
theorem st5 {c0 c1 c2 c3 c4 : Array Value} {t0 t1 t2 t3 t4 : TypeId} (hW : W = (((((w.alloc (.cells c0 t0)).alloc (.cells c1 t1)).alloc (.cells c2 t2)).alloc (.cells c3 t3)).alloc (.cells c4 t4))) : Bk W (w.heap.size) t0 c0 ∧ Bk W (w.heap.size + 1) t1 c1 ∧ Bk W (w.heap.size + 1 + 1) t2 c2 ∧ Bk W (w.heap.size + 1 + 1 + 1) t3 c3 ∧ Bk W (w.heap.size + 1 + 1 + 1 + 1) t4 c4 ∧ Below w.heap.size w W := by
 subst hW
 refine ⟨(((((Bk.new_at _ _ _ _ (by simp)).alloc _).alloc _).alloc _).alloc _), ((((Bk.new_at _ _ _ _ (by simp)).alloc _).alloc _).alloc _), (((Bk.new_at _ _ _ _ (by simp)).alloc _).alloc _), ((Bk.new_at _ _ _ _ (by simp)).alloc _), (Bk.new_at _ _ _ _ (by simp)), ?_⟩
 go_grown
theorem wst5 {P : Program} {c : Code} {Q : Exit → Act → World → Prop} {a : Act} {c0 c1 c2 c3 c4 : Array Value} {t0 t1 t2 t3 t4 : TypeId} (h : ∀ W, Bk W (w.heap.size) t0 c0 → Bk W (w.heap.size + 1) t1 c1 → Bk W (w.heap.size + 1 + 1) t2 c2 → Bk W (w.heap.size + 1 + 1 + 1) t3 c3 → Bk W (w.heap.size + 1 + 1 + 1 + 1) t4 c4 → Below w.heap.size w W → c.wp P Q a W) : c.wp P Q a (((((w.alloc (.cells c0 t0)).alloc (.cells c1 t1)).alloc (.cells c2 t2)).alloc (.cells c3 t3)).alloc (.cells c4 t4)) := by
  obtain ⟨k0, k1, k2, k3, k4, B⟩ := st5 (w := w) (W := (((((w.alloc (.cells c0 t0)).alloc (.cells c1 t1)).alloc (.cells c2 t2)).alloc (.cells c3 t3)).alloc (.cells c4 t4))) rfl
  exact h _ k0 k1 k2 k3 k4 B
end
end
end Go.Proofs.Sky
