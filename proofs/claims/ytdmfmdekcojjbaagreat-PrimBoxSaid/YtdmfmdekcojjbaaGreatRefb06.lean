/- Contracts of the document's own answers, layer 6: Even, Unit. -/
import Derived.Test.YtdmfmdekcojjbaaGreatRef06
import Derived.StillTailTactics
namespace Go.Proofs.YtdmfmdekcojjbaaGreat
open Go.RowKit Go.Proofs.Sky
set_option linter.unusedVariables false

/-- A box of three numbers, another one, and nothing that lay in w turned. -/
structure Box3 (w W : World) (g0 g1 : Nat) (t : TypeId) (x y z : Int) : Prop where
  h : Below w.heap.size w W
  b0 : Bk W g0 t #[.int .i64 x, .int .i64 y, .int .i64 z]
  b1 : Bk W g1 t #[.int .i64 0, .int .i64 0, .int .i64 0]
theorem box3_next {w W : World} {g0 g1 : Nat} {t : TypeId} {x y z x' y' z' : Int} (q : BW W) (s : Box3 w W g0 g1 t x y z) (h0 : w.heap.size ≤ g0) (h1 : g0 < g1) :
    Box3 w (((q.w.setCell ⟨g0, 0, none⟩ (.int .i64 x')).setCell ⟨g0, 1, none⟩ (.int .i64 y')).setCell ⟨g0, 2, none⟩ (.int .i64 z')) g0 g1 t x' y' z' :=
  ⟨(((bw_below s.h q).setCell (p := ⟨g0, 0, none⟩) h0 _).setCell (p := ⟨g0, 1, none⟩) h0 _).setCell (p := ⟨g0, 2, none⟩) h0 _,
   (Bk.put3 (s.b0.below q.h) _ _ _).2.2.2,
   (((s.b1.below q.h).other (a := ⟨g0, 0, none⟩) (by show g1 ≠ g0; omega) _).other (a := ⟨g0, 1, none⟩) (by show g1 ≠ g0; omega) _).other (a := ⟨g0, 2, none⟩) (by show g1 ≠ g0; omega) _⟩
def sum3 (W : World) (b : Nat) : Nat := ((W.cell? ⟨b, 0, none⟩).map (fun v => (intOf v).natAbs)).getD 0 + ((W.cell? ⟨b, 1, none⟩).map (fun v => (intOf v).natAbs)).getD 0 + ((W.cell? ⟨b, 2, none⟩).map (fun v => (intOf v).natAbs)).getD 0
theorem sum3_of {W : World} {g : Nat} {t : TypeId} {x y z : Int} (h : Bk W g t #[.int .i64 x, .int .i64 y, .int .i64 z]) : sum3 W g = x.natAbs + y.natAbs + z.natAbs := by
  unfold sum3
  rw [h.cell (i := 0) rfl, h.cell (i := 1) rfl, h.cell (i := 2) rfl]
  rfl

end Go.Proofs.YtdmfmdekcojjbaaGreat
