/- Words for memory: a block that is known whole; eight numbers in a row. Imports nothing of the translation. -/
import Derived.Test.YtlhamgcmkodjeaaDoorMath02
import Derived.Below
import Derived.Deep.Draws
import Derived.Handy
namespace Go.Proofs.Sky
open Go.RowKit
set_option linter.unusedVariables false

/-- Block b is just the cells cs of type t, none frozen. -/
def Bk (w : World) (b : Nat) (t : TypeId) (cs : Array Value) : Prop := w.heap[b]? = some (.cells cs t (0, 0))
section
variable {w w' W : World} {b : Nat} {t : TypeId} {cs : Array Value}
theorem Bk.lt (h : Bk w b t cs) : b < w.heap.size := by
  unfold Bk at h
  obtain ⟨hlt, _⟩ := Array.getElem?_eq_some_iff.1 h
  exact hlt
theorem Bk.cell (h : Bk w b t cs) {i : Nat} {v : Value} (hv : cs[i]? = some v) : w.cell? ⟨b, i, none⟩ = some v := by
  unfold Bk at h
  simp [World.cell?, h, hv]
theorem Bk.frozen (h : Bk w b t cs) (i : Nat) : w.frozen? ⟨b, i, none⟩ = false := by
  unfold Bk at h
  simp [World.frozen?, h]
theorem Bk.new (w : World) (cs : Array Value) (t : TypeId) : Bk (w.alloc (.cells cs t)) w.heap.size t cs := by
  unfold Bk World.alloc; simp
theorem Bk.new_at (w : World) (cs : Array Value) (t : TypeId) (b : Nat) (h : b = w.heap.size) : Bk (w.alloc (.cells cs t)) b t cs := by subst h; exact Bk.new _ _ _
theorem Bk.alloc (h : Bk w b t cs) (o : Obj) : Bk (w.alloc o) b t cs := (Below.heap_alloc w o b h.lt).trans h
theorem Bk.drew (h : Bk w b t cs) : Bk w.drew b t cs := h
theorem Bk.drewN (h : Bk w b t cs) (n : Nat) : Bk (w.drewN n) b t cs := h
theorem Bk.other (h : Bk w b t cs) {a : Addr} (ha : b ≠ a.block) (v : Value) : Bk (w.setCell a v) b t cs := (Below.heap_setCell w a v b ha).trans h
theorem Bk.set (h : Bk w b t cs) (i : Nat) (v : Value) : Bk (w.setCell ⟨b, i, none⟩ v) b t (cs.setIfInBounds i v) := by
  unfold Bk at h ⊢
  simp [World.setCell, Array.getElem?_modify, h]
theorem Bk.below (h : Bk w b t cs) (hb : Below w.heap.size w w') : Bk w' b t cs := (hb.block b h.lt).trans h
theorem Bk.belowB {B : Nat} (h : Bk w b t cs) (hb : Below B w w') (hlt : b < B) : Bk w' b t cs := (hb.block b hlt).trans h
theorem Bk.cast {ds : Array Value} (h : Bk w b t cs) (e : cs = ds) : Bk w b t ds := e ▸ h
end

/-- Two cells of a block of the call's own, behind a call that makes memory. -/
theorem keep2 {w W w1 : World} {g : Nat} {u v : Value} (h0 : Below w.heap.size w W) (hb : Below W.heap.size W w1) (hg : g < W.heap.size) (k0 : W.cell? ⟨g, 0, none⟩ = some u) (k1 : W.cell? ⟨g, 1, none⟩ = some v) :
    w1.cell? ⟨g, 0, none⟩ = some u ∧ w1.cell? ⟨g, 1, none⟩ = some v ∧ g < w1.heap.size ∧ Below w.heap.size w w1 :=
  ⟨(hb.cell (p := ⟨g, 0, none⟩) hg).trans k0, (hb.cell (p := ⟨g, 1, none⟩) hg).trans k1, Nat.lt_of_lt_of_le hg hb.size, h0.trans (hb.mono h0.size)⟩
theorem keep2e {w W w1 : World} {g : Nat} {u v : Value} {C : Prop} (hb : Below W.heap.size W w1) (h0 : Below w.heap.size w W) (hg : g < W.heap.size) (k0 : W.cell? ⟨g, 0, none⟩ = some u) (k1 : W.cell? ⟨g, 1, none⟩ = some v)
    (K : w1.cell? ⟨g, 0, none⟩ = some u → w1.cell? ⟨g, 1, none⟩ = some v → g < w1.heap.size → Below w.heap.size w w1 → C) : C := by
  obtain ⟨a, b, c, d⟩ := keep2 h0 hb hg k0 k1
  exact K a b c d
theorem keep0e {w W w1 : World} {C : Prop} (hb : Below W.heap.size W w1) (h0 : Below w.heap.size w W) (K : Below w.heap.size w w1 → w.heap.size ≤ w1.heap.size → C) : C :=
  K (h0.trans (hb.mono h0.size)) (Nat.le_trans h0.size hb.size)

/-- Eight ints. -/
def arr8 (f : Nat → Int) : Array Value := #[.int .i64 (f 0), .int .i64 (f 1), .int .i64 (f 2), .int .i64 (f 3), .int .i64 (f 4), .int .i64 (f 5), .int .i64 (f 6), .int .i64 (f 7)]
theorem cases8 {P : Nat → Prop} {k : Nat} (hk : k < 8) (h0 : P 0) (h1 : P 1) (h2 : P 2) (h3 : P 3) (h4 : P 4) (h5 : P 5) (h6 : P 6) (h7 : P 7) : P k := by
  rcases k with _ | _ | _ | _ | _ | _ | _ | _ | k
  all_goals first | assumption | omega
theorem arr8_get (f : Nat → Int) {k : Nat} (hk : k < 8) : (arr8 f)[k]? = some (.int .i64 (f k)) :=
  cases8 (P := fun k => (arr8 f)[k]? = some (.int .i64 (f k))) hk rfl rfl rfl rfl rfl rfl rfl rfl
theorem arr8_set (f : Nat → Int) {k : Nat} (hk : k < 8) (v : Int) : (arr8 f).setIfInBounds k (.int .i64 v) = arr8 (fun j => if j = k then v else f j) :=
  cases8 (P := fun k => (arr8 f).setIfInBounds k (.int .i64 v) = arr8 (fun j => if j = k then v else f j)) hk rfl rfl rfl rfl rfl rfl rfl rfl
theorem arr8_congr {f g : Nat → Int} (h : ∀ j, j < 8 → f j = g j) : arr8 f = arr8 g := by
  unfold arr8
  rw [h 0 (by omega), h 1 (by omega), h 2 (by omega), h 3 (by omega), h 4 (by omega), h 5 (by omega), h 6 (by omega), h 7 (by omega)]
theorem Bk.store8 {w : World} {b : Nat} {t : TypeId} {v0 v1 v2 v3 v4 v5 v6 v7 : Value} (h : Bk w b t #[.int .i64 0, .int .i64 0, .int .i64 0, .int .i64 0, .int .i64 0, .int .i64 0, .int .i64 0, .int .i64 0]) : Bk ((((((((w.setCell ⟨b, 0, none⟩ v0).setCell ⟨b, 1, none⟩ v1).setCell ⟨b, 2, none⟩ v2).setCell ⟨b, 3, none⟩ v3).setCell ⟨b, 4, none⟩ v4).setCell ⟨b, 5, none⟩ v5).setCell ⟨b, 6, none⟩ v6).setCell ⟨b, 7, none⟩ v7) b t #[v0, v1, v2, v3, v4, v5, v6, v7] :=
  ((((((((h.set 0 v0).set 1 v1).set 2 v2).set 3 v3).set 4 v4).set 5 v5).set 6 v6).set 7 v7).cast (by simp)
theorem Bk.other8 {w : World} {b p : Nat} {t : TypeId} {cs : Array Value} {v0 v1 v2 v3 v4 v5 v6 v7 : Value} (h : Bk w b t cs) (hp : b ≠ p) : Bk ((((((((w.setCell ⟨p, 0, none⟩ v0).setCell ⟨p, 1, none⟩ v1).setCell ⟨p, 2, none⟩ v2).setCell ⟨p, 3, none⟩ v3).setCell ⟨p, 4, none⟩ v4).setCell ⟨p, 5, none⟩ v5).setCell ⟨p, 6, none⟩ v6).setCell ⟨p, 7, none⟩ v7) b t cs :=
  (((((((h.other (a := ⟨p, 0, none⟩) hp v0).other (a := ⟨p, 1, none⟩) hp v1).other (a := ⟨p, 2, none⟩) hp v2).other (a := ⟨p, 3, none⟩) hp v3).other (a := ⟨p, 4, none⟩) hp v4).other (a := ⟨p, 5, none⟩) hp v5).other (a := ⟨p, 6, none⟩) hp v6).other (a := ⟨p, 7, none⟩) hp v7
theorem Bk.set8 {w : World} {b : Nat} {t : TypeId} {f g : Nat → Int} (h : Bk w b t (arr8 f)) {k : Nat} (hk : k < 8) {v : Int} (hv : v = g k) (hg : ∀ j, j < 8 → j ≠ k → f j = g j) :
    Bk (w.setCell ⟨b, k, none⟩ (.int .i64 v)) b t (arr8 g) := by
  refine (h.set k (.int .i64 v)).cast ?_
  rw [arr8_set f hk v]
  refine arr8_congr fun j hj => ?_
  by_cases e : j = k
  · rw [if_pos e, e, hv]
  · rw [if_neg e]; exact hg j hj e

end Go.Proofs.Sky
