/- Contract of the document's product, digit by digit (skylightref02). -/
import Derived.Test.YtdmfmdekcojjbaaGreatRefe02
namespace Go.Proofs.YtdmfmdekcojjbaaGreat
open Go.RowKit Go.Proofs.Sky
set_option linter.unusedVariables false
set_option linter.unusedSimpArgs false
attribute [local go_sem ↓] Go.wp_at_zero Go.wp_at_succ

theorem Bk_store2 {w : World} {b : Nat} {t : TypeId} {u0 u1 v0 v1 : Value} (h : Bk w b t #[u0, u1]) : Bk ((w.setCell ⟨b, 0, none⟩ v0).setCell ⟨b, 1, none⟩ v1) b t #[v0, v1] :=
  ((h.set 0 v0).set 1 v1).cast (by simp)

theorem Bk_other2 {w : World} {b p : Nat} {t : TypeId} {cs : Array Value} {v0 v1 : Value} (h : Bk w b t cs) (hp : b ≠ p) : Bk ((w.setCell ⟨p, 0, none⟩ v0).setCell ⟨p, 1, none⟩ v1) b t cs :=
  (h.other (a := ⟨p, 0, none⟩) hp v0).other (a := ⟨p, 1, none⟩) hp v1

theorem keep2fe {w W w1 : World} {g : Nat} {u v : Value} {C : Prop} (hb : Below W.heap.size W w1) (h0 : Below w.heap.size w W) (hg : g < W.heap.size) (k0 : W.cell? ⟨g, 0, none⟩ = some u) (k1 : W.cell? ⟨g, 1, none⟩ = some v)
    (f0 : W.frozen? ⟨g, 0, none⟩ = false) (f1 : W.frozen? ⟨g, 1, none⟩ = false)
    (K : w1.cell? ⟨g, 0, none⟩ = some u → w1.cell? ⟨g, 1, none⟩ = some v → g < w1.heap.size → Below w.heap.size w w1 → w1.frozen? ⟨g, 0, none⟩ = false → w1.frozen? ⟨g, 1, none⟩ = false → C) : C := by
  obtain ⟨a, b, c, d⟩ := keep2 h0 hb hg k0 k1
  exact K a b c d ((hb.frozen (p := ⟨g, 0, none⟩) hg).trans f0) ((hb.frozen (p := ⟨g, 1, none⟩) hg).trans f1)

theorem add_congr {a b c : Int} (h : b % 340282366920938463463374607431768211456 = c % 340282366920938463463374607431768211456) : hii (a + b) = hii (a + c) ∧ lon (a + b) = lon (a + c) := by
  have := hii_congr (x := a + b) (y := a + c) (by omega)
  exact ⟨this.1, this.2.1⟩

theorem prod_range (u v : Int) (i j : Nat) : 0 ≤ dg u i * dg v j ∧ dg u i * dg v j ≤ 4294836225 := by
  obtain ⟨a, b⟩ := dg_range u i
  obtain ⟨c, d⟩ := dg_range v j
  exact ⟨Int.mul_nonneg a c, Int.mul_le_mul b d c (by omega)⟩

theorem rowP_range (u v : Int) (i n j : Nat) : 0 ≤ rowP u v i n j ∧ rowP u v i n j ≤ 4294836225 := by
  unfold rowP; split
  · exact prod_range _ _ _ _
  · omega

theorem rowP_zero (u v : Int) (i : Nat) : arr8 (rowP u v i 0) = #[.int .i64 0, .int .i64 0, .int .i64 0, .int .i64 0, .int .i64 0, .int .i64 0, .int .i64 0, .int .i64 0] := by
  have h : ∀ j, rowP u v i 0 j = 0 := fun j => by unfold rowP; rw [if_neg (by omega)]
  unfold arr8
  rw [h, h, h, h, h, h, h, h]

theorem times_end (u v : Int) : hii (sumP u v 8) = hii (u * v) ∧ lon (sumP u v 8) = lon (u * v) := by
  have h : sumP u v 8 % 340282366920938463463374607431768211456 = u * v % 340282366920938463463374607431768211456 := by rw [sumP_8, Int.mul_emod, Int.emod_emod, ← Int.mul_emod]
  have := hii_congr h
  exact ⟨this.1, this.2.1⟩

end Go.Proofs.YtdmfmdekcojjbaaGreat
