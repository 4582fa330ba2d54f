/- Contracts of package ball: beyond, meet; the exported functions. The statements' own of, same and ints; the chapter's example holds: awake, layer 15. A tree that came in, opened: a struct of two slices; things that came in. -/
import Derived.Test.YtomlcglnkdfemaaTt26
import Derived.Test.YtomlcglnkdfemaaTt7
import Derived.Test.YtomlcglnkdfemaaTt21
import Derived.Test.YtomlcglnkdfemaaTt14
import Derived.Test.YtomlcglnkdfemaaTt6
import Derived.Test.YtomlcglnkdfemaaTt1
import Derived.Deep.DeepCutAuto
import Derived.Test.YtomlcglnkdfemaaTt30
import Derived.Test.YtomlcglnkdfemaaTt29
import Derived.Laws.AppendOwn
import Derived.Test.YtomlcglnkdfemaaTt36
import Derived.Lib.SmallJoins


namespace Go.Proofs.Ytomlcglnkdfemaa
section

open Go.RowKit Go.Proofs.Sky

set_option linter.unusedVariables false

set_option linter.unusedSimpArgs false

set_option maxRecDepth 100000 in
set_option maxHeartbeats 4000000 in
theorem ball_Right (c1 c2 c3 r : Int) (w : World) (hc : I3 (c1, c2, c3)) (hr : I64 r) :
    Calls Try.prog 113 #[.agg #[.int .i64 c1, .int .i64 c2, .int .i64 c3], .int .i64 r] w fun en w' => en = .returned (.bool (ballR (c1, c2, c3) r)) ∧ Below w.heap.size w w' := by
  have KP := Lib.hid (fun w => tri_Place c1 c2 c3 w)
  rw [ballR_eq]
  generalize plc (c1, c2, c3) = e1 at *
  obtain ⟨e2, h2⟩ : ∃ e, e = decide (4 ≤ r) := ⟨_, rfl⟩
  obtain ⟨e3, h3⟩ : ∃ e, e = decide (r ≤ 262144) := ⟨_, rfl⟩
  rw [← h2, ← h3]
  replace h2 := h2.symm
  replace h3 := h3.symm
  go_enter Try.func113, Try.ntmps113
  go_upto_region 1 with (fail)
  obtain ⟨W1, hW1⟩ : ∃ W, W = w.alloc (.cells #[.int .i64 c1, .int .i64 c2, .int .i64 c3] 39) := ⟨_, rfl⟩
  obtain ⟨k_c, B1⟩ := st1 hW1
  rw [← hW1]
  clear hW1
  obtain ⟨c_c_0, c_c_1, c_c_2⟩ := bwc3 (k_c)
  obtain ⟨p1, hp1⟩ : ∃ p : BW W1, p.w = W1 := ⟨BW.start W1, rfl⟩
  rw [← hp1]
  clear hp1
  rcases e1 with _ | _ <;> rcases e2 with _ | _ <;> rcases e3 with _ | _
  all_goals
    go_wp2_with (first
      | (go_at_call 111; (first | (with_reducible refine (bw_call KP.out _).mono ?_)); rintro e w' ⟨rfl, q, rfl⟩))
    go_ret
    exact ⟨rfl, bw_below B1 _⟩

end
end Go.Proofs.Ytomlcglnkdfemaa

namespace Go.Proofs.Ytomlcglnkdfemaa
section

open Go.RowKit Go.Proofs.Sky

set_option linter.unusedVariables false

set_option linter.unusedSimpArgs false

theorem cells_at15 {w : World} {g : Nat} {t : TypeId} {cs : List Value} (h : Bk w g t cs.toArray) : ∀ j u, cs[j]? = some u → w.cell? ((⟨g, 0, none⟩ : Addr).add j) = some u := fun j u hj => by
  have hadd : (⟨g, 0, none⟩ : Addr).add j = ⟨g, j, none⟩ := by unfold Addr.add; split <;> simp_all
  rw [hadd]
  refine h.cell ?_
  rw [List.getElem?_toArray]
  exact hj

def awB (i : Nat) : Bx := if i = 0 then ((0, 0, 0), (2, 0, 0)) else ((10, 0, 0), (12, 0, 0))

def bxOf (V : List Value) : Bx := ((intOf (V.getD 0 (.bool false)), intOf (V.getD 1 (.bool false)), intOf (V.getD 2 (.bool false))), (intOf (V.getD 3 (.bool false)), intOf (V.getD 4 (.bool false)), intOf (V.getD 5 (.bool false))))

end
end Go.Proofs.Ytomlcglnkdfemaa

namespace Go.Proofs.Sky
section

open Go.ChangeShapes Go.WideShapes Go.RowKit

set_option linter.unusedVariables false

theorem open_rows16 {P : Program} {H : Type} {enc : TypeId × Value → H} {W : World} {n fuel : Nat} {t e : TypeId} {ks : List LK} {v : Value} {x : DataW H × List MemPlace} (ht : P.underlying t = some (.slice e)) (hk : flat P n e = some ks)
    (hc : P.cellsOf e = ks.length) (h0 : 0 < ks.length) (hf : DataW.trod enc P W 0 (fun _ => true) true fuel t [v] = some x) :
    ∃ (a : Option Addr) (len cap : Nat) (V : Nat → List Value), v = .slice a len cap ∧ len ≤ cap ∧ len ≤ maxLen ∧ (len = 0 ∨ ∃ b off, a = some ⟨b, off, none⟩ ∧ RowsAt W b off len ks.length ks V ∧ b < W.heap.size) := by
  rcases Go.Deep.open_slice ht hf with ⟨hc', hx⟩ | ⟨A, len, cap, m, k, D, Pl, hc', _, hl, hm, hmm, hx, hall⟩
  · cases hc'
    exact ⟨_, 0, 0, fun _ => [], rfl, by omega, by unfold maxLen; omega, .inl rfl⟩
  · cases hc'
    rw [if_pos rfl] at hmm
    obtain ⟨V, hV⟩ := Go.Deep.choose_lt (α := List Value) (p := fun i cs => LeafAll ks cs ∧ ∀ j, j < ks.length → W.cell? (A.add (i * ks.length + j)) = cs[j]?) (n := len) (fun i hi => by
      obtain ⟨cs, h1, h2⟩ := hall i (by omega)
      have hL := flat_trod n e ks hk _ _ _ h2
      obtain ⟨_, hlen, hcell⟩ := World.cells?_some h1
      refine ⟨cs, hL, fun j hj => ?_⟩
      have := hcell j (by omega)
      rw [Go.Deep.add_add, hc] at this
      exact this)
    refine ⟨_, len, cap, V, rfl, hl, by omega, ?_⟩
    by_cases hz : len = 0
    · exact .inl hz
    · right
      have hsp : A.spot = none := by
        have g := hV 0 (by omega)
        have hl0 := g.1.length
        have h1 := g.2 0 h0
        rw [List.getElem?_eq_getElem (by omega)] at h1
        have := World.cell?_spot h1
        simpa [Addr.add] using this
      obtain ⟨b, off, sp⟩ := A
      simp only at hsp
      subst hsp
      have adds : ∀ i, (⟨b, off, none⟩ : Addr).add i = ⟨b, off + i, none⟩ := fun i => by
        unfold Addr.add; split
        · rename_i h; rw [h]; rfl
        · rfl
      refine ⟨b, off, rfl, fun i hi => ⟨(hV i hi).1, fun j hj => ?_⟩, ?_⟩
      · have := (hV i hi).2 j hj
        rw [adds, ← Nat.add_assoc] at this
        exact this
      · have g := hV 0 (by omega)
        have hl0 := g.1.length
        have h1 := g.2 0 h0
        rw [List.getElem?_eq_getElem (by omega)] at h1
        rw [adds] at h1
        exact World.block_lt_of_cell? W _ h1

end
end Go.Proofs.Sky

namespace Go.Proofs.Ytomlcglnkdfemaa
section

open Go.RowKit Go.Proofs.Sky

set_option linter.unusedVariables false

def ndOf (V : List Value) : Nd := (((intOf (V.getD 0 (.bool false)), intOf (V.getD 1 (.bool false)), intOf (V.getD 2 (.bool false))), (intOf (V.getD 3 (.bool false)), intOf (V.getD 4 (.bool false)), intOf (V.getD 5 (.bool false)))), intOf (V.getD 6 (.bool false)), intOf (V.getD 7 (.bool false)), intOf (V.getD 8 (.bool false)))

theorem ndOf_ncells (d : Nd) : ndOf (ncells d) = d := rfl

theorem node_row16 {V : List Value} (h : LeafAll [.int .i64, .int .i64, .int .i64, .int .i64, .int .i64, .int .i64, .int .i64, .int .i64, .int .i64] V) : ∃ d : Nd, V = ncells d := by
  obtain ⟨_, _, rfl, ⟨x0, rfl, _⟩, _, _, rfl, ⟨x1, rfl, _⟩, _, _, rfl, ⟨x2, rfl, _⟩, _, _, rfl, ⟨x3, rfl, _⟩, _, _, rfl, ⟨x4, rfl, _⟩, _, _, rfl, ⟨x5, rfl, _⟩, _, _, rfl, ⟨x6, rfl, _⟩, _, _, rfl, ⟨x7, rfl, _⟩, _, r, rfl, ⟨x8, rfl, _⟩, he⟩ := h
  have he' : r = [] := he
  subst he'
  exact ⟨(((x0, x1, x2), x3, x4, x5), x6, x7, x8), rfl⟩

theorem int_row16 {V : List Value} (h : LeafAll [.int .i64] V) : ∃ x : Int, V = [.int .i64 x] ∧ I64 x := by
  obtain ⟨_, r, rfl, ⟨x0, rfl, hx⟩, he⟩ := h
  have he' : r = [] := he
  subst he'
  exact ⟨x0, rfl, I64.of_wf hx⟩

set_option maxRecDepth 100000 in
theorem open_tree {H : Type} {enc : TypeId × Value → H} {W : World} {r : Reach} {b0 : Nat} {v : Value} {d : DataW H} {p : List MemPlace} (hv : Value.okWide Try.prog W r b0 25 v)
    (h : DataW.Trod enc Try.prog W 0 (fun _ => true) true 25 v d p) : ∃ (a o : Option Addr) (n cn m co : Nat) (ns : List Nd) (ord : List Int), v = .agg #[.slice a n cn, .slice o m co] ∧ n = ns.length ∧ m = ord.length ∧ m ≤ co ∧ Nodes W (.slice a n cn) ns ∧ IntSlice W o ord.length (fun i => ord.getD i 0) := by
  obtain ⟨v0, v1, y0, y1, k, rfl, _, _, t0, t1⟩ := Go.Joins.open_agg2 Try.underlying25 (by kernel_rfl) (by kernel_rfl) hv h
  obtain ⟨a, n, cn, V, rfl, _, hn, hV⟩ := open_rows16 (n := 5) (ks := [.int .i64, .int .i64, .int .i64, .int .i64, .int .i64, .int .i64, .int .i64, .int .i64, .int .i64]) Try.underlying22 (by kernel_rfl) (by kernel_rfl) (by simp) t0
  obtain ⟨o, m, co, U, rfl, hmc, hm, hU⟩ := open_rows16 (n := 5) (ks := [.int .i64]) Try.underlying23 (by kernel_rfl) (by kernel_rfl) (by simp) t1
  refine ⟨a, o, n, cn, m, co, (List.range n).map (fun i => ndOf (V i)), (List.range m).map (fun i => intOf ((U i).getD 0 (.bool false))), rfl, by simp, by simp, hmc, ⟨a, cn, by simp, by simpa using hn, ?_⟩, ?_⟩
  · rcases hV with h0 | ⟨b, off, rfl, hR, hb⟩
    · exact .inl (by simpa using h0)
    · refine .inr ⟨b, off, rfl, hb, fun i hi j hj => ?_⟩
      have hi2 : i < n := by simpa using hi
      obtain ⟨d, e⟩ := node_row16 (hR i hi2).1
      have c : W.cell? ⟨b, off + i * 9 + j, none⟩ = (V i)[j]? := (hR i hi2).2 j hj
      rw [c]
      simp only [List.getElem_map, List.getElem_range]
      rw [e, ndOf_ncells]
  · rcases hU with h0 | ⟨b, off, rfl, hR, hb⟩
    · exact .inl (by simpa using h0)
    · refine .inr ⟨b, off, rfl, fun i hi => ?_, hb⟩
      have hi2 : i < m := by simpa using hi
      obtain ⟨x, e, hx⟩ := int_row16 (hR i hi2).1
      have c : W.cell? ⟨b, off + i * 1 + 0, none⟩ = (U i)[0]? := (hR i hi2).2 0 (by simp)
      have g : ((List.range m).map (fun i => intOf ((U i).getD 0 (.bool false)))).getD i 0 = x := by
        rw [getD_at hi]
        simp only [List.getElem_map, List.getElem_range]
        rw [e]; rfl
      dsimp only
      rw [g]
      rw [Nat.mul_one, Nat.add_zero, e] at c
      exact ⟨c, hx⟩

end
end Go.Proofs.Ytomlcglnkdfemaa
