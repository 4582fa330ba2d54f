/- Contracts of package tri, below: Place, places, surround, upright, times. -/
import Derived.Test.YtppejnfiphkmnaaVec06
import Derived.Test.YtppejnfiphkmnaaMath11
import Derived.Test.YtppejnfiphkmnaaMem06
import Derived.Test.YtppejnfiphkmnaaMem08
import Derived.Test.YtppejnfiphkmnaaTail
import Derived.Lib.MinMax
import Derived.Laws.Cover1
import Derived.LoopN
import Derived.Deep.DeepCutAuto
namespace Go.Proofs.Ytppejnfiphkmnaa
open Go.RowKit Go.Proofs.Sky
set_option linter.unusedVariables false

set_option maxRecDepth 100000 in
set_option maxHeartbeats 4000000 in
theorem tri_Place_no (x y z : Int) (w : World) (mn : Int) (hmn : ∀ (w : World) (ts : Array TypeId) (t : TypeId), (Builtin.min_ ts t #[.int .i64 x, .int .i64 y, .int .i64 z]).run Try.prog w = .ok (.int .i64 mn) w) (t1 : decide (-524288 ≤ mn) = false) :
    Calls Try.prog 23 #[.agg #[.int .i64 x, .int .i64 y, .int .i64 z]] w fun en w' => en = .returned (.bool false) ∧ Below w.heap.size w w' := by
  go_enter Try.func23, Try.ntmps23
  go_upto_region 1 with (fail)
  obtain ⟨W1, hW1⟩ : ∃ W, W = w.alloc (.cells #[.int .i64 x, .int .i64 y, .int .i64 z] 23) := ⟨_, rfl⟩
  obtain ⟨k_v, B1⟩ := st1 hW1
  rw [← hW1]
  clear hW1
  obtain ⟨c_v_0, c_v_1, c_v_2⟩ := bwc3 (k_v)
  obtain ⟨p1, hp1⟩ : ∃ p : BW W1, p.w = W1 := ⟨BW.start W1, rfl⟩
  rw [← hp1]
  clear hp1
  go_wp2
  go_ret
  exact ⟨rfl, bw_below B1 _⟩

set_option maxRecDepth 100000 in
set_option maxHeartbeats 4000000 in
theorem tri_Place_yes (x y z : Int) (w : World) (mn : Int) (hmn : ∀ (w : World) (ts : Array TypeId) (t : TypeId), (Builtin.min_ ts t #[.int .i64 x, .int .i64 y, .int .i64 z]).run Try.prog w = .ok (.int .i64 mn) w) (t1 : decide (-524288 ≤ mn) = true) (mx : Int) (hmx : ∀ (w : World) (ts : Array TypeId) (t : TypeId), (Builtin.max_ ts t #[.int .i64 x, .int .i64 y, .int .i64 z]).run Try.prog w = .ok (.int .i64 mx) w) :
    Calls Try.prog 23 #[.agg #[.int .i64 x, .int .i64 y, .int .i64 z]] w fun en w' => en = .returned (.bool (decide (mx ≤ 524288))) ∧ Below w.heap.size w w' := by
  go_enter Try.func23, Try.ntmps23
  go_upto_region 1 with (fail)
  obtain ⟨W1, hW1⟩ : ∃ W, W = w.alloc (.cells #[.int .i64 x, .int .i64 y, .int .i64 z] 23) := ⟨_, rfl⟩
  obtain ⟨k_v, B1⟩ := st1 hW1
  rw [← hW1]
  clear hW1
  obtain ⟨c_v_0, c_v_1, c_v_2⟩ := bwc3 (k_v)
  obtain ⟨p1, hp1⟩ : ∃ p : BW W1, p.w = W1 := ⟨BW.start W1, rfl⟩
  rw [← hp1]
  clear hp1
  go_wp2
  go_ret
  exact ⟨rfl, bw_below B1 _⟩

theorem tri_Place (x y z : Int) (w : World) :
    Calls Try.prog 23 #[.agg #[.int .i64 x, .int .i64 y, .int .i64 z]] w fun en w' => en = .returned (.bool (plc (x, y, z))) ∧ Below w.heap.size w w' := by
  obtain ⟨mn, emn⟩ : ∃ m, m = (if z < (if y < x then y else x) then z else (if y < x then y else x)) := ⟨_, rfl⟩
  obtain ⟨mx, emx⟩ : ∃ m, m = (if z > (if y > x then y else x) then z else (if y > x then y else x)) := ⟨_, rfl⟩
  have hmn : ∀ (w : World) (ts : Array TypeId) (t : TypeId), (Builtin.min_ ts t #[.int .i64 x, .int .i64 y, .int .i64 z]).run Try.prog w = .ok (.int .i64 mn) w := fun w ts t => by rw [emn]; exact run_min_int3 ..
  have hmx : ∀ (w : World) (ts : Array TypeId) (t : TypeId), (Builtin.max_ ts t #[.int .i64 x, .int .i64 y, .int .i64 z]).run Try.prog w = .ok (.int .i64 mx) w := fun w ts t => by rw [emx]; exact run_max_int3 ..
  have e1 : mn ≤ x ∧ mn ≤ y ∧ mn ≤ z ∧ (mn = x ∨ mn = y ∨ mn = z) := by
    split at emn <;> split at emn <;> omega
  have e2 : x ≤ mx ∧ y ≤ mx ∧ z ≤ mx ∧ (mx = x ∨ mx = y ∨ mx = z) := by
    split at emx <;> split at emx <;> omega
  clear emn emx
  by_cases h : -524288 ≤ mn
  · have e : plc (x, y, z) = decide (mx ≤ 524288) := by
      rw [Bool.eq_iff_iff, plc_iff, decide_eq_true_iff]
      dsimp only
      omega
    rw [e]
    exact tri_Place_yes x y z w mn hmn (decide_eq_true h) mx hmx
  · have e : plc (x, y, z) = false := by
      rw [Bool.eq_false_iff, Ne, plc_iff]
      dsimp only
      omega
    rw [e]
    exact tri_Place_no x y z w mn hmn (decide_eq_false h)

end Go.Proofs.Ytppejnfiphkmnaa
