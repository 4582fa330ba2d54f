/- The document's Plain. -/
import Derived.Test.YtlhamgcmkodjeaaDoorSame18
import Derived.Test.YtlhamgcmkodjeaaDoorLin18
namespace Go.Proofs.YtlhamgcmkodjeaaDoor
open Go.RowKit Go.Shelf Go.Proofs.Sky
set_option linter.unusedVariables false
set_option linter.unusedSimpArgs false

set_option maxRecDepth 100000 in
set_option maxHeartbeats 4000000 in
theorem plain18_a (l : List UInt8) (hl : l.length ≤ 1000) (h : (rowsOf l).length ≠ 1) (w : World) :
    Calls Tryd.prog 18 #[.string ⟨l.toArray⟩] w fun e w' => e = .returned (.bool false) ∧ Below w.heap.size w w' := by
  have KR := Lib.hid (fun w => ref18_Rows l (by omega) w)
  have q : (((rowsOf l).length : Int) == 1) = false := by rw [beq_eq_false_iff_ne]; omega
  have RC := Lib.hid (fun w v (hv : RowsAt18 w v (rowsOf l)) => (by
    obtain ⟨a, c, e, _⟩ := rows_cells hv
    exact ⟨a, c, e⟩ : ∃ a c, v = .slice a (rowsOf l).length c))
  clear hl h
  obtain ⟨n, hn⟩ : ∃ n, n = (rowsOf l).length := ⟨_, rfl⟩
  rw [← hn] at q RC
  generalize rowsOf l = rs at *
  clear hn
  go_enter Tryd.func18, Tryd.ntmps18
  go_wp2_with (go_at_call 13; (with_reducible refine (KR.out _).mono ?_); rintro e w1 ⟨u, rfl, R1, hb1⟩; obtain ⟨a, c, rfl⟩ := RC.out _ _ R1; clear R1)
  go_ret
  exact ⟨rfl, hb1⟩

set_option maxRecDepth 100000 in
set_option maxHeartbeats 4000000 in
theorem plain18_b (l : List UInt8) (hl : l.length ≤ 1000) (r : Rw) (hr : rowsOf l = [r]) (h : r.ws.length ≠ 1) (w : World) :
    Calls Tryd.prog 18 #[.string ⟨l.toArray⟩] w fun e w' => e = .returned (.bool false) ∧ Below w.heap.size w w' := by
  have KR := Lib.hid (fun w => ref18_Rows l (by omega) w)
  rw [hr] at KR
  have q : ((r.ws.length : Int) == 1) = false := by rw [beq_eq_false_iff_ne]; omega
  have RC := Lib.hid (fun w v (hv : RowsAt18 w v [r]) => (by
    obtain ⟨a, c, e, hc⟩ := rows_cells hv
    obtain ⟨b, off, b2, off2, a2, c2, rfl, _, x0, x1, x2, _⟩ := hc 0 (by simp)
    exact ⟨b, off, c, a2, c2, e, by simpa using x2⟩ : ∃ b off c a2 c2, v = .slice (some ⟨b, off, none⟩) 1 c ∧ w.cell? ⟨b, off + 2, none⟩ = some (.slice a2 r.ws.length c2)))
  clear hl h hr
  generalize r.ws.length = m at *
  go_enter Tryd.func18, Tryd.ntmps18
  go_wp2_with (go_at_call 13; (with_reducible refine (KR.out _).mono ?_); rintro e w1 ⟨u, rfl, R1, hb1⟩; obtain ⟨b, off, c, a2, c2, rfl, x2⟩ := RC.out _ _ R1; clear R1)
  go_ret
  exact ⟨rfl, hb1⟩

set_option maxRecDepth 100000 in
set_option maxHeartbeats 4000000 in
theorem plain18_c (l : List UInt8) (hl : l.length ≤ 1000) (r : Rw) (hr : rowsOf l = [r]) (y : Nat × List UInt8) (h : r.ws = [y]) (w : World) :
    Calls Tryd.prog 18 #[.string ⟨l.toArray⟩] w fun e w' => e = .returned (.bool (y.2 == l)) ∧ Below w.heap.size w w' := by
  have KR := Lib.hid (fun w => ref18_Rows l (by omega) w)
  rw [hr] at KR
  have RC := Lib.hid (fun w v (hv : RowsAt18 w v [r]) => (by
    obtain ⟨a, c, e, hc⟩ := rows_cells hv
    obtain ⟨b, off, b2, off2, a2, c2, rfl, _, x0, x1, x2, X⟩ := hc 0 (by simp)
    simp only [List.getElem_cons_zero, h, List.length_cons, List.length_nil, Nat.zero_add] at x2 X
    obtain ⟨rfl, _, y0, _⟩ := X 0 (by omega)
    exact ⟨b, off, c, b2, off2, c2, e, by simpa using x2, by simpa using y0⟩ : ∃ b off c b2 off2 c2, v = .slice (some ⟨b, off, none⟩) 1 c ∧ w.cell? ⟨b, off + 2, none⟩ = some (.slice (some ⟨b2, off2, none⟩) 1 c2) ∧ w.cell? ⟨b2, off2, none⟩ = some (sval y.2)))
  unfold sval at RC
  have he : ((⟨y.2.toArray⟩ : ByteArray).toList == (⟨l.toArray⟩ : ByteArray).toList) = (y.2 == l) := by rw [ByteArray.toList_mk, ByteArray.toList_mk]
  clear hl hr h
  obtain ⟨s1, hs1⟩ : ∃ s : ByteArray, s = ⟨y.2.toArray⟩ := ⟨_, rfl⟩
  obtain ⟨s2, hs2⟩ : ∃ s : ByteArray, s = ⟨l.toArray⟩ := ⟨_, rfl⟩
  rw [← hs1] at RC he
  rw [← hs2] at he KR ⊢
  clear hs1 hs2
  generalize (y.2 == l) = bb at *
  go_enter Tryd.func18, Tryd.ntmps18
  go_wp2_with (go_at_call 13; (with_reducible refine (KR.out _).mono ?_); rintro e w1 ⟨u, rfl, R1, hb1⟩; obtain ⟨b, off, c, b2, off2, c2, rfl, x2, y0⟩ := RC.out _ _ R1; clear R1)
  go_ret
  exact ⟨rfl, hb1⟩

theorem ref18_Plain (l : List UInt8) (hl : l.length ≤ 1000) (w : World) :
    Calls Tryd.prog 18 #[.string ⟨l.toArray⟩] w fun e w' => e = .returned (.bool (plainB l)) ∧ Below w.heap.size w w' := by
  unfold plainB
  split
  · rename_i r hr
    split
    · rename_i y hy
      exact plain18_c l hl r hr y hy w
    · rename_i hy
      refine plain18_b l hl r hr (fun h => ?_) w
      obtain ⟨y, e⟩ := List.length_eq_one_iff.1 h
      exact hy y e
  · rename_i hr
    refine plain18_a l hl (fun h => ?_) w
    obtain ⟨r, e⟩ := List.length_eq_one_iff.1 h
    exact hr r e

end Go.Proofs.YtlhamgcmkodjeaaDoor
