/- Contracts of the document's own answers, layer 16: a part gone through; all; ordered, depth, leaves. -/
import Derived.Test.YtomlcglnkdfemaaTt18
import Derived.Test.YtomlcglnkdfemaaTt21
import Derived.Test.YtomlcglnkdfemaaTt7
import Derived.Test.YtomlcglnkdfemaaTt5
import Derived.Lib.MinMax
import Derived.Deep.DeepCutAuto


namespace Go.Proofs.Ytomlcglnkdfemaa
section

open Go.RowKit Go.Proofs.Sky

set_option linter.unusedVariables false

set_option linter.unusedSimpArgs false

def ncells (d : Nd) : List Value := [.int .i64 d.1.1.1, .int .i64 d.1.1.2.1, .int .i64 d.1.1.2.2, .int .i64 d.1.2.1, .int .i64 d.1.2.2.1, .int .i64 d.1.2.2.2, .int .i64 d.2.1, .int .i64 d.2.2.1, .int .i64 d.2.2.2]

/-- A slice of nodes. -/
def Nodes (w : World) (v : Value) (ns : List Nd) : Prop := Sll w v 9 ncells ns

theorem Nodes.below {w w' : World} {B : Nat} {v : Value} {ns : List Nd} (h : Nodes w v ns) (hb : Below B w w') (hB : w.heap.size ≤ B) : Nodes w' v ns := Sll.below h hb hB

set_option maxRecDepth 100000 in
set_option maxHeartbeats 8000000 in
theorem walk16_out (a b : Option Addr) (n cap m capo i : Nat) (th : Int) (w : World) (h : n ≤ i) :
    Calls Try.prog 33 #[.agg #[.slice a n cap, .slice b m capo], .int .i64 (i : Int), .int .i64 th] w fun en w' => en = .returned (.agg #[.int .i64 0, .int .i64 0, .int .i64 0, .int .i64 0, .bool false]) ∧ Below w.heap.size w w' := by
  have t1 : decide (n ≤ i) = true := decide_eq_true h
  clear h
  go_enter Try.func33, Try.ntmps33
  go_upto_region 1 with (fail)
  obtain ⟨W1, hW1⟩ : ∃ W, W = (w.alloc (.cells #[.slice a n cap, .slice b m capo] 25)).alloc (.cells #[.int .i64 0, .int .i64 0, .int .i64 0, .int .i64 0, .bool false] 57) := ⟨_, rfl⟩
  obtain ⟨k_t, k_r, B1⟩ := st2 hW1
  rw [← hW1]
  clear hW1
  have l_r : w.heap.size < w.heap.size + 1 := by omega
  generalize w.heap.size + 1 = g_r at *
  obtain ⟨c_t_0, c_t_1⟩ := bwc2 (k_t)
  obtain ⟨c_r_0, c_r_1, c_r_2, c_r_3, c_r_4⟩ := bwc5 (k_r)
  obtain ⟨f_r_0, f_r_1, f_r_2, f_r_3, f_r_4⟩ := bwf5 (k_r)
  obtain ⟨p1, hp1⟩ : ∃ p : BW W1, p.w = W1 := ⟨BW.start W1, rfl⟩
  rw [← hp1]
  clear hp1
  go_wp2
  have kr := bkp5 (k_r.below p1.h) (.int .i64 0) (.int .i64 0) (.int .i64 0) (.int .i64 0) (.bool false)
  obtain ⟨rc0, rc1, rc2, rc3, rc4⟩ := rwc5 kr
  exact bodyPost_ret (v := .agg #[.int .i64 0, .int .i64 0, .int .i64 0, .int .i64 0, .bool false]) (by simp [results, Try.results33, go_sem, rc0, rc1, rc2, rc3, rc4]) rfl ⟨rfl, blp5 (bw_below B1 p1) (by omega)⟩

set_option maxRecDepth 100000 in
set_option maxHeartbeats 8000000 in
theorem walk16_w1 (b : Option Addr) (bb off n cap m capo i : Nat) (n1 n2 n3 n4 n5 n6 fi co ri th : Int) (w : World) (hi : i < n) (hbb : bb < w.heap.size) (x0 : w.cell? ⟨bb, off + i * 9, none⟩ = some (.int .i64 n1)) (x1 : w.cell? ⟨bb, off + i * 9 + 1, none⟩ = some (.int .i64 n2)) (x2 : w.cell? ⟨bb, off + i * 9 + 2, none⟩ = some (.int .i64 n3)) (x3 : w.cell? ⟨bb, off + i * 9 + 3, none⟩ = some (.int .i64 n4)) (x4 : w.cell? ⟨bb, off + i * 9 + 4, none⟩ = some (.int .i64 n5)) (x5 : w.cell? ⟨bb, off + i * 9 + 5, none⟩ = some (.int .i64 n6)) (x6 : w.cell? ⟨bb, off + i * 9 + 6, none⟩ = some (.int .i64 fi)) (x7 : w.cell? ⟨bb, off + i * 9 + 7, none⟩ = some (.int .i64 co)) (x8 : w.cell? ⟨bb, off + i * 9 + 8, none⟩ = some (.int .i64 ri)) (hc : ¬ co = 0) (h1 : ¬ 0 < co) (hm : m ≤ 1048576) (hn : n ≤ 1048576) (ht : 0 ≤ th ∧ th ≤ m) :
    Calls Try.prog 33 #[.agg #[.slice (some ⟨bb, off, none⟩) n cap, .slice b m capo], .int .i64 (i : Int), .int .i64 th] w fun en w' => en = .returned (.agg #[.int .i64 0, .int .i64 0, .int .i64 0, .int .i64 0, .bool false]) ∧ Below w.heap.size w w' := by
  have d1 : decide (0 < co) = false := decide_eq_false h1
  have dc : (co == 0) = false := by rw [beq_eq_false_iff_ne]; exact hc
  have t1 : decide (n ≤ i) = false := decide_eq_false (by omega)
  go_enter Try.func33, Try.ntmps33
  go_upto_region 1 with (fail)
  obtain ⟨W1, hW1⟩ : ∃ W, W = (w.alloc (.cells #[.slice (some ⟨bb, off, none⟩) n cap, .slice b m capo] 25)).alloc (.cells #[.int .i64 0, .int .i64 0, .int .i64 0, .int .i64 0, .bool false] 57) := ⟨_, rfl⟩
  obtain ⟨k_t, k_r, B1⟩ := st2 hW1
  rw [← hW1]
  clear hW1
  have l_r : w.heap.size < w.heap.size + 1 := by omega
  generalize w.heap.size + 1 = g_r at *
  obtain ⟨c_t_0, c_t_1⟩ := bwc2 (k_t)
  obtain ⟨c_r_0, c_r_1, c_r_2, c_r_3, c_r_4⟩ := bwc5 (k_r)
  have c_e0 : ∀ p : BW W1, p.w.cell? ⟨bb, off + i * 9, none⟩ = some (.int .i64 n1) := bw_cell ((B1.cell (p := ⟨bb, off + i * 9, none⟩) hbb).trans x0)
  have c_e1 : ∀ p : BW W1, p.w.cell? ⟨bb, off + i * 9 + 1, none⟩ = some (.int .i64 n2) := bw_cell ((B1.cell (p := ⟨bb, off + i * 9 + 1, none⟩) hbb).trans x1)
  have c_e2 : ∀ p : BW W1, p.w.cell? ⟨bb, off + i * 9 + 2, none⟩ = some (.int .i64 n3) := bw_cell ((B1.cell (p := ⟨bb, off + i * 9 + 2, none⟩) hbb).trans x2)
  have c_e3 : ∀ p : BW W1, p.w.cell? ⟨bb, off + i * 9 + 3, none⟩ = some (.int .i64 n4) := bw_cell ((B1.cell (p := ⟨bb, off + i * 9 + 3, none⟩) hbb).trans x3)
  have c_e4 : ∀ p : BW W1, p.w.cell? ⟨bb, off + i * 9 + 4, none⟩ = some (.int .i64 n5) := bw_cell ((B1.cell (p := ⟨bb, off + i * 9 + 4, none⟩) hbb).trans x4)
  have c_e5 : ∀ p : BW W1, p.w.cell? ⟨bb, off + i * 9 + 5, none⟩ = some (.int .i64 n6) := bw_cell ((B1.cell (p := ⟨bb, off + i * 9 + 5, none⟩) hbb).trans x5)
  have c_e6 : ∀ p : BW W1, p.w.cell? ⟨bb, off + i * 9 + 6, none⟩ = some (.int .i64 fi) := bw_cell ((B1.cell (p := ⟨bb, off + i * 9 + 6, none⟩) hbb).trans x6)
  have c_e7 : ∀ p : BW W1, p.w.cell? ⟨bb, off + i * 9 + 7, none⟩ = some (.int .i64 co) := bw_cell ((B1.cell (p := ⟨bb, off + i * 9 + 7, none⟩) hbb).trans x7)
  have c_e8 : ∀ p : BW W1, p.w.cell? ⟨bb, off + i * 9 + 8, none⟩ = some (.int .i64 ri) := bw_cell ((B1.cell (p := ⟨bb, off + i * 9 + 8, none⟩) hbb).trans x8)
  obtain ⟨p1, hp1⟩ : ∃ p : BW W1, p.w = W1 := ⟨BW.start W1, rfl⟩
  rw [← hp1]
  clear hp1
  go_upto_region 4 with (fail)
  obtain ⟨W2, hW2⟩ : ∃ W, W = p1.w.alloc (.cells #[.int .i64 n1, .int .i64 n2, .int .i64 n3, .int .i64 n4, .int .i64 n5, .int .i64 n6, .int .i64 fi, .int .i64 co, .int .i64 ri] 43) := ⟨_, rfl⟩
  have B2 : Below w.heap.size w W2 := by rw [hW2]; exact (bw_below B1 p1).alloc (bw_below B1 p1).size _
  have l_d : g_r < p1.w.heap.size := (k_r.below p1.h).lt
  have o_d : w.heap.size ≤ p1.w.heap.size := (bw_below B1 p1).size
  have k_t := bka hW2 (k_t.below p1.h)
  have k_r := bka hW2 (k_r.below p1.h)
  have k_d := bkn hW2
  rw [← hW2]
  clear hW2
  clear B1
  clear c_t_0 c_t_1 c_r_0 c_r_1 c_r_2 c_r_3 c_r_4 c_e0 c_e1 c_e2 c_e3 c_e4 c_e5 c_e6 c_e7 c_e8
  generalize p1.w.heap.size = g_d at *
  obtain ⟨c_t_0, c_t_1⟩ := bwc2 (k_t)
  obtain ⟨c_r_0, c_r_1, c_r_2, c_r_3, c_r_4⟩ := bwc5 (k_r)
  obtain ⟨f_r_0, f_r_1, f_r_2, f_r_3, f_r_4⟩ := bwf5 (k_r)
  obtain ⟨c_d_0, c_d_1, c_d_2, c_d_3, c_d_4, c_d_5, c_d_6, c_d_7, c_d_8⟩ := bwc9 (k_d)
  obtain ⟨p2, hp2⟩ : ∃ p : BW W2, p.w = W2 := ⟨BW.start W2, rfl⟩
  rw [← hp2]
  clear hp2
  clear h1 ht hm hn hi
  go_wp2
  have kr := bkp5 (k_r.below p2.h) (.int .i64 0) (.int .i64 0) (.int .i64 0) (.int .i64 0) (.bool false)
  obtain ⟨rc0, rc1, rc2, rc3, rc4⟩ := rwc5 kr
  exact bodyPost_ret (v := .agg #[.int .i64 0, .int .i64 0, .int .i64 0, .int .i64 0, .bool false]) (by simp [results, Try.results33, go_sem, rc0, rc1, rc2, rc3, rc4]) rfl ⟨rfl, blp5 (bw_below B2 p2) (by omega)⟩

set_option maxRecDepth 100000 in
set_option maxHeartbeats 8000000 in
theorem walk16_w2 (b : Option Addr) (bb off n cap m capo i : Nat) (n1 n2 n3 n4 n5 n6 fi co ri th : Int) (w : World) (hi : i < n) (hbb : bb < w.heap.size) (x0 : w.cell? ⟨bb, off + i * 9, none⟩ = some (.int .i64 n1)) (x1 : w.cell? ⟨bb, off + i * 9 + 1, none⟩ = some (.int .i64 n2)) (x2 : w.cell? ⟨bb, off + i * 9 + 2, none⟩ = some (.int .i64 n3)) (x3 : w.cell? ⟨bb, off + i * 9 + 3, none⟩ = some (.int .i64 n4)) (x4 : w.cell? ⟨bb, off + i * 9 + 4, none⟩ = some (.int .i64 n5)) (x5 : w.cell? ⟨bb, off + i * 9 + 5, none⟩ = some (.int .i64 n6)) (x6 : w.cell? ⟨bb, off + i * 9 + 6, none⟩ = some (.int .i64 fi)) (x7 : w.cell? ⟨bb, off + i * 9 + 7, none⟩ = some (.int .i64 co)) (x8 : w.cell? ⟨bb, off + i * 9 + 8, none⟩ = some (.int .i64 ri)) (hc : ¬ co = 0) (h1 : 0 < co) (h2 : ¬ fi = th) (hm : m ≤ 1048576) (hn : n ≤ 1048576) (ht : 0 ≤ th ∧ th ≤ m) :
    Calls Try.prog 33 #[.agg #[.slice (some ⟨bb, off, none⟩) n cap, .slice b m capo], .int .i64 (i : Int), .int .i64 th] w fun en w' => en = .returned (.agg #[.int .i64 0, .int .i64 0, .int .i64 0, .int .i64 0, .bool false]) ∧ Below w.heap.size w w' := by
  have d1 : decide (0 < co) = true := decide_eq_true h1
  have d2 : (fi == th) = false := by rw [beq_eq_false_iff_ne]; exact h2
  have dc : (co == 0) = false := by rw [beq_eq_false_iff_ne]; exact hc
  have t1 : decide (n ≤ i) = false := decide_eq_false (by omega)
  go_enter Try.func33, Try.ntmps33
  go_upto_region 1 with (fail)
  obtain ⟨W1, hW1⟩ : ∃ W, W = (w.alloc (.cells #[.slice (some ⟨bb, off, none⟩) n cap, .slice b m capo] 25)).alloc (.cells #[.int .i64 0, .int .i64 0, .int .i64 0, .int .i64 0, .bool false] 57) := ⟨_, rfl⟩
  obtain ⟨k_t, k_r, B1⟩ := st2 hW1
  rw [← hW1]
  clear hW1
  have l_r : w.heap.size < w.heap.size + 1 := by omega
  generalize w.heap.size + 1 = g_r at *
  obtain ⟨c_t_0, c_t_1⟩ := bwc2 (k_t)
  obtain ⟨c_r_0, c_r_1, c_r_2, c_r_3, c_r_4⟩ := bwc5 (k_r)
  have c_e0 : ∀ p : BW W1, p.w.cell? ⟨bb, off + i * 9, none⟩ = some (.int .i64 n1) := bw_cell ((B1.cell (p := ⟨bb, off + i * 9, none⟩) hbb).trans x0)
  have c_e1 : ∀ p : BW W1, p.w.cell? ⟨bb, off + i * 9 + 1, none⟩ = some (.int .i64 n2) := bw_cell ((B1.cell (p := ⟨bb, off + i * 9 + 1, none⟩) hbb).trans x1)
  have c_e2 : ∀ p : BW W1, p.w.cell? ⟨bb, off + i * 9 + 2, none⟩ = some (.int .i64 n3) := bw_cell ((B1.cell (p := ⟨bb, off + i * 9 + 2, none⟩) hbb).trans x2)
  have c_e3 : ∀ p : BW W1, p.w.cell? ⟨bb, off + i * 9 + 3, none⟩ = some (.int .i64 n4) := bw_cell ((B1.cell (p := ⟨bb, off + i * 9 + 3, none⟩) hbb).trans x3)
  have c_e4 : ∀ p : BW W1, p.w.cell? ⟨bb, off + i * 9 + 4, none⟩ = some (.int .i64 n5) := bw_cell ((B1.cell (p := ⟨bb, off + i * 9 + 4, none⟩) hbb).trans x4)
  have c_e5 : ∀ p : BW W1, p.w.cell? ⟨bb, off + i * 9 + 5, none⟩ = some (.int .i64 n6) := bw_cell ((B1.cell (p := ⟨bb, off + i * 9 + 5, none⟩) hbb).trans x5)
  have c_e6 : ∀ p : BW W1, p.w.cell? ⟨bb, off + i * 9 + 6, none⟩ = some (.int .i64 fi) := bw_cell ((B1.cell (p := ⟨bb, off + i * 9 + 6, none⟩) hbb).trans x6)
  have c_e7 : ∀ p : BW W1, p.w.cell? ⟨bb, off + i * 9 + 7, none⟩ = some (.int .i64 co) := bw_cell ((B1.cell (p := ⟨bb, off + i * 9 + 7, none⟩) hbb).trans x7)
  have c_e8 : ∀ p : BW W1, p.w.cell? ⟨bb, off + i * 9 + 8, none⟩ = some (.int .i64 ri) := bw_cell ((B1.cell (p := ⟨bb, off + i * 9 + 8, none⟩) hbb).trans x8)
  obtain ⟨p1, hp1⟩ : ∃ p : BW W1, p.w = W1 := ⟨BW.start W1, rfl⟩
  rw [← hp1]
  clear hp1
  go_upto_region 4 with (fail)
  obtain ⟨W2, hW2⟩ : ∃ W, W = p1.w.alloc (.cells #[.int .i64 n1, .int .i64 n2, .int .i64 n3, .int .i64 n4, .int .i64 n5, .int .i64 n6, .int .i64 fi, .int .i64 co, .int .i64 ri] 43) := ⟨_, rfl⟩
  have B2 : Below w.heap.size w W2 := by rw [hW2]; exact (bw_below B1 p1).alloc (bw_below B1 p1).size _
  have l_d : g_r < p1.w.heap.size := (k_r.below p1.h).lt
  have o_d : w.heap.size ≤ p1.w.heap.size := (bw_below B1 p1).size
  have k_t := bka hW2 (k_t.below p1.h)
  have k_r := bka hW2 (k_r.below p1.h)
  have k_d := bkn hW2
  rw [← hW2]
  clear hW2
  clear B1
  clear c_t_0 c_t_1 c_r_0 c_r_1 c_r_2 c_r_3 c_r_4 c_e0 c_e1 c_e2 c_e3 c_e4 c_e5 c_e6 c_e7 c_e8
  generalize p1.w.heap.size = g_d at *
  obtain ⟨c_t_0, c_t_1⟩ := bwc2 (k_t)
  obtain ⟨c_r_0, c_r_1, c_r_2, c_r_3, c_r_4⟩ := bwc5 (k_r)
  obtain ⟨f_r_0, f_r_1, f_r_2, f_r_3, f_r_4⟩ := bwf5 (k_r)
  obtain ⟨c_d_0, c_d_1, c_d_2, c_d_3, c_d_4, c_d_5, c_d_6, c_d_7, c_d_8⟩ := bwc9 (k_d)
  obtain ⟨p2, hp2⟩ : ∃ p : BW W2, p.w = W2 := ⟨BW.start W2, rfl⟩
  rw [← hp2]
  clear hp2
  clear h1 h2 ht hm hn hi
  go_wp2
  have kr := bkp5 (k_r.below p2.h) (.int .i64 0) (.int .i64 0) (.int .i64 0) (.int .i64 0) (.bool false)
  obtain ⟨rc0, rc1, rc2, rc3, rc4⟩ := rwc5 kr
  exact bodyPost_ret (v := .agg #[.int .i64 0, .int .i64 0, .int .i64 0, .int .i64 0, .bool false]) (by simp [results, Try.results33, go_sem, rc0, rc1, rc2, rc3, rc4]) rfl ⟨rfl, blp5 (bw_below B2 p2) (by omega)⟩

set_option maxRecDepth 100000 in
set_option maxHeartbeats 8000000 in
theorem walk16_w3 (b : Option Addr) (bb off n cap m capo i : Nat) (n1 n2 n3 n4 n5 n6 fi co ri th : Int) (w : World) (hi : i < n) (hbb : bb < w.heap.size) (x0 : w.cell? ⟨bb, off + i * 9, none⟩ = some (.int .i64 n1)) (x1 : w.cell? ⟨bb, off + i * 9 + 1, none⟩ = some (.int .i64 n2)) (x2 : w.cell? ⟨bb, off + i * 9 + 2, none⟩ = some (.int .i64 n3)) (x3 : w.cell? ⟨bb, off + i * 9 + 3, none⟩ = some (.int .i64 n4)) (x4 : w.cell? ⟨bb, off + i * 9 + 4, none⟩ = some (.int .i64 n5)) (x5 : w.cell? ⟨bb, off + i * 9 + 5, none⟩ = some (.int .i64 n6)) (x6 : w.cell? ⟨bb, off + i * 9 + 6, none⟩ = some (.int .i64 fi)) (x7 : w.cell? ⟨bb, off + i * 9 + 7, none⟩ = some (.int .i64 co)) (x8 : w.cell? ⟨bb, off + i * 9 + 8, none⟩ = some (.int .i64 ri)) (hc : ¬ co = 0) (h1 : 0 < co) (h2 : fi = th) (h3 : ¬ ri = 0) (hm : m ≤ 1048576) (hn : n ≤ 1048576) (ht : 0 ≤ th ∧ th ≤ m) :
    Calls Try.prog 33 #[.agg #[.slice (some ⟨bb, off, none⟩) n cap, .slice b m capo], .int .i64 (i : Int), .int .i64 th] w fun en w' => en = .returned (.agg #[.int .i64 0, .int .i64 0, .int .i64 0, .int .i64 0, .bool false]) ∧ Below w.heap.size w w' := by
  have d1 : decide (0 < co) = true := decide_eq_true h1
  have d3 : (ri == 0) = false := by rw [beq_eq_false_iff_ne]; exact h3
  have dc : (co == 0) = false := by rw [beq_eq_false_iff_ne]; exact hc
  subst h2
  have t1 : decide (n ≤ i) = false := decide_eq_false (by omega)
  go_enter Try.func33, Try.ntmps33
  go_upto_region 1 with (fail)
  obtain ⟨W1, hW1⟩ : ∃ W, W = (w.alloc (.cells #[.slice (some ⟨bb, off, none⟩) n cap, .slice b m capo] 25)).alloc (.cells #[.int .i64 0, .int .i64 0, .int .i64 0, .int .i64 0, .bool false] 57) := ⟨_, rfl⟩
  obtain ⟨k_t, k_r, B1⟩ := st2 hW1
  rw [← hW1]
  clear hW1
  have l_r : w.heap.size < w.heap.size + 1 := by omega
  generalize w.heap.size + 1 = g_r at *
  obtain ⟨c_t_0, c_t_1⟩ := bwc2 (k_t)
  obtain ⟨c_r_0, c_r_1, c_r_2, c_r_3, c_r_4⟩ := bwc5 (k_r)
  have c_e0 : ∀ p : BW W1, p.w.cell? ⟨bb, off + i * 9, none⟩ = some (.int .i64 n1) := bw_cell ((B1.cell (p := ⟨bb, off + i * 9, none⟩) hbb).trans x0)
  have c_e1 : ∀ p : BW W1, p.w.cell? ⟨bb, off + i * 9 + 1, none⟩ = some (.int .i64 n2) := bw_cell ((B1.cell (p := ⟨bb, off + i * 9 + 1, none⟩) hbb).trans x1)
  have c_e2 : ∀ p : BW W1, p.w.cell? ⟨bb, off + i * 9 + 2, none⟩ = some (.int .i64 n3) := bw_cell ((B1.cell (p := ⟨bb, off + i * 9 + 2, none⟩) hbb).trans x2)
  have c_e3 : ∀ p : BW W1, p.w.cell? ⟨bb, off + i * 9 + 3, none⟩ = some (.int .i64 n4) := bw_cell ((B1.cell (p := ⟨bb, off + i * 9 + 3, none⟩) hbb).trans x3)
  have c_e4 : ∀ p : BW W1, p.w.cell? ⟨bb, off + i * 9 + 4, none⟩ = some (.int .i64 n5) := bw_cell ((B1.cell (p := ⟨bb, off + i * 9 + 4, none⟩) hbb).trans x4)
  have c_e5 : ∀ p : BW W1, p.w.cell? ⟨bb, off + i * 9 + 5, none⟩ = some (.int .i64 n6) := bw_cell ((B1.cell (p := ⟨bb, off + i * 9 + 5, none⟩) hbb).trans x5)
  have c_e6 : ∀ p : BW W1, p.w.cell? ⟨bb, off + i * 9 + 6, none⟩ = some (.int .i64 fi) := bw_cell ((B1.cell (p := ⟨bb, off + i * 9 + 6, none⟩) hbb).trans x6)
  have c_e7 : ∀ p : BW W1, p.w.cell? ⟨bb, off + i * 9 + 7, none⟩ = some (.int .i64 co) := bw_cell ((B1.cell (p := ⟨bb, off + i * 9 + 7, none⟩) hbb).trans x7)
  have c_e8 : ∀ p : BW W1, p.w.cell? ⟨bb, off + i * 9 + 8, none⟩ = some (.int .i64 ri) := bw_cell ((B1.cell (p := ⟨bb, off + i * 9 + 8, none⟩) hbb).trans x8)
  obtain ⟨p1, hp1⟩ : ∃ p : BW W1, p.w = W1 := ⟨BW.start W1, rfl⟩
  rw [← hp1]
  clear hp1
  go_upto_region 4 with (fail)
  obtain ⟨W2, hW2⟩ : ∃ W, W = p1.w.alloc (.cells #[.int .i64 n1, .int .i64 n2, .int .i64 n3, .int .i64 n4, .int .i64 n5, .int .i64 n6, .int .i64 fi, .int .i64 co, .int .i64 ri] 43) := ⟨_, rfl⟩
  have B2 : Below w.heap.size w W2 := by rw [hW2]; exact (bw_below B1 p1).alloc (bw_below B1 p1).size _
  have l_d : g_r < p1.w.heap.size := (k_r.below p1.h).lt
  have o_d : w.heap.size ≤ p1.w.heap.size := (bw_below B1 p1).size
  have k_t := bka hW2 (k_t.below p1.h)
  have k_r := bka hW2 (k_r.below p1.h)
  have k_d := bkn hW2
  rw [← hW2]
  clear hW2
  clear B1
  clear c_t_0 c_t_1 c_r_0 c_r_1 c_r_2 c_r_3 c_r_4 c_e0 c_e1 c_e2 c_e3 c_e4 c_e5 c_e6 c_e7 c_e8
  generalize p1.w.heap.size = g_d at *
  obtain ⟨c_t_0, c_t_1⟩ := bwc2 (k_t)
  obtain ⟨c_r_0, c_r_1, c_r_2, c_r_3, c_r_4⟩ := bwc5 (k_r)
  obtain ⟨f_r_0, f_r_1, f_r_2, f_r_3, f_r_4⟩ := bwf5 (k_r)
  obtain ⟨c_d_0, c_d_1, c_d_2, c_d_3, c_d_4, c_d_5, c_d_6, c_d_7, c_d_8⟩ := bwc9 (k_d)
  obtain ⟨p2, hp2⟩ : ∃ p : BW W2, p.w = W2 := ⟨BW.start W2, rfl⟩
  rw [← hp2]
  clear hp2
  clear h1 h3 ht hm hn hi
  go_wp2
  have kr := bkp5 (k_r.below p2.h) (.int .i64 0) (.int .i64 0) (.int .i64 0) (.int .i64 0) (.bool false)
  obtain ⟨rc0, rc1, rc2, rc3, rc4⟩ := rwc5 kr
  exact bodyPost_ret (v := .agg #[.int .i64 0, .int .i64 0, .int .i64 0, .int .i64 0, .bool false]) (by simp [results, Try.results33, go_sem, rc0, rc1, rc2, rc3, rc4]) rfl ⟨rfl, blp5 (bw_below B2 p2) (by omega)⟩

set_option maxRecDepth 100000 in
set_option maxHeartbeats 8000000 in
theorem walk16_w4 (b : Option Addr) (bb off n cap m capo i : Nat) (n1 n2 n3 n4 n5 n6 fi co ri th : Int) (w : World) (hi : i < n) (hbb : bb < w.heap.size) (x0 : w.cell? ⟨bb, off + i * 9, none⟩ = some (.int .i64 n1)) (x1 : w.cell? ⟨bb, off + i * 9 + 1, none⟩ = some (.int .i64 n2)) (x2 : w.cell? ⟨bb, off + i * 9 + 2, none⟩ = some (.int .i64 n3)) (x3 : w.cell? ⟨bb, off + i * 9 + 3, none⟩ = some (.int .i64 n4)) (x4 : w.cell? ⟨bb, off + i * 9 + 4, none⟩ = some (.int .i64 n5)) (x5 : w.cell? ⟨bb, off + i * 9 + 5, none⟩ = some (.int .i64 n6)) (x6 : w.cell? ⟨bb, off + i * 9 + 6, none⟩ = some (.int .i64 fi)) (x7 : w.cell? ⟨bb, off + i * 9 + 7, none⟩ = some (.int .i64 co)) (x8 : w.cell? ⟨bb, off + i * 9 + 8, none⟩ = some (.int .i64 ri)) (hc : ¬ co = 0) (h1 : 0 < co) (h2 : fi = th) (h3 : ri = 0) (h4 : ¬ co ≤ m - th) (hm : m ≤ 1048576) (hn : n ≤ 1048576) (ht : 0 ≤ th ∧ th ≤ m) :
    Calls Try.prog 33 #[.agg #[.slice (some ⟨bb, off, none⟩) n cap, .slice b m capo], .int .i64 (i : Int), .int .i64 th] w fun en w' => en = .returned (.agg #[.int .i64 0, .int .i64 0, .int .i64 0, .int .i64 0, .bool false]) ∧ Below w.heap.size w w' := by
  have d1 : decide (0 < co) = true := decide_eq_true h1
  have d4 : decide (co ≤ m - th) = false := decide_eq_false h4
  have vv : wrap64 ((m : Int) - th) = m - th := IntWalk.wrap64_in _ (by omega)
  have VV := Lib.hid vv
  clear vv
  have dc : (co == 0) = false := by rw [beq_eq_false_iff_ne]; exact hc
  subst h2
  subst h3
  have t1 : decide (n ≤ i) = false := decide_eq_false (by omega)
  go_enter Try.func33, Try.ntmps33
  go_upto_region 1 with (fail)
  obtain ⟨W1, hW1⟩ : ∃ W, W = (w.alloc (.cells #[.slice (some ⟨bb, off, none⟩) n cap, .slice b m capo] 25)).alloc (.cells #[.int .i64 0, .int .i64 0, .int .i64 0, .int .i64 0, .bool false] 57) := ⟨_, rfl⟩
  obtain ⟨k_t, k_r, B1⟩ := st2 hW1
  rw [← hW1]
  clear hW1
  have l_r : w.heap.size < w.heap.size + 1 := by omega
  generalize w.heap.size + 1 = g_r at *
  obtain ⟨c_t_0, c_t_1⟩ := bwc2 (k_t)
  obtain ⟨c_r_0, c_r_1, c_r_2, c_r_3, c_r_4⟩ := bwc5 (k_r)
  have c_e0 : ∀ p : BW W1, p.w.cell? ⟨bb, off + i * 9, none⟩ = some (.int .i64 n1) := bw_cell ((B1.cell (p := ⟨bb, off + i * 9, none⟩) hbb).trans x0)
  have c_e1 : ∀ p : BW W1, p.w.cell? ⟨bb, off + i * 9 + 1, none⟩ = some (.int .i64 n2) := bw_cell ((B1.cell (p := ⟨bb, off + i * 9 + 1, none⟩) hbb).trans x1)
  have c_e2 : ∀ p : BW W1, p.w.cell? ⟨bb, off + i * 9 + 2, none⟩ = some (.int .i64 n3) := bw_cell ((B1.cell (p := ⟨bb, off + i * 9 + 2, none⟩) hbb).trans x2)
  have c_e3 : ∀ p : BW W1, p.w.cell? ⟨bb, off + i * 9 + 3, none⟩ = some (.int .i64 n4) := bw_cell ((B1.cell (p := ⟨bb, off + i * 9 + 3, none⟩) hbb).trans x3)
  have c_e4 : ∀ p : BW W1, p.w.cell? ⟨bb, off + i * 9 + 4, none⟩ = some (.int .i64 n5) := bw_cell ((B1.cell (p := ⟨bb, off + i * 9 + 4, none⟩) hbb).trans x4)
  have c_e5 : ∀ p : BW W1, p.w.cell? ⟨bb, off + i * 9 + 5, none⟩ = some (.int .i64 n6) := bw_cell ((B1.cell (p := ⟨bb, off + i * 9 + 5, none⟩) hbb).trans x5)
  have c_e6 : ∀ p : BW W1, p.w.cell? ⟨bb, off + i * 9 + 6, none⟩ = some (.int .i64 fi) := bw_cell ((B1.cell (p := ⟨bb, off + i * 9 + 6, none⟩) hbb).trans x6)
  have c_e7 : ∀ p : BW W1, p.w.cell? ⟨bb, off + i * 9 + 7, none⟩ = some (.int .i64 co) := bw_cell ((B1.cell (p := ⟨bb, off + i * 9 + 7, none⟩) hbb).trans x7)
  have c_e8 : ∀ p : BW W1, p.w.cell? ⟨bb, off + i * 9 + 8, none⟩ = some (.int .i64 0) := bw_cell ((B1.cell (p := ⟨bb, off + i * 9 + 8, none⟩) hbb).trans x8)
  obtain ⟨p1, hp1⟩ : ∃ p : BW W1, p.w = W1 := ⟨BW.start W1, rfl⟩
  rw [← hp1]
  clear hp1
  go_upto_region 4 with (fail)
  obtain ⟨W2, hW2⟩ : ∃ W, W = p1.w.alloc (.cells #[.int .i64 n1, .int .i64 n2, .int .i64 n3, .int .i64 n4, .int .i64 n5, .int .i64 n6, .int .i64 fi, .int .i64 co, .int .i64 0] 43) := ⟨_, rfl⟩
  have B2 : Below w.heap.size w W2 := by rw [hW2]; exact (bw_below B1 p1).alloc (bw_below B1 p1).size _
  have l_d : g_r < p1.w.heap.size := (k_r.below p1.h).lt
  have o_d : w.heap.size ≤ p1.w.heap.size := (bw_below B1 p1).size
  have k_t := bka hW2 (k_t.below p1.h)
  have k_r := bka hW2 (k_r.below p1.h)
  have k_d := bkn hW2
  rw [← hW2]
  clear hW2
  clear B1
  clear c_t_0 c_t_1 c_r_0 c_r_1 c_r_2 c_r_3 c_r_4 c_e0 c_e1 c_e2 c_e3 c_e4 c_e5 c_e6 c_e7 c_e8
  generalize p1.w.heap.size = g_d at *
  obtain ⟨c_t_0, c_t_1⟩ := bwc2 (k_t)
  obtain ⟨c_r_0, c_r_1, c_r_2, c_r_3, c_r_4⟩ := bwc5 (k_r)
  obtain ⟨f_r_0, f_r_1, f_r_2, f_r_3, f_r_4⟩ := bwf5 (k_r)
  obtain ⟨c_d_0, c_d_1, c_d_2, c_d_3, c_d_4, c_d_5, c_d_6, c_d_7, c_d_8⟩ := bwc9 (k_d)
  obtain ⟨p2, hp2⟩ : ∃ p : BW W2, p.w = W2 := ⟨BW.start W2, rfl⟩
  rw [← hp2]
  clear hp2
  clear h1 h4 ht hm hn hi
  have v1 := VV.out
  go_wp2
  have kr := bkp5 (k_r.below p2.h) (.int .i64 0) (.int .i64 0) (.int .i64 0) (.int .i64 0) (.bool false)
  obtain ⟨rc0, rc1, rc2, rc3, rc4⟩ := rwc5 kr
  exact bodyPost_ret (v := .agg #[.int .i64 0, .int .i64 0, .int .i64 0, .int .i64 0, .bool false]) (by simp [results, Try.results33, go_sem, rc0, rc1, rc2, rc3, rc4]) rfl ⟨rfl, blp5 (bw_below B2 p2) (by omega)⟩

set_option maxRecDepth 100000 in
set_option maxHeartbeats 8000000 in
theorem walk16_w5 (b : Option Addr) (bb off n cap m capo i : Nat) (n1 n2 n3 n4 n5 n6 fi co ri th : Int) (w : World) (hi : i < n) (hbb : bb < w.heap.size) (x0 : w.cell? ⟨bb, off + i * 9, none⟩ = some (.int .i64 n1)) (x1 : w.cell? ⟨bb, off + i * 9 + 1, none⟩ = some (.int .i64 n2)) (x2 : w.cell? ⟨bb, off + i * 9 + 2, none⟩ = some (.int .i64 n3)) (x3 : w.cell? ⟨bb, off + i * 9 + 3, none⟩ = some (.int .i64 n4)) (x4 : w.cell? ⟨bb, off + i * 9 + 4, none⟩ = some (.int .i64 n5)) (x5 : w.cell? ⟨bb, off + i * 9 + 5, none⟩ = some (.int .i64 n6)) (x6 : w.cell? ⟨bb, off + i * 9 + 6, none⟩ = some (.int .i64 fi)) (x7 : w.cell? ⟨bb, off + i * 9 + 7, none⟩ = some (.int .i64 co)) (x8 : w.cell? ⟨bb, off + i * 9 + 8, none⟩ = some (.int .i64 ri)) (hc : ¬ co = 0) (h1 : 0 < co) (h2 : fi = th) (h3 : ri = 0) (h4 : co ≤ m - th) (hm : m ≤ 1048576) (hn : n ≤ 1048576) (ht : 0 ≤ th ∧ th ≤ m) :
    Calls Try.prog 33 #[.agg #[.slice (some ⟨bb, off, none⟩) n cap, .slice b m capo], .int .i64 (i : Int), .int .i64 th] w fun en w' => en = .returned (.agg #[.int .i64 ((i : Int) + 1), .int .i64 (th + co), .int .i64 1, .int .i64 1, .bool true]) ∧ Below w.heap.size w w' := by
  have d1 : decide (0 < co) = true := decide_eq_true h1
  have d4 : decide (co ≤ m - th) = true := decide_eq_true h4
  have vv : wrap64 ((m : Int) - th) = m - th ∧ wrap64 (th + co) = th + co ∧ wrap64 ((i : Int) + 1) = (i : Int) + 1 := ⟨IntWalk.wrap64_in _ (by omega), IntWalk.wrap64_in _ (by omega), IntWalk.wrap64_in _ (by omega)⟩
  have VV := Lib.hid vv
  clear vv
  have dc : (co == 0) = false := by rw [beq_eq_false_iff_ne]; exact hc
  subst h2
  subst h3
  have t1 : decide (n ≤ i) = false := decide_eq_false (by omega)
  go_enter Try.func33, Try.ntmps33
  go_upto_region 1 with (fail)
  obtain ⟨W1, hW1⟩ : ∃ W, W = (w.alloc (.cells #[.slice (some ⟨bb, off, none⟩) n cap, .slice b m capo] 25)).alloc (.cells #[.int .i64 0, .int .i64 0, .int .i64 0, .int .i64 0, .bool false] 57) := ⟨_, rfl⟩
  obtain ⟨k_t, k_r, B1⟩ := st2 hW1
  rw [← hW1]
  clear hW1
  have l_r : w.heap.size < w.heap.size + 1 := by omega
  generalize w.heap.size + 1 = g_r at *
  obtain ⟨c_t_0, c_t_1⟩ := bwc2 (k_t)
  obtain ⟨c_r_0, c_r_1, c_r_2, c_r_3, c_r_4⟩ := bwc5 (k_r)
  have c_e0 : ∀ p : BW W1, p.w.cell? ⟨bb, off + i * 9, none⟩ = some (.int .i64 n1) := bw_cell ((B1.cell (p := ⟨bb, off + i * 9, none⟩) hbb).trans x0)
  have c_e1 : ∀ p : BW W1, p.w.cell? ⟨bb, off + i * 9 + 1, none⟩ = some (.int .i64 n2) := bw_cell ((B1.cell (p := ⟨bb, off + i * 9 + 1, none⟩) hbb).trans x1)
  have c_e2 : ∀ p : BW W1, p.w.cell? ⟨bb, off + i * 9 + 2, none⟩ = some (.int .i64 n3) := bw_cell ((B1.cell (p := ⟨bb, off + i * 9 + 2, none⟩) hbb).trans x2)
  have c_e3 : ∀ p : BW W1, p.w.cell? ⟨bb, off + i * 9 + 3, none⟩ = some (.int .i64 n4) := bw_cell ((B1.cell (p := ⟨bb, off + i * 9 + 3, none⟩) hbb).trans x3)
  have c_e4 : ∀ p : BW W1, p.w.cell? ⟨bb, off + i * 9 + 4, none⟩ = some (.int .i64 n5) := bw_cell ((B1.cell (p := ⟨bb, off + i * 9 + 4, none⟩) hbb).trans x4)
  have c_e5 : ∀ p : BW W1, p.w.cell? ⟨bb, off + i * 9 + 5, none⟩ = some (.int .i64 n6) := bw_cell ((B1.cell (p := ⟨bb, off + i * 9 + 5, none⟩) hbb).trans x5)
  have c_e6 : ∀ p : BW W1, p.w.cell? ⟨bb, off + i * 9 + 6, none⟩ = some (.int .i64 fi) := bw_cell ((B1.cell (p := ⟨bb, off + i * 9 + 6, none⟩) hbb).trans x6)
  have c_e7 : ∀ p : BW W1, p.w.cell? ⟨bb, off + i * 9 + 7, none⟩ = some (.int .i64 co) := bw_cell ((B1.cell (p := ⟨bb, off + i * 9 + 7, none⟩) hbb).trans x7)
  have c_e8 : ∀ p : BW W1, p.w.cell? ⟨bb, off + i * 9 + 8, none⟩ = some (.int .i64 0) := bw_cell ((B1.cell (p := ⟨bb, off + i * 9 + 8, none⟩) hbb).trans x8)
  obtain ⟨p1, hp1⟩ : ∃ p : BW W1, p.w = W1 := ⟨BW.start W1, rfl⟩
  rw [← hp1]
  clear hp1
  go_upto_region 4 with (fail)
  obtain ⟨W2, hW2⟩ : ∃ W, W = p1.w.alloc (.cells #[.int .i64 n1, .int .i64 n2, .int .i64 n3, .int .i64 n4, .int .i64 n5, .int .i64 n6, .int .i64 fi, .int .i64 co, .int .i64 0] 43) := ⟨_, rfl⟩
  have B2 : Below w.heap.size w W2 := by rw [hW2]; exact (bw_below B1 p1).alloc (bw_below B1 p1).size _
  have l_d : g_r < p1.w.heap.size := (k_r.below p1.h).lt
  have o_d : w.heap.size ≤ p1.w.heap.size := (bw_below B1 p1).size
  have k_t := bka hW2 (k_t.below p1.h)
  have k_r := bka hW2 (k_r.below p1.h)
  have k_d := bkn hW2
  rw [← hW2]
  clear hW2
  clear B1
  clear c_t_0 c_t_1 c_r_0 c_r_1 c_r_2 c_r_3 c_r_4 c_e0 c_e1 c_e2 c_e3 c_e4 c_e5 c_e6 c_e7 c_e8
  generalize p1.w.heap.size = g_d at *
  obtain ⟨c_t_0, c_t_1⟩ := bwc2 (k_t)
  obtain ⟨c_r_0, c_r_1, c_r_2, c_r_3, c_r_4⟩ := bwc5 (k_r)
  obtain ⟨f_r_0, f_r_1, f_r_2, f_r_3, f_r_4⟩ := bwf5 (k_r)
  obtain ⟨c_d_0, c_d_1, c_d_2, c_d_3, c_d_4, c_d_5, c_d_6, c_d_7, c_d_8⟩ := bwc9 (k_d)
  obtain ⟨p2, hp2⟩ : ∃ p : BW W2, p.w = W2 := ⟨BW.start W2, rfl⟩
  rw [← hp2]
  clear hp2
  clear h1 h4 ht hm hn hi
  obtain ⟨v1, v2, v3⟩ := VV.out
  go_wp2
  have kr := bkp5 (k_r.below p2.h) (.int .i64 ((i : Int) + 1)) (.int .i64 (fi + co)) (.int .i64 1) (.int .i64 1) (.bool true)
  obtain ⟨rc0, rc1, rc2, rc3, rc4⟩ := rwc5 kr
  exact bodyPost_ret (v := .agg #[.int .i64 ((i : Int) + 1), .int .i64 (fi + co), .int .i64 1, .int .i64 1, .bool true]) (by simp [results, Try.results33, go_sem, rc0, rc1, rc2, rc3, rc4]) rfl ⟨rfl, blp5 (bw_below B2 p2) (by omega)⟩

set_option maxRecDepth 100000 in
set_option maxHeartbeats 8000000 in
theorem walk16_n1 (b : Option Addr) (bb off n cap m capo i : Nat) (n1 n2 n3 n4 n5 n6 fi co ri th : Int) (w : World) (hi : i < n) (hbb : bb < w.heap.size) (x0 : w.cell? ⟨bb, off + i * 9, none⟩ = some (.int .i64 n1)) (x1 : w.cell? ⟨bb, off + i * 9 + 1, none⟩ = some (.int .i64 n2)) (x2 : w.cell? ⟨bb, off + i * 9 + 2, none⟩ = some (.int .i64 n3)) (x3 : w.cell? ⟨bb, off + i * 9 + 3, none⟩ = some (.int .i64 n4)) (x4 : w.cell? ⟨bb, off + i * 9 + 4, none⟩ = some (.int .i64 n5)) (x5 : w.cell? ⟨bb, off + i * 9 + 5, none⟩ = some (.int .i64 n6)) (x6 : w.cell? ⟨bb, off + i * 9 + 6, none⟩ = some (.int .i64 fi)) (x7 : w.cell? ⟨bb, off + i * 9 + 7, none⟩ = some (.int .i64 co)) (x8 : w.cell? ⟨bb, off + i * 9 + 8, none⟩ = some (.int .i64 ri)) (hc : co = 0) (hf : ¬ fi = 0) (hn : n ≤ 1048576) :
    Calls Try.prog 33 #[.agg #[.slice (some ⟨bb, off, none⟩) n cap, .slice b m capo], .int .i64 (i : Int), .int .i64 th] w fun en w' => en = .returned (.agg #[.int .i64 0, .int .i64 0, .int .i64 0, .int .i64 0, .bool false]) ∧ Below w.heap.size w w' := by
  subst hc
  have t1 : decide (n ≤ i) = false := decide_eq_false (by omega)
  go_enter Try.func33, Try.ntmps33
  go_upto_region 1 with (fail)
  obtain ⟨W1, hW1⟩ : ∃ W, W = (w.alloc (.cells #[.slice (some ⟨bb, off, none⟩) n cap, .slice b m capo] 25)).alloc (.cells #[.int .i64 0, .int .i64 0, .int .i64 0, .int .i64 0, .bool false] 57) := ⟨_, rfl⟩
  obtain ⟨k_t, k_r, B1⟩ := st2 hW1
  rw [← hW1]
  clear hW1
  have l_r : w.heap.size < w.heap.size + 1 := by omega
  generalize w.heap.size + 1 = g_r at *
  obtain ⟨c_t_0, c_t_1⟩ := bwc2 (k_t)
  obtain ⟨c_r_0, c_r_1, c_r_2, c_r_3, c_r_4⟩ := bwc5 (k_r)
  have c_e0 : ∀ p : BW W1, p.w.cell? ⟨bb, off + i * 9, none⟩ = some (.int .i64 n1) := bw_cell ((B1.cell (p := ⟨bb, off + i * 9, none⟩) hbb).trans x0)
  have c_e1 : ∀ p : BW W1, p.w.cell? ⟨bb, off + i * 9 + 1, none⟩ = some (.int .i64 n2) := bw_cell ((B1.cell (p := ⟨bb, off + i * 9 + 1, none⟩) hbb).trans x1)
  have c_e2 : ∀ p : BW W1, p.w.cell? ⟨bb, off + i * 9 + 2, none⟩ = some (.int .i64 n3) := bw_cell ((B1.cell (p := ⟨bb, off + i * 9 + 2, none⟩) hbb).trans x2)
  have c_e3 : ∀ p : BW W1, p.w.cell? ⟨bb, off + i * 9 + 3, none⟩ = some (.int .i64 n4) := bw_cell ((B1.cell (p := ⟨bb, off + i * 9 + 3, none⟩) hbb).trans x3)
  have c_e4 : ∀ p : BW W1, p.w.cell? ⟨bb, off + i * 9 + 4, none⟩ = some (.int .i64 n5) := bw_cell ((B1.cell (p := ⟨bb, off + i * 9 + 4, none⟩) hbb).trans x4)
  have c_e5 : ∀ p : BW W1, p.w.cell? ⟨bb, off + i * 9 + 5, none⟩ = some (.int .i64 n6) := bw_cell ((B1.cell (p := ⟨bb, off + i * 9 + 5, none⟩) hbb).trans x5)
  have c_e6 : ∀ p : BW W1, p.w.cell? ⟨bb, off + i * 9 + 6, none⟩ = some (.int .i64 fi) := bw_cell ((B1.cell (p := ⟨bb, off + i * 9 + 6, none⟩) hbb).trans x6)
  have c_e7 : ∀ p : BW W1, p.w.cell? ⟨bb, off + i * 9 + 7, none⟩ = some (.int .i64 0) := bw_cell ((B1.cell (p := ⟨bb, off + i * 9 + 7, none⟩) hbb).trans x7)
  have c_e8 : ∀ p : BW W1, p.w.cell? ⟨bb, off + i * 9 + 8, none⟩ = some (.int .i64 ri) := bw_cell ((B1.cell (p := ⟨bb, off + i * 9 + 8, none⟩) hbb).trans x8)
  obtain ⟨p1, hp1⟩ : ∃ p : BW W1, p.w = W1 := ⟨BW.start W1, rfl⟩
  rw [← hp1]
  clear hp1
  go_upto_region 4 with (fail)
  obtain ⟨W2, hW2⟩ : ∃ W, W = p1.w.alloc (.cells #[.int .i64 n1, .int .i64 n2, .int .i64 n3, .int .i64 n4, .int .i64 n5, .int .i64 n6, .int .i64 fi, .int .i64 0, .int .i64 ri] 43) := ⟨_, rfl⟩
  have B2 : Below w.heap.size w W2 := by rw [hW2]; exact (bw_below B1 p1).alloc (bw_below B1 p1).size _
  have l_d : g_r < p1.w.heap.size := (k_r.below p1.h).lt
  have o_d : w.heap.size ≤ p1.w.heap.size := (bw_below B1 p1).size
  have k_t := bka hW2 (k_t.below p1.h)
  have k_r := bka hW2 (k_r.below p1.h)
  have k_d := bkn hW2
  rw [← hW2]
  clear hW2
  clear B1
  clear c_t_0 c_t_1 c_r_0 c_r_1 c_r_2 c_r_3 c_r_4 c_e0 c_e1 c_e2 c_e3 c_e4 c_e5 c_e6 c_e7 c_e8
  generalize p1.w.heap.size = g_d at *
  obtain ⟨c_t_0, c_t_1⟩ := bwc2 (k_t)
  obtain ⟨c_r_0, c_r_1, c_r_2, c_r_3, c_r_4⟩ := bwc5 (k_r)
  obtain ⟨f_r_0, f_r_1, f_r_2, f_r_3, f_r_4⟩ := bwf5 (k_r)
  obtain ⟨c_d_0, c_d_1, c_d_2, c_d_3, c_d_4, c_d_5, c_d_6, c_d_7, c_d_8⟩ := bwc9 (k_d)
  obtain ⟨p2, hp2⟩ : ∃ p : BW W2, p.w = W2 := ⟨BW.start W2, rfl⟩
  rw [← hp2]
  clear hp2
  clear hn hi
  go_wp2
  have kr := bkp5 (k_r.below p2.h) (.int .i64 0) (.int .i64 0) (.int .i64 0) (.int .i64 0) (.bool false)
  obtain ⟨rc0, rc1, rc2, rc3, rc4⟩ := rwc5 kr
  exact bodyPost_ret (v := .agg #[.int .i64 0, .int .i64 0, .int .i64 0, .int .i64 0, .bool false]) (by simp [results, Try.results33, go_sem, rc0, rc1, rc2, rc3, rc4]) rfl ⟨rfl, blp5 (bw_below B2 p2) (by omega)⟩

set_option maxRecDepth 100000 in
set_option maxHeartbeats 8000000 in
theorem walk16_n2 (b : Option Addr) (bb off n cap m capo i : Nat) (n1 n2 n3 n4 n5 n6 fi co ri th s1 s2 s3 s4 : Int) (w : World) (hi : i < n) (hbb : bb < w.heap.size) (x0 : w.cell? ⟨bb, off + i * 9, none⟩ = some (.int .i64 n1)) (x1 : w.cell? ⟨bb, off + i * 9 + 1, none⟩ = some (.int .i64 n2)) (x2 : w.cell? ⟨bb, off + i * 9 + 2, none⟩ = some (.int .i64 n3)) (x3 : w.cell? ⟨bb, off + i * 9 + 3, none⟩ = some (.int .i64 n4)) (x4 : w.cell? ⟨bb, off + i * 9 + 4, none⟩ = some (.int .i64 n5)) (x5 : w.cell? ⟨bb, off + i * 9 + 5, none⟩ = some (.int .i64 n6)) (x6 : w.cell? ⟨bb, off + i * 9 + 6, none⟩ = some (.int .i64 fi)) (x7 : w.cell? ⟨bb, off + i * 9 + 7, none⟩ = some (.int .i64 co)) (x8 : w.cell? ⟨bb, off + i * 9 + 8, none⟩ = some (.int .i64 ri)) (hc : co = 0) (hf : fi = 0) (K1 : Hid (∀ X, Below w.heap.size w X → Calls Try.prog 33 #[.agg #[.slice (some ⟨bb, off, none⟩) n cap, .slice b m capo], .int .i64 ((i : Int) + 1), .int .i64 th] X fun e w' => e = .returned (.agg #[.int .i64 s1, .int .i64 s2, .int .i64 s3, .int .i64 s4, .bool false]) ∧ Below X.heap.size X w')) (hn : n ≤ 1048576) :
    Calls Try.prog 33 #[.agg #[.slice (some ⟨bb, off, none⟩) n cap, .slice b m capo], .int .i64 (i : Int), .int .i64 th] w fun en w' => en = .returned (.agg #[.int .i64 0, .int .i64 0, .int .i64 0, .int .i64 0, .bool false]) ∧ Below w.heap.size w w' := by
  subst hc
  subst hf
  have t1 : decide (n ≤ i) = false := decide_eq_false (by omega)
  go_enter Try.func33, Try.ntmps33
  go_upto_region 1 with (fail)
  obtain ⟨W1, hW1⟩ : ∃ W, W = (w.alloc (.cells #[.slice (some ⟨bb, off, none⟩) n cap, .slice b m capo] 25)).alloc (.cells #[.int .i64 0, .int .i64 0, .int .i64 0, .int .i64 0, .bool false] 57) := ⟨_, rfl⟩
  obtain ⟨k_t, k_r, B1⟩ := st2 hW1
  rw [← hW1]
  clear hW1
  have l_r : w.heap.size < w.heap.size + 1 := by omega
  generalize w.heap.size + 1 = g_r at *
  obtain ⟨c_t_0, c_t_1⟩ := bwc2 (k_t)
  obtain ⟨c_r_0, c_r_1, c_r_2, c_r_3, c_r_4⟩ := bwc5 (k_r)
  have c_e0 : ∀ p : BW W1, p.w.cell? ⟨bb, off + i * 9, none⟩ = some (.int .i64 n1) := bw_cell ((B1.cell (p := ⟨bb, off + i * 9, none⟩) hbb).trans x0)
  have c_e1 : ∀ p : BW W1, p.w.cell? ⟨bb, off + i * 9 + 1, none⟩ = some (.int .i64 n2) := bw_cell ((B1.cell (p := ⟨bb, off + i * 9 + 1, none⟩) hbb).trans x1)
  have c_e2 : ∀ p : BW W1, p.w.cell? ⟨bb, off + i * 9 + 2, none⟩ = some (.int .i64 n3) := bw_cell ((B1.cell (p := ⟨bb, off + i * 9 + 2, none⟩) hbb).trans x2)
  have c_e3 : ∀ p : BW W1, p.w.cell? ⟨bb, off + i * 9 + 3, none⟩ = some (.int .i64 n4) := bw_cell ((B1.cell (p := ⟨bb, off + i * 9 + 3, none⟩) hbb).trans x3)
  have c_e4 : ∀ p : BW W1, p.w.cell? ⟨bb, off + i * 9 + 4, none⟩ = some (.int .i64 n5) := bw_cell ((B1.cell (p := ⟨bb, off + i * 9 + 4, none⟩) hbb).trans x4)
  have c_e5 : ∀ p : BW W1, p.w.cell? ⟨bb, off + i * 9 + 5, none⟩ = some (.int .i64 n6) := bw_cell ((B1.cell (p := ⟨bb, off + i * 9 + 5, none⟩) hbb).trans x5)
  have c_e6 : ∀ p : BW W1, p.w.cell? ⟨bb, off + i * 9 + 6, none⟩ = some (.int .i64 0) := bw_cell ((B1.cell (p := ⟨bb, off + i * 9 + 6, none⟩) hbb).trans x6)
  have c_e7 : ∀ p : BW W1, p.w.cell? ⟨bb, off + i * 9 + 7, none⟩ = some (.int .i64 0) := bw_cell ((B1.cell (p := ⟨bb, off + i * 9 + 7, none⟩) hbb).trans x7)
  have c_e8 : ∀ p : BW W1, p.w.cell? ⟨bb, off + i * 9 + 8, none⟩ = some (.int .i64 ri) := bw_cell ((B1.cell (p := ⟨bb, off + i * 9 + 8, none⟩) hbb).trans x8)
  obtain ⟨p1, hp1⟩ : ∃ p : BW W1, p.w = W1 := ⟨BW.start W1, rfl⟩
  rw [← hp1]
  clear hp1
  go_upto_region 4 with (fail)
  obtain ⟨W2, hW2⟩ : ∃ W, W = p1.w.alloc (.cells #[.int .i64 n1, .int .i64 n2, .int .i64 n3, .int .i64 n4, .int .i64 n5, .int .i64 n6, .int .i64 0, .int .i64 0, .int .i64 ri] 43) := ⟨_, rfl⟩
  have B2 : Below w.heap.size w W2 := by rw [hW2]; exact (bw_below B1 p1).alloc (bw_below B1 p1).size _
  have l_d : g_r < p1.w.heap.size := (k_r.below p1.h).lt
  have o_d : w.heap.size ≤ p1.w.heap.size := (bw_below B1 p1).size
  have k_t := bka hW2 (k_t.below p1.h)
  have k_r := bka hW2 (k_r.below p1.h)
  have k_d := bkn hW2
  rw [← hW2]
  clear hW2
  clear B1
  clear c_t_0 c_t_1 c_r_0 c_r_1 c_r_2 c_r_3 c_r_4 c_e0 c_e1 c_e2 c_e3 c_e4 c_e5 c_e6 c_e7 c_e8
  generalize p1.w.heap.size = g_d at *
  obtain ⟨c_t_0, c_t_1⟩ := bwc2 (k_t)
  obtain ⟨c_r_0, c_r_1, c_r_2, c_r_3, c_r_4⟩ := bwc5 (k_r)
  obtain ⟨f_r_0, f_r_1, f_r_2, f_r_3, f_r_4⟩ := bwf5 (k_r)
  obtain ⟨c_d_0, c_d_1, c_d_2, c_d_3, c_d_4, c_d_5, c_d_6, c_d_7, c_d_8⟩ := bwc9 (k_d)
  obtain ⟨p2, hp2⟩ : ∃ p : BW W2, p.w = W2 := ⟨BW.start W2, rfl⟩
  rw [← hp2]
  clear hp2
  go_upto_region 12 with (go_at_call 33; (with_reducible refine (K1.out _ (bw_below B2 _)).mono ?_); rintro e w1 ⟨rfl, hb⟩; obtain ⟨q, rfl⟩ := bw_take hb)
  obtain ⟨W3, hW3⟩ : ∃ W, W = q.w.alloc (.cells #[.int .i64 s1, .int .i64 s2, .int .i64 s3, .int .i64 s4, .bool false] 57) := ⟨_, rfl⟩
  have B3 : Below w.heap.size w W3 := by rw [hW3]; exact (bw_below B2 q).alloc (bw_below B2 q).size _
  have l_a : g_d < q.w.heap.size := (k_d.below q.h).lt
  have o_a : w.heap.size ≤ q.w.heap.size := (bw_below B2 q).size
  have k_t := bka hW3 (k_t.below q.h)
  have k_r := bka hW3 (k_r.below q.h)
  have k_d := bka hW3 (k_d.below q.h)
  have k_a := bkn hW3
  rw [← hW3]
  clear hW3
  clear B2
  clear c_t_0 c_t_1 c_r_0 c_r_1 c_r_2 c_r_3 c_r_4 f_r_0 f_r_1 f_r_2 f_r_3 f_r_4 c_d_0 c_d_1 c_d_2 c_d_3 c_d_4 c_d_5 c_d_6 c_d_7 c_d_8
  generalize q.w.heap.size = g_a at *
  obtain ⟨c_t_0, c_t_1⟩ := bwc2 (k_t)
  obtain ⟨c_r_0, c_r_1, c_r_2, c_r_3, c_r_4⟩ := bwc5 (k_r)
  obtain ⟨f_r_0, f_r_1, f_r_2, f_r_3, f_r_4⟩ := bwf5 (k_r)
  obtain ⟨c_d_0, c_d_1, c_d_2, c_d_3, c_d_4, c_d_5, c_d_6, c_d_7, c_d_8⟩ := bwc9 (k_d)
  obtain ⟨c_a_0, c_a_1, c_a_2, c_a_3, c_a_4⟩ := bwc5 (k_a)
  obtain ⟨p3, hp3⟩ : ∃ p : BW W3, p.w = W3 := ⟨BW.start W3, rfl⟩
  rw [← hp3]
  clear hp3
  go_wp2
  have kr := bkp5 (k_r.below p3.h) (.int .i64 0) (.int .i64 0) (.int .i64 0) (.int .i64 0) (.bool false)
  obtain ⟨rc0, rc1, rc2, rc3, rc4⟩ := rwc5 kr
  exact bodyPost_ret (v := .agg #[.int .i64 0, .int .i64 0, .int .i64 0, .int .i64 0, .bool false]) (by simp [results, Try.results33, go_sem, rc0, rc1, rc2, rc3, rc4]) rfl ⟨rfl, blp5 (bw_below B3 p3) (by omega)⟩

set_option maxRecDepth 100000 in
set_option maxHeartbeats 8000000 in
theorem walk16_n3 (b : Option Addr) (bb off n cap m capo i : Nat) (n1 n2 n3 n4 n5 n6 fi co ri th s1 s2 s3 s4 : Int) (w : World) (hi : i < n) (hbb : bb < w.heap.size) (x0 : w.cell? ⟨bb, off + i * 9, none⟩ = some (.int .i64 n1)) (x1 : w.cell? ⟨bb, off + i * 9 + 1, none⟩ = some (.int .i64 n2)) (x2 : w.cell? ⟨bb, off + i * 9 + 2, none⟩ = some (.int .i64 n3)) (x3 : w.cell? ⟨bb, off + i * 9 + 3, none⟩ = some (.int .i64 n4)) (x4 : w.cell? ⟨bb, off + i * 9 + 4, none⟩ = some (.int .i64 n5)) (x5 : w.cell? ⟨bb, off + i * 9 + 5, none⟩ = some (.int .i64 n6)) (x6 : w.cell? ⟨bb, off + i * 9 + 6, none⟩ = some (.int .i64 fi)) (x7 : w.cell? ⟨bb, off + i * 9 + 7, none⟩ = some (.int .i64 co)) (x8 : w.cell? ⟨bb, off + i * 9 + 8, none⟩ = some (.int .i64 ri)) (hc : co = 0) (hf : fi = 0) (K1 : Hid (∀ X, Below w.heap.size w X → Calls Try.prog 33 #[.agg #[.slice (some ⟨bb, off, none⟩) n cap, .slice b m capo], .int .i64 ((i : Int) + 1), .int .i64 th] X fun e w' => e = .returned (.agg #[.int .i64 s1, .int .i64 s2, .int .i64 s3, .int .i64 s4, .bool true]) ∧ Below X.heap.size X w')) (hr : ¬ ri = s1) (hn : n ≤ 1048576) :
    Calls Try.prog 33 #[.agg #[.slice (some ⟨bb, off, none⟩) n cap, .slice b m capo], .int .i64 (i : Int), .int .i64 th] w fun en w' => en = .returned (.agg #[.int .i64 0, .int .i64 0, .int .i64 0, .int .i64 0, .bool false]) ∧ Below w.heap.size w w' := by
  subst hc
  subst hf
  have dr : (ri == s1) = false := by rw [beq_eq_false_iff_ne]; exact hr
  have t1 : decide (n ≤ i) = false := decide_eq_false (by omega)
  go_enter Try.func33, Try.ntmps33
  go_upto_region 1 with (fail)
  obtain ⟨W1, hW1⟩ : ∃ W, W = (w.alloc (.cells #[.slice (some ⟨bb, off, none⟩) n cap, .slice b m capo] 25)).alloc (.cells #[.int .i64 0, .int .i64 0, .int .i64 0, .int .i64 0, .bool false] 57) := ⟨_, rfl⟩
  obtain ⟨k_t, k_r, B1⟩ := st2 hW1
  rw [← hW1]
  clear hW1
  have l_r : w.heap.size < w.heap.size + 1 := by omega
  generalize w.heap.size + 1 = g_r at *
  obtain ⟨c_t_0, c_t_1⟩ := bwc2 (k_t)
  obtain ⟨c_r_0, c_r_1, c_r_2, c_r_3, c_r_4⟩ := bwc5 (k_r)
  have c_e0 : ∀ p : BW W1, p.w.cell? ⟨bb, off + i * 9, none⟩ = some (.int .i64 n1) := bw_cell ((B1.cell (p := ⟨bb, off + i * 9, none⟩) hbb).trans x0)
  have c_e1 : ∀ p : BW W1, p.w.cell? ⟨bb, off + i * 9 + 1, none⟩ = some (.int .i64 n2) := bw_cell ((B1.cell (p := ⟨bb, off + i * 9 + 1, none⟩) hbb).trans x1)
  have c_e2 : ∀ p : BW W1, p.w.cell? ⟨bb, off + i * 9 + 2, none⟩ = some (.int .i64 n3) := bw_cell ((B1.cell (p := ⟨bb, off + i * 9 + 2, none⟩) hbb).trans x2)
  have c_e3 : ∀ p : BW W1, p.w.cell? ⟨bb, off + i * 9 + 3, none⟩ = some (.int .i64 n4) := bw_cell ((B1.cell (p := ⟨bb, off + i * 9 + 3, none⟩) hbb).trans x3)
  have c_e4 : ∀ p : BW W1, p.w.cell? ⟨bb, off + i * 9 + 4, none⟩ = some (.int .i64 n5) := bw_cell ((B1.cell (p := ⟨bb, off + i * 9 + 4, none⟩) hbb).trans x4)
  have c_e5 : ∀ p : BW W1, p.w.cell? ⟨bb, off + i * 9 + 5, none⟩ = some (.int .i64 n6) := bw_cell ((B1.cell (p := ⟨bb, off + i * 9 + 5, none⟩) hbb).trans x5)
  have c_e6 : ∀ p : BW W1, p.w.cell? ⟨bb, off + i * 9 + 6, none⟩ = some (.int .i64 0) := bw_cell ((B1.cell (p := ⟨bb, off + i * 9 + 6, none⟩) hbb).trans x6)
  have c_e7 : ∀ p : BW W1, p.w.cell? ⟨bb, off + i * 9 + 7, none⟩ = some (.int .i64 0) := bw_cell ((B1.cell (p := ⟨bb, off + i * 9 + 7, none⟩) hbb).trans x7)
  have c_e8 : ∀ p : BW W1, p.w.cell? ⟨bb, off + i * 9 + 8, none⟩ = some (.int .i64 ri) := bw_cell ((B1.cell (p := ⟨bb, off + i * 9 + 8, none⟩) hbb).trans x8)
  obtain ⟨p1, hp1⟩ : ∃ p : BW W1, p.w = W1 := ⟨BW.start W1, rfl⟩
  rw [← hp1]
  clear hp1
  go_upto_region 4 with (fail)
  obtain ⟨W2, hW2⟩ : ∃ W, W = p1.w.alloc (.cells #[.int .i64 n1, .int .i64 n2, .int .i64 n3, .int .i64 n4, .int .i64 n5, .int .i64 n6, .int .i64 0, .int .i64 0, .int .i64 ri] 43) := ⟨_, rfl⟩
  have B2 : Below w.heap.size w W2 := by rw [hW2]; exact (bw_below B1 p1).alloc (bw_below B1 p1).size _
  have l_d : g_r < p1.w.heap.size := (k_r.below p1.h).lt
  have o_d : w.heap.size ≤ p1.w.heap.size := (bw_below B1 p1).size
  have k_t := bka hW2 (k_t.below p1.h)
  have k_r := bka hW2 (k_r.below p1.h)
  have k_d := bkn hW2
  rw [← hW2]
  clear hW2
  clear B1
  clear c_t_0 c_t_1 c_r_0 c_r_1 c_r_2 c_r_3 c_r_4 c_e0 c_e1 c_e2 c_e3 c_e4 c_e5 c_e6 c_e7 c_e8
  generalize p1.w.heap.size = g_d at *
  obtain ⟨c_t_0, c_t_1⟩ := bwc2 (k_t)
  obtain ⟨c_r_0, c_r_1, c_r_2, c_r_3, c_r_4⟩ := bwc5 (k_r)
  obtain ⟨f_r_0, f_r_1, f_r_2, f_r_3, f_r_4⟩ := bwf5 (k_r)
  obtain ⟨c_d_0, c_d_1, c_d_2, c_d_3, c_d_4, c_d_5, c_d_6, c_d_7, c_d_8⟩ := bwc9 (k_d)
  obtain ⟨p2, hp2⟩ : ∃ p : BW W2, p.w = W2 := ⟨BW.start W2, rfl⟩
  rw [← hp2]
  clear hp2
  go_upto_region 12 with (go_at_call 33; (with_reducible refine (K1.out _ (bw_below B2 _)).mono ?_); rintro e w1 ⟨rfl, hb⟩; obtain ⟨q, rfl⟩ := bw_take hb)
  obtain ⟨W3, hW3⟩ : ∃ W, W = q.w.alloc (.cells #[.int .i64 s1, .int .i64 s2, .int .i64 s3, .int .i64 s4, .bool true] 57) := ⟨_, rfl⟩
  have B3 : Below w.heap.size w W3 := by rw [hW3]; exact (bw_below B2 q).alloc (bw_below B2 q).size _
  have l_a : g_d < q.w.heap.size := (k_d.below q.h).lt
  have o_a : w.heap.size ≤ q.w.heap.size := (bw_below B2 q).size
  have k_t := bka hW3 (k_t.below q.h)
  have k_r := bka hW3 (k_r.below q.h)
  have k_d := bka hW3 (k_d.below q.h)
  have k_a := bkn hW3
  rw [← hW3]
  clear hW3
  clear B2
  clear c_t_0 c_t_1 c_r_0 c_r_1 c_r_2 c_r_3 c_r_4 f_r_0 f_r_1 f_r_2 f_r_3 f_r_4 c_d_0 c_d_1 c_d_2 c_d_3 c_d_4 c_d_5 c_d_6 c_d_7 c_d_8
  generalize q.w.heap.size = g_a at *
  obtain ⟨c_t_0, c_t_1⟩ := bwc2 (k_t)
  obtain ⟨c_r_0, c_r_1, c_r_2, c_r_3, c_r_4⟩ := bwc5 (k_r)
  obtain ⟨f_r_0, f_r_1, f_r_2, f_r_3, f_r_4⟩ := bwf5 (k_r)
  obtain ⟨c_d_0, c_d_1, c_d_2, c_d_3, c_d_4, c_d_5, c_d_6, c_d_7, c_d_8⟩ := bwc9 (k_d)
  obtain ⟨c_a_0, c_a_1, c_a_2, c_a_3, c_a_4⟩ := bwc5 (k_a)
  obtain ⟨p3, hp3⟩ : ∃ p : BW W3, p.w = W3 := ⟨BW.start W3, rfl⟩
  rw [← hp3]
  clear hp3
  go_wp2
  have kr := bkp5 (k_r.below p3.h) (.int .i64 0) (.int .i64 0) (.int .i64 0) (.int .i64 0) (.bool false)
  obtain ⟨rc0, rc1, rc2, rc3, rc4⟩ := rwc5 kr
  exact bodyPost_ret (v := .agg #[.int .i64 0, .int .i64 0, .int .i64 0, .int .i64 0, .bool false]) (by simp [results, Try.results33, go_sem, rc0, rc1, rc2, rc3, rc4]) rfl ⟨rfl, blp5 (bw_below B3 p3) (by omega)⟩

set_option maxRecDepth 100000 in
set_option maxHeartbeats 8000000 in
theorem walk16_n4 (b : Option Addr) (bb off n cap m capo i : Nat) (n1 n2 n3 n4 n5 n6 fi co ri th s1 s2 s3 s4 u1 u2 u3 u4 : Int) (w : World) (hi : i < n) (hbb : bb < w.heap.size) (x0 : w.cell? ⟨bb, off + i * 9, none⟩ = some (.int .i64 n1)) (x1 : w.cell? ⟨bb, off + i * 9 + 1, none⟩ = some (.int .i64 n2)) (x2 : w.cell? ⟨bb, off + i * 9 + 2, none⟩ = some (.int .i64 n3)) (x3 : w.cell? ⟨bb, off + i * 9 + 3, none⟩ = some (.int .i64 n4)) (x4 : w.cell? ⟨bb, off + i * 9 + 4, none⟩ = some (.int .i64 n5)) (x5 : w.cell? ⟨bb, off + i * 9 + 5, none⟩ = some (.int .i64 n6)) (x6 : w.cell? ⟨bb, off + i * 9 + 6, none⟩ = some (.int .i64 fi)) (x7 : w.cell? ⟨bb, off + i * 9 + 7, none⟩ = some (.int .i64 co)) (x8 : w.cell? ⟨bb, off + i * 9 + 8, none⟩ = some (.int .i64 ri)) (hc : co = 0) (hf : fi = 0) (K1 : Hid (∀ X, Below w.heap.size w X → Calls Try.prog 33 #[.agg #[.slice (some ⟨bb, off, none⟩) n cap, .slice b m capo], .int .i64 ((i : Int) + 1), .int .i64 th] X fun e w' => e = .returned (.agg #[.int .i64 s1, .int .i64 s2, .int .i64 s3, .int .i64 s4, .bool true]) ∧ Below X.heap.size X w')) (hr : ri = s1) (K2 : Hid (∀ X, Below w.heap.size w X → Calls Try.prog 33 #[.agg #[.slice (some ⟨bb, off, none⟩) n cap, .slice b m capo], .int .i64 (s1), .int .i64 s2] X fun e w' => e = .returned (.agg #[.int .i64 u1, .int .i64 u2, .int .i64 u3, .int .i64 u4, .bool false]) ∧ Below X.heap.size X w')) (hn : n ≤ 1048576) :
    Calls Try.prog 33 #[.agg #[.slice (some ⟨bb, off, none⟩) n cap, .slice b m capo], .int .i64 (i : Int), .int .i64 th] w fun en w' => en = .returned (.agg #[.int .i64 0, .int .i64 0, .int .i64 0, .int .i64 0, .bool false]) ∧ Below w.heap.size w w' := by
  subst hc
  subst hf
  subst hr
  have t1 : decide (n ≤ i) = false := decide_eq_false (by omega)
  go_enter Try.func33, Try.ntmps33
  go_upto_region 1 with (fail)
  obtain ⟨W1, hW1⟩ : ∃ W, W = (w.alloc (.cells #[.slice (some ⟨bb, off, none⟩) n cap, .slice b m capo] 25)).alloc (.cells #[.int .i64 0, .int .i64 0, .int .i64 0, .int .i64 0, .bool false] 57) := ⟨_, rfl⟩
  obtain ⟨k_t, k_r, B1⟩ := st2 hW1
  rw [← hW1]
  clear hW1
  have l_r : w.heap.size < w.heap.size + 1 := by omega
  generalize w.heap.size + 1 = g_r at *
  obtain ⟨c_t_0, c_t_1⟩ := bwc2 (k_t)
  obtain ⟨c_r_0, c_r_1, c_r_2, c_r_3, c_r_4⟩ := bwc5 (k_r)
  have c_e0 : ∀ p : BW W1, p.w.cell? ⟨bb, off + i * 9, none⟩ = some (.int .i64 n1) := bw_cell ((B1.cell (p := ⟨bb, off + i * 9, none⟩) hbb).trans x0)
  have c_e1 : ∀ p : BW W1, p.w.cell? ⟨bb, off + i * 9 + 1, none⟩ = some (.int .i64 n2) := bw_cell ((B1.cell (p := ⟨bb, off + i * 9 + 1, none⟩) hbb).trans x1)
  have c_e2 : ∀ p : BW W1, p.w.cell? ⟨bb, off + i * 9 + 2, none⟩ = some (.int .i64 n3) := bw_cell ((B1.cell (p := ⟨bb, off + i * 9 + 2, none⟩) hbb).trans x2)
  have c_e3 : ∀ p : BW W1, p.w.cell? ⟨bb, off + i * 9 + 3, none⟩ = some (.int .i64 n4) := bw_cell ((B1.cell (p := ⟨bb, off + i * 9 + 3, none⟩) hbb).trans x3)
  have c_e4 : ∀ p : BW W1, p.w.cell? ⟨bb, off + i * 9 + 4, none⟩ = some (.int .i64 n5) := bw_cell ((B1.cell (p := ⟨bb, off + i * 9 + 4, none⟩) hbb).trans x4)
  have c_e5 : ∀ p : BW W1, p.w.cell? ⟨bb, off + i * 9 + 5, none⟩ = some (.int .i64 n6) := bw_cell ((B1.cell (p := ⟨bb, off + i * 9 + 5, none⟩) hbb).trans x5)
  have c_e6 : ∀ p : BW W1, p.w.cell? ⟨bb, off + i * 9 + 6, none⟩ = some (.int .i64 0) := bw_cell ((B1.cell (p := ⟨bb, off + i * 9 + 6, none⟩) hbb).trans x6)
  have c_e7 : ∀ p : BW W1, p.w.cell? ⟨bb, off + i * 9 + 7, none⟩ = some (.int .i64 0) := bw_cell ((B1.cell (p := ⟨bb, off + i * 9 + 7, none⟩) hbb).trans x7)
  have c_e8 : ∀ p : BW W1, p.w.cell? ⟨bb, off + i * 9 + 8, none⟩ = some (.int .i64 ri) := bw_cell ((B1.cell (p := ⟨bb, off + i * 9 + 8, none⟩) hbb).trans x8)
  obtain ⟨p1, hp1⟩ : ∃ p : BW W1, p.w = W1 := ⟨BW.start W1, rfl⟩
  rw [← hp1]
  clear hp1
  go_upto_region 4 with (fail)
  obtain ⟨W2, hW2⟩ : ∃ W, W = p1.w.alloc (.cells #[.int .i64 n1, .int .i64 n2, .int .i64 n3, .int .i64 n4, .int .i64 n5, .int .i64 n6, .int .i64 0, .int .i64 0, .int .i64 ri] 43) := ⟨_, rfl⟩
  have B2 : Below w.heap.size w W2 := by rw [hW2]; exact (bw_below B1 p1).alloc (bw_below B1 p1).size _
  have l_d : g_r < p1.w.heap.size := (k_r.below p1.h).lt
  have o_d : w.heap.size ≤ p1.w.heap.size := (bw_below B1 p1).size
  have k_t := bka hW2 (k_t.below p1.h)
  have k_r := bka hW2 (k_r.below p1.h)
  have k_d := bkn hW2
  rw [← hW2]
  clear hW2
  clear B1
  clear c_t_0 c_t_1 c_r_0 c_r_1 c_r_2 c_r_3 c_r_4 c_e0 c_e1 c_e2 c_e3 c_e4 c_e5 c_e6 c_e7 c_e8
  generalize p1.w.heap.size = g_d at *
  obtain ⟨c_t_0, c_t_1⟩ := bwc2 (k_t)
  obtain ⟨c_r_0, c_r_1, c_r_2, c_r_3, c_r_4⟩ := bwc5 (k_r)
  obtain ⟨f_r_0, f_r_1, f_r_2, f_r_3, f_r_4⟩ := bwf5 (k_r)
  obtain ⟨c_d_0, c_d_1, c_d_2, c_d_3, c_d_4, c_d_5, c_d_6, c_d_7, c_d_8⟩ := bwc9 (k_d)
  obtain ⟨p2, hp2⟩ : ∃ p : BW W2, p.w = W2 := ⟨BW.start W2, rfl⟩
  rw [← hp2]
  clear hp2
  go_upto_region 12 with (go_at_call 33; (with_reducible refine (K1.out _ (bw_below B2 _)).mono ?_); rintro e w1 ⟨rfl, hb⟩; obtain ⟨q, rfl⟩ := bw_take hb)
  obtain ⟨W3, hW3⟩ : ∃ W, W = q.w.alloc (.cells #[.int .i64 ri, .int .i64 s2, .int .i64 s3, .int .i64 s4, .bool true] 57) := ⟨_, rfl⟩
  have B3 : Below w.heap.size w W3 := by rw [hW3]; exact (bw_below B2 q).alloc (bw_below B2 q).size _
  have l_a : g_d < q.w.heap.size := (k_d.below q.h).lt
  have o_a : w.heap.size ≤ q.w.heap.size := (bw_below B2 q).size
  have k_t := bka hW3 (k_t.below q.h)
  have k_r := bka hW3 (k_r.below q.h)
  have k_d := bka hW3 (k_d.below q.h)
  have k_a := bkn hW3
  rw [← hW3]
  clear hW3
  clear B2
  clear c_t_0 c_t_1 c_r_0 c_r_1 c_r_2 c_r_3 c_r_4 f_r_0 f_r_1 f_r_2 f_r_3 f_r_4 c_d_0 c_d_1 c_d_2 c_d_3 c_d_4 c_d_5 c_d_6 c_d_7 c_d_8
  generalize q.w.heap.size = g_a at *
  obtain ⟨c_t_0, c_t_1⟩ := bwc2 (k_t)
  obtain ⟨c_r_0, c_r_1, c_r_2, c_r_3, c_r_4⟩ := bwc5 (k_r)
  obtain ⟨f_r_0, f_r_1, f_r_2, f_r_3, f_r_4⟩ := bwf5 (k_r)
  obtain ⟨c_d_0, c_d_1, c_d_2, c_d_3, c_d_4, c_d_5, c_d_6, c_d_7, c_d_8⟩ := bwc9 (k_d)
  obtain ⟨c_a_0, c_a_1, c_a_2, c_a_3, c_a_4⟩ := bwc5 (k_a)
  obtain ⟨p3, hp3⟩ : ∃ p : BW W3, p.w = W3 := ⟨BW.start W3, rfl⟩
  rw [← hp3]
  clear hp3
  go_upto_region 15 with (go_at_call 33; (with_reducible refine (K2.out _ (bw_below B3 _)).mono ?_); rintro e w1 ⟨rfl, hb⟩; obtain ⟨q, rfl⟩ := bw_take hb)
  obtain ⟨W4, hW4⟩ : ∃ W, W = q.w.alloc (.cells #[.int .i64 u1, .int .i64 u2, .int .i64 u3, .int .i64 u4, .bool false] 57) := ⟨_, rfl⟩
  have B4 : Below w.heap.size w W4 := by rw [hW4]; exact (bw_below B3 q).alloc (bw_below B3 q).size _
  have l_b : g_a < q.w.heap.size := (k_a.below q.h).lt
  have o_b : w.heap.size ≤ q.w.heap.size := (bw_below B3 q).size
  have k_t := bka hW4 (k_t.below q.h)
  have k_r := bka hW4 (k_r.below q.h)
  have k_d := bka hW4 (k_d.below q.h)
  have k_a := bka hW4 (k_a.below q.h)
  have k_b := bkn hW4
  rw [← hW4]
  clear hW4
  clear B3
  clear c_t_0 c_t_1 c_r_0 c_r_1 c_r_2 c_r_3 c_r_4 f_r_0 f_r_1 f_r_2 f_r_3 f_r_4 c_d_0 c_d_1 c_d_2 c_d_3 c_d_4 c_d_5 c_d_6 c_d_7 c_d_8 c_a_0 c_a_1 c_a_2 c_a_3 c_a_4
  generalize q.w.heap.size = g_b at *
  obtain ⟨c_t_0, c_t_1⟩ := bwc2 (k_t)
  obtain ⟨c_r_0, c_r_1, c_r_2, c_r_3, c_r_4⟩ := bwc5 (k_r)
  obtain ⟨f_r_0, f_r_1, f_r_2, f_r_3, f_r_4⟩ := bwf5 (k_r)
  obtain ⟨c_d_0, c_d_1, c_d_2, c_d_3, c_d_4, c_d_5, c_d_6, c_d_7, c_d_8⟩ := bwc9 (k_d)
  obtain ⟨c_a_0, c_a_1, c_a_2, c_a_3, c_a_4⟩ := bwc5 (k_a)
  obtain ⟨c_b_0, c_b_1, c_b_2, c_b_3, c_b_4⟩ := bwc5 (k_b)
  obtain ⟨p4, hp4⟩ : ∃ p : BW W4, p.w = W4 := ⟨BW.start W4, rfl⟩
  rw [← hp4]
  clear hp4
  go_wp2
  have kr := bkp5 (k_r.below p4.h) (.int .i64 0) (.int .i64 0) (.int .i64 0) (.int .i64 0) (.bool false)
  obtain ⟨rc0, rc1, rc2, rc3, rc4⟩ := rwc5 kr
  exact bodyPost_ret (v := .agg #[.int .i64 0, .int .i64 0, .int .i64 0, .int .i64 0, .bool false]) (by simp [results, Try.results33, go_sem, rc0, rc1, rc2, rc3, rc4]) rfl ⟨rfl, blp5 (bw_below B4 p4) (by omega)⟩

set_option maxRecDepth 100000 in
set_option maxHeartbeats 8000000 in
theorem walk16_n5 (b : Option Addr) (bb off n cap m capo i : Nat) (n1 n2 n3 n4 n5 n6 fi co ri th s1 s2 s3 s4 u1 u2 u3 u4 dep lea : Int) (w : World) (hi : i < n) (hbb : bb < w.heap.size) (x0 : w.cell? ⟨bb, off + i * 9, none⟩ = some (.int .i64 n1)) (x1 : w.cell? ⟨bb, off + i * 9 + 1, none⟩ = some (.int .i64 n2)) (x2 : w.cell? ⟨bb, off + i * 9 + 2, none⟩ = some (.int .i64 n3)) (x3 : w.cell? ⟨bb, off + i * 9 + 3, none⟩ = some (.int .i64 n4)) (x4 : w.cell? ⟨bb, off + i * 9 + 4, none⟩ = some (.int .i64 n5)) (x5 : w.cell? ⟨bb, off + i * 9 + 5, none⟩ = some (.int .i64 n6)) (x6 : w.cell? ⟨bb, off + i * 9 + 6, none⟩ = some (.int .i64 fi)) (x7 : w.cell? ⟨bb, off + i * 9 + 7, none⟩ = some (.int .i64 co)) (x8 : w.cell? ⟨bb, off + i * 9 + 8, none⟩ = some (.int .i64 ri)) (hc : co = 0) (hf : fi = 0) (K1 : Hid (∀ X, Below w.heap.size w X → Calls Try.prog 33 #[.agg #[.slice (some ⟨bb, off, none⟩) n cap, .slice b m capo], .int .i64 ((i : Int) + 1), .int .i64 th] X fun e w' => e = .returned (.agg #[.int .i64 s1, .int .i64 s2, .int .i64 s3, .int .i64 s4, .bool true]) ∧ Below X.heap.size X w')) (hr : ri = s1) (K2 : Hid (∀ X, Below w.heap.size w X → Calls Try.prog 33 #[.agg #[.slice (some ⟨bb, off, none⟩) n cap, .slice b m capo], .int .i64 (s1), .int .i64 s2] X fun e w' => e = .returned (.agg #[.int .i64 u1, .int .i64 u2, .int .i64 u3, .int .i64 u4, .bool true]) ∧ Below X.heap.size X w')) (hv : wrap64 (1 + max s3 u3) = dep ∧ wrap64 (s4 + u4) = lea) (hn : n ≤ 1048576) :
    Calls Try.prog 33 #[.agg #[.slice (some ⟨bb, off, none⟩) n cap, .slice b m capo], .int .i64 (i : Int), .int .i64 th] w fun en w' => en = .returned (.agg #[.int .i64 u1, .int .i64 u2, .int .i64 dep, .int .i64 lea, .bool true]) ∧ Below w.heap.size w w' := by
  subst hc
  subst hf
  subst hr
  have HV := Lib.hid hv
  clear hv
  have t1 : decide (n ≤ i) = false := decide_eq_false (by omega)
  go_enter Try.func33, Try.ntmps33
  go_upto_region 1 with (fail)
  obtain ⟨W1, hW1⟩ : ∃ W, W = (w.alloc (.cells #[.slice (some ⟨bb, off, none⟩) n cap, .slice b m capo] 25)).alloc (.cells #[.int .i64 0, .int .i64 0, .int .i64 0, .int .i64 0, .bool false] 57) := ⟨_, rfl⟩
  obtain ⟨k_t, k_r, B1⟩ := st2 hW1
  rw [← hW1]
  clear hW1
  have l_r : w.heap.size < w.heap.size + 1 := by omega
  generalize w.heap.size + 1 = g_r at *
  obtain ⟨c_t_0, c_t_1⟩ := bwc2 (k_t)
  obtain ⟨c_r_0, c_r_1, c_r_2, c_r_3, c_r_4⟩ := bwc5 (k_r)
  have c_e0 : ∀ p : BW W1, p.w.cell? ⟨bb, off + i * 9, none⟩ = some (.int .i64 n1) := bw_cell ((B1.cell (p := ⟨bb, off + i * 9, none⟩) hbb).trans x0)
  have c_e1 : ∀ p : BW W1, p.w.cell? ⟨bb, off + i * 9 + 1, none⟩ = some (.int .i64 n2) := bw_cell ((B1.cell (p := ⟨bb, off + i * 9 + 1, none⟩) hbb).trans x1)
  have c_e2 : ∀ p : BW W1, p.w.cell? ⟨bb, off + i * 9 + 2, none⟩ = some (.int .i64 n3) := bw_cell ((B1.cell (p := ⟨bb, off + i * 9 + 2, none⟩) hbb).trans x2)
  have c_e3 : ∀ p : BW W1, p.w.cell? ⟨bb, off + i * 9 + 3, none⟩ = some (.int .i64 n4) := bw_cell ((B1.cell (p := ⟨bb, off + i * 9 + 3, none⟩) hbb).trans x3)
  have c_e4 : ∀ p : BW W1, p.w.cell? ⟨bb, off + i * 9 + 4, none⟩ = some (.int .i64 n5) := bw_cell ((B1.cell (p := ⟨bb, off + i * 9 + 4, none⟩) hbb).trans x4)
  have c_e5 : ∀ p : BW W1, p.w.cell? ⟨bb, off + i * 9 + 5, none⟩ = some (.int .i64 n6) := bw_cell ((B1.cell (p := ⟨bb, off + i * 9 + 5, none⟩) hbb).trans x5)
  have c_e6 : ∀ p : BW W1, p.w.cell? ⟨bb, off + i * 9 + 6, none⟩ = some (.int .i64 0) := bw_cell ((B1.cell (p := ⟨bb, off + i * 9 + 6, none⟩) hbb).trans x6)
  have c_e7 : ∀ p : BW W1, p.w.cell? ⟨bb, off + i * 9 + 7, none⟩ = some (.int .i64 0) := bw_cell ((B1.cell (p := ⟨bb, off + i * 9 + 7, none⟩) hbb).trans x7)
  have c_e8 : ∀ p : BW W1, p.w.cell? ⟨bb, off + i * 9 + 8, none⟩ = some (.int .i64 ri) := bw_cell ((B1.cell (p := ⟨bb, off + i * 9 + 8, none⟩) hbb).trans x8)
  obtain ⟨p1, hp1⟩ : ∃ p : BW W1, p.w = W1 := ⟨BW.start W1, rfl⟩
  rw [← hp1]
  clear hp1
  go_upto_region 4 with (fail)
  obtain ⟨W2, hW2⟩ : ∃ W, W = p1.w.alloc (.cells #[.int .i64 n1, .int .i64 n2, .int .i64 n3, .int .i64 n4, .int .i64 n5, .int .i64 n6, .int .i64 0, .int .i64 0, .int .i64 ri] 43) := ⟨_, rfl⟩
  have B2 : Below w.heap.size w W2 := by rw [hW2]; exact (bw_below B1 p1).alloc (bw_below B1 p1).size _
  have l_d : g_r < p1.w.heap.size := (k_r.below p1.h).lt
  have o_d : w.heap.size ≤ p1.w.heap.size := (bw_below B1 p1).size
  have k_t := bka hW2 (k_t.below p1.h)
  have k_r := bka hW2 (k_r.below p1.h)
  have k_d := bkn hW2
  rw [← hW2]
  clear hW2
  clear B1
  clear c_t_0 c_t_1 c_r_0 c_r_1 c_r_2 c_r_3 c_r_4 c_e0 c_e1 c_e2 c_e3 c_e4 c_e5 c_e6 c_e7 c_e8
  generalize p1.w.heap.size = g_d at *
  obtain ⟨c_t_0, c_t_1⟩ := bwc2 (k_t)
  obtain ⟨c_r_0, c_r_1, c_r_2, c_r_3, c_r_4⟩ := bwc5 (k_r)
  obtain ⟨f_r_0, f_r_1, f_r_2, f_r_3, f_r_4⟩ := bwf5 (k_r)
  obtain ⟨c_d_0, c_d_1, c_d_2, c_d_3, c_d_4, c_d_5, c_d_6, c_d_7, c_d_8⟩ := bwc9 (k_d)
  obtain ⟨p2, hp2⟩ : ∃ p : BW W2, p.w = W2 := ⟨BW.start W2, rfl⟩
  rw [← hp2]
  clear hp2
  go_upto_region 12 with (go_at_call 33; (with_reducible refine (K1.out _ (bw_below B2 _)).mono ?_); rintro e w1 ⟨rfl, hb⟩; obtain ⟨q, rfl⟩ := bw_take hb)
  obtain ⟨W3, hW3⟩ : ∃ W, W = q.w.alloc (.cells #[.int .i64 ri, .int .i64 s2, .int .i64 s3, .int .i64 s4, .bool true] 57) := ⟨_, rfl⟩
  have B3 : Below w.heap.size w W3 := by rw [hW3]; exact (bw_below B2 q).alloc (bw_below B2 q).size _
  have l_a : g_d < q.w.heap.size := (k_d.below q.h).lt
  have o_a : w.heap.size ≤ q.w.heap.size := (bw_below B2 q).size
  have k_t := bka hW3 (k_t.below q.h)
  have k_r := bka hW3 (k_r.below q.h)
  have k_d := bka hW3 (k_d.below q.h)
  have k_a := bkn hW3
  rw [← hW3]
  clear hW3
  clear B2
  clear c_t_0 c_t_1 c_r_0 c_r_1 c_r_2 c_r_3 c_r_4 f_r_0 f_r_1 f_r_2 f_r_3 f_r_4 c_d_0 c_d_1 c_d_2 c_d_3 c_d_4 c_d_5 c_d_6 c_d_7 c_d_8
  generalize q.w.heap.size = g_a at *
  obtain ⟨c_t_0, c_t_1⟩ := bwc2 (k_t)
  obtain ⟨c_r_0, c_r_1, c_r_2, c_r_3, c_r_4⟩ := bwc5 (k_r)
  obtain ⟨f_r_0, f_r_1, f_r_2, f_r_3, f_r_4⟩ := bwf5 (k_r)
  obtain ⟨c_d_0, c_d_1, c_d_2, c_d_3, c_d_4, c_d_5, c_d_6, c_d_7, c_d_8⟩ := bwc9 (k_d)
  obtain ⟨c_a_0, c_a_1, c_a_2, c_a_3, c_a_4⟩ := bwc5 (k_a)
  obtain ⟨p3, hp3⟩ : ∃ p : BW W3, p.w = W3 := ⟨BW.start W3, rfl⟩
  rw [← hp3]
  clear hp3
  go_upto_region 15 with (go_at_call 33; (with_reducible refine (K2.out _ (bw_below B3 _)).mono ?_); rintro e w1 ⟨rfl, hb⟩; obtain ⟨q, rfl⟩ := bw_take hb)
  obtain ⟨W4, hW4⟩ : ∃ W, W = q.w.alloc (.cells #[.int .i64 u1, .int .i64 u2, .int .i64 u3, .int .i64 u4, .bool true] 57) := ⟨_, rfl⟩
  have B4 : Below w.heap.size w W4 := by rw [hW4]; exact (bw_below B3 q).alloc (bw_below B3 q).size _
  have l_b : g_a < q.w.heap.size := (k_a.below q.h).lt
  have o_b : w.heap.size ≤ q.w.heap.size := (bw_below B3 q).size
  have k_t := bka hW4 (k_t.below q.h)
  have k_r := bka hW4 (k_r.below q.h)
  have k_d := bka hW4 (k_d.below q.h)
  have k_a := bka hW4 (k_a.below q.h)
  have k_b := bkn hW4
  rw [← hW4]
  clear hW4
  clear B3
  clear c_t_0 c_t_1 c_r_0 c_r_1 c_r_2 c_r_3 c_r_4 f_r_0 f_r_1 f_r_2 f_r_3 f_r_4 c_d_0 c_d_1 c_d_2 c_d_3 c_d_4 c_d_5 c_d_6 c_d_7 c_d_8 c_a_0 c_a_1 c_a_2 c_a_3 c_a_4
  generalize q.w.heap.size = g_b at *
  obtain ⟨c_t_0, c_t_1⟩ := bwc2 (k_t)
  obtain ⟨c_r_0, c_r_1, c_r_2, c_r_3, c_r_4⟩ := bwc5 (k_r)
  obtain ⟨f_r_0, f_r_1, f_r_2, f_r_3, f_r_4⟩ := bwf5 (k_r)
  obtain ⟨c_d_0, c_d_1, c_d_2, c_d_3, c_d_4, c_d_5, c_d_6, c_d_7, c_d_8⟩ := bwc9 (k_d)
  obtain ⟨c_a_0, c_a_1, c_a_2, c_a_3, c_a_4⟩ := bwc5 (k_a)
  obtain ⟨c_b_0, c_b_1, c_b_2, c_b_3, c_b_4⟩ := bwc5 (k_b)
  obtain ⟨p4, hp4⟩ : ∃ p : BW W4, p.w = W4 := ⟨BW.start W4, rfl⟩
  rw [← hp4]
  clear hp4
  obtain ⟨v1, v2⟩ := HV.out
  go_wp2
  have kr := bkp5 (k_r.below p4.h) (.int .i64 u1) (.int .i64 u2) (.int .i64 dep) (.int .i64 lea) (.bool true)
  obtain ⟨rc0, rc1, rc2, rc3, rc4⟩ := rwc5 kr
  exact bodyPost_ret (v := .agg #[.int .i64 u1, .int .i64 u2, .int .i64 dep, .int .i64 lea, .bool true]) (by simp [results, Try.results33, go_sem, rc0, rc1, rc2, rc3, rc4]) rfl ⟨rfl, blp5 (bw_below B4 p4) (by omega)⟩

/-- A part's value. -/
def pv (p : Pt) : Value := .agg #[.int .i64 p.1, .int .i64 p.2.1, .int .i64 p.2.2.1, .int .i64 p.2.2.2.1, .bool p.2.2.2.2]

set_option maxRecDepth 100000 in
set_option maxHeartbeats 8000000 in
theorem ref16_walk (ns : List Nd) (tv : Value) (b : Option Addr) (m capo : Nat) (hm : m ≤ 1048576) (hn : ns.length ≤ 1048576) : ∀ (f i : Nat) (th : Int) (w : World), ns.length < i + f → Nodes w tv ns → 0 ≤ th → th ≤ m →
    Calls Try.prog 33 #[.agg #[tv, .slice b m capo], .int .i64 (i : Int), .int .i64 th] w fun en w' => en = .returned (pv (mWalk ns m f i th)) ∧ Below w.heap.size w w'
  | 0, i, th, w, hf, hN, h0, h1 => by
    obtain ⟨a, cap, rfl, hmx, h⟩ := hN
    exact walk16_out a b _ cap m capo i th w (by omega)
  | f + 1, i, th, w, hf, hN, h0, h1 => by
    by_cases hi : i < ns.length
    · have IH : ∀ (j : Nat) (z t : Int) (X : World), (j : Int) = z → ns.length < j + f → Below w.heap.size w X → 0 ≤ t → t ≤ m → Calls Try.prog 33 #[.agg #[tv, .slice b m capo], .int .i64 z, .int .i64 t] X fun en w' => en = .returned (pv (mWalk ns m f j t)) ∧ Below X.heap.size X w' := by
        rintro j z t X rfl hj hX h0 h1
        exact ref16_walk ns tv b m capo hm hn f j t X hj (hN.below hX (Nat.le_refl _)) h0 h1
      obtain ⟨a, cap, rfl, hmx, h⟩ := hN
      rcases h with h | ⟨bb, off, rfl, hbb, hc⟩
      · omega
      · have x0 : w.cell? ⟨bb, off + i * 9, none⟩ = some (.int .i64 ns[i].1.1.1) := hc i hi 0 (by omega)
        have x1 : w.cell? ⟨bb, off + i * 9 + 1, none⟩ = some (.int .i64 ns[i].1.1.2.1) := hc i hi 1 (by omega)
        have x2 : w.cell? ⟨bb, off + i * 9 + 2, none⟩ = some (.int .i64 ns[i].1.1.2.2) := hc i hi 2 (by omega)
        have x3 : w.cell? ⟨bb, off + i * 9 + 3, none⟩ = some (.int .i64 ns[i].1.2.1) := hc i hi 3 (by omega)
        have x4 : w.cell? ⟨bb, off + i * 9 + 4, none⟩ = some (.int .i64 ns[i].1.2.2.1) := hc i hi 4 (by omega)
        have x5 : w.cell? ⟨bb, off + i * 9 + 5, none⟩ = some (.int .i64 ns[i].1.2.2.2) := hc i hi 5 (by omega)
        have x6 : w.cell? ⟨bb, off + i * 9 + 6, none⟩ = some (.int .i64 ns[i].2.1) := hc i hi 6 (by omega)
        have x7 : w.cell? ⟨bb, off + i * 9 + 7, none⟩ = some (.int .i64 ns[i].2.2.1) := hc i hi 7 (by omega)
        have x8 : w.cell? ⟨bb, off + i * 9 + 8, none⟩ = some (.int .i64 ns[i].2.2.2) := hc i hi 8 (by omega)
        clear hc
        by_cases hco : ns[i].2.2.1 = 0
        · by_cases hfi : ns[i].2.1 = 0
          · have ea := mWalk_in (ns := ns) (m := m) f (i + 1) th
            have K1 := fun X hX => IH (i + 1) ((i : Int) + 1) th X (by omega) (by omega) hX h0 h1
            rw [mWalk_node hi hco hfi rfl]
            generalize mWalk ns m f (i + 1) th = pa at *
            by_cases ha : pa.2.2.2.2 = false
            · rw [if_pos (.inl ha)]
              have e : pv pa = .agg #[.int .i64 pa.1, .int .i64 pa.2.1, .int .i64 pa.2.2.1, .int .i64 pa.2.2.2.1, .bool false] := by unfold pv; rw [ha]
              rw [e] at K1
              exact walk16_n2 b bb off _ cap m capo i _ _ _ _ _ _ _ _ _ th _ _ _ _ w hi hbb x0 x1 x2 x3 x4 x5 x6 x7 x8 hco hfi (Lib.hid K1) hn
            · have ha : pa.2.2.2.2 = true := by simpa using ha
              have e : pv pa = .agg #[.int .i64 pa.1, .int .i64 pa.2.1, .int .i64 pa.2.2.1, .int .i64 pa.2.2.2.1, .bool true] := by unfold pv; rw [ha]
              rw [e] at K1
              have ea := ea ha
              by_cases hr : ns[i].2.2.2 = pa.1
              · rw [if_neg (by rw [ha]; simpa using hr)]
                have eb := mWalk_in (ns := ns) (m := m) f pa.1.toNat pa.2.1
                have K2 := fun X hX => IH pa.1.toNat pa.1 pa.2.1 X (by omega) (by omega) hX (by omega) (by omega)
                generalize mWalk ns m f pa.1.toNat pa.2.1 = pb at *
                by_cases hb : pb.2.2.2.2 = false
                · rw [if_pos hb]
                  have e : pv pb = .agg #[.int .i64 pb.1, .int .i64 pb.2.1, .int .i64 pb.2.2.1, .int .i64 pb.2.2.2.1, .bool false] := by unfold pv; rw [hb]
                  rw [e] at K2
                  exact walk16_n4 b bb off _ cap m capo i _ _ _ _ _ _ _ _ _ th _ _ _ _ _ _ _ _ w hi hbb x0 x1 x2 x3 x4 x5 x6 x7 x8 hco hfi (Lib.hid K1) hr (Lib.hid K2) hn
                · have hb : pb.2.2.2.2 = true := by simpa using hb
                  rw [if_neg (by rw [hb]; simp)]
                  have e : pv pb = .agg #[.int .i64 pb.1, .int .i64 pb.2.1, .int .i64 pb.2.2.1, .int .i64 pb.2.2.2.1, .bool true] := by unfold pv; rw [hb]
                  rw [e] at K2
                  have eb := eb hb
                  exact walk16_n5 b bb off _ cap m capo i _ _ _ _ _ _ _ _ _ th _ _ _ _ _ _ _ _ _ _ w hi hbb x0 x1 x2 x3 x4 x5 x6 x7 x8 hco hfi (Lib.hid K1) hr (Lib.hid K2) ⟨IntWalk.wrap64_in _ (by omega), IntWalk.wrap64_in _ (by omega)⟩ hn
              · rw [if_pos (.inr hr)]
                exact walk16_n3 b bb off _ cap m capo i _ _ _ _ _ _ _ _ _ th _ _ _ _ w hi hbb x0 x1 x2 x3 x4 x5 x6 x7 x8 hco hfi (Lib.hid K1) hr hn
          · rw [mWalk_first hi hco hfi]
            exact walk16_n1 b bb off _ cap m capo i _ _ _ _ _ _ _ _ _ th w hi hbb x0 x1 x2 x3 x4 x5 x6 x7 x8 hco hfi hn
        · rw [mWalk_leaf hi hco]
          by_cases g1 : 0 < ns[i].2.2.1
          · by_cases g2 : ns[i].2.1 = th
            · by_cases g3 : ns[i].2.2.2 = 0
              · by_cases g4 : ns[i].2.2.1 ≤ (m : Int) - th
                · rw [if_pos ⟨g1, g2, g3, g4⟩]
                  exact walk16_w5 b bb off _ cap m capo i _ _ _ _ _ _ _ _ _ th w hi hbb x0 x1 x2 x3 x4 x5 x6 x7 x8 hco g1 g2 g3 g4 hm hn ⟨h0, h1⟩
                · rw [if_neg (fun h => g4 h.2.2.2)]
                  exact walk16_w4 b bb off _ cap m capo i _ _ _ _ _ _ _ _ _ th w hi hbb x0 x1 x2 x3 x4 x5 x6 x7 x8 hco g1 g2 g3 g4 hm hn ⟨h0, h1⟩
              · rw [if_neg (fun h => g3 h.2.2.1)]
                exact walk16_w3 b bb off _ cap m capo i _ _ _ _ _ _ _ _ _ th w hi hbb x0 x1 x2 x3 x4 x5 x6 x7 x8 hco g1 g2 g3 hm hn ⟨h0, h1⟩
            · rw [if_neg (fun h => g2 h.2.1)]
              exact walk16_w2 b bb off _ cap m capo i _ _ _ _ _ _ _ _ _ th w hi hbb x0 x1 x2 x3 x4 x5 x6 x7 x8 hco g1 g2 hm hn ⟨h0, h1⟩
          · rw [if_neg (fun h => g1 h.1)]
            exact walk16_w1 b bb off _ cap m capo i _ _ _ _ _ _ _ _ _ th w hi hbb x0 x1 x2 x3 x4 x5 x6 x7 x8 hco g1 hm hn ⟨h0, h1⟩
    · rw [mWalk_out hi]
      obtain ⟨a, cap, rfl, hmx, h⟩ := hN
      exact walk16_out a b _ cap m capo i th w (by omega)

end
end Go.Proofs.Ytomlcglnkdfemaa
