/- slices.Backward at nodes; the contract of the landed tree's Whole. -/
import Derived.Test.YtomlcglnkdfemaaGreatTb37
import Derived.Test.YtomlcglnkdfemaaGreatTb38
import Derived.Test.YtomlcglnkdfemaaGreatTb25
import Derived.Test.YtomlcglnkdfemaaGreatTb33
import Derived.Shelf.Abstract
import Derived.OwnWalkIn
import Derived.TacticsInMore
import Derived.LoopNIn
import Derived.LoopIn
import Derived.RangeFuncBox
import Derived.RangeFuncCalls
import Derived.WalkMore
import Derived.Sort.CutIn


namespace Go.Proofs.YtomlcglnkdfemaaGreat
section

open Go.RowKit Go.Shelf Go.Proofs.Sky

set_option linter.unusedVariables false

set_option linter.unusedSimpArgs false

/-- The places of n nodes, the last one first. -/
def rv : Nat → List Nat
  | 0 => []
  | k + 1 => k :: rv k

theorem rv_split (n : Nat) : ∀ k, k ≤ n → ∃ pre, pre ++ rv k = rv n ∧ ∀ j ∈ pre, k ≤ j ∧ j < n
  | k, h => by
    by_cases e : k = n
    · subst e; exact ⟨[], rfl, fun j hj => by cases hj⟩
    · obtain ⟨pre, h1, h2⟩ := rv_split n (k + 1) (by omega)
      refine ⟨pre ++ [k], by rw [List.append_assoc]; exact h1, fun j hj => ?_⟩
      rcases List.mem_append.1 hj with hj | hj
      · have := h2 j hj; omega
      · rw [List.mem_singleton] at hj; omega
termination_by k => n - k

/-- Where a place stands among them: so many nodes lie behind it. -/
theorem rv_at {n j : Nat} {pre rest : List Nat} (h : rv n = pre ++ j :: rest) : pre.length + j + 1 = n ∧ rest = rv j := by
  induction n generalizing pre with
  | zero => simp [rv] at h
  | succ n ih =>
    cases pre with
    | nil =>
      simp only [rv, List.nil_append, List.cons.injEq] at h
      obtain ⟨rfl, rfl⟩ := h
      exact ⟨by simp, rfl⟩
    | cons x pre =>
      simp only [rv, List.cons_append, List.cons.injEq] at h
      obtain ⟨e1, e2⟩ := ih h.2
      exact ⟨by simp only [List.length_cons]; omega, e2⟩

/-- A drawn region within a round that only reads and calls. -/
theorem region_in_bw {P : Program} {id : Nat} {Q : Exit → Act → World → Prop} {a : Act} {wb : World} {p : BW wb} {k : Nat} {l : List Oper} (hm : P.follows .mixedOrders = true) (hd : noDefer l = true) (hQ : ∀ a w, ¬ Q .outgrown a w) (hB : Region.lexB .any l.toArray = true)
    (h : wpQuiet P l.toArray (fun w' => ∃ q : BW wb, w' = q.w) (fun a' => ∀ w', (∃ q : BW wb, w' = q.w) → Q .normal a' w') l a) : (Code.region id l.toArray true).wpIn (Fence.wide.inRound k) 0 P Q a p.w := by
  refine region_in hm hd hQ ?_
  simp only [Region.lexB, Bool.and_eq_true] at hB
  refine wpAny_of_quiet (C := fun w' => ∃ q : BW wb, w' = q.w) (Q := fun a' => ∀ w', (∃ q : BW wb, w' = q.w) → Q .normal a' w') (fun _ w' hw' h => h w' hw') _ _ _ _ ⟨p.next { p.w with drawn := p.w.drawn + 1 } ⟨rfl, rfl, rfl, Nat.le_refl _, fun _ _ => rfl⟩, rfl⟩ ?_
  have := wpAnyQ_lex (C := fun w' => ∃ q : BW wb, w' = q.w) (md := .any) hB.1 l.toArray.toList 0 (Array.replicate l.toArray.size false) a (by simp) (by simpa using hB.2) (by simpa using h)
  simpa using this

theorem stopsOn_from {α : Type} {F : Fence} {m : Nat} {P : Program} {c : Code} {a : Act} {B0 : Nat} {I : List α → World → Prop} {Ix : Code → List α → World → Prop} {xs : List α} {V V0 : World} (h : V0 = V) (hp : c.wpIn F m P (stopsOn B0 I Ix xs V0) a V) : c.wpIn F m P (stopsOn B0 I Ix xs V) a V := by
  subst h; exact hp

theorem box_eq16 (a1 a2 a3 a4 a5 a6 b1 b2 b3 b4 b5 b6 : Int) (w : World) : (Op.equalIn 10000 41 (.agg #[.int .i64 a1, .int .i64 a2, .int .i64 a3, .int .i64 a4, .int .i64 a5, .int .i64 a6]) (.agg #[.int .i64 b1, .int .i64 b2, .int .i64 b3, .int .i64 b4, .int .i64 b5, .int .i64 b6])).run Tryz.prog w = .ok (decide (((a1, a2, a3), (a4, a5, a6)) = ((b1, b2, b3), (b4, b5, b6)))) w := by
  rw [run_equalIn_agg w 9999 41 _ _ (by kernel_rfl) (by kernel_rfl)]
  simp [Op.eqFields, go_sem]
  by_cases h1 : a1 = b1
  · by_cases h2 : a2 = b2
    · by_cases h3 : a3 = b3
      · by_cases h4 : a4 = b4
        · by_cases h5 : a5 = b5
          · by_cases h6 : a6 = b6 <;> simp [h1, h2, h3, h4, h5, h6]
          · simp [h1, h2, h3, h4, h5]
        · simp [h1, h2, h3, h4]
      · simp [h1, h2, h3]
    · simp [h1, h2]
  · simp [h1]

theorem box_neq16 (a1 a2 a3 a4 a5 a6 b1 b2 b3 b4 b5 b6 : Int) (x y : Operand) (w : World) (ev : Operand → Value) (dst : Option Nat) (t : TypeId) (ps : String) (af : Array Edge) (gd : Option (Nat × Bool)) (hx : ev x = .agg #[.int .i64 a1, .int .i64 a2, .int .i64 a3, .int .i64 a4, .int .i64 a5, .int .i64 a6]) (hy : ev y = .agg #[.int .i64 b1, .int .i64 b2, .int .i64 b3, .int .i64 b4, .int .i64 b5, .int .i64 b6]) :
    (execOp ev { dst := dst, op := .binOp .neq 41 x y 41, type := t, pos := ps, after := af, guard := gd }).run Tryz.prog w = .ok (.value (.bool (!decide (((a1, a2, a3), (a4, a5, a6)) = ((b1, b2, b3), (b4, b5, b6)))))) w := by
  have e := box_eq16 a1 a2 a3 a4 a5 a6 b1 b2 b3 b4 b5 b6 w
  have g : Tryz.prog.eqGuardType Tryz.prog.depth 41 = false := by kernel_rfl
  simp only [execOp, hx, hy]
  simp [run_eqGuard_agg _ _ _ _ _ _ _ g, run_neq_struct, e]

theorem quiet_value {P : Program} {ops : Array Oper} {C : World → Prop} {Q : Act → Prop} {a : Act} {o : Oper} {rest : List Oper} (v : Value) (hw : Region.wanted o (yielded ops a.tmps) = true) (hr : ∀ w, (execOp a.eval o).run P w = .ok (.value v) w) (h : wpQuiet P ops C Q rest (a.put o.dst v)) : wpQuiet P ops C Q (o :: rest) a := by
  unfold wpQuiet
  rw [if_pos hw]
  exact ⟨v, fun w _ => by unfold Oper.quietAt; rw [hr]; exact ⟨rfl, rfl⟩, h⟩

section

attribute [local go_sem] Oper.semAt_some

set_option maxRecDepth 100000 in
set_option maxHeartbeats 8000000 in
theorem back_gives (g : Nat) (a : Option Addr) (cap : Nat) (ns : List Nd) (w v : World) (hN : Nodes w (.slice a ns.length cap) ns) (hn : ns.length ≤ 1048576) :
    GivesStop Tryz.prog 38 #[] #[.pointer (some ⟨g, 0, none⟩)] (fun x : Nat => #[.int .i64 (x : Int), .agg (ncells (ns.getD x nd0)).toArray]) (rv ns.length) (fun W => Bk W g 25 #[.slice a ns.length cap] ∧ Below w.heap.size w W) v := fun l J Jx W hW hJ hJx hC hY h0 => by
  obtain ⟨k1, k2⟩ := hC _ _ h0
  have c0 : W.cell? ⟨g, 0, none⟩ = some (.slice a ns.length cap) := k1.cell rfl
  refine callsIn_of_wp Tryz.func38 rfl trivial ?_ rfl
  simp only [Tryz.ntmps38, List.size_toArray, List.length_cons, List.length_nil, Nat.reduceAdd, Nat.reduceSub, Array.replicate_succ, Array.replicate_zero, List.push_toArray, List.append_toArray, List.nil_append, List.cons_append]
  have HY := Lib.hid hY
  have HC := Lib.hid hC
  have HN := Lib.hid hN
  clear hY hC hJ hJx hN hW
  gi_wp2
  clear c0 k1 k2
  gi_loopw [3] (fun i wr => ∃ (k : Nat) (pre : List Nat), k ≤ ns.length ∧ i = .int .i64 ((k : Int) - 1) ∧ pre ++ rv k = rv ns.length ∧ J pre wr) (fun i _ => (intOf i + 1).toNat)
  case atStart => exact ⟨ns.length, [], Nat.le_refl _, by trivial, rfl, h0⟩
  case round =>
    obtain ⟨k, pre, hk, rfl, hx, hj⟩ := hrel
    obtain ⟨k1, k2⟩ := HC.out _ _ hj
    have c0 : wr.cell? ⟨g, 0, none⟩ = some (.slice a ns.length cap) := k1.cell rfl
    cases k with
    | zero =>
      gi_wp2
      go_end0
      exact ⟨⟨_, rfl⟩, .inl (by simpa [rv] using (by rw [← hx]; simpa [rv] using hj : J (rv ns.length) wr))⟩
    | succ k =>
      obtain ⟨bb, off, rfl, hbb, x0, x1, x2, x3, x4, x5, x6, x7, x8⟩ := nodes_at (HN.out.below k2 (Nat.le_refl _)) (show k < ns.length by omega)
      have e : (((k + 1 : Nat)) : Int) - 1 = (k : Int) := by omega
      rw [e]
      have hY := HY.out pre k (rv k) wr hx.symm hj
      rw [getD_at (show k < ns.length by omega)] at hY
      have hx2 : (pre ++ [k]) ++ rv k = rv ns.length := by rw [List.append_assoc]; exact hx
      clear hx hj k1 k2 e
      generalize ns[k] = nd at *
      obtain ⟨⟨⟨n1, n2, n3⟩, n4, n5, n6⟩, fi, cn, ri⟩ := nd
      unfold ncells at hY
      dsimp only at hY x0 x1 x2 x3 x4 x5 x6 x7 x8
      obtain ⟨fn, tmps, assign, body, hy, hR⟩ := hY
      gi_wp2
      refine ⟨rfl, hR.mono ?_⟩
      rintro e W3 (⟨rfl, hj3⟩ | ⟨rfl, hj3⟩)
      · clear hy hR x0 x1 x2 x3 x4 x5 x6 x7 x8 c0
        gi_wp2
        go_roundw
        case rel => exact ⟨k, pre ++ [k], by omega, by trivial, hx2, hj3⟩
        case measure => simp [intOf] <;> omega
      · clear hy hR x0 x1 x2 x3 x4 x5 x6 x7 x8 c0
        gi_wp2
        refine bodyPost_ret (results_none rfl _ _ _) rfl ?_
        exact ⟨⟨_, rfl⟩, .inr ⟨_, hj3⟩⟩

set_option maxRecDepth 100000 in
set_option maxHeartbeats 8000000 in
theorem tree_Backward (a : Option Addr) (n cap : Nat) (w : World) :
    Calls Tryz.prog 22 #[.slice a n cap] w fun e w' => ∃ g, e = .returned (.func (.func 38) #[] #[.pointer (some ⟨g, 0, none⟩)]) ∧ Bk w' g 25 #[.slice a n cap] ∧ w.heap.size ≤ g ∧ Below w.heap.size w w' := by
  have hmf : ∀ (fn : Fn) (first cap : Array Value) (w : World), (Instr.makeFunc fn first cap).run Tryz.prog w = .ok (.func fn first cap) w := fun _ _ _ _ => rfl
  go_enter Tryz.func22, Tryz.ntmps22
  go_wp2
  go_ret
  exact ⟨_, rfl, Bk.new _ _ _, Nat.le_refl _, (Below.refl _ _).alloc (Nat.le_refl _) _⟩

set_option maxRecDepth 100000 in
set_option maxHeartbeats 8000000 in
theorem whole_bad (a o lp : Option Addr) (N cap m co n lc : Nat) (w : World) (KB : Hid (∀ X, Below w.heap.size w X → Calls Tryz.prog 13 #[.slice lp n lc] X fun e w' => ∃ x k c, e = .returned (.tuple #[.slice x k c, .bool false]) ∧ Below X.heap.size X w')) :
    Calls Tryz.prog 12 #[.agg #[.slice a N cap, .slice o m co], .slice lp n lc] w fun en w' => en = .returned (.bool false) ∧ Below w.heap.size w w' := by
  refine (callsIn_wide (n := 0)).1 ?_
  refine callsIn_of_wp_marks Tryz.func12 rfl trivial ?_ rfl
  simp only [Tryz.ntmps12, List.size_toArray, List.length_cons, List.length_nil, Nat.reduceAdd, Nat.reduceSub, Array.replicate_succ, Array.replicate_zero, List.push_toArray, List.append_toArray, List.nil_append, List.cons_append]
  refine wpIn_wide.2 ?_
  go_upto_region 1 with (fail)
  obtain ⟨W1, hW1⟩ : ∃ W, W = (w.alloc (.cells #[.slice a N cap, .slice o m co] 28)).alloc (.cells #[.bool false] 4) := ⟨_, rfl⟩
  obtain ⟨k_t, k_r, B1⟩ := st2 hW1
  rw [← hW1]
  clear hW1
  have l_r : w.heap.size < w.heap.size + 1 := by omega
  generalize w.heap.size + 1 = g_r at *
  obtain ⟨c_t_0, c_t_1⟩ := bwc2 (k_t)
  have c_r_0 := bwc1 (k_r)
  obtain ⟨p1, hp1⟩ : ∃ p : BW W1, p.w = W1 := ⟨BW.start W1, rfl⟩
  rw [← hp1]
  clear hp1
  go_upto_region 2 with (go_at_call 13; (with_reducible refine (KB.out _ (bw_below B1 _)).mono ?_); rintro e w2 ⟨x, k, c, rfl, hb2⟩; obtain ⟨q, rfl⟩ := bw_take hb2)
  obtain ⟨W2, hW2⟩ : ∃ W, W = q.w.alloc (.cells #[.slice x k c] 47) := ⟨_, rfl⟩
  have B2 : Below w.heap.size w W2 := by rw [hW2]; exact (bw_below B1 q).alloc (bw_below B1 q).size _
  have l_b : g_r < q.w.heap.size := (k_r.below q.h).lt
  have o_b : w.heap.size ≤ q.w.heap.size := (bw_below B1 q).size
  have l_b_t : w.heap.size < q.w.heap.size := (k_t.below q.h).lt
  have k_t := bka hW2 (k_t.below q.h)
  have k_r := bka hW2 (k_r.below q.h)
  have k_b := bkn hW2
  rw [← hW2]
  clear hW2
  clear B1
  clear c_t_0 c_t_1 c_r_0
  generalize q.w.heap.size = g_b at *
  obtain ⟨c_t_0, c_t_1⟩ := bwc2 (k_t)
  have c_r_0 := bwc1 (k_r)
  have f_r_0 := bwf1 (k_r)
  have c_b_0 := bwc1 (k_b)
  obtain ⟨p2, hp2⟩ : ∃ p : BW W2, p.w = W2 := ⟨BW.start W2, rfl⟩
  rw [← hp2]
  clear hp2
  go_wp2
  try rw [Exit.noGoto_ret]
  have kr := bkp1 (k_r.below p2.h) (.bool false)
  have rc0 := rwc1 kr
  exact ⟨.bool false, by simp [results, Tryz.results12, go_sem, rc0], rfl, blp1 (bw_below B2 p2) (by omega)⟩

set_option maxRecDepth 100000 in
set_option maxHeartbeats 8000000 in
theorem whole_wild (a o lp : Option Addr) (N cap m co n lc : Nat) (w : World) (KB : Hid (∀ X, Below w.heap.size w X → Calls Tryz.prog 13 #[.slice lp n lc] X fun e w' => ∃ x k c, e = .returned (.tuple #[.slice x k c, .bool true]) ∧ Below X.heap.size X w')) (KO : Hid (∀ X, Below w.heap.size w X → Calls Tryz.prog 11 #[.agg #[.slice a N cap, .slice o m co]] X fun e w' => e = .returned (.bool false) ∧ Below X.heap.size X w')) :
    Calls Tryz.prog 12 #[.agg #[.slice a N cap, .slice o m co], .slice lp n lc] w fun en w' => en = .returned (.bool false) ∧ Below w.heap.size w w' := by
  refine (callsIn_wide (n := 0)).1 ?_
  refine callsIn_of_wp_marks Tryz.func12 rfl trivial ?_ rfl
  simp only [Tryz.ntmps12, List.size_toArray, List.length_cons, List.length_nil, Nat.reduceAdd, Nat.reduceSub, Array.replicate_succ, Array.replicate_zero, List.push_toArray, List.append_toArray, List.nil_append, List.cons_append]
  refine wpIn_wide.2 ?_
  go_upto_region 1 with (fail)
  obtain ⟨W1, hW1⟩ : ∃ W, W = (w.alloc (.cells #[.slice a N cap, .slice o m co] 28)).alloc (.cells #[.bool false] 4) := ⟨_, rfl⟩
  obtain ⟨k_t, k_r, B1⟩ := st2 hW1
  rw [← hW1]
  clear hW1
  have l_r : w.heap.size < w.heap.size + 1 := by omega
  generalize w.heap.size + 1 = g_r at *
  obtain ⟨c_t_0, c_t_1⟩ := bwc2 (k_t)
  have c_r_0 := bwc1 (k_r)
  obtain ⟨p1, hp1⟩ : ∃ p : BW W1, p.w = W1 := ⟨BW.start W1, rfl⟩
  rw [← hp1]
  clear hp1
  go_upto_region 2 with (go_at_call 13; (with_reducible refine (KB.out _ (bw_below B1 _)).mono ?_); rintro e w2 ⟨x, k, c, rfl, hb2⟩; obtain ⟨q, rfl⟩ := bw_take hb2)
  obtain ⟨W2, hW2⟩ : ∃ W, W = q.w.alloc (.cells #[.slice x k c] 47) := ⟨_, rfl⟩
  have B2 : Below w.heap.size w W2 := by rw [hW2]; exact (bw_below B1 q).alloc (bw_below B1 q).size _
  have l_b : g_r < q.w.heap.size := (k_r.below q.h).lt
  have o_b : w.heap.size ≤ q.w.heap.size := (bw_below B1 q).size
  have l_b_t : w.heap.size < q.w.heap.size := (k_t.below q.h).lt
  have k_t := bka hW2 (k_t.below q.h)
  have k_r := bka hW2 (k_r.below q.h)
  have k_b := bkn hW2
  rw [← hW2]
  clear hW2
  clear B1
  clear c_t_0 c_t_1 c_r_0
  generalize q.w.heap.size = g_b at *
  obtain ⟨c_t_0, c_t_1⟩ := bwc2 (k_t)
  have c_r_0 := bwc1 (k_r)
  have f_r_0 := bwf1 (k_r)
  have c_b_0 := bwc1 (k_b)
  obtain ⟨p2, hp2⟩ : ∃ p : BW W2, p.w = W2 := ⟨BW.start W2, rfl⟩
  rw [← hp2]
  clear hp2
  go_wp2_with (go_at_call 11; (with_reducible refine (KO.out _ (bw_below B2 _)).mono ?_); rintro e w2 ⟨rfl, hb2⟩; obtain ⟨q, rfl⟩ := bw_take hb2)
  try rw [Exit.noGoto_ret]
  have kr := bkp1 (k_r.below q.h) (.bool false)
  have rc0 := rwc1 kr
  exact ⟨.bool false, by simp [results, Tryz.results12, go_sem, rc0], rfl, blp1 (bw_below B2 q) (by omega)⟩

set_option maxRecDepth 100000 in
set_option maxHeartbeats 8000000 in
theorem whole_twice (a o lp : Option Addr) (N cap m co n lc : Nat) (w : World) (KB : Hid (∀ X, Below w.heap.size w X → Calls Tryz.prog 13 #[.slice lp n lc] X fun e w' => ∃ x k c, e = .returned (.tuple #[.slice x k c, .bool true]) ∧ Below X.heap.size X w')) (KO : Hid (∀ X, Below w.heap.size w X → Calls Tryz.prog 11 #[.agg #[.slice a N cap, .slice o m co]] X fun e w' => e = .returned (.bool true) ∧ Below X.heap.size X w')) (KN : Hid (∀ X, Below w.heap.size w X → Calls Tryz.prog 21 #[.slice o m co, .int .i64 (n : Int)] X fun e w' => e = .returned (.bool false) ∧ Below X.heap.size X w')) :
    Calls Tryz.prog 12 #[.agg #[.slice a N cap, .slice o m co], .slice lp n lc] w fun en w' => en = .returned (.bool false) ∧ Below w.heap.size w w' := by
  refine (callsIn_wide (n := 0)).1 ?_
  refine callsIn_of_wp_marks Tryz.func12 rfl trivial ?_ rfl
  simp only [Tryz.ntmps12, List.size_toArray, List.length_cons, List.length_nil, Nat.reduceAdd, Nat.reduceSub, Array.replicate_succ, Array.replicate_zero, List.push_toArray, List.append_toArray, List.nil_append, List.cons_append]
  refine wpIn_wide.2 ?_
  go_upto_region 1 with (fail)
  obtain ⟨W1, hW1⟩ : ∃ W, W = (w.alloc (.cells #[.slice a N cap, .slice o m co] 28)).alloc (.cells #[.bool false] 4) := ⟨_, rfl⟩
  obtain ⟨k_t, k_r, B1⟩ := st2 hW1
  rw [← hW1]
  clear hW1
  have l_r : w.heap.size < w.heap.size + 1 := by omega
  generalize w.heap.size + 1 = g_r at *
  obtain ⟨c_t_0, c_t_1⟩ := bwc2 (k_t)
  have c_r_0 := bwc1 (k_r)
  obtain ⟨p1, hp1⟩ : ∃ p : BW W1, p.w = W1 := ⟨BW.start W1, rfl⟩
  rw [← hp1]
  clear hp1
  go_upto_region 2 with (go_at_call 13; (with_reducible refine (KB.out _ (bw_below B1 _)).mono ?_); rintro e w2 ⟨x, k, c, rfl, hb2⟩; obtain ⟨q, rfl⟩ := bw_take hb2)
  obtain ⟨W2, hW2⟩ : ∃ W, W = q.w.alloc (.cells #[.slice x k c] 47) := ⟨_, rfl⟩
  have B2 : Below w.heap.size w W2 := by rw [hW2]; exact (bw_below B1 q).alloc (bw_below B1 q).size _
  have l_b : g_r < q.w.heap.size := (k_r.below q.h).lt
  have o_b : w.heap.size ≤ q.w.heap.size := (bw_below B1 q).size
  have l_b_t : w.heap.size < q.w.heap.size := (k_t.below q.h).lt
  have k_t := bka hW2 (k_t.below q.h)
  have k_r := bka hW2 (k_r.below q.h)
  have k_b := bkn hW2
  rw [← hW2]
  clear hW2
  clear B1
  clear c_t_0 c_t_1 c_r_0
  generalize q.w.heap.size = g_b at *
  obtain ⟨c_t_0, c_t_1⟩ := bwc2 (k_t)
  have c_r_0 := bwc1 (k_r)
  have f_r_0 := bwf1 (k_r)
  have c_b_0 := bwc1 (k_b)
  obtain ⟨p2, hp2⟩ : ∃ p : BW W2, p.w = W2 := ⟨BW.start W2, rfl⟩
  rw [← hp2]
  clear hp2
  go_wp2_with (first
    | (go_at_call 11; (with_reducible refine (KO.out _ (bw_below B2 _)).mono ?_); rintro e w2 ⟨rfl, hb2⟩; obtain ⟨q, rfl⟩ := bw_take hb2)
    | (go_at_call 21; (with_reducible refine (KN.out _ (bw_below B2 _)).mono ?_); rintro e w2 ⟨rfl, hb2⟩; obtain ⟨q, rfl⟩ := bw_take hb2))
  try rw [Exit.noGoto_ret]
  have kr := bkp1 (k_r.below q.h) (.bool false)
  have rc0 := rwc1 kr
  exact ⟨.bool false, by simp [results, Tryz.results12, go_sem, rc0], rfl, blp1 (bw_below B2 q) (by omega)⟩

set_option maxRecDepth 100000 in
set_option maxHeartbeats 8000000 in
theorem whole_go (a o lp : Option Addr) (N cap m co n lc : Nat) (ns : List Nd) (bx : List Bx) (ld : Nat → Bx) (w : World) (hNl : N = ns.length) (hN : Nodes w (.slice a N cap) ns) (hn : N ≤ 1048576) (KB : Hid (∀ X, Below w.heap.size w X → Calls Tryz.prog 13 #[.slice lp n lc] X fun e w' => ∃ x k c, e = .returned (.tuple #[.slice x k c, .bool true]) ∧ BoxRow w' w.heap.size (.slice x k c) bx ∧ Below X.heap.size X w')) (KO : Hid (∀ X, Below w.heap.size w X → Calls Tryz.prog 11 #[.agg #[.slice a N cap, .slice o m co]] X fun e w' => e = .returned (.bool true) ∧ Below X.heap.size X w')) (KN : Hid (∀ X, Below w.heap.size w X → Calls Tryz.prog 21 #[.slice o m co, .int .i64 (n : Int)] X fun e w' => e = .returned (.bool true) ∧ Below X.heap.size X w')) (KL : Hid (∀ (x : Option Addr) (k c j : Nat) (X : World), Below w.heap.size w X → BoxRow X w.heap.size (.slice x k c) bx → j < N → Calls Tryz.prog 23 #[.agg #[.slice a N cap, .slice o m co], .int .i64 (j : Int), .slice x k c] X fun e w' => e = .returned (.agg (bcells (ld j)).toArray) ∧ Below X.heap.size X w')) :
    Calls Tryz.prog 12 #[.agg #[.slice a N cap, .slice o m co], .slice lp n lc] w fun en w' => en = .returned (.bool ((List.range N).all (fun j => decide ((ns.getD j nd0).1 = ld j)))) ∧ Below w.heap.size w w' := by
  obtain ⟨res, hres⟩ : ∃ res, res = (List.range N).all (fun j => decide ((ns.getD j nd0).1 = ld j)) := ⟨_, rfl⟩
  rw [← hres]
  have HRES := Lib.hid hres
  clear hres
  have HNL := Lib.hid hNl
  have HN := Lib.hid hN
  clear hNl hN
  refine (callsIn_wide (n := 0)).1 ?_
  refine callsIn_of_wp_marks Tryz.func12 rfl trivial ?_ rfl
  simp only [Tryz.ntmps12, List.size_toArray, List.length_cons, List.length_nil, Nat.reduceAdd, Nat.reduceSub, Array.replicate_succ, Array.replicate_zero, List.push_toArray, List.append_toArray, List.nil_append, List.cons_append]
  refine wpIn_wide.2 ?_
  go_upto_region 1 with (fail)
  obtain ⟨W1, hW1⟩ : ∃ W, W = (w.alloc (.cells #[.slice a N cap, .slice o m co] 28)).alloc (.cells #[.bool false] 4) := ⟨_, rfl⟩
  obtain ⟨k_t, k_r, B1⟩ := st2 hW1
  rw [← hW1]
  clear hW1
  have l_r : w.heap.size < w.heap.size + 1 := by omega
  generalize w.heap.size + 1 = g_r at *
  obtain ⟨c_t_0, c_t_1⟩ := bwc2 (k_t)
  have c_r_0 := bwc1 (k_r)
  obtain ⟨p1, hp1⟩ : ∃ p : BW W1, p.w = W1 := ⟨BW.start W1, rfl⟩
  rw [← hp1]
  clear hp1
  go_upto_region 2 with (go_at_call 13; (with_reducible refine (KB.out _ (bw_below B1 _)).mono ?_); rintro e w2 ⟨x, k, c, rfl, hub, hb2⟩; obtain ⟨q, rfl⟩ := bw_take hb2)
  obtain ⟨W2, hW2⟩ : ∃ W, W = q.w.alloc (.cells #[.slice x k c] 47) := ⟨_, rfl⟩
  have B2 : Below w.heap.size w W2 := by rw [hW2]; exact (bw_below B1 q).alloc (bw_below B1 q).size _
  have l_b : g_r < q.w.heap.size := (k_r.below q.h).lt
  have o_b : w.heap.size ≤ q.w.heap.size := (bw_below B1 q).size
  have l_b_t : w.heap.size < q.w.heap.size := (k_t.below q.h).lt
  have k_t := bka hW2 (k_t.below q.h)
  have k_r := bka hW2 (k_r.below q.h)
  have hub := boxrow_alloc hW2 hub
  have k_b := bkn hW2
  rw [← hW2]
  clear hW2
  clear B1
  clear c_t_0 c_t_1 c_r_0
  generalize q.w.heap.size = g_b at *
  obtain ⟨c_t_0, c_t_1⟩ := bwc2 (k_t)
  have c_r_0 := bwc1 (k_r)
  have f_r_0 := bwf1 (k_r)
  have c_b_0 := bwc1 (k_b)
  obtain ⟨p2, hp2⟩ : ∃ p : BW W2, p.w = W2 := ⟨BW.start W2, rfl⟩
  rw [← hp2]
  clear hp2
  go_upto_region 4 with (first
    | (go_at_call 11; (with_reducible refine (KO.out _ (bw_below B2 _)).mono ?_); rintro e w2 ⟨rfl, hb2⟩; obtain ⟨q, rfl⟩ := bw_take hb2)
    | (go_at_call 21; (with_reducible refine (KN.out _ (bw_below B2 _)).mono ?_); rintro e w2 ⟨rfl, hb2⟩; obtain ⟨q, rfl⟩ := bw_take hb2))
  obtain ⟨W3, hW3⟩ : ∃ W, W = q.w := ⟨_, rfl⟩
  have B3 : Below w.heap.size w W3 := by rw [hW3]; exact (bw_below B2 q)
  have k_t := k_t.below q.h
  rw [← hW3] at k_t
  have k_r := k_r.below q.h
  rw [← hW3] at k_r
  have k_b := k_b.below q.h
  rw [← hW3] at k_b
  have hub := hub.below q.h
  rw [← hW3] at hub
  rw [← hW3]
  clear hW3
  clear B2
  clear c_t_0 c_t_1 c_r_0 f_r_0 c_b_0
  obtain ⟨c_t_0, c_t_1⟩ := bwc2 (k_t)
  have c_r_0 := bwc1 (k_r)
  have c_b_0 := bwc1 (k_b)
  obtain ⟨p3, hp3⟩ : ∃ p : BW W3, p.w = W3 := ⟨BW.start W3, rfl⟩
  rw [← hp3]
  clear hp3
  go_wp2_with (go_at_call 22; (with_reducible refine (tree_Backward _ _ _ _).mono ?_); rintro e w1 ⟨g1, rfl, kg, hg1, hb1⟩)
  have hB1 := (bw_below B3 p3).trans (hb1.mono (bw_below B3 p3).size)
  have kt1 := (k_t.below p3.h).below hb1
  have kr1 := (k_r.below p3.h).below hb1
  have kb1 := (k_b.below p3.h).below hb1
  have hu1 := (hub.below p3.h).below hb1
  have htl := kt1.lt
  have hrl := kr1.lt
  have hbl := kb1.lt
  have hs1 := hB1.size
  have hgl := kg.lt
  have hne1 : ¬ g_r = w.heap.size := by omega
  have hwr : w.heap.size ≤ g_r := by omega
  clear B3 c_t_0 c_t_1 c_r_0 c_b_0 hub k_t k_r k_b
  refine (wpIn_wide (n := 0)).1 ?_
  refine range_stop (gf := 38) (bd := #[]) (lb := #[.pointer (some ⟨g1, 0, none⟩)]) (encs := (fun x : Nat => #[.int .i64 (x : Int), .agg (ncells (ns.getD x nd0)).toArray])) (xs := rv N) (C := fun W => Bk W g1 25 #[.slice a N cap] ∧ Below w.heap.size w W) rfl (enters_of Tryz.func38 (by kernel_rfl) rfl) (by have h := back_gives g1 a cap ns w w1 (by rw [← HNL.out]; exact HN.out) (by rw [← HNL.out]; exact hn); rw [← HNL.out] at h; exact h) (fun _ => rfl)
    (fun pre W => (Bk W g1 25 #[.slice a N cap] ∧ Below w.heap.size w W) ∧ (∀ j ∈ pre, (ns.getD j nd0).1 = ld j) ∧ Below w1.heap.size w1 W)
    (fun c pre W => (c = .ret ∧ ∃ j, j < N ∧ ¬ (ns.getD j nd0).1 = ld j) ∧ Bk W g_r 4 #[.bool false] ∧ Below w.heap.size w W)
    (OwnFrom.and (OwnFrom.and (bk_own _) (ownFrom_below (Nat.le_refl _) hs1)) (OwnFrom.and (pure_own _) (ownFrom_below (Nat.le_refl _) (Nat.le_refl _))))
    (fun c => OwnFrom.and (pure_own _) (OwnFrom.and (bk_own _) (ownFrom_below (Nat.le_refl _) hs1)))
    (fun s W h => h.1) ⟨⟨kg, hB1⟩, (fun j hj => by cases hj), Below.refl _ _⟩ ?round ?done ?stop
  case round =>
    rintro l pre j rest W hl hx ⟨⟨kg2, hBW⟩, hno, hW1⟩
    obtain ⟨hj1, hj2⟩ := rv_at hx
    have hj : j < N := by omega
    have HNO := Lib.hid hno
    clear hx hno hj1 hj2 kg2
    rw [getD_at (show j < ns.length by rw [← HNL.out]; exact hj)]
    have HD := Lib.hid (show ns.getD j nd0 = ns[j]'(by rw [← HNL.out]; exact hj) from getD_at _)
    generalize ns[j]'(by rw [← HNL.out]; exact hj) = nd at *
    obtain ⟨⟨⟨n1, n2, n3⟩, n4, n5, n6⟩, fi, cn, ri⟩ := nd
    have KJ := Lib.hid (fun X hX hu => KL.out x k c j X hX hu hj)
    obtain ⟨lb, hlb⟩ : ∃ lb, lb = ld j := ⟨_, rfl⟩
    rw [← hlb] at KJ
    have HLB := Lib.hid hlb
    clear hlb
    obtain ⟨⟨b1, b2, b3⟩, b4, b5, b6⟩ := lb
    unfold bcells at KJ
    unfold ncells
    dsimp only at KJ ⊢
    gi_wp2
    refine ⟨keeps_of_below ((Below.refl _ _).alloc (Nat.le_refl _) _), fun r r' hlr => ?_⟩
    obtain ⟨V2, hV2⟩ : ∃ V2, V2 = (W.alloc (.cells #[.int .i64 n1, .int .i64 n2, .int .i64 n3, .int .i64 n4, .int .i64 n5, .int .i64 n6, .int .i64 fi, .int .i64 cn, .int .i64 ri] 43)).putObj l (.loop r') := ⟨_, rfl⟩
    have k_x : Bk V2 W.heap.size 43 #[.int .i64 n1, .int .i64 n2, .int .i64 n3, .int .i64 n4, .int .i64 n5, .int .i64 n6, .int .i64 fi, .int .i64 cn, .int .i64 ri] := by rw [hV2]; exact bk_put (Bk.new _ _ _) hlr _
    have hq2 : Below w1.heap.size w1 V2 := by rw [hV2]; exact (hW1.alloc hW1.size _).trans (belowK_b (w := w1) (Nat.le_refl _) _ _ _ _ (by omega) hlr rfl rfl)
    have kg2 : Bk V2 g1 25 #[.slice a N cap] := kg.below hq2
    have B1 : Below w.heap.size w V2 := hB1.trans (hq2.mono hs1)
    have k_t := kt1.below hq2
    have k_r := kr1.below hq2
    have k_b := kb1.below hq2
    have hu2 := hu1.below hq2
    have hgx : g_r < W.heap.size := Nat.lt_of_lt_of_le hrl hW1.size
    rw [← hV2]
    clear hV2 hlr
    obtain ⟨V0, hV0⟩ : ∃ V0, V0 = V2 := ⟨_, rfl⟩
    refine stopsOn_from hV0 ?_
    have HV0 := Lib.hid hV0
    clear hV0
    generalize W.heap.size = g_x at *
    have KJ2 := Lib.hid (fun X (hX : Below V2.heap.size V2 X) => KJ.out X (B1.trans (hX.mono B1.size)) (hu2.below hX))
    clear KJ KL
    have hbx : ns.getD j nd0 = (((n1, n2, n3), n4, n5, n6), fi, cn, ri) := HD.out
    obtain ⟨c_x_0, c_x_1, c_x_2, c_x_3, c_x_4, c_x_5, c_x_6, c_x_7, c_x_8⟩ := bwc9 (k_x)
    obtain ⟨c_t_0, c_t_1⟩ := bwc2 (k_t)
    have c_b_0 := bwc1 (k_b)
    have c_r_0 := bwc1 (k_r)
    have f_r_0 := bwf1 (k_r)
    have HBX := Lib.hid hbx
    clear hbx
    obtain ⟨p1, hp1⟩ : ∃ p : BW V2, p.w = V2 := ⟨BW.start V2, rfl⟩
    rw [← hp1]
    clear hp1
    gi_upto_region 7 with (fail)
    refine region_in_bw (by kernel_rfl) (by kernel_rfl) (fun _ _ h => h) (by kernel_rfl) ?_
    repeat (go_big_quiet_step (first
      | (go_at_call 23; (with_reducible exact (bw_callB KJ2.out (Below.refl _ _) _)))))
    obtain ⟨zz, hzz⟩ : ∃ zz, zz = !decide (((n1, n2, n3), (n4, n5, n6)) = ((b1, b2, b3), (b4, b5, b6))) := ⟨_, rfl⟩
    refine quiet_value (.bool zz) (by rfl) (fun w => by rw [hzz]; exact box_neq16 n1 n2 n3 n4 n5 n6 b1 b2 b3 b4 b5 b6 _ _ w _ _ _ _ _ _ rfl rfl) ?_
    refine wpQuiet_nil ?_
    intro _ hw'
    obtain ⟨q, rfl⟩ := hw'
    have HZZ := Lib.hid hzz
    clear hzz
    have BQ := bw_below B1 q
    cases zz with
    | false =>
      gi_wp2
      have e : ((n1, n2, n3), n4, n5, n6) = ((b1, b2, b3), b4, b5, b6) := by
        have h := HZZ.out
        simpa using h
      exact ⟨by rw [HV0.out]; exact keeps_of_below q.h, ⟨kg2.below q.h, BQ⟩, fun i hi => by
        rcases List.mem_append.1 hi with hi | hi
        · exact HNO.out i hi
        · rw [List.mem_singleton] at hi
          subst hi
          rw [HBX.out, ← HLB.out]
          exact e, hq2.trans (q.h.mono hq2.size)⟩
    | true =>
      gi_wp2
      have e : ¬ ((n1, n2, n3), n4, n5, n6) = ((b1, b2, b3), b4, b5, b6) := by
        have h := HZZ.out
        intro e2
        rw [decide_eq_true e2] at h
        cases h
      exact ⟨by rw [HV0.out]; exact (keeps_of_below q.h).trans ((KeepsOthers.setCell _ _ _).from _), ⟨rfl, j, hj, by rw [HBX.out, ← HLB.out]; exact e⟩, bkp1 (k_r.below q.h) _, blp1 BQ hwr⟩
  case done =>
    rintro D W hD ⟨⟨kg2, hBW⟩, hno, hW1⟩ hK
    have hres : res = true := by
      rw [HRES.out, List.all_eq_true]
      intro i hi
      rw [List.mem_range] at hi
      exact decide_eq_true (hno i (by have h := rv_split N (i + 1) (by omega); obtain ⟨pre, h1, h2⟩ := h; rw [← h1]; simp [rv]))
    have k_r := kr1.below hW1
    have c_r := k_r.cell (i := 0) rfl
    have f_r := k_r.frozen 0
    have hDr : ¬ D = g_r := by omega
    have kr2 := bkp1 k_r (.bool true)
    have hK1 : (W.setCell ⟨g_r, 0, none⟩ (.bool true)).heap[D]? = some (.deferred (some [])) := (Below.heap_setCell _ _ _ _ hDr).trans hK
    have B3 : Below w.heap.size w (W.setCell ⟨g_r, 0, none⟩ (.bool true)) := blp1 hBW hwr
    clear KL KO KN KB hno
    go_wp2
    try rw [Exit.noGoto_ret]
    refine ⟨by simp, .inl ⟨_, _, rfl, run_takeDeferred hK1, ?_⟩⟩
    have rc0 := rwc1 (bk_turn kr2 hK1 rfl (.deferred none))
    exact ⟨.bool true, by simp [results, Tryz.results12, go_sem, rc0], by rw [hres], B3.trans (belowK_b (w := w) (Nat.le_refl _) _ D _ _ (by omega) hK1 rfl rfl)⟩
  case stop =>
    rintro D c2 pre W hD ⟨⟨rfl, j, hj, hne⟩, k_r, hBW⟩ hK
    have hres : res = false := by
      rw [HRES.out, List.all_eq_false]
      exact ⟨j, List.mem_range.2 hj, by rw [decide_eq_false hne]; simp⟩
    clear KL KO KN KB
    refine wpIn_wide.2 ?_
    go_wp2
    try rw [Exit.noGoto_ret]
    refine ⟨by simp, .inl ⟨_, _, rfl, run_takeDeferred hK, ?_⟩⟩
    have rc0 := rwc1 (bk_turn k_r hK rfl (.deferred none))
    exact ⟨.bool false, by simp [results, Tryz.results12, go_sem, rc0], by rw [hres], hBW.trans (belowK_b (w := w) (Nat.le_refl _) W D _ _ (by omega) hK rfl rfl)⟩

theorem tree_Whole (tv : Value) (ns : List Nd) (o : Option Addr) (ord : List Int) (co : Nat) (lp : Option Addr) (n lc : Nat) (P : Nat → Pr) (w : World) (hN : Nodes w tv ns) (ho : IntSlice w o ord.length (fun i => ord.getD i 0)) (hs : Prims w (.slice lp n lc) n P) (hco : ord.length ≤ co) (hns : ns.length ≤ 1048576) (hm : ord.length ≤ 1024) (hn : n ≤ 1048576) :
    Calls Tryz.prog 12 #[.agg #[tv, .slice o ord.length co], .slice lp n lc] w fun en w' => en = .returned (.bool (mWh ns P ord n)) ∧ Below w.heap.size w w' := by
  have KB := fun X (hX : Below w.heap.size w X) => tree_boxed lp n lc P X (hs.below hX (Nat.le_refl _)) hn
  have KO := fun X (hX : Below w.heap.size w X) => tree_Ordered tv ns o ord.length co X (hN.below hX (Nat.le_refl _)) hns (by omega)
  have KN := fun X (hX : Below w.heap.size w X) => tree_once o ord co n X (intslice_down15 ho hX) (by omega) hn
  obtain ⟨av, cv, rfl⟩ := nodes_val hN
  unfold mWh
  cases hp : pAll P n with
  | false =>
    rw [Bool.false_and, Bool.and_false]
    exact whole_bad av o lp ns.length cv ord.length co n lc w (Lib.hid fun X hX => (KB X hX).mono fun e w' ⟨u, h1, _, h3, x, k, c, h4⟩ => ⟨x, k, c, by rw [h1, h4, hp], h3⟩)
  | true =>
    have KB1 : Hid (∀ X, Below w.heap.size w X → Calls Tryz.prog 13 #[.slice lp n lc] X fun e w' => ∃ x k c, e = .returned (.tuple #[.slice x k c, .bool true]) ∧ Below X.heap.size X w') :=
      Lib.hid fun X hX => (KB X hX).mono fun e w' ⟨u, h1, _, h3, x, k, c, h4⟩ => ⟨x, k, c, by rw [h1, h4, hp], h3⟩
    cases ho2 : (mWhole ns ord.length).2.2.2.2 with
    | false =>
      rw [Bool.false_and]
      exact whole_wild av o lp ns.length cv ord.length co n lc w KB1 (Lib.hid fun X hX => (KO X hX).mono fun e w' ⟨h1, h2⟩ => ⟨by rw [h1, ho2], h2⟩)
    | true =>
      have KO1 : Hid (∀ X, Below w.heap.size w X → Calls Tryz.prog 11 #[.agg #[.slice av ns.length cv, .slice o ord.length co]] X fun e w' => e = .returned (.bool true) ∧ Below X.heap.size X w') :=
        Lib.hid fun X hX => (KO X hX).mono fun e w' ⟨h1, h2⟩ => ⟨by rw [h1, ho2], h2⟩
      cases hon : mOnce ord n with
      | false =>
        rw [Bool.false_and, Bool.and_false, Bool.and_false]
        exact whole_twice av o lp ns.length cv ord.length co n lc w KB1 KO1 (Lib.hid fun X hX => (KN X hX).mono fun e w' ⟨h1, h2⟩ => ⟨by rw [h1, hon], h2⟩)
      | true =>
        rw [Bool.true_and, Bool.true_and, Bool.true_and, ← mLow_all ho2 hp hon]
        have e : mLow ns P ord 0 = (List.range ns.length).all (fun j => decide ((ns.getD j nd0).1 = mLeast ns P ord (ns.getD j nd0) j)) := by
          unfold mLow
          simp
        rw [e]
        refine whole_go av o lp ns.length cv ord.length co n lc ns (bls (fun k => pBox (P k)) n) (fun j => mLeast ns P ord (ns.getD j nd0) j) w rfl hN hns
          (Lib.hid fun X hX => (KB X hX).mono fun e w' ⟨u, h1, h2, h3, x, k, c, h4⟩ => ⟨x, k, c, by rw [h1, h4, hp], by rw [← h4]; exact owns_mono (h2 hp) hX.size, h3⟩) KO1
          (Lib.hid fun X hX => (KN X hX).mono fun e w' ⟨h1, h2⟩ => ⟨by rw [h1, hon], h2⟩) (Lib.hid fun x k c j X hX hr hj => ?_)
        obtain ⟨hbx, ab, cb, hv⟩ := boxrow_boxes hr hn
        cases hv
        have h := tree_least (.slice av ns.length cv) ns o ord co x c n j P X (hN.below hX (Nat.le_refl _)) (intslice_down15 ho hX) hbx hj ho2 hon hco hm hns
        rw [getD_at hj]
        exact h

end

end
end Go.Proofs.YtomlcglnkdfemaaGreat
