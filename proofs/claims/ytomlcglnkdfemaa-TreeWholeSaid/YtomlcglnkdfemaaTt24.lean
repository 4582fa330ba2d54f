/- Contracts of package box, below: lowest, highest, later, earlier, shared, empty, between, intervals, held. Plain mathematics of layer 16: a tree that is built with a stack of parts. Imports nothing of the translation. -/
import Derived.Test.YtomlcglnkdfemaaTt7
import Derived.Test.YtomlcglnkdfemaaTt21
import Derived.Test.YtomlcglnkdfemaaTt22
import Derived.Test.YtomlcglnkdfemaaTt14
import Derived.Test.YtomlcglnkdfemaaTt1
import Derived.Lib.MinMax
import Derived.Deep.DeepCutAuto
import Derived.Test.YtomlcglnkdfemaaTt20


namespace Go.Proofs.Ytomlcglnkdfemaa
section

open Go.RowKit Go.Proofs.Sky

set_option linter.unusedVariables false

set_option maxRecDepth 100000 in
set_option maxHeartbeats 4000000 in
theorem box_lowest (a b c x y z : Int) (w : World) :
    Calls Try.prog 50 #[.agg #[.int .i64 a, .int .i64 b, .int .i64 c], .agg #[.int .i64 x, .int .i64 y, .int .i64 z]] w fun en w' => en = .returned (.agg #[.int .i64 (min a x), .int .i64 (min b y), .int .i64 (min c z)]) ∧ Below w.heap.size w w' := by
  obtain ⟨m1, e1⟩ : ∃ m, min a x = m := ⟨_, rfl⟩
  obtain ⟨m2, e2⟩ : ∃ m, min b y = m := ⟨_, rfl⟩
  obtain ⟨m3, e3⟩ : ∃ m, min c z = m := ⟨_, rfl⟩
  rw [e1, e2, e3]
  go_enter Try.func50, Try.ntmps50
  go_upto_region 1 with (fail)
  obtain ⟨W1, hW1⟩ : ∃ W, W = ((w.alloc (.cells #[.int .i64 a, .int .i64 b, .int .i64 c] 39)).alloc (.cells #[.int .i64 x, .int .i64 y, .int .i64 z] 39)).alloc (.cells #[.int .i64 0, .int .i64 0, .int .i64 0] 39) := ⟨_, rfl⟩
  obtain ⟨k_a, k_x, k_r, B1⟩ := st3 hW1
  rw [← hW1]
  clear hW1
  have l_x : w.heap.size < w.heap.size + 1 := by omega
  have l_r : w.heap.size + 1 < w.heap.size + 1 + 1 := by omega
  generalize w.heap.size + 1 + 1 = g_r at *
  generalize w.heap.size + 1 = g_x at *
  obtain ⟨c_a_0, c_a_1, c_a_2⟩ := bwc3 (k_a)
  obtain ⟨c_x_0, c_x_1, c_x_2⟩ := bwc3 (k_x)
  obtain ⟨c_r_0, c_r_1, c_r_2⟩ := bwc3 (k_r)
  obtain ⟨f_r_0, f_r_1, f_r_2⟩ := bwf3 (k_r)
  obtain ⟨p1, hp1⟩ : ∃ p : BW W1, p.w = W1 := ⟨BW.start W1, rfl⟩
  rw [← hp1]
  clear hp1
  go_wp2
  have kr := bkp3 (k_r.below p1.h) (.int .i64 m1) (.int .i64 m2) (.int .i64 m3)
  obtain ⟨rc0, rc1, rc2⟩ := rwc3 kr
  exact bodyPost_ret (v := .agg #[.int .i64 m1, .int .i64 m2, .int .i64 m3]) (by simp [results, Try.results50, go_sem, rc0, rc1, rc2]) rfl ⟨rfl, blp3 (bw_below B1 p1) (by omega)⟩

set_option maxRecDepth 100000 in
set_option maxHeartbeats 4000000 in
theorem box_highest (a b c x y z : Int) (w : World) :
    Calls Try.prog 51 #[.agg #[.int .i64 a, .int .i64 b, .int .i64 c], .agg #[.int .i64 x, .int .i64 y, .int .i64 z]] w fun en w' => en = .returned (.agg #[.int .i64 (max a x), .int .i64 (max b y), .int .i64 (max c z)]) ∧ Below w.heap.size w w' := by
  obtain ⟨m1, e1⟩ : ∃ m, max a x = m := ⟨_, rfl⟩
  obtain ⟨m2, e2⟩ : ∃ m, max b y = m := ⟨_, rfl⟩
  obtain ⟨m3, e3⟩ : ∃ m, max c z = m := ⟨_, rfl⟩
  rw [e1, e2, e3]
  go_enter Try.func51, Try.ntmps51
  go_upto_region 1 with (fail)
  obtain ⟨W1, hW1⟩ : ∃ W, W = ((w.alloc (.cells #[.int .i64 a, .int .i64 b, .int .i64 c] 39)).alloc (.cells #[.int .i64 x, .int .i64 y, .int .i64 z] 39)).alloc (.cells #[.int .i64 0, .int .i64 0, .int .i64 0] 39) := ⟨_, rfl⟩
  obtain ⟨k_a, k_x, k_r, B1⟩ := st3 hW1
  rw [← hW1]
  clear hW1
  have l_x : w.heap.size < w.heap.size + 1 := by omega
  have l_r : w.heap.size + 1 < w.heap.size + 1 + 1 := by omega
  generalize w.heap.size + 1 + 1 = g_r at *
  generalize w.heap.size + 1 = g_x at *
  obtain ⟨c_a_0, c_a_1, c_a_2⟩ := bwc3 (k_a)
  obtain ⟨c_x_0, c_x_1, c_x_2⟩ := bwc3 (k_x)
  obtain ⟨c_r_0, c_r_1, c_r_2⟩ := bwc3 (k_r)
  obtain ⟨f_r_0, f_r_1, f_r_2⟩ := bwf3 (k_r)
  obtain ⟨p1, hp1⟩ : ∃ p : BW W1, p.w = W1 := ⟨BW.start W1, rfl⟩
  rw [← hp1]
  clear hp1
  go_wp2
  have kr := bkp3 (k_r.below p1.h) (.int .i64 m1) (.int .i64 m2) (.int .i64 m3)
  obtain ⟨rc0, rc1, rc2⟩ := rwc3 kr
  exact bodyPost_ret (v := .agg #[.int .i64 m1, .int .i64 m2, .int .i64 m3]) (by simp [results, Try.results51, go_sem, rc0, rc1, rc2]) rfl ⟨rfl, blp3 (bw_below B1 p1) (by omega)⟩

end
end Go.Proofs.Ytomlcglnkdfemaa

namespace Go.Proofs.Sky
section

open Go.RowKit

set_option linter.unusedVariables false

theorem mGrow_more {P : Nat → Pr} : ∀ (f g : Nat) (which : List Nat) (k o : Nat), 0 < which.length → which.length ≤ f → which.length ≤ g → mGrow P f which k o = mGrow P g which k o
  | 0, _, which, k, o, h, h1, _ => by omega
  | _, 0, which, k, o, h, _, h1 => by omega
  | f + 1, g + 1, which, k, o, h, h1, h2 => by
    cases he : wEnds P which with
    | true => rw [mGrow_leaf he, mGrow_leaf he]
    | false =>
      obtain ⟨l1, l2, l3⟩ := wSplit_less he
      rw [mGrow_node he rfl rfl, mGrow_node he rfl rfl, mGrow_more f g (wAt which (wLeft P which)) (k + 1) o (by rw [wAt_len]; omega) (by rw [wAt_len]; omega) (by rw [wAt_len]; omega),
        mGrow_more f g (wAt which (wRight P which)) _ _ (by rw [wAt_len]; omega) (by rw [wAt_len]; omega) (by rw [wAt_len]; omega)]

theorem wEnds_not (P : Nat → Pr) (th : List Nat) : (decide (2 < th.length) && (bBest (wBox P th) th.length).2) = !wEnds P th := by
  unfold wEnds wSplit
  by_cases h : th.length ≤ 2
  · rw [decide_eq_true h, decide_eq_false (by omega)]; simp
  · rw [decide_eq_false h, decide_eq_true (by omega)]; simp

def setRight (d : Nd) (k : Nat) : Nd := (d.1, d.2.1, d.2.2.1, (k : Int))

/-- The nodes, once the right part of one of them is known. -/
def setR (ns : List Nd) : Option Nat → Nat → List Nd
  | none, _ => ns
  | some i, k => ns.set i (setRight (ns.getD i nd0) k)

theorem setR_len (ns : List Nd) (r : Option Nat) (k : Nat) : (setR ns r k).length = ns.length := by
  cases r with
  | none => rfl
  | some i => exact List.length_set

/-- What a stack of parts (the top first) comes to. -/
def mRun (P : Nat → Pr) : List (List Nat × Option Nat) → List Nd × List Nat → List Nd × List Nat
  | [], s => s
  | (th, r) :: rest, s => mRun P rest (setR s.1 r s.1.length ++ (mGrow P th.length th s.1.length s.2.length).1, s.2 ++ (mGrow P th.length th s.1.length s.2.length).2)

theorem mRun_cons (P : Nat → Pr) (th : List Nat) (r : Option Nat) (rest : List (List Nat × Option Nat)) (s : List Nd × List Nat) :
    mRun P ((th, r) :: rest) s = mRun P rest (setR s.1 r s.1.length ++ (mGrow P th.length th s.1.length s.2.length).1, s.2 ++ (mGrow P th.length th s.1.length s.2.length).2) := rfl

theorem mRun_leaf {P : Nat → Pr} {th : List Nat} {r : Option Nat} {rest : List (List Nat × Option Nat)} {ns : List Nd} {od : List Nat} (h0 : 0 < th.length) (h : wEnds P th = true) :
    mRun P ((th, r) :: rest) (ns, od) = mRun P rest (setR ns r ns.length ++ [(bAll (wBox P th) th.length, (od.length : Int), (th.length : Int), 0)], od ++ th) := by
  rw [mRun_cons, mGrow_more th.length ((th.length - 1) + 1) th _ _ h0 (Nat.le_refl _) (by omega), mGrow_leaf h]

theorem mRun_node {P : Nat → Pr} {th : List Nat} {r : Option Nat} {rest : List (List Nat × Option Nat)} {ns : List Nd} {od : List Nat} (h : wEnds P th = false) :
    mRun P ((th, r) :: rest) (ns, od) = mRun P ((wAt th (wLeft P th), none) :: (wAt th (wRight P th), some ns.length) :: rest) (setR ns r ns.length ++ [(bAll (wBox P th) th.length, 0, 0, 0)], od) := by
  obtain ⟨l1, l2, l3⟩ := wSplit_less h
  rw [mRun_cons, mRun_cons, mRun_cons]
  dsimp only
  rw [mGrow_more th.length ((th.length - 1) + 1) th _ _ (by omega) (Nat.le_refl _) (by omega), mGrow_node h rfl rfl]
  rw [mGrow_more (th.length - 1) (wAt th (wLeft P th)).length (wAt th (wLeft P th)) (ns.length + 1) od.length (by rw [wAt_len]; omega) (by rw [wAt_len]; omega) (Nat.le_refl _)]
  have e1 : (setR ns r ns.length ++ [(bAll (wBox P th) th.length, (0 : Int), (0 : Int), (0 : Int))]).length = ns.length + 1 := by rw [List.length_append, setR_len]; rfl
  rw [show setR (setR ns r ns.length ++ [(bAll (wBox P th) th.length, (0 : Int), (0 : Int), (0 : Int))]) none (setR ns r ns.length ++ [(bAll (wBox P th) th.length, (0 : Int), (0 : Int), (0 : Int))]).length = setR ns r ns.length ++ [(bAll (wBox P th) th.length, (0 : Int), (0 : Int), (0 : Int))] from rfl, e1]
  generalize mGrow P (wAt th (wLeft P th)).length (wAt th (wLeft P th)) (ns.length + 1) od.length = gl
  have e2 : (setR ns r ns.length ++ [(bAll (wBox P th) th.length, (0 : Int), (0 : Int), (0 : Int))] ++ gl.1).length = ns.length + 1 + gl.1.length := by rw [List.length_append, e1]
  rw [mGrow_more (th.length - 1) (wAt th (wRight P th)).length (wAt th (wRight P th)) (ns.length + 1 + gl.1.length) (od.length + gl.2.length) (by rw [wAt_len]; omega) (by rw [wAt_len]; omega) (Nat.le_refl _), e2, List.length_append]
  generalize mGrow P (wAt th (wRight P th)).length (wAt th (wRight P th)) (ns.length + 1 + gl.1.length) (od.length + gl.2.length) = gr
  have hl := setR_len ns r ns.length
  generalize setR ns r ns.length = n1 at *
  have e3 : setR (n1 ++ [(bAll (wBox P th) th.length, (0 : Int), (0 : Int), (0 : Int))] ++ gl.1) (some ns.length) (ns.length + 1 + gl.1.length) = n1 ++ [(bAll (wBox P th) th.length, (0 : Int), (0 : Int), ((ns.length + 1 + gl.1.length : Nat) : Int))] ++ gl.1 := by
    show (n1 ++ [(bAll (wBox P th) th.length, (0 : Int), (0 : Int), (0 : Int))] ++ gl.1).set ns.length (setRight ((n1 ++ [(bAll (wBox P th) th.length, (0 : Int), (0 : Int), (0 : Int))] ++ gl.1).getD ns.length nd0) (ns.length + 1 + gl.1.length)) = _
    rw [← hl, List.append_assoc, List.set_append_right _ _ (Nat.le_refl _), Nat.sub_self, getD_at (by simp), List.getElem_append_right (Nat.le_refl _)]
    simp [setRight]
  rw [e3]
  simp only [List.append_assoc, List.cons_append, List.nil_append]

theorem mBuild_run {P : Nat → Pr} {n : Nat} (h : 0 < n ∧ n ≤ 1024 ∧ pAll P n = true) : mRun P [(List.range n, none)] ([], []) = mBuild P n := by
  unfold mBuild
  rw [if_pos h]
  show ([] ++ (mGrow P (List.range n).length (List.range n) 0 0).1, [] ++ (mGrow P (List.range n).length (List.range n) 0 0).2) = _
  rw [List.length_range]
  rfl

/-- How many things the parts of a stack have. -/
def mMass : List (List Nat × Option Nat) → Nat
  | [] => 0
  | x :: r => x.1.length + mMass r

theorem mMass_le : ∀ r : List (List Nat × Option Nat), (∀ x ∈ r, 0 < x.1.length) → r.length ≤ mMass r
  | [], _ => Nat.le_refl _
  | x :: r, h => by
    have h1 := mMass_le r (fun y hy => h y (List.mem_cons_of_mem _ hy))
    have h2 := h x List.mem_cons_self
    simp only [List.length_cons, mMass]
    omega

end
end Go.Proofs.Sky
