/- Contracts of package wide's small functions: halves, and their sums. Contracts of package frac (all but Least). A range over a function value whose first arguments are laid in (a method value), whose rounds all go on: what the iterator owes (GivesAll), and the statement's law. Imports nothing of the translation. As XSeq, where the iterator asks more of the world between two rounds (C: a cell of its own, that lies beyond what the caller writes to). Imports nothing of the translation. Rows of vectors. Contracts of the document's own answers, layer 10 (Right and Coord, which the statements use). Contracts of the document's own answers, layer 14: Better, All. A row of primitives among the arguments. -/
import Derived.Test.YtomlcglnkdfemaaGreatTb14
import Derived.Test.YtomlcglnkdfemaaGreatTb3
import Derived.Handy
import Derived.Deep.RegionHeld3
import Derived.Deep.QuietTactic
import Derived.BigQuiet
import Derived.Deep.Draws
import Derived.Deep.DrawnRows
import Derived.Laws.Externs
import Derived.Deep.DeepCutAuto
import Derived.StillTailTactics
import Derived.Test.YtomlcglnkdfemaaGreatTb4
import Derived.Test.YtomlcglnkdfemaaGreatTb5
import Derived.RangeFuncNested
import Derived.RangeFuncBox
import Derived.RangeFuncLeaves
import Derived.WalkKit
import Derived.Test.YtomlcglnkdfemaaGreatTb13
import Derived.Test.YtomlcglnkdfemaaGreatTb17
import Derived.Test.YtomlcglnkdfemaaGreatTb22
import Derived.Test.YtomlcglnkdfemaaGreatTb16
import Derived.Test.YtomlcglnkdfemaaGreatTb7
import Derived.Laws.AppendOwn
import Derived.Test.YtomlcglnkdfemaaGreatTb21


namespace Go.Proofs.YtomlcglnkdfemaaGreat
section

open Go.RowKit Go.Proofs.Sky

set_option linter.unusedVariables false

attribute [local go_sem ↓] Go.wp_at_zero Go.wp_at_succ

end
end Go.Proofs.YtomlcglnkdfemaaGreat

namespace Go.Proofs.YtomlcglnkdfemaaGreat
section

open Go.RowKit Go.Proofs.Sky

set_option linter.unusedVariables false

attribute [local go_sem ↓] Go.wp_at_zero Go.wp_at_succ

end
end Go.Proofs.YtomlcglnkdfemaaGreat

namespace Go.Proofs.Sky
section

open Go.RowKit

set_option linter.unusedVariables false

/-- What is asked of the caller's invariant between two rounds: blocks of its own, no others, have turned. -/
def Stays {β : Type} (J : β → World → Prop) : Prop := ∀ s X Y, J s X → Below X.heap.size X Y → J s Y

/-- The iterator gives just xs, in their order, to whatever loop; a round keeps what lay below B. -/
def GivesAll {α : Type} (P : Program) (gf : Nat) (bd lb : Array Value) (encs : α → Array Value) (xs : List α) (B : Nat) (w : World) : Prop :=
  ∀ (l : Nat) (J : List α → World → Prop) (W : World), Below w.heap.size w W → Stays J →
    (∀ pre x rest W1, xs = pre ++ x :: rest → J pre W1 → YieldAt Fence.wide 0 P l (encs x) W1 fun e W' => e = .returned (.bool true) ∧ J (pre ++ [x]) W' ∧ Below B W1 W') →
    J [] W → CallsIn Fence.wide 0 P gf ((bd ++ #[.func (.yield l) #[] #[]]) ++ lb) W fun e W' => (∃ v, e = .returned v) ∧ J xs W'

/-- How a round may be left: off its end. -/
def goesOn {α : Type} (B0 B : Nat) (I : List α → World → Prop) (xs : List α) (W : World) : Exit → Act → World → Prop
  | .normal, _, W' => KeepsFrom B0 W W' ∧ Below B W W' ∧ I xs W'
  | _, _, _ => False

theorem grown_of_below {X Y : World} (h : Below X.heap.size X Y) : X.grownBy Y none := ⟨h.os, h.tape, h.output, h.size, fun k hk _ => h.block k hk⟩

end
end Go.Proofs.Sky

namespace Go.Proofs.Sky
section

open Go.RowKit

set_option linter.unusedVariables false

/-- The iterator gives just xs, in their order, to whatever loop whose rounds keep C. -/
def GivesIf {α : Type} (P : Program) (gf : Nat) (bd lb : Array Value) (encs : α → Array Value) (xs : List α) (C : World → Prop) (w : World) : Prop :=
  ∀ (l : Nat) (J : List α → World → Prop) (W : World), Below w.heap.size w W → Stays J → (∀ s W, J s W → C W) →
    (∀ pre x rest W1, xs = pre ++ x :: rest → J pre W1 → YieldAt Fence.wide 0 P l (encs x) W1 fun e W' => e = .returned (.bool true) ∧ J (pre ++ [x]) W') →
    J [] W → CallsIn Fence.wide 0 P gf ((bd ++ #[.func (.yield l) #[] #[]]) ++ lb) W fun e W' => (∃ v, e = .returned v) ∧ J xs W'

/-- How a round may be left: off its end. -/
def goesOnIf {α : Type} (B0 : Nat) (I : List α → World → Prop) (xs : List α) (W : World) : Exit → Act → World → Prop
  | .normal, _, W' => KeepsFrom B0 W W' ∧ I xs W'
  | _, _, _ => False

end
end Go.Proofs.Sky

namespace Go.Proofs.YtomlcglnkdfemaaGreat
section

open Go.RowKit Go.Proofs.Sky

set_option linter.unusedVariables false

/-- From cell off of block b on lie n vectors. -/
def VcRow (w : World) (b off n : Nat) (V : Nat → T3) : Prop :=
  ∀ i, i < n → w.cell? ⟨b, off + i * 3, none⟩ = some (.int .i64 (V i).1) ∧ w.cell? ⟨b, off + i * 3 + 1, none⟩ = some (.int .i64 (V i).2.1) ∧ w.cell? ⟨b, off + i * 3 + 2, none⟩ = some (.int .i64 (V i).2.2)

def vcells (v : T3) : List Value := [.int .i64 v.1, .int .i64 v.2.1, .int .i64 v.2.2]

theorem VcRow.below {w w' : World} {b off n : Nat} {V : Nat → T3} (h : VcRow w b off n V) (hb : Below w.heap.size w w') (hl : b < w.heap.size) : VcRow w' b off n V := fun i hi => by
  obtain ⟨h1, h2, h3⟩ := h i hi
  exact ⟨(hb.cell (p := ⟨b, off + i * 3, none⟩) hl).trans h1, (hb.cell (p := ⟨b, off + i * 3 + 1, none⟩) hl).trans h2, (hb.cell (p := ⟨b, off + i * 3 + 2, none⟩) hl).trans h3⟩

end
end Go.Proofs.YtomlcglnkdfemaaGreat

namespace Go.Proofs.YtomlcglnkdfemaaGreat
section

open Go.RowKit Go.Proofs.Sky

set_option linter.unusedVariables false

set_option maxRecDepth 100000 in
set_option maxHeartbeats 8000000 in
theorem ref10_Right (a1 a2 a3 a4 a5 a6 : Int) (w : World) :
    Calls Tryz.prog 55 #[.agg #[.int .i64 a1, .int .i64 a2, .int .i64 a3, .int .i64 a4, .int .i64 a5, .int .i64 a6]] w fun en w' => en = .returned (.bool (bRight ((a1, a2, a3), (a4, a5, a6)))) ∧ Below w.heap.size w w' := by
  have N1 := Lib.hid (fun w => ref6_Near a1 a2 a3 w)
  have N2 := Lib.hid (fun w => ref6_Near a4 a5 a6 w)
  unfold bRight nrT
  dsimp only
  generalize vnear a1 a2 a3 = v1 at *
  generalize vnear a4 a5 a6 = v2 at *
  cases v1 with
  | false =>
    rw [show (false && (v2 && decide (a1 ≤ a4 ∧ a2 ≤ a5 ∧ a3 ≤ a6))) = false by rfl]
    go_enter Tryz.func55, Tryz.ntmps55
    go_upto_region 1 with (fail)
    obtain ⟨W1, hW1⟩ : ∃ W, W = w.alloc (.cells #[.int .i64 a1, .int .i64 a2, .int .i64 a3, .int .i64 a4, .int .i64 a5, .int .i64 a6] 58) := ⟨_, rfl⟩
    obtain ⟨k_b, B1⟩ := st1 hW1
    rw [← hW1]
    clear hW1
    obtain ⟨c_b_0, c_b_1, c_b_2, c_b_3, c_b_4, c_b_5⟩ := bwc6 (k_b)
    obtain ⟨p1, hp1⟩ : ∃ p : BW W1, p.w = W1 := ⟨BW.start W1, rfl⟩
    rw [← hp1]
    clear hp1
    go_wp2_with (first
      | (go_at_call 74; (first | (with_reducible refine (bw_call N1.out _).mono ?_) | (with_reducible refine (bw_call N2.out _).mono ?_)); rintro e w' ⟨rfl, q, rfl⟩))
    go_ret
    exact ⟨rfl, bw_below B1 _⟩
  | true =>
   cases v2 with
   | false =>
    rw [show (true && (false && decide (a1 ≤ a4 ∧ a2 ≤ a5 ∧ a3 ≤ a6))) = false by rfl]
    go_enter Tryz.func55, Tryz.ntmps55
    go_upto_region 1 with (fail)
    obtain ⟨W1, hW1⟩ : ∃ W, W = w.alloc (.cells #[.int .i64 a1, .int .i64 a2, .int .i64 a3, .int .i64 a4, .int .i64 a5, .int .i64 a6] 58) := ⟨_, rfl⟩
    obtain ⟨k_b, B1⟩ := st1 hW1
    rw [← hW1]
    clear hW1
    obtain ⟨c_b_0, c_b_1, c_b_2, c_b_3, c_b_4, c_b_5⟩ := bwc6 (k_b)
    obtain ⟨p1, hp1⟩ : ∃ p : BW W1, p.w = W1 := ⟨BW.start W1, rfl⟩
    rw [← hp1]
    clear hp1
    go_wp2_with (first
      | (go_at_call 74; (first | (with_reducible refine (bw_call N1.out _).mono ?_) | (with_reducible refine (bw_call N2.out _).mono ?_)); rintro e w' ⟨rfl, q, rfl⟩))
    go_ret
    exact ⟨rfl, bw_below B1 _⟩
   | true =>
    by_cases h1 : a1 ≤ a4
    · by_cases h2 : a2 ≤ a5
      · by_cases h3 : a3 ≤ a6
        · rw [show (true && (true && decide (a1 ≤ a4 ∧ a2 ≤ a5 ∧ a3 ≤ a6))) = true by simp; omega]
          have t1 : decide (a1 ≤ a4) = true := decide_eq_true h1
          have t2 : decide (a2 ≤ a5) = true := decide_eq_true h2
          have t3 : decide (a3 ≤ a6) = true := decide_eq_true h3
          clear h1 h2 h3
          go_enter Tryz.func55, Tryz.ntmps55
          go_upto_region 1 with (fail)
          obtain ⟨W1, hW1⟩ : ∃ W, W = w.alloc (.cells #[.int .i64 a1, .int .i64 a2, .int .i64 a3, .int .i64 a4, .int .i64 a5, .int .i64 a6] 58) := ⟨_, rfl⟩
          obtain ⟨k_b, B1⟩ := st1 hW1
          rw [← hW1]
          clear hW1
          obtain ⟨c_b_0, c_b_1, c_b_2, c_b_3, c_b_4, c_b_5⟩ := bwc6 (k_b)
          obtain ⟨p1, hp1⟩ : ∃ p : BW W1, p.w = W1 := ⟨BW.start W1, rfl⟩
          rw [← hp1]
          clear hp1
          go_wp2_with (first
            | (go_at_call 74; (first | (with_reducible refine (bw_call N1.out _).mono ?_) | (with_reducible refine (bw_call N2.out _).mono ?_)); rintro e w' ⟨rfl, q, rfl⟩))
          go_ret
          exact ⟨rfl, bw_below B1 _⟩
        · rw [show (true && (true && decide (a1 ≤ a4 ∧ a2 ≤ a5 ∧ a3 ≤ a6))) = false by simp; omega]
          have t1 : decide (a1 ≤ a4) = true := decide_eq_true h1
          have t2 : decide (a2 ≤ a5) = true := decide_eq_true h2
          have t3 : decide (a3 ≤ a6) = false := decide_eq_false h3
          clear h1 h2 h3
          go_enter Tryz.func55, Tryz.ntmps55
          go_upto_region 1 with (fail)
          obtain ⟨W1, hW1⟩ : ∃ W, W = w.alloc (.cells #[.int .i64 a1, .int .i64 a2, .int .i64 a3, .int .i64 a4, .int .i64 a5, .int .i64 a6] 58) := ⟨_, rfl⟩
          obtain ⟨k_b, B1⟩ := st1 hW1
          rw [← hW1]
          clear hW1
          obtain ⟨c_b_0, c_b_1, c_b_2, c_b_3, c_b_4, c_b_5⟩ := bwc6 (k_b)
          obtain ⟨p1, hp1⟩ : ∃ p : BW W1, p.w = W1 := ⟨BW.start W1, rfl⟩
          rw [← hp1]
          clear hp1
          go_wp2_with (first
            | (go_at_call 74; (first | (with_reducible refine (bw_call N1.out _).mono ?_) | (with_reducible refine (bw_call N2.out _).mono ?_)); rintro e w' ⟨rfl, q, rfl⟩))
          go_ret
          exact ⟨rfl, bw_below B1 _⟩
      · rw [show (true && (true && decide (a1 ≤ a4 ∧ a2 ≤ a5 ∧ a3 ≤ a6))) = false by simp; omega]
        have t1 : decide (a1 ≤ a4) = true := decide_eq_true h1
        have t2 : decide (a2 ≤ a5) = false := decide_eq_false h2
        clear h1 h2
        go_enter Tryz.func55, Tryz.ntmps55
        go_upto_region 1 with (fail)
        obtain ⟨W1, hW1⟩ : ∃ W, W = w.alloc (.cells #[.int .i64 a1, .int .i64 a2, .int .i64 a3, .int .i64 a4, .int .i64 a5, .int .i64 a6] 58) := ⟨_, rfl⟩
        obtain ⟨k_b, B1⟩ := st1 hW1
        rw [← hW1]
        clear hW1
        obtain ⟨c_b_0, c_b_1, c_b_2, c_b_3, c_b_4, c_b_5⟩ := bwc6 (k_b)
        obtain ⟨p1, hp1⟩ : ∃ p : BW W1, p.w = W1 := ⟨BW.start W1, rfl⟩
        rw [← hp1]
        clear hp1
        go_wp2_with (first
          | (go_at_call 74; (first | (with_reducible refine (bw_call N1.out _).mono ?_) | (with_reducible refine (bw_call N2.out _).mono ?_)); rintro e w' ⟨rfl, q, rfl⟩))
        go_ret
        exact ⟨rfl, bw_below B1 _⟩
    · rw [show (true && (true && decide (a1 ≤ a4 ∧ a2 ≤ a5 ∧ a3 ≤ a6))) = false by simp; omega]
      have t1 : decide (a1 ≤ a4) = false := decide_eq_false h1
      clear h1
      go_enter Tryz.func55, Tryz.ntmps55
      go_upto_region 1 with (fail)
      obtain ⟨W1, hW1⟩ : ∃ W, W = w.alloc (.cells #[.int .i64 a1, .int .i64 a2, .int .i64 a3, .int .i64 a4, .int .i64 a5, .int .i64 a6] 58) := ⟨_, rfl⟩
      obtain ⟨k_b, B1⟩ := st1 hW1
      rw [← hW1]
      clear hW1
      obtain ⟨c_b_0, c_b_1, c_b_2, c_b_3, c_b_4, c_b_5⟩ := bwc6 (k_b)
      obtain ⟨p1, hp1⟩ : ∃ p : BW W1, p.w = W1 := ⟨BW.start W1, rfl⟩
      rw [← hp1]
      clear hp1
      go_wp2_with (first
        | (go_at_call 74; (first | (with_reducible refine (bw_call N1.out _).mono ?_) | (with_reducible refine (bw_call N2.out _).mono ?_)); rintro e w' ⟨rfl, q, rfl⟩))
      go_ret
      exact ⟨rfl, bw_below B1 _⟩

set_option maxRecDepth 100000 in
set_option maxHeartbeats 8000000 in
theorem ref10_Coord (x y z i : Int) (w : World) :
    Calls Tryz.prog 75 #[.agg #[.int .i64 x, .int .i64 y, .int .i64 z], .int .i64 i] w fun en w' => en = .returned (.int .i64 (crd (x, y, z) i)) ∧ Below w.heap.size w w' := by
  by_cases h0 : i = 0
  · subst h0
    rw [show crd (x, y, z) 0 = x from rfl]
    go_enter Tryz.func75, Tryz.ntmps75
    go_upto_region 1 with (fail)
    obtain ⟨W1, hW1⟩ : ∃ W, W = w.alloc (.cells #[.int .i64 x, .int .i64 y, .int .i64 z] 37) := ⟨_, rfl⟩
    obtain ⟨k_v, B1⟩ := st1 hW1
    rw [← hW1]
    clear hW1
    obtain ⟨c_v_0, c_v_1, c_v_2⟩ := bwc3 (k_v)
    obtain ⟨p1, hp1⟩ : ∃ p : BW W1, p.w = W1 := ⟨BW.start W1, rfl⟩
    rw [← hp1]
    clear hp1
    go_wp2
    go_ret
    exact ⟨rfl, bw_below B1 _⟩
  · by_cases h1 : i = 1
    · subst h1
      rw [show crd (x, y, z) 1 = y from rfl]
      go_enter Tryz.func75, Tryz.ntmps75
      go_upto_region 1 with (fail)
      obtain ⟨W1, hW1⟩ : ∃ W, W = w.alloc (.cells #[.int .i64 x, .int .i64 y, .int .i64 z] 37) := ⟨_, rfl⟩
      obtain ⟨k_v, B1⟩ := st1 hW1
      rw [← hW1]
      clear hW1
      obtain ⟨c_v_0, c_v_1, c_v_2⟩ := bwc3 (k_v)
      obtain ⟨p1, hp1⟩ : ∃ p : BW W1, p.w = W1 := ⟨BW.start W1, rfl⟩
      rw [← hp1]
      clear hp1
      go_wp2
      go_ret
      exact ⟨rfl, bw_below B1 _⟩
    · rw [show crd (x, y, z) i = z by unfold crd; rw [if_neg h0, if_neg h1]]
      have t0 : decide (i = 0) = false := decide_eq_false h0
      have t1 : decide (i = 1) = false := decide_eq_false h1
      go_enter Tryz.func75, Tryz.ntmps75
      go_upto_region 1 with (fail)
      obtain ⟨W1, hW1⟩ : ∃ W, W = w.alloc (.cells #[.int .i64 x, .int .i64 y, .int .i64 z] 37) := ⟨_, rfl⟩
      obtain ⟨k_v, B1⟩ := st1 hW1
      rw [← hW1]
      clear hW1
      obtain ⟨c_v_0, c_v_1, c_v_2⟩ := bwc3 (k_v)
      obtain ⟨p1, hp1⟩ : ∃ p : BW W1, p.w = W1 := ⟨BW.start W1, rfl⟩
      rw [← hp1]
      clear hp1
      go_wp2
      go_ret
      exact ⟨rfl, bw_below B1 _⟩

end
end Go.Proofs.YtomlcglnkdfemaaGreat

namespace Go.Proofs.YtomlcglnkdfemaaGreat
section

open Go.RowKit Go.Proofs.Sky

set_option linter.unusedVariables false

end
end Go.Proofs.YtomlcglnkdfemaaGreat

namespace Go.Proofs.YtomlcglnkdfemaaGreat
section

open Go.RowKit Go.Proofs.Sky

set_option linter.unusedVariables false

def pOf16 (V : List Value) : Pr :=
  ⟨intOf (V.getD 0 (.bool false)), (intOf (V.getD 1 (.bool false)), intOf (V.getD 2 (.bool false)), intOf (V.getD 3 (.bool false))), (intOf (V.getD 4 (.bool false)), intOf (V.getD 5 (.bool false)), intOf (V.getD 6 (.bool false))), (intOf (V.getD 7 (.bool false)), intOf (V.getD 8 (.bool false)), intOf (V.getD 9 (.bool false))), intOf (V.getD 10 (.bool false)), intOf (V.getD 11 (.bool false))⟩

theorem pOf16_pcells (p : Pr) : pOf16 (pcells p) = p := rfl

theorem prim_row16 {V : List Value} (h : LeafAll [.int .i64, .int .i64, .int .i64, .int .i64, .int .i64, .int .i64, .int .i64, .int .i64, .int .i64, .int .i64, .int .i64, .int .i64] V) : ∃ p : Pr, V = pcells p ∧ p.I := by
  obtain ⟨_, _, rfl, ⟨x0, rfl, h0⟩, _, _, rfl, ⟨x1, rfl, h1⟩, _, _, rfl, ⟨x2, rfl, h2⟩, _, _, rfl, ⟨x3, rfl, h3⟩, _, _, rfl, ⟨x4, rfl, h4⟩, _, _, rfl, ⟨x5, rfl, h5⟩, _, _, rfl, ⟨x6, rfl, h6⟩, _, _, rfl, ⟨x7, rfl, h7⟩, _, _, rfl, ⟨x8, rfl, h8⟩, _, _, rfl, ⟨x9, rfl, h9⟩, _, _, rfl, ⟨x10, rfl, h10⟩, _, r, rfl, ⟨x11, rfl, h11⟩, he⟩ := h
  have he' : r = [] := he
  subst he'
  exact ⟨⟨x0, (x1, x2, x3), (x4, x5, x6), (x7, x8, x9), x10, x11⟩, rfl, ⟨I64.of_wf h0, ⟨I64.of_wf h1, I64.of_wf h2, I64.of_wf h3⟩, ⟨I64.of_wf h4, I64.of_wf h5, I64.of_wf h6⟩, ⟨I64.of_wf h7, I64.of_wf h8, I64.of_wf h9⟩, I64.of_wf h10, I64.of_wf h11⟩⟩

set_option maxRecDepth 100000 in
theorem open_prims16 {H : Type} {enc : TypeId × Value → H} {W : World} {r : Reach} {b0 : Nat} {v : Value} {d : DataW H} {p : List MemPlace} (hv : Value.okWide Tryz.prog W r b0 22 v)
    (h : DataW.Trod enc Tryz.prog W 0 (fun _ => true) true 22 v d p) : ∃ (a : Option Addr) (len cap : Nat) (P : Nat → Pr), v = .slice a len cap ∧ Prims W (.slice a len cap) len P := by
  obtain ⟨z0, z1, z2, rfl⟩ := Go.WideShapes.okWide_slice Tryz.underlying22 hv
  obtain ⟨fuel, hf⟩ := h
  obtain ⟨a, len, cap, V, ev, _, hm, hr⟩ := open_rows16 (n := 5) (ks := [.int .i64, .int .i64, .int .i64, .int .i64, .int .i64, .int .i64, .int .i64, .int .i64, .int .i64, .int .i64, .int .i64, .int .i64]) Tryz.underlying22 (by kernel_rfl) (by kernel_rfl) (by simp) hf
  rw [ev]
  clear ev hf hv
  refine ⟨a, len, cap, fun i => pOf16 (V i), rfl, ?_⟩
  rcases hr with rfl | ⟨b, off, rfl, hR, hb⟩
  · exact ⟨⟨a, cap, rfl, hm, .inl rfl⟩, fun i hi => absurd hi (by omega)⟩
  · refine ⟨⟨_, cap, rfl, hm, .inr ⟨b, off, rfl, hb, fun k hk j hj => ?_⟩⟩, fun k hk => ?_⟩
    · obtain ⟨p, e, _⟩ := prim_row16 (hR k hk).1
      have c : W.cell? ⟨b, off + k * 12 + j, none⟩ = (V k)[j]? := (hR k hk).2 j hj
      dsimp only
      rw [c, e, pOf16_pcells]
    · obtain ⟨p, e, hI⟩ := prim_row16 (hR k hk).1
      dsimp only
      rw [e, pOf16_pcells]
      exact hI

end
end Go.Proofs.YtomlcglnkdfemaaGreat
