/- Contracts of the landed mesh: edges, Closed. -/
import Derived.Test.YtneacfhoinaeeaaMc28
import Derived.Test.YtneacfhoinaeeaaMc29
import Derived.Test.YtneacfhoinaeeaaMc11
import Derived.Maps.RangeWalk
import Derived.DeepKeys4
import Derived.Deep.DeepCutAuto
import Derived.IntWalk


namespace Go.Proofs.Ytneacfhoinaeeaa
section

open Go.RowKit Go.Proofs.Sky

set_option linter.unusedVariables false

set_option linter.unusedSimpArgs false

theorem edge_wide : (match Try.prog.underlying 65 with | some (.array _ _) | some (.struct _) => true | _ => false) = true := by simp only [Try.underlying65]

theorem edge_laid : laidOutB Try.prog = true := by kernel_rfl

set_option maxRecDepth 100000 in
theorem edge_law : Go.WideMaps.KeyLaw Try.prog 65 := deep_law_laid edge_laid (m := 3) (by omega) (of_decide_eq_true (by kernel_rfl)) (by kernel_rfl) edge_wide

def ev (e : Ed) : Value := .agg #[.int .i64 e.1.1, .int .i64 e.1.2.1, .int .i64 e.1.2.2, .int .i64 e.2.1, .int .i64 e.2.2.1, .int .i64 e.2.2.2]

def IE (e : Ed) : Prop := I3 e.1 ∧ I3 e.2

set_option maxRecDepth 100000 in
theorem edge_key (e : Ed) (h : IE e) : ∃ kl, keyOf Try.prog 65 (ev e) = some kl := by
  obtain ⟨⟨x1, x2, x3⟩, x4, x5, x6⟩ := e
  obtain ⟨⟨h1, h2, h3⟩, h4, h5, h6⟩ := h
  dsimp only at h1 h2 h3 h4 h5 h6
  have w : ∀ x : Int, I64 x → (Lit.int .i64 x).wf = true := fun x h => WalkArith.wf_i64 h
  have e1 := w x1 h1; have e2 := w x2 h2; have e3 := w x3 h3; have e4 := w x4 h4; have e5 := w x5 h5; have e6 := w x6 h6
  have hs : ∃ s, Try.prog.types.size = s + 3 := ⟨Try.prog.types.size - 3, by have := of_decide_eq_true (show decide (3 ≤ Try.prog.types.size) = true by kernel_rfl); omega⟩
  obtain ⟨s, hs⟩ := hs
  have k1 : Try.prog.keyType 65 = true := by kernel_rfl
  have k2 : Try.prog.cellsOf 65 = 6 := by kernel_rfl
  have k3 : Try.prog.cellsOf 23 = 3 := by kernel_rfl
  have k4 : Try.prog.cellsOf 3 = 1 := by kernel_rfl
  have i1 : ∀ (d : Nat) (x : Int), (Lit.int .i64 x).wf = true → Try.prog.keyLits (d + 1) 3 [.int .i64 x] = some [.int .i64 x] := fun d x hx => by
    unfold Program.keyLits
    rw [Try.underlying3]
    exact if_pos ⟨rfl, hx⟩
  have i3 : ∀ (d : Nat) (x y z : Int), (Lit.int .i64 x).wf = true → (Lit.int .i64 y).wf = true → (Lit.int .i64 z).wf = true → Try.prog.keyLits (d + 2) 23 [.int .i64 x, .int .i64 y, .int .i64 z] = some [.int .i64 x, .int .i64 y, .int .i64 z] := fun d x y z hx hy hz => by
    unfold Program.keyLits
    rw [Try.underlying23]
    dsimp only
    rw [if_pos ⟨by rw [k3]; rfl, by kernel_rfl⟩]
    simp [k4, i1, hx, hy, hz]
  have i6 : Try.prog.keyLits (s + 3 + 1) 65 [.int .i64 x1, .int .i64 x2, .int .i64 x3, .int .i64 x4, .int .i64 x5, .int .i64 x6] = some [.int .i64 x1, .int .i64 x2, .int .i64 x3, .int .i64 x4, .int .i64 x5, .int .i64 x6] := by
    unfold Program.keyLits
    rw [Try.underlying65]
    dsimp only
    rw [if_pos ⟨by rw [k2]; rfl, by kernel_rfl⟩]
    simp [k3, i3, e1, e2, e3, e4, e5, e6]
  have hf : (Value.agg #[.int .i64 x1, .int .i64 x2, .int .i64 x3, .int .i64 x4, .int .i64 x5, .int .i64 x6]).formed Try.prog 65 = true := by
    simp [Value.formed, Try.underlying65, k2]
  refine ⟨.string (keyBytes [.int .i64 x1, .int .i64 x2, .int .i64 x3, .int .i64 x4, .int .i64 x5, .int .i64 x6]), ?_⟩
  unfold keyOf ev
  rw [Try.underlying65]
  dsimp only
  rw [k1, hf, hs]
  have hc : (Value.agg #[.int .i64 x1, .int .i64 x2, .int .i64 x3, .int .i64 x4, .int .i64 x5, .int .i64 x6]).cells.toList = [.int .i64 x1, .int .i64 x2, .int .i64 x3, .int .i64 x4, .int .i64 x5, .int .i64 x6] := rfl
  rw [if_pos (show (true && true) = true from rfl), hc]
  rw [i6, Option.map_some]

theorem edge_zero (w : World) : (zeroValue 3).run Try.prog w = .ok (.int .i64 0) w := by kernel_rfl

/-- Block b is a map of edges that counts as C does. -/
def MapIs (w : World) (b n : Nat) (C : Ed → Int) : Prop := ∃ D : DataW Unit, w.ownsMap Try.prog 65 (plainElem Try.prog 3) b n D ∧ (∀ e kl, keyOf Try.prog 65 (ev e) = some kl → D.atKey kl (.lit (.int .i64 0)) = .lit (.int .i64 (C e))) ∧ ∀ kl, Go.Maps.has D kl = true → ∃ e, keyOf Try.prog 65 (ev e) = some kl

theorem ev_inj {e f : Ed} (h : ev e = ev f) : e = f := by
  obtain ⟨⟨x1, x2, x3⟩, x4, x5, x6⟩ := e
  obtain ⟨⟨y1, y2, y3⟩, y4, y5, y6⟩ := f
  unfold ev at h
  simp only [Value.agg.injEq, Array.mk.injEq, List.cons.injEq, Value.int.injEq, true_and, and_true] at h
  obtain ⟨rfl, rfl, rfl, rfl, rfl, rfl⟩ := h
  rfl

theorem mapis_grown {w w' : World} {b n : Nat} {C : Ed → Int} {row : Option Nat} (h : MapIs w b n C) (hg : w.grownBy w' row) (hne : some b ≠ row) : MapIs w' b n C := by
  obtain ⟨D, h1, h2, h3⟩ := h
  exact ⟨D, h1.kept hg hne, h2, h3⟩

theorem mapis_below {w w' : World} {b n : Nat} {C : Ed → Int} (h : MapIs w b n C) (hb : Below w.heap.size w w') : MapIs w' b n C :=
  mapis_grown h (row := none) ⟨hb.os, hb.tape, hb.output, hb.size, fun i hi _ => hb.block i hi⟩ (by simp)

theorem mapis_mono {w : World} {b n m : Nat} {C : Ed → Int} (h : MapIs w b n C) (hm : n ≤ m) : MapIs w b m C := by
  obtain ⟨D, h1, h2, h3⟩ := h
  exact ⟨D, h1.mono hm, h2, h3⟩

theorem mapis_made (w : World) : MapIs (w.alloc (.map #[] 0)) w.heap.size 0 (net []) :=
  ⟨.map [], World.ownsMap_made _ _ _ _, fun e kl _ => by simp [DataW.atKey, net], fun kl h => by simp [Go.Maps.has] at h⟩

theorem mapis_count {w : World} {b n : Nat} {C : Ed → Int} (h : MapIs w b n C) (hn : n + 1 < maxLen) (e : Ed) (he : IE e) :
    ∃ (st : Nat) (w1 : World), (Instr.lookup 63 (.map (some b)) (ev e) false).run Try.prog w = .ok (.int .i64 (C e)) w ∧ (Instr.mapEntry 63 (.map (some b)) (ev e)).run Try.prog w = .ok (.tuple #[.int .i64 (C e), goInt st]) w1 ∧
      (Instr.lookup 63 (.map (some b)) (ev e) false).run Try.prog w1 = .ok (.int .i64 (C e)) w1 ∧
      ∀ d : Int, I64 (C e + d) → ∃ w2, (Instr.entryStore 63 (.map (some b)) (goInt st) (.int .i64 (C e + d))).run Try.prog w1 = .ok () w2 ∧ MapIs w2 b (n + 1) (bump C e d) ∧ w.grownBy w2 (some b) := by
  obtain ⟨D, h1, h2, h3⟩ := h
  obtain ⟨kl, hk⟩ := edge_key e he
  obtain ⟨c, st, w1, e1, e2, e3, e4, e5⟩ := owns_count edge_law Try.underlying63 Try.underlying3 edge_zero h1 hn hk
  have hc : c = C e := by have := h2 e kl hk; rw [e1] at this; cases this; rfl
  subst hc
  refine ⟨st, w1, e2, e3, e4, fun d hd => ?_⟩
  obtain ⟨w2, x1, x2, x3⟩ := e5 (C e + d) (WalkArith.wf_i64 hd)
  have hIs : Go.Maps.IsMap D := by
    obtain ⟨es', clock', _, _, _, e'⟩ := id h1
    exact ⟨_, e'⟩
  have hkl := (Go.Maps.Keyed.of_law edge_law).key hk
  refine ⟨w2, x1, ⟨_, x2, fun f kf hf => ?_, fun kf hf => ?_⟩, x3⟩
  · by_cases hq : kf = kl
    · subst hq
      have hfe : f = e := ev_inj (edge_law.inj hf hk)
      subst hfe
      rw [Go.Maps.atKey_put_same hIs hkl]
      unfold bump
      rw [if_pos rfl]
    · rw [Go.Maps.atKey_put_other hq, h2 f kf hf]
      unfold bump
      rw [if_neg]
      intro hfe
      subst hfe
      rw [hk] at hf
      cases hf
      exact hq rfl
  · by_cases hq : kf = kl
    · subst hq; exact ⟨e, hk⟩
    · rw [Go.Maps.has_put_other hq] at hf
      exact h3 kf hf

end
end Go.Proofs.Ytneacfhoinaeeaa
