/- WalkAnyTree: for every input the statement's function returns true and leaves its arguments as they were; no condition. -/
import Derived.Test.YtbmpmjdlaahekaaGreatRows
import Derived.Test.YtbmpmjdlaahekaaGreatWs58
import Derived.Test.YtbmpmjdlaahekaaGreatWs48
namespace Go.Proofs.YtbmpmjdlaahekaaGreat.walkAnyTree
open Go.Proofs.YtbmpmjdlaahekaaGreat Go.Proofs.Sky Go.ChangeShapes Go.WideShapes Go.ChangeAt Go.RowKit Go.Joins
set_option linter.unusedVariables false

theorem own : ownKnob Tryz.prog.godebug = none := by kernel_rfl
theorem laidOut : laidOutB Tryz.prog = true := by kernel_rfl

set_option maxRecDepth 100000 in
theorem lifted (os : Os) (started : os.Started) (H : Type) (enc : TypeId × Value → H) :
    ReturnsInHanded {} Tryz.checked os 4 .any (Rows.walkAnyTreeSpec.pre6 enc Tryz.prog Tryz.f4 Rows.walkAnyTreeRow.domain false) (Rows.walkAnyTreeSpec.post enc Tryz.prog Tryz.f4 false true false false) := by
  refine returnsInHanded_of_change (C := Tryz.checked) own started (by kernel_rfl) Tryz.func4
    (ChangeSpec.witness6 (enc := enc) (C := Tryz.checked) false ⟨#[], #[.slice none 0 0, .int .u8 0, .agg #[.int .i64 0, .int .i64 0, .int .i64 0, .int .i64 0, .int .i64 0, .int .i64 0, .int .i64 0], .agg #[.int .i64 0, .int .i64 0]], []⟩ 8 (by kernel_rfl) (by kernel_rfl) (by kernel_rfl) (by kernel_rfl)) ?_
  intro W base args ds gs before hval0 hW hcnd _
  have hval : ∀ (j : Nat) t v, Tryz.f4.params[j]? = some t → args[j]? = some v → Value.okWide Tryz.prog W .any base t v := hval0
  have hW' := hW
  obtain ⟨p, q, hA0, hV, rfl, hfz, hnd⟩ := hW
  have hA : DataW.TrodAll enc Tryz.prog W 0 (fun _ => true) true Tryz.f4.params.toList args.toList ds p := hA0
  rw [Tryz.params4] at hA hval
  obtain ⟨v0, vs0, d0, ds0, p0, q0, hargs, rfl, rfl, h0, r0⟩ := trodAll_cons hA
  obtain ⟨v1, vs1, d1, ds1, p1, q1, rfl, rfl, rfl, h1, r1⟩ := trodAll_cons r0
  obtain ⟨v2, vs2, d2, ds2, p2, q2, rfl, rfl, rfl, h2, r2⟩ := trodAll_cons r1
  obtain ⟨v3, vs3, d3, ds3, p3, q3, rfl, rfl, rfl, h3, r3⟩ := trodAll_cons r2
  obtain ⟨rfl, rfl, rfl⟩ := trodAll_nil r3
  obtain rfl : args = #[v0, v1, v2, v3] := by cases args; simp_all
  obtain ⟨rfl, rfl⟩ := trodVars_none hV
  obtain ⟨a0, len0, cap0, P0, rfl, s0⟩ := open_prims16 (hval 0 22 v0 rfl rfl) h0
  obtain ⟨a1, rfl, rfl, rfl, w1⟩ := open_int Tryz.underlying5 (hval 1 5 v1 rfl rfl) h1
  obtain ⟨cs2, rfl, L2⟩ := open_flat (n := 6) (ks := [.int .i64, .int .i64, .int .i64, .int .i64, .int .i64, .int .i64, .int .i64]) Tryz.underlying26 (by kernel_rfl) (hval 2 26 v2 rfl rfl) h2
  obtain ⟨_, _, rfl, ⟨a2_0, rfl, w2_0⟩, ⟨_, _, rfl, ⟨a2_1, rfl, w2_1⟩, ⟨_, _, rfl, ⟨a2_2, rfl, w2_2⟩, ⟨_, _, rfl, ⟨a2_3, rfl, w2_3⟩, ⟨_, _, rfl, ⟨a2_4, rfl, w2_4⟩, ⟨_, _, rfl, ⟨a2_5, rfl, w2_5⟩, ⟨_, _, rfl, ⟨a2_6, rfl, w2_6⟩, rfl⟩⟩⟩⟩⟩⟩⟩ := L2
  obtain ⟨v3_0, v3_1, y3_0, y3_1, n3, rfl, rfl, rfl, t3_0, t3_1⟩ := open_agg2 Tryz.underlying28 (by kernel_rfl) (by kernel_rfl) (hval 3 28 v3 rfl rfl) h3
  obtain ⟨a3_0, e3_0, rfl, w3_0⟩ := DataW.trod_int Tryz.underlying3 t3_0
  obtain rfl := (List.cons.inj e3_0).1
  obtain ⟨a3_1, e3_1, rfl, w3_1⟩ := DataW.trod_int Tryz.underlying3 t3_1
  obtain rfl := (List.cons.inj e3_1).1
  clear hA0 hval0
  refine (law_WalkAnyTreeI a0 len0 cap0 a1 a2_0 a2_1 a2_2 a2_3 a2_4 a2_5 a2_6 a3_0 a3_1 P0 W s0 w1 ⟨I64.of_wf w2_0, I64.of_wf w2_1, I64.of_wf w2_2⟩ ⟨I64.of_wf w2_3, I64.of_wf w2_4, I64.of_wf w2_5⟩ (I64.of_wf w2_6) (I64.of_wf w3_0) (I64.of_wf w3_1)).mono fun e W' ⟨he, hg⟩ => ?_
  subst he
  exact ⟨_, rfl, law_done laidOut (by kernel_rfl) hW' rfl (t := 4) (by kernel_rfl) Tryz.underlying4 ⟨rfl, rfl, rfl⟩ hg⟩

theorem over : Rows.walkAnyTreeRow.holds Tryz.pinned (OpenSpec.ofChange Rows.walkAnyTreeSpec) :=
  OpenClaim.holds_of_wide 4 Tryz.f4 rfl rfl rfl rfl rfl rfl rfl ⟨rfl, rfl, rfl, rfl, rfl⟩ rfl rfl rfl rfl rfl (by kernel_rfl) Tryz.func4 (by kernel_rfl)
    (of_decide_eq_true (by kernel_rfl)) (by unfold Func.isWrapper; first | (rw [if_pos (by decide +kernel)]; kernel_rfl) | (rw [if_neg (by decide +kernel)]; exact ⟨rfl, rfl⟩))
    (fun os started H enc _ => lifted os started H enc)

/-- The statement. -/
theorem proved : Rows.WalkAnyTreeSaid :=
  over
#print axioms proved
end Go.Proofs.YtbmpmjdlaahekaaGreat.walkAnyTree
