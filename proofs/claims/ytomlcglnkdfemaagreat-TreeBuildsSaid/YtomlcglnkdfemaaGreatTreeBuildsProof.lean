/- TreeBuilds: for every input the statement's function returns true and leaves its arguments as they were; no condition. -/
import Derived.Test.YtomlcglnkdfemaaGreatRows
import Derived.Test.YtomlcglnkdfemaaGreatTb48
import Derived.Test.YtomlcglnkdfemaaGreatTb4
import Derived.Test.YtomlcglnkdfemaaGreatTb23
namespace Go.Proofs.YtomlcglnkdfemaaGreat.treeBuilds
open Go.Proofs.YtomlcglnkdfemaaGreat Go.Proofs.Sky Go.ChangeShapes Go.WideShapes Go.ChangeAt Go.RowKit Go.Joins
set_option linter.unusedVariables false

theorem own : ownKnob Tryz.prog.godebug = none := by kernel_rfl
theorem laidOut : laidOutB Tryz.prog = true := by kernel_rfl

set_option maxRecDepth 100000 in
theorem lifted (os : Os) (started : os.Started) (H : Type) (enc : TypeId × Value → H) :
    ReturnsInHanded {} Tryz.checked os 3 .any (Rows.treeBuildsSpec.pre6 enc Tryz.prog Tryz.f3 Rows.treeBuildsRow.domain false) (Rows.treeBuildsSpec.post enc Tryz.prog Tryz.f3 false true false false) := by
  refine returnsInHanded_of_change (C := Tryz.checked) own started (by kernel_rfl) Tryz.func3
    (ChangeSpec.witness6 (enc := enc) (C := Tryz.checked) false ⟨#[], #[.slice none 0 0], []⟩ 8 (by kernel_rfl) (by kernel_rfl) (by kernel_rfl) (by kernel_rfl)) ?_
  intro W base args ds gs before hval0 hW hcnd _
  have hval : ∀ (j : Nat) t v, Tryz.f3.params[j]? = some t → args[j]? = some v → Value.okWide Tryz.prog W .any base t v := hval0
  have hW' := hW
  obtain ⟨p, q, hA0, hV, rfl, hfz, hnd⟩ := hW
  have hA : DataW.TrodAll enc Tryz.prog W 0 (fun _ => true) true Tryz.f3.params.toList args.toList ds p := hA0
  rw [Tryz.params3] at hA hval
  obtain ⟨v0, vs0, d0, ds0, p0, q0, hargs, rfl, rfl, h0, r0⟩ := trodAll_cons hA
  obtain ⟨rfl, rfl, rfl⟩ := trodAll_nil r0
  obtain rfl : args = #[v0] := by cases args; simp_all
  obtain ⟨rfl, rfl⟩ := trodVars_none hV
  obtain ⟨a0, len0, cap0, P0, rfl, s0⟩ := open_prims16 (hval 0 22 v0 rfl rfl) h0
  clear hA0 hval0
  refine (law_TreeBuilds a0 len0 cap0 P0 W s0).mono fun e W' ⟨he, hg⟩ => ?_
  subst he
  exact ⟨_, rfl, law_done laidOut (by kernel_rfl) hW' rfl (t := 4) (by kernel_rfl) Tryz.underlying4 ⟨rfl, rfl, rfl⟩ hg⟩

theorem over : Rows.treeBuildsRow.holds Tryz.pinned (OpenSpec.ofChange Rows.treeBuildsSpec) :=
  OpenClaim.holds_of_wide 3 Tryz.f3 rfl rfl rfl rfl rfl rfl rfl ⟨rfl, rfl, rfl, rfl, rfl⟩ rfl rfl rfl rfl rfl (by kernel_rfl) Tryz.func3 (by kernel_rfl)
    (of_decide_eq_true (by kernel_rfl)) (by unfold Func.isWrapper; first | (rw [if_pos (by decide +kernel)]; kernel_rfl) | (rw [if_neg (by decide +kernel)]; exact ⟨rfl, rfl⟩))
    (fun os started H enc _ => lifted os started H enc)

/-- The statement. -/
theorem proved : Rows.TreeBuildsSaid :=
  over
#print axioms proved
end Go.Proofs.YtomlcglnkdfemaaGreat.treeBuilds
