/- The chapter's example holds: the contract of the statements' own awake, layer 9. -/
import Derived.Test.YtppfemaolaigoaaHue09
import Derived.Test.YtppfemaolaigoaaTail
import Derived.Deep.DeepCutAuto
namespace Go.Proofs.Ytppfemaolaigoaa
open Go.RowKit Go.Proofs.Sky
set_option linter.unusedVariables false

set_option maxRecDepth 100000 in
set_option maxHeartbeats 8000000 in
theorem awake09 (w : World) :
    Calls Try.prog 5 #[] w fun e w' => e = .returned (.bool true) ∧ Below w.heap.size w w' := by
  have KM : Hid (∀ w, Calls Try.prog 10 #[.agg #[.int .i64 100, .int .i64 100, .int .i64 100], .agg #[.int .i64 65536, .int .i64 32768, .int .i64 0]] w fun r w' => r = .returned (.agg #[.int .i64 100, .int .i64 50, .int .i64 0]) ∧ Below w.heap.size w w') := Lib.hid (fun w => by
    have h := hue_Mix 100 100 100 65536 32768 0 w (by unfold I64; omega) (by unfold I64; omega) (by unfold I64; omega) (by unfold I64; omega) (by unfold I64; omega) (by unfold I64; omega)
    rw [show hmix (100, 100, 100) (65536, 32768, 0) = (100, 50, 0) by decide +kernel] at h
    exact h)
  have KB : Hid (∀ w, Calls Try.prog 20 #[.agg #[.int .i64 0, .int .i64 0, .int .i64 0]] w fun r w' => r = .returned (.bool true) ∧ Below w.heap.size w w') := Lib.hid (fun w => by
    have h := hue_Black 0 0 0 w
    rw [show hblack (0, 0, 0) = true by decide +kernel] at h
    exact h)
  have KG : Hid (∀ w, Calls Try.prog 18 #[.agg #[.int .i64 0, .int .i64 8, .int .i64 0]] w fun r w' => r = .returned (.int .i64 4) ∧ Below w.heap.size w w') := Lib.hid (fun w => by
    have h := hue_Grey 0 8 0 w (by unfold I64; omega) (by unfold I64; omega) (by unfold I64; omega)
    rw [show hgrey (0, 8, 0) = 4 by decide +kernel] at h
    exact h)
  have KN := Lib.hid (fun w => hue_Fold_none none 0 w)
  have KF : Hid (∀ W : World, Calls Try.prog 22 #[.slice (some ⟨W.heap.size, 0, none⟩) 2 2] (W.alloc (.cells #[.int .i64 1, .int .i64 0, .int .i64 0, .int .i64 2, .int .i64 0, .int .i64 3] 23)) fun r w' => r = .returned (.agg #[.int .i64 3, .int .i64 0, .int .i64 3]) ∧ Below (W.alloc (.cells #[.int .i64 1, .int .i64 0, .int .i64 0, .int .i64 2, .int .i64 0, .int .i64 3] 23)).heap.size (W.alloc (.cells #[.int .i64 1, .int .i64 0, .int .i64 0, .int .i64 2, .int .i64 0, .int .i64 3] 23)) w') := Lib.hid (fun W => by
    have k := Bk.new W #[.int .i64 1, .int .i64 0, .int .i64 0, .int .i64 2, .int .i64 0, .int .i64 3] 23
    have h := hue_Fold W.heap.size 0 2 2 (fun i => if i = 0 then (1, 0, 0) else (2, 0, 3)) (W.alloc (.cells #[.int .i64 1, .int .i64 0, .int .i64 0, .int .i64 2, .int .i64 0, .int .i64 3] 23)) (fun i hi => by
      match i, hi with
      | 0, _ => exact ⟨k.cell rfl, k.cell rfl, k.cell rfl⟩
      | 1, _ => exact ⟨k.cell rfl, k.cell rfl, k.cell rfl⟩) (fun i hi => by
      match i, hi with
      | 0, _ => exact ⟨by unfold I64; simp, by unfold I64; simp, by unfold I64; simp⟩
      | 1, _ => exact ⟨by unfold I64; simp, by unfold I64; simp, by unfold I64; simp⟩) (by simp) (by omega)
    rw [show hfold (fun i => if i = 0 then (1, 0, 0) else (2, 0, 3)) 2 = (3, 0, 3) by decide +kernel] at h
    exact h)
  go_enter Try.func5, Try.ntmps5
  go_wp2_with (first
    | (go_at_call 10; (with_reducible refine (KM.out _).mono ?_); rintro e w1 ⟨rfl, h1⟩)
    | (go_at_call 22; (with_reducible refine (KN.out _).mono ?_); rintro e w3 ⟨rfl, h3⟩)
    | (go_at_call 22; refine (KF.out _).mono ?_; rintro e w2 ⟨rfl, h2⟩)
    | (go_at_call 20; (with_reducible refine (KB.out _).mono ?_); rintro e w4 ⟨rfl, h4⟩)
    | (go_at_call 18; (with_reducible refine (KG.out _).mono ?_); rintro e w5 ⟨rfl, h5⟩))
  go_ret
  have b1 := h1.alloc h1.size (.cells #[.int .i64 1, .int .i64 0, .int .i64 0, .int .i64 2, .int .i64 0, .int .i64 3] 23)
  have b2 := b1.trans (h2.mono b1.size)
  have b3 := b2.trans (h3.mono b2.size)
  have b4 := b3.trans (h4.mono b3.size)
  exact ⟨rfl, b4.trans (h5.mono b4.size)⟩

end Go.Proofs.Ytppfemaolaigoaa
