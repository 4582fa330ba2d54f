/- NumTells: each function of num answers as the document's own. -/
import Derived.Test.YtmmgpgmglemcdaaAwake01
import Derived.Test.YtmmgpgmglemcdaaRef01
namespace Go.Proofs.Ytmmgpgmglemcdaa
open Go.RowKit Go.Proofs.Sky
set_option linter.unusedVariables false

set_option maxHeartbeats 4000000 in
theorem law_NumTells_at (a b c : Int) (x y z : Nat) (ha : I64 a) (hb : I64 b) (hx : x < 18446744073709551616) (hy : y < 18446744073709551616) (hz : z < 18446744073709551616) (w : World) :
    Calls Try.prog 3 #[.int .i64 a, .int .i64 b, .int .i64 c, .int .u64 x, .int .u64 y, .int .u64 z] w fun e w' => e = .returned (.bool true) ∧ ∃ n, w' = w.drewN n := by
  have n1 := Lib.hid (fun w => num_Div a b w ha hb)
  have r1 := Lib.hid (fun w => ref_Div a b w ha hb)
  have n2 := Lib.hid (fun w => num_Mod a b w ha hb)
  have r2 := Lib.hid (fun w => ref_Mod a b w ha hb)
  have n3 := Lib.hid (fun w => num_Hold a b c w)
  have r3 := Lib.hid (fun w => ref_Hold a b c w)
  have n4 := Lib.hid (fun w => num_Plus a b w ha hb)
  have r4 := Lib.hid (fun w => ref_Plus a b w ha hb)
  have n5 := Lib.hid (fun w => num_Times a b w ha hb)
  have r5 := Lib.hid (fun w => ref_Times a b w ha hb)
  have n6 := Lib.hid (fun w => num_Root x w hx)
  have r6 := Lib.hid (fun w => ref_Root x w hx)
  have n7 := Lib.hid (fun w => num_Part x y z w hx hy hz)
  have r7 := Lib.hid (fun w => ref_Part x y z w hx hy hz)
  generalize dv a b = v1 at *
  generalize md a b = v2 at *
  generalize hold a b c = v3 at *
  generalize sat (a + b) = v4 at *
  generalize sat (a * b) = v5 at *
  generalize isq x = v6 at *
  generalize partQ x y z = v7 at *
  generalize partOk x y z = v8 at *
  clear ha hb hx hy hz
  go_enter Try.func3, Try.ntmps3
  go_wp2_with (first
    | (go_at_call 6; refine (n7.out _).mono ?_; rintro e w' ⟨rfl, n, rfl⟩)
    | (go_at_call 7; refine (r7.out _).mono ?_; rintro e w' ⟨rfl, rfl⟩)
    | (go_at_call 8; refine (n1.out _).mono ?_; rintro e w' ⟨rfl, rfl⟩)
    | (go_at_call 9; refine (r1.out _).mono ?_; rintro e w' ⟨rfl, rfl⟩)
    | (go_at_call 10; refine (n2.out _).mono ?_; rintro e w' ⟨rfl, rfl⟩)
    | (go_at_call 11; refine (r2.out _).mono ?_; rintro e w' ⟨rfl, rfl⟩)
    | (go_at_call 12; refine (n3.out _).mono ?_; rintro e w' ⟨rfl, rfl⟩)
    | (go_at_call 13; refine (r3.out _).mono ?_; rintro e w' ⟨rfl, rfl⟩)
    | (go_at_call 14; refine (n4.out _).mono ?_; rintro e w' ⟨rfl, rfl⟩)
    | (go_at_call 15; refine (r4.out _).mono ?_; rintro e w' ⟨rfl, rfl⟩)
    | (go_at_call 16; refine (n5.out _).mono ?_; rintro e w' ⟨rfl, rfl⟩)
    | (go_at_call 17; refine (r5.out _).mono ?_; rintro e w' ⟨rfl, rfl⟩)
    | (go_at_call 18; refine (n6.out _).mono ?_; rintro e w' ⟨rfl, rfl⟩)
    | (go_at_call 19; refine (r6.out _).mono ?_; rintro e w' ⟨rfl, rfl⟩)
    | (go_at_call 20; refine (awake01 _).mono ?_; rintro e w' ⟨rfl, n, rfl⟩))
  go_ret
  exact ⟨rfl, _, rfl⟩

theorem law_NumTells (a b c x y z : Int) (ha : I64 a) (hb : I64 b) (hx : U64 x) (hy : U64 y) (hz : U64 z) (w : World) :
    Calls Try.prog 3 #[.int .i64 a, .int .i64 b, .int .i64 c, .int .u64 x, .int .u64 y, .int .u64 z] w fun e w' => e = .returned (.bool true) ∧ ∃ n, w' = w.drewN n := by
  unfold U64 at hx hy hz
  obtain ⟨x', rfl⟩ := Int.eq_ofNat_of_zero_le hx.1
  obtain ⟨y', rfl⟩ := Int.eq_ofNat_of_zero_le hy.1
  obtain ⟨z', rfl⟩ := Int.eq_ofNat_of_zero_le hz.1
  exact law_NumTells_at a b c x' y' z' ha hb (by omega) (by omega) (by omega) w

end Go.Proofs.Ytmmgpgmglemcdaa
