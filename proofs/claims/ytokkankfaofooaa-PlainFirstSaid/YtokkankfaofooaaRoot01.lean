/- The contract of num.Root. -/
import Derived.Test.YtokkankfaofooaaNum01
import Derived.Lib.ItoaNum
import Derived.Lib.Hide
namespace Go.Proofs.Ytokkankfaofooaa
open Go.RowKit Go.Proofs.Sky
set_option linter.unusedVariables false

theorem Len64 (x : Int) (w : World) (h : U64 x) :
    Calls Try.prog 77 #[.int .u64 x] w fun e w' => e = .returned (.int .i64 (Lib.bitLen x.toNat : Int)) ∧ w = w' :=
  (Try.bits_Len64 x w h.1 h.2).mono fun e w' ⟨h1, h2⟩ => ⟨h1, h2.symm⟩

theorem bitLen_lt (n : Nat) (h : n < 18446744073709551616) : Lib.bitLen n ≤ 64 ∧ n < 2 ^ Lib.bitLen n := by
  refine ⟨Lib.bitLen_le n 64 (Nat.le_refl _) h, ?_⟩
  by_cases h0 : n = 0
  · subst h0; decide
  · exact (Lib.bitLenAux_bounds 64 n h h0).2.2

theorem num_Root (n : Nat) (w : World) (hn : n < 18446744073709551616) :
    Calls Try.prog 71 #[.int .u64 n] w fun e w' => e = .returned (.int .i64 (isq n : Int)) ∧ w = w' := by
  obtain ⟨hl, hs⟩ := bitLen_lt n hn
  have H := Lib.hid (RootInv.start hl hs)
  have hp : 2 ^ ((Lib.bitLen n + 1) / 2) ≤ 2 ^ 32 := Nat.pow_le_pow_right (by omega) (by omega)
  have HP := Lib.hid hp
  clear hs hp
  go_enter Try.func71, Try.ntmps71
  go_wp2_with (go_at_call 77; refine (Len64 _ _ (by unfold U64; omega)).mono ?_; rintro e w' ⟨rfl, rfl⟩)
  go_loop [3, 4] (fun u v => ∃ m r b : Nat, RootInv n m r b ∧ u = .int .u64 r ∧ v = .int .u64 b) (fun _ v => (intOf v).toNat)
  case atStart =>
    refine ⟨_, 0, _, H.out, rfl, ?_⟩
    have := HP.out
    rw [u64w]
    have e : ((2 : Int) ^ ((Lib.bitLen n + 1) / 2)) = ((2 ^ ((Lib.bitLen n + 1) / 2) : Nat) : Int) := by rw [Int.natCast_pow]; rfl
    rw [e]
    generalize 2 ^ ((Lib.bitLen n + 1) / 2) = p at this ⊢
    exact congrArg _ (by omega)
  case round =>
    obtain ⟨m, r, b, hi, rfl, rfl⟩ := hrel
    by_cases hb : 0 < b
    · obtain ⟨k, rfl, eb, ho, hlt, hsq⟩ := hi.split hb
      have HB := Lib.hid eb; clear eb
      have hw : bits .or .u64 (r : Int) (b : Int) = (r : Int) + (b : Int) := by rw [u64_or_nat r b (by omega) (by omega), ho]; simp
      have hx : IntKind.u64.wrap (((r : Int) + (b : Int)) * ((r : Int) + (b : Int))) = ((r : Int) + (b : Int)) * ((r : Int) + (b : Int)) := by
        rw [u64w, ← Int.natCast_add, ← Int.natCast_mul]; omega
      clear ho hsq
      go_wp2
      · have g : ((r : Int) + (b : Int)) * ((r : Int) + (b : Int)) ≤ n := by assumption
        rw [← Int.natCast_add, ← Int.natCast_mul] at g
        go_round
        case rel => exact ⟨k, r + b, b / 2, hi.yes HB.out (by omega), by go_num, by go_num⟩
        case measure => simp [intOf]; omega
      · have g : (n : Int) < ((r : Int) + (b : Int)) * ((r : Int) + (b : Int)) := by assumption
        rw [← Int.natCast_add, ← Int.natCast_mul] at g
        go_round
        case rel => exact ⟨k, r, b / 2, hi.no HB.out (by omega), rfl, by go_num⟩
        case measure => simp [intOf]; omega
    · obtain rfl : b = 0 := by omega
      have E := Lib.hid hi.done
      have hr : r ≤ 4294967296 := Nat.le_trans (Nat.le_add_right _ _) hi.2.2.2.2
      go_wp2
      go_ret
      exact ⟨ret_int (by rw [E.out]), rfl⟩

end Go.Proofs.Ytokkankfaofooaa
