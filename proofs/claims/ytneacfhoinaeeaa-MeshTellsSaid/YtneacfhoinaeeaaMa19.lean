/- Contracts of the document's own answers of layer 5 (skylightref05). -/
import Derived.Test.YtneacfhoinaeeaaMa15
import Derived.Test.YtneacfhoinaeeaaMa10
import Derived.Handy


namespace Go.Proofs.Ytneacfhoinaeeaa
section

open Go.RowKit Go.Proofs.Sky

set_option linter.unusedVariables false

set_option maxRecDepth 100000 in
set_option maxHeartbeats 1000000 in
theorem ref5_Sin_at (h q : Int) (w : World) (hh : I64 h) (hq : h % 65536 = q) (h0 : 0 ≤ q) (h1 : q < 32768) :
    Calls Try.prog 49 #[.int .i64 h] w fun e w' => e = .returned (.int .i64 (sinq q)) ∧ w = w' := by
  obtain ⟨a0, a1⟩ := sinq_a (q := q) h0 (by omega)
  obtain ⟨r0, r1⟩ := sinq_range (q := q) h0 (by omega)
  have M : Hid (∀ w, Calls Try.prog 62 #[.int .i64 h, .int .i64 65536] w fun e w' => e = .returned (.int .i64 q) ∧ w = w') := Lib.hid (fun w => by
    have := ref_Mod h 65536 w hh (by unfold I64; omega)
    rw [show md h 65536 = q by unfold md; rw [if_neg (by omega)]; exact hq] at this
    exact this)
  obtain ⟨A, hA⟩ : ∃ A, A = q * (32768 - q) := ⟨_, rfl⟩
  obtain ⟨Q, hQ⟩ : ∃ Q : Nat, (Q : Int) = sinq q := ⟨(sinq q).toNat, by omega⟩
  rw [← hQ] at r0 r1 ⊢
  unfold sinq at hQ
  rw [← hA] at a0 a1 hQ
  have w1 : wrap64 (q * (32768 - q)) = A := by rw [← hA]; exact IntWalk.wrap64_in _ (by omega)
  have w2 : IntKind.i64.wrap (q * (32768 - q)) = A := by rw [← hA, i64w]; omega
  obtain ⟨U, eU⟩ : ∃ U, 262144 * A = U := ⟨_, rfl⟩
  obtain ⟨L, eL⟩ : ∃ L, 5368709120 - 4 * A = L := ⟨_, rfl⟩
  rw [eU, eL] at hQ
  have HQ : Hid (∀ x : Int, x ≤ (Q : Int) ↔ x * L ≤ U) := Lib.hid (fun x => by rw [hQ]; exact Int.le_ediv_iff_mul_le (by omega))
  have HS : Hid (PartInv Q 15 0) := Lib.hid ⟨by omega, Nat.dvd_zero _, by omega, by rw [show (2 : Nat) ^ 15 = 32768 by rfl]; omega, by omega⟩
  have HU := Lib.hid (show 0 ≤ U ∧ U ≤ 70368744177664 ∧ 0 < L ∧ L ≤ 5368709120 by omega)
  clear hA hQ r0 hh hq
  go_enter Try.func49, Try.ntmps49
  go_wp2_with (go_at_call 62; (with_reducible refine (M.out _).mono ?_); rintro e w' ⟨rfl, rfl⟩)
  clear a0 a1 w1 w2 eU eL h0 h1
  go_loop [6, 7] (fun u v => ∃ m s : Nat, PartInv Q m s ∧ m ≤ 15 ∧ s ≤ 32768 ∧ u = .int .i64 s ∧ v = .int .i64 ((m : Int) - 1)) (fun _ v => (intOf v + 1).toNat)
  case atStart => exact ⟨15, 0, HS.out, by omega, by omega, rfl, rfl⟩
  case round =>
    obtain ⟨m, s, hi, hm, hs, rfl, rfl⟩ := hrel
    match m, hi, hm with
    | 0, hi, _ =>
      have E : s = Q := by have := hi.2.2.1; have := hi.2.2.2.1; omega
      subst E
      clear hi
      go_wp2
      go_ret
      exact ⟨rfl, rfl⟩
    | k + 1, hi, hm =>
      have hk : k < 15 := by omega
      have eb : ((((k + 1 : Nat) : Int)) - 1) = (k : Int) := by omega
      rw [eb]
      have h5 : s + 2 ^ k ≤ 65536 := by
        have := Nat.pow_le_pow_right (show 0 < 2 by omega) (show k ≤ 14 by omega)
        rw [show (2 : Nat) ^ 14 = 16384 by rfl] at this; omega
      obtain ⟨b, hb⟩ : ∃ b, b = 2 ^ k := ⟨_, rfl⟩
      rw [← hb] at h5
      have pb : ((2 : Int) ^ k) = (b : Int) := by rw [hb, Int.natCast_pow]; rfl
      have p1 : IntKind.i64.wrap ((2 : Int) ^ k) = (b : Int) := by rw [pb, i64w]; omega
      have p2 : wrap64 ((2 : Int) ^ k) = (b : Int) := by rw [pb]; exact IntWalk.wrap64_in _ (by omega)
      have p4 : (s : Int) + (b : Int) ≤ 65536 := by omega
      have hx := HQ.out ((s : Int) + (b : Int))
      obtain ⟨u0, u1, l0, l1⟩ := HU.out
      have v0 : 0 ≤ ((s : Int) + (b : Int)) * L := Int.mul_nonneg (by omega) (by omega)
      have v1 : ((s : Int) + (b : Int)) * L ≤ 65536 * 5368709120 := Int.mul_le_mul (by omega) l1 (by omega) (by omega)
      obtain ⟨V, hV⟩ : ∃ V, V = ((s : Int) + (b : Int)) * L := ⟨_, rfl⟩
      have p5 : IntKind.i64.wrap (((s : Int) + (b : Int)) * L) = V := by rw [← hV] at v0 v1 ⊢; rw [i64w]; omega
      have p6 : wrap64 (((s : Int) + (b : Int)) * L) = V := by rw [← hV] at v0 v1 ⊢; exact IntWalk.wrap64_in _ (by omega)
      rw [← hV] at hx
      have HI := Lib.hid hi
      have HB := Lib.hid hb
      have hs' : (s : Int) ≤ 32768 := by omega
      have hb' : (b : Int) ≤ 32768 := by
        have := Nat.pow_le_pow_right (show 0 < 2 by omega) (show k ≤ 14 by omega)
        rw [show (2 : Nat) ^ 14 = 16384 by rfl] at this; omega
      clear hi hb hV v0 v1 u0 u1 l0 l1 eb pb h5
      by_cases hc : V ≤ U
      · have t1 := decide_eq_true hc
        have G := Lib.hid (hx.2 hc)
        clear hx hc
        go_wp2
        go_round
        case rel => exact ⟨k, s + b, HI.out.yes HB.out (by have := G.out; omega), by omega, by have := G.out; omega, by go_num, by go_num⟩
        case measure => simp [intOf]
      · have t1 := decide_eq_false hc
        have G : Hid (¬ ((s : Int) + (b : Int) ≤ (Q : Int))) := Lib.hid (fun g => hc (hx.1 g))
        clear hx hc
        go_wp2
        go_round
        case rel => exact ⟨k, s, HI.out.no HB.out (by have := G.out; omega), by omega, by omega, rfl, by go_num⟩
        case measure => simp [intOf]

theorem ref5_Sin_lo (q : Int) (w : World) (h0 : 0 ≤ q) (h1 : q < 32768) :
    Calls Try.prog 49 #[.int .i64 q] w fun e w' => e = .returned (.int .i64 (sinq q)) ∧ w = w' := ref5_Sin_at q q w (by unfold I64; omega) (by omega) h0 h1

theorem ref5_Sin (h : Int) (w : World) (hh : I64 h) :
    Calls Try.prog 49 #[.int .i64 h] w fun e w' => e = .returned (.int .i64 (sinI h)) ∧ w = w' := by
  by_cases g : h % 65536 < 32768
  · have := ref5_Sin_at h (h % 65536) w hh rfl (by omega) g
    rw [show sinI h = sinq (h % 65536) by unfold sinI; rw [if_pos g]]
    exact this
  · have M : Hid (∀ w, Calls Try.prog 62 #[.int .i64 h, .int .i64 65536] w fun e w' => e = .returned (.int .i64 (h % 65536)) ∧ w = w') := Lib.hid (fun w => by
      have := ref_Mod h 65536 w hh (by unfold I64; omega)
      rw [show md h 65536 = h % 65536 by unfold md; rw [if_neg (by omega)]] at this
      exact this)
    have R : Hid (∀ w, Calls Try.prog 49 #[.int .i64 (h % 65536 - 32768)] w fun e w' => e = .returned (.int .i64 (sinq (h % 65536 - 32768))) ∧ w = w') := Lib.hid (fun w => ref5_Sin_lo _ w (by omega) (by omega))
    have r := sinq_range (q := h % 65536 - 32768) (by omega) (by omega)
    have e : sinI h = -sinq (h % 65536 - 32768) := by unfold sinI; rw [if_neg g]
    rw [e]
    have b0 : 0 ≤ h % 65536 := by omega
    have b1 : h % 65536 ≤ 65535 := by omega
    clear e hh
    generalize sinq (h % 65536 - 32768) = s at *
    generalize h % 65536 = m at *
    go_enter Try.func49, Try.ntmps49
    go_wp2_with (first
      | (go_at_call 62; (with_reducible refine (M.out _).mono ?_); rintro e w' ⟨rfl, rfl⟩)
      | (go_at_call 49; (with_reducible refine (R.out _).mono ?_); rintro e w' ⟨rfl, rfl⟩))
    go_ret
    exact ⟨rfl, rfl⟩

theorem ref5_Cos (h : Int) (w : World) (hh : I64 h) :
    Calls Try.prog 48 #[.int .i64 h] w fun e w' => e = .returned (.int .i64 (cosI h)) ∧ w = w' := by
  have M : Hid (∀ w, Calls Try.prog 62 #[.int .i64 h, .int .i64 65536] w fun e w' => e = .returned (.int .i64 (h % 65536)) ∧ w = w') := Lib.hid (fun w => by
    have := ref_Mod h 65536 w hh (by unfold I64; omega)
    rw [show md h 65536 = h % 65536 by unfold md; rw [if_neg (by omega)]] at this
    exact this)
  have R : Hid (∀ w, Calls Try.prog 49 #[.int .i64 (h % 65536 + 16384)] w fun e w' => e = .returned (.int .i64 (cosI h)) ∧ w = w') := Lib.hid (fun w => by
    have := ref5_Sin (h % 65536 + 16384) w (by unfold I64; omega)
    rw [show sinI (h % 65536 + 16384) = cosI h from sinI_congr (by omega)] at this
    exact this)
  have b0 : 0 ≤ h % 65536 := by omega
  have b1 : h % 65536 ≤ 65535 := by omega
  clear hh
  generalize cosI h = c at *
  generalize h % 65536 = m at *
  go_enter Try.func48, Try.ntmps48
  go_wp2_with (first
    | (go_at_call 62; (with_reducible refine (M.out _).mono ?_); rintro e w' ⟨rfl, rfl⟩)
    | (go_at_call 49; (with_reducible refine (R.out _).mono ?_); rintro e w' ⟨rfl, rfl⟩))
  go_ret
  exact ⟨rfl, rfl⟩

end
end Go.Proofs.Ytneacfhoinaeeaa
