/- Contract of the document's own Steps (layer 5). -/
import Derived.Test.YtneacfhoinaeeaaMa19
import Derived.Laws.AppendOwn
import Derived.RangeFuncBox


namespace Go.Proofs.Ytneacfhoinaeeaa
section

open Go.RowKit Go.Proofs.Sky

set_option linter.unusedVariables false

def stepN (n : Int) : Nat := if n ≤ 1024 then n.toNat else 0

def stepAt (n : Int) (i : Nat) : List Value := [.int .i64 (cosI ((i : Int) * 65536 / n)), .int .i64 (sinI ((i : Int) * 65536 / n))]

def stepCells (n : Int) (k : Nat) : List Value := (List.range k).flatMap (stepAt n)

theorem stepCells_next (n : Int) (k : Nat) : stepCells n (k + 1) = stepCells n k ++ stepAt n k := by
  unfold stepCells; rw [List.range_succ, List.flatMap_append]; simp

theorem pair_info : (Try.prog.info? 62).map (fun i => (i.zero, i.size, i.bytes)) = some (some (.agg #[.int .i64 0, .int .i64 0]), 2, 16) := by kernel_rfl

set_option maxHeartbeats 2000000 in
theorem ref5_Steps (n : Int) (w : World) (hn : I64 n) :
    Calls Try.prog 30 #[.int .i64 n] w fun e w' => ∃ v, e = .returned v ∧ w'.ownsRow w.heap.size 62 2 v (stepN n) (stepCells n (stepN n)) ∧ (v = .slice none 0 0 ↔ stepN n = 0) ∧ Below w.heap.size w w' := by
  by_cases h1 : n < 1
  · have e : stepN n = 0 := by unfold stepN; split <;> omega
    rw [e]
    have t1 : decide ((0 : Int) < n) = false := decide_eq_false (by omega)
    clear hn h1 e
    go_enter Try.func30, Try.ntmps30
    go_wp2
    go_rounds 1
    go_ret
    exact ⟨_, rfl, World.ownsRow_nil _ _ _ _, by simp, Below.refl _ _⟩
  · by_cases h2 : 1024 < n
    · have e : stepN n = 0 := by unfold stepN; rw [if_neg (by omega)]
      rw [e]
      have t1 : decide ((0 : Int) < n) = true := decide_eq_true (by omega)
      have t2 : decide (n ≤ 1024) = false := decide_eq_false (by omega)
      clear hn h1 h2 e
      go_enter Try.func30, Try.ntmps30
      go_wp2
      go_rounds 1
      go_ret
      exact ⟨_, rfl, World.ownsRow_nil _ _ _ _, by simp, Below.refl _ _⟩
    · obtain ⟨m, rfl⟩ := Int.eq_ofNat_of_zero_le (show 0 ≤ n by omega)
      have e : stepN (m : Int) = m := by unfold stepN; rw [if_pos (by omega)]; omega
      rw [e]
      have m1 : 1 ≤ m := by omega
      have m2 : m ≤ 1024 := by omega
      obtain ⟨i0, hi, hz0, hz1, hz2⟩ := info_parts pair_info
      have t2 : decide ((m : Int) ≤ 1024) = true := decide_eq_true (by omega)
      clear hn h1 h2 e
      go_enter Try.func30, Try.ntmps30
      go_wp2
      go_loopw [3, 4] (fun u i wr => ∃ k : Nat, k ≤ m ∧ i = .int .i64 k ∧ wr.ownsRow w.heap.size 62 2 u k (stepCells m k) ∧ (u = .slice none 0 0 ↔ k = 0) ∧ Below w.heap.size w wr) (fun _ i _ => m - (intOf i).toNat)
      case atStart => exact ⟨0, by omega, rfl, World.ownsRow_nil _ _ _ _, by simp, Below.refl _ _⟩
      case round =>
        obtain ⟨k, hk, rfl, hown, hnil, hB⟩ := hrel
        by_cases hlt : k < m
        · obtain ⟨h, hh⟩ : ∃ h, h = (k : Int) * 65536 / (m : Int) := ⟨_, rfl⟩
          have q0 : 0 ≤ (k : Int) * 65536 / (m : Int) := Int.ediv_nonneg (by omega) (by omega)
          have q1 : (k : Int) * 65536 / (m : Int) ≤ 67108864 := by
            have := Int.ediv_le_self (m : Int) (show 0 ≤ (k : Int) * 65536 by omega)
            omega
          have C := Lib.hid (fun w => ref5_Cos h w (by unfold I64; omega))
          have S := Lib.hid (fun w => ref5_Sin h w (by unfold I64; omega))
          have E : Hid (stepAt m k = [.int .i64 (cosI h), .int .i64 (sinI h)]) := Lib.hid (by unfold stepAt; rw [← hh])
          have d1 := hh.symm
          have d2 : Int.tdiv ((k : Int) * 65536) (m : Int) = h := by rw [hh, Int.tdiv_eq_ediv_of_nonneg (by omega)]
          have d3 : wrap64 h = h := IntWalk.wrap64_in _ (by omega)
          have km : (k : Int) ≤ 1023 := by omega
          have HN := Lib.hid hnil
          generalize cosI h = c at *
          generalize sinI h = s at *
          clear hh q0 q1 hnil
          go_wp2_with (first
            | (go_at_call 48; (with_reducible refine (C.out _).mono ?_); rintro e w' ⟨rfl, rfl⟩)
            | (go_at_call 49; (with_reducible refine (S.out _).mono ?_); rintro e w' ⟨rfl, rfl⟩)
            | (at_builtin; refine wpList_append_own _ rfl _ _ 60 rfl w.heap.size 62 i0 (.agg #[.int .i64 0, .int .i64 0]) 2 16 Try.underlying60 hi hz0 hz1 hz2 rfl (by decide) _ _ _ rfl (hown.alloc _) ⟨wr.heap.size, 0, none⟩ 1 1 [.int .i64 c, .int .i64 s] rfl rfl ?c1 ?c2 ?c3 ?c4 ?c5 ?_))
          case c1 =>
            intro j u hj
            match j, hj with
            | 0, hj => cases hj; simp [Addr.add, go_sem]
            | 1, hj => cases hj; simp [Addr.add, go_sem]
          case c2 => intro u hu; simp only [List.mem_cons, List.not_mem_nil, or_false] at hu; rcases hu with rfl | rfl <;> rfl
          case c3 => unfold maxLen; omega
          case c4 => omega
          case c5 => have := hB.size; simp; omega
          intro v' w1 hown' hgrow hne
          have hB1 : Below w.heap.size w w1 := (hB.alloc hB.size _).grown hgrow (by have := hB.size; simp; omega) (fun j ej => (hown.lt j ej).1)
          have HO : Hid (w1.ownsRow w.heap.size 62 2 v' (k + 1) (stepCells m (k + 1))) := Lib.hid (by rw [stepCells_next, E.out]; exact hown')
          have HE := Lib.hid hne
          clear hown' hgrow hne hown hB d1 d2 d3
          go_wp2
          go_roundw
          case rel => exact ⟨k + 1, by omega, by go_num, HO.out, by simp; exact HE.out, hB1⟩
          case measure => simp [intOf]; omega
        · obtain rfl : k = m := by omega
          go_wp2
          go_ret
          exact ⟨_, rfl, hown, hnil, hB⟩

end
end Go.Proofs.Ytneacfhoinaeeaa
