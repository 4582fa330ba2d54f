/- Contracts of package trig. -/
import Derived.Test.YtneacfhoinaeeaaMc19
import Derived.Test.YtneacfhoinaeeaaMc4
import Derived.Test.YtneacfhoinaeeaaMc1
import Derived.Test.YtneacfhoinaeeaaMc33
import Derived.Shelf.Abstract
import Derived.OwnWalkIn
import Derived.TacticsInMore
import Derived.LoopNIn
import Derived.LoopIn
import Derived.Maps.AppendAt
import Derived.RangeFuncBox
import Derived.RangeFuncCalls


namespace Go.Proofs.Ytneacfhoinaeeaa
section

open Go.RowKit Go.Shelf Go.Proofs.Sky

set_option linter.unusedVariables false

theorem trig_arch (q : Int) (w : World) (h0 : 0 ≤ q) (h1 : q ≤ 32768) :
    Calls Try.prog 84 #[.int .i64 q] w fun e w' => e = .returned (.int .i64 (sinq q)) ∧ w = w' := by
  obtain ⟨a0, a1⟩ := sinq_a h0 h1
  unfold sinq
  obtain ⟨A, hA⟩ : ∃ A, A = q * (32768 - q) := ⟨_, rfl⟩
  rw [← hA] at a0 a1 ⊢
  have w1 : wrap64 (q * (32768 - q)) = A := by rw [← hA]; exact IntWalk.wrap64_in _ (by omega)
  have w2 : IntKind.i64.wrap (q * (32768 - q)) = A := by rw [← hA, i64w]; omega
  have M : Hid (∀ w, Calls Try.prog 59 #[.int .i64 (262144 * A), .int .i64 (5368709120 - 4 * A)] w fun e w' => e = .returned (.int .i64 (262144 * A / (5368709120 - 4 * A))) ∧ w = w') := Lib.hid (fun w => by
    have := num_Div (262144 * A) (5368709120 - 4 * A) w (by unfold I64; omega) (by unfold I64; omega)
    rw [show dv (262144 * A) (5368709120 - 4 * A) = 262144 * A / (5368709120 - 4 * A) by unfold dv; rw [if_neg (by omega)]] at this
    exact this)
  generalize 262144 * A / (5368709120 - 4 * A) = R at *
  clear hA
  go_enter Try.func84, Try.ntmps84
  go_wp2_with (go_at_call 59; (with_reducible refine (M.out _).mono ?_); rintro e w' ⟨rfl, rfl⟩)
  go_ret
  exact ⟨rfl, rfl⟩

theorem trig_mod (h : Int) (w : World) (hh : I64 h) :
    Calls Try.prog 47 #[.int .i64 h, .int .i64 65536] w fun e w' => e = .returned (.int .i64 (h % 65536)) ∧ w = w' := by
  have := num_Mod h 65536 w hh (by unfold I64; omega)
  rw [show md h 65536 = h % 65536 by unfold md; rw [if_neg (by omega)]] at this
  exact this

theorem trig_Sin_same (h : Int) (w : World) (hh : I64 h) :
    Calls Try.prog 74 #[.int .i64 h] w fun e w' => e = .returned (.int .i64 (sinI h)) ∧ w = w' := by
  have M := Lib.hid (fun w => trig_mod h w hh)
  have b0 : 0 ≤ h % 65536 := by omega
  have b1 : h % 65536 ≤ 65535 := by omega
  unfold sinI
  clear hh
  generalize h % 65536 = m at *
  by_cases g : m < 32768
  · rw [if_pos g]
    have R := Lib.hid (fun w => trig_arch m w b0 (by omega))
    generalize sinq m = s at *
    go_enter Try.func74, Try.ntmps74
    go_wp2_with (first
      | (go_at_call 47; (with_reducible refine (M.out _).mono ?_); rintro e w' ⟨rfl, rfl⟩)
      | (go_at_call 84; (with_reducible refine (R.out _).mono ?_); rintro e w' ⟨rfl, rfl⟩))
    go_ret
    exact ⟨rfl, rfl⟩
  · rw [if_neg g]
    have R := Lib.hid (fun w => trig_arch (m - 32768) w (by omega) (by omega))
    have r := sinq_range (q := m - 32768) (by omega) (by omega)
    generalize sinq (m - 32768) = s at *
    go_enter Try.func74, Try.ntmps74
    go_wp2_with (first
      | (go_at_call 47; (with_reducible refine (M.out _).mono ?_); rintro e w' ⟨rfl, rfl⟩)
      | (go_at_call 84; (with_reducible refine (R.out _).mono ?_); rintro e w' ⟨rfl, rfl⟩))
    go_ret
    exact ⟨rfl, rfl⟩

theorem trig_Cos_same (h : Int) (w : World) (hh : I64 h) :
    Calls Try.prog 73 #[.int .i64 h] w fun e w' => e = .returned (.int .i64 (cosI h)) ∧ w = w' := by
  have M := Lib.hid (fun w => trig_mod h w hh)
  have R : Hid (∀ w, Calls Try.prog 74 #[.int .i64 (h % 65536 + 16384)] w fun e w' => e = .returned (.int .i64 (cosI h)) ∧ w = w') := Lib.hid (fun w => by
    have := trig_Sin_same (h % 65536 + 16384) w (by unfold I64; omega)
    rw [show sinI (h % 65536 + 16384) = cosI h from sinI_congr (by omega)] at this
    exact this)
  have b0 : 0 ≤ h % 65536 := by omega
  have b1 : h % 65536 ≤ 65535 := by omega
  clear hh
  generalize cosI h = c at *
  generalize h % 65536 = m at *
  go_enter Try.func73, Try.ntmps73
  go_wp2_with (first
    | (go_at_call 47; (with_reducible refine (M.out _).mono ?_); rintro e w' ⟨rfl, rfl⟩)
    | (go_at_call 74; (with_reducible refine (R.out _).mono ?_); rintro e w' ⟨rfl, rfl⟩))
  go_ret
  exact ⟨rfl, rfl⟩

theorem trig_Both_same (h : Int) (w : World) (hh : I64 h) :
    Calls Try.prog 61 #[.int .i64 h] w fun e w' => e = .returned (.tuple #[.int .i64 (cosI h), .int .i64 (sinI h)]) ∧ w = w' := by
  have C := Lib.hid (fun w => trig_Cos_same h w hh)
  have S := Lib.hid (fun w => trig_Sin_same h w hh)
  clear hh
  generalize cosI h = c at *
  generalize sinI h = s at *
  go_enter Try.func61, Try.ntmps61
  go_wp2_with (first
    | (go_at_call 73; (with_reducible refine (C.out _).mono ?_); rintro e w' ⟨rfl, rfl⟩)
    | (go_at_call 74; (with_reducible refine (S.out _).mono ?_); rintro e w' ⟨rfl, rfl⟩))
  go_ret2
  exact ⟨rfl, rfl⟩

/-- The turns that share out the circle. -/
def turnAt (n i : Nat) : Int := (i : Int) * 65536 / (n : Int)

def turns (n k : Nat) : List Int := (List.range k).map (turnAt n)

theorem turns_next (n k : Nat) : turns n (k + 1) = turns n k ++ [turnAt n k] := by
  unfold turns; rw [List.range_succ, List.map_append]; rfl

theorem turns_split {n k : Nat} (h : k < n) : ∃ rest, turns n n = turns n k ++ turnAt n k :: rest := by
  refine ⟨(turns n n).drop (k + 1), ?_⟩
  have e : (turns n n).take (k + 1) = turns n k ++ [turnAt n k] := by
    rw [← turns_next]; unfold turns; rw [← List.map_take, List.take_range, Nat.min_eq_left (by omega)]
  have := List.take_append_drop (k + 1) (turns n n)
  rw [e] at this
  rw [List.append_assoc] at this
  exact this.symm

theorem turns_mem {n : Nat} {h : Int} (hm : h ∈ turns n n) (h1 : n ≤ 1024) : 0 ≤ h ∧ h ≤ 67108864 := by
  unfold turns at hm
  obtain ⟨i, hi, rfl⟩ := List.mem_map.1 hm
  have hi' := List.mem_range.1 hi
  unfold turnAt
  refine ⟨Int.ediv_nonneg (by omega) (by omega), ?_⟩
  have := Int.ediv_le_self (n : Int) (show 0 ≤ (i : Int) * 65536 by omega)
  omega

def turnCells (h : Int) : List Value := [.int .i64 (cosI h), .int .i64 (sinI h)]

theorem turns_cells (n : Nat) : (turns n n).flatMap turnCells = stepCells n n := by
  unfold turns stepCells
  rw [List.flatMap_map]
  rfl

section

attribute [local go_sem] Oper.semAt_some

set_option maxRecDepth 100000 in
set_option maxHeartbeats 2000000 in
theorem around_gives (n g : Nat) (w : World) (hn : 1 ≤ n) (hm : n ≤ 1024) :
    GivesIf Try.prog 72 #[] #[.pointer (some ⟨g, 0, none⟩)] (fun x : Int => #[Value.int .i64 x]) (turns n n) (fun W => W.cell? ⟨g, 0, none⟩ = some (.int .i64 (n : Int))) w := fun l J W hW hJ hC hY h0 => by
  have hgW := hC _ _ h0
  refine callsIn_of_wp Try.func72 rfl trivial ?_ rfl
  simp only [Try.ntmps72, List.size_toArray, List.length_cons, List.length_nil, Nat.reduceAdd, Nat.reduceSub, Array.replicate_succ, Array.replicate_zero, List.push_toArray, List.append_toArray, List.nil_append, List.cons_append]
  have HC := Lib.hid hC
  have HY := Lib.hid hY
  clear hY hJ hW hC
  gi_wp2
  gi_loopw [5] (fun i wr => ∃ k : Nat, k ≤ n ∧ i = .int .i64 k ∧ J (turns n k) wr) (fun i _ => n - (intOf i).toNat)
  case atStart => exact ⟨0, Nat.zero_le _, rfl, h0⟩
  case round =>
    clear hgW h0
    obtain ⟨k, hk, rfl, hj⟩ := hrel
    by_cases hlt : k < n
    · have c0 := HC.out _ _ hj
      obtain ⟨rest, hx⟩ := turns_split hlt
      have HX := Lib.hid hx
      have D : Hid (∀ w, Calls Try.prog 59 #[.int .i64 ((k : Int) * 65536), .int .i64 (n : Int)] w fun e w' => e = .returned (.int .i64 (turnAt n k)) ∧ w = w') := Lib.hid (fun w => by
        have := num_Div ((k : Int) * 65536) n w (by unfold I64; omega) (by unfold I64; omega)
        rw [show dv ((k : Int) * 65536) n = turnAt n k by unfold dv turnAt; rw [if_neg (by omega)]] at this
        exact this)
      have HV := Lib.hid (turns_next n k)
      clear hx
      generalize turnAt n k = h at *
      gi_wp2_with (refine ⟨trivial, rfl, ?_⟩; gi_at_call 59; refine (callsIn_wide.2 (D.out _)).mono ?_; rintro e w1 ⟨rfl, rfl⟩; obtain ⟨fn, tmps, assign, body, hy, hR⟩ := HY.out _ _ _ wr HX.out hj)
      refine ⟨rfl, hR.mono ?_⟩
      rintro e W3 ⟨rfl, hJ3⟩
      clear c0 hy hR
      gi_wp2
      go_roundw
      case rel => exact ⟨k + 1, by omega, by go_num, by rw [HV.out]; exact hJ3⟩
      case measure => simp [intOf]; omega
    · obtain rfl : k = n := by omega
      have c0 := HC.out _ _ hj
      gi_wp2
      go_end0
      exact ⟨⟨_, rfl⟩, hj⟩

theorem trig_around (n : Int) (w : World) :
    Calls Try.prog 60 #[.int .i64 n] w fun e w' => e = .returned (.func (.func 72) #[] #[.pointer (some ⟨w.heap.size, 0, none⟩)]) ∧ Boxed w' w.heap.size 3 (.int .i64 n) ∧ Below w.heap.size w w' := by
  go_enter Try.func60, Try.ntmps60
  go_wp2
  go_ret
  exact ⟨rfl, Boxed.new _ _ _, by go_grown⟩

theorem trig_Steps_none (n : Int) (w : World) (hn : I64 n) (h : n < 1 ∨ 1024 < n) :
    Calls Try.prog 45 #[.int .i64 n] w fun e w' => e = .returned (.slice none 0 0) ∧ Below w.heap.size w w' := by
  refine (callsIn_wide (n := 0)).1 ?_
  by_cases h1 : n < 1
  · have t1 : decide (n < 1) = true := decide_eq_true h1
    clear h h1 hn
    refine callsIn_of_wp_marks Try.func45 rfl trivial ?_ rfl
    simp only [Try.ntmps45, List.size_toArray, List.length_cons, List.length_nil, Nat.reduceAdd, Nat.reduceSub, Array.replicate_succ, Array.replicate_zero, List.push_toArray, List.append_toArray, List.nil_append, List.cons_append]
    gi_wp2
    exact ⟨_, results_tmp rfl _ _ _, rfl, Below.refl _ _⟩
  · have t1 : decide (n < 1) = false := decide_eq_false h1
    have t2 : decide ((1024 : Int) < n) = true := decide_eq_true (by omega)
    clear h h1 hn
    refine callsIn_of_wp_marks Try.func45 rfl trivial ?_ rfl
    simp only [Try.ntmps45, List.size_toArray, List.length_cons, List.length_nil, Nat.reduceAdd, Nat.reduceSub, Array.replicate_succ, Array.replicate_zero, List.push_toArray, List.append_toArray, List.nil_append, List.cons_append]
    gi_wp2
    exact ⟨_, results_tmp rfl _ _ _, rfl, Below.refl _ _⟩

theorem trig_Steps (n : Int) (w : World) (hn : I64 n) :
    Calls Try.prog 45 #[.int .i64 n] w fun e w' => ∃ v, e = .returned v ∧ w'.ownsRow w.heap.size 62 2 v (stepN n) (stepCells n (stepN n)) ∧ (v = .slice none 0 0 ↔ stepN n = 0) ∧ Below w.heap.size w w' := by
  by_cases h1 : 1 ≤ n ∧ n ≤ 1024
  · obtain ⟨m, rfl⟩ := Int.eq_ofNat_of_zero_le (show 0 ≤ n by omega)
    have e : stepN (m : Int) = m := by unfold stepN; rw [if_pos (by omega)]; omega
    rw [e]
    have m1 : 1 ≤ m := by omega
    have m2 : m ≤ 1024 := by omega
    obtain ⟨i0, hi, hz0, hz1, hz2⟩ := info_parts pair_info
    have t1 : decide ((m : Int) < 1) = false := decide_eq_false (by omega)
    have t2 : decide ((1024 : Int) < (m : Int)) = false := decide_eq_false (by omega)
    clear hn h1 e
    refine (callsIn_wide (n := 0)).1 ?_
    refine callsIn_of_wp_marks Try.func45 rfl trivial ?_ rfl
    simp only [Try.ntmps45, List.size_toArray, List.length_cons, List.length_nil, Nat.reduceAdd, Nat.reduceSub, Array.replicate_succ, Array.replicate_zero, List.push_toArray, List.append_toArray, List.nil_append, List.cons_append]
    obtain ⟨w1, hmk, hrow1, hg1⟩ := run_make_own (P := Try.prog) (w := w) w.heap.size 60 62 i0 (.agg #[.int .i64 0, .int .i64 0]) 2 Try.underlying60 hi hz0 hz1 .i64 .i64 m (by rw [hz2]; omega) (by unfold maxLen; omega) (Nat.le_refl _)
    have hb1 : Below w.heap.size w w1 := (Below.refl _ w).grown hg1 (Nat.le_refl _) (fun j e => by cases e)
    have bS := Boxed.new w1 60 (.slice (some ⟨w.heap.size, 0, none⟩) 0 m)
    have hrow2 := hrow1.alloc (.cells #[.slice (some ⟨w.heap.size, 0, none⟩) 0 m] 60)
    have hb2 : Below w.heap.size w (w1.alloc (.cells #[.slice (some ⟨w.heap.size, 0, none⟩) 0 m] 60)) := hb1.alloc hb1.size _
    have hn1 := hb1.size
    clear hg1 hb1 hrow1
    gi_wp2_with (refine ⟨trivial, rfl, ?_⟩; gi_at_call 60; refine (callsIn_wide.2 (trig_around _ _)).mono ?_; rintro e w2 ⟨rfl, hgb, hB2⟩)
    rw [World.size_alloc] at hgb
    have bS2 : Boxed w2 w1.heap.size 60 (.slice (some ⟨w.heap.size, 0, none⟩) 0 m) := (hB2.block _ bS.lt).trans bS
    have hrow3 : w2.ownsRow w.heap.size 62 2 (.slice (some ⟨w.heap.size, 0, none⟩) 0 m) 0 [] := hrow2.kept (grown_of_below hB2) (.inr (by simp [Value.ownBlock]))
    have hb3 : Below w.heap.size w w2 := hb2.trans (hB2.mono hb2.size)
    have hs2 : w1.heap.size + 2 ≤ w2.heap.size := hgb.lt
    have hb3' := hb3.size
    clear bS hrow2 hb2 hB2 hmk
    refine range_if (gf := 72) (bd := #[]) (lb := #[.pointer (some ⟨w1.heap.size + 1, 0, none⟩)]) (encs := fun x : Int => #[Value.int .i64 x]) (xs := turns m m) (C := fun W => W.cell? ⟨w1.heap.size + 1, 0, none⟩ = some (.int .i64 (m : Int))) rfl (enters_of Try.func72 (by kernel_rfl) rfl) (around_gives m _ w2 m1 m2) (fun _ => rfl)
      (fun pre W => (∃ v, Boxed W w1.heap.size 60 v ∧ W.ownsRow w.heap.size 62 2 v pre.length (pre.flatMap turnCells) ∧ v ≠ .slice none 0 0) ∧ Boxed W (w1.heap.size + 1) 3 (.int .i64 (m : Int)) ∧ Below w.heap.size w W)
      (OwnFrom.and (Own.from (holdsRow_own w.heap.size w1.heap.size 60 62 2 (fun pre : List Int => pre.length) (fun pre => pre.flatMap turnCells) (fun pre v => v ≠ .slice none 0 0)) _) (OwnFrom.and (Own.from (boxed_own (w1.heap.size + 1) 3 (fun _ => .int .i64 (m : Int))) _) (ownFrom_below (Nat.le_refl _) (by omega))))
      (fun _ W h => h.2.1.cell)
      ⟨⟨_, bS2, hrow3, by simp⟩, hgb, hb3⟩
      (fun x => { tmps := #[Value.int .i64 m, undef, .slice none 0 0, .pointer (some ⟨w1.heap.size, 0, none⟩), .int .i64 x, undef, undef, .int .i64 m, .bool false, .bool false, .int .i64 m, .bool false, .bool false, .int .i64 m, .slice (some ⟨w.heap.size, 0, none⟩) 0 m, .int .i64 m, .func (.func 72) #[] #[.pointer (some ⟨w1.heap.size + 1, 0, none⟩)], .int .i64 x, undef, undef, undef, undef, undef, undef, undef, undef, undef, undef, undef, undef], defers := [] }) ?assign ?body ?done
    case assign =>
      intro l x W K hK
      gi_wp2
      exact hK
    case body =>
      rintro l pre x rest W hx ⟨⟨v, hv, hrow, hne⟩, hgW, hB⟩
      have hpl : pre.length < 1024 := by
        have := congrArg List.length hx
        simp [turns] at this; omega
      have hxr : 0 ≤ x ∧ x ≤ 67108864 := turns_mem (n := m) (by rw [hx]; simp) m2
      have B := Lib.hid (fun w => trig_Both_same x w (by unfold I64; omega))
      have hc := hv.cell
      have hf := hv.frozen
      have HE := Lib.hid (show (pre ++ [x]).flatMap turnCells = pre.flatMap turnCells ++ turnCells x by simp)
      have HT : Hid (turnCells x = [.int .i64 (cosI x), .int .i64 (sinI x)]) := Lib.hid rfl
      clear hx t1 t2 bS2 hrow3 hb3 hgb
      generalize cosI x = c at *
      generalize sinI x = s at *
      gi_wp2_with (first
        | (refine ⟨trivial, rfl, ?_⟩; gi_at_call 61; refine (CallsIn.inRound l (callsIn_wide.2 (B.out _))).mono ?_; rintro e w1 ⟨rfl, rfl⟩)
        | (gi_at_builtin; refine wpListIn_append_own _ rfl _ _ 60 rfl w.heap.size 62 i0 (.agg #[.int .i64 0, .int .i64 0]) 2 16 Try.underlying60 hi hz0 hz1 hz2 rfl (by decide) _ _ _ rfl (hrow.alloc _) ⟨W.heap.size, 0, none⟩ 1 1 [.int .i64 c, .int .i64 s] rfl rfl ?c1 ?c2 ?c3 ?c4 ?c5 ?_))
      case c1 =>
        intro j u hj
        match j, hj with
        | 0, hj => cases hj; simp [Addr.add, go_sem]
        | 1, hj => cases hj; simp [Addr.add, go_sem]
      case c2 => intro u hu; simp only [List.mem_cons, List.not_mem_nil, or_false] at hu; rcases hu with rfl | rfl <;> rfl
      case c3 => unfold maxLen; omega
      case c4 => omega
      case c5 => have := hB.size; simp; omega
      intro v' w3 hown' hgrow hnil
      obtain ⟨g', cap', rfl⟩ := ownsRow_succ hown'
      obtain ⟨hv1, hv2, hr2, hk2, hb2⟩ := hv.appended (by decide) hrow hB.size hn1 hown' hgrow
      have hg3 := ((hgW.alloc _).kept hgrow (hgW.not_row (by decide) hrow)).other (B' := w1.heap.size) (by omega) (.slice (some ⟨g', 0, none⟩) (pre.length + 1) cap')
      have hc1 := hv1.cell
      have hf1 := hv1.frozen
      gi_wp2
      exact ⟨hk2.from _, ⟨_, hv2, by rw [HE.out, HT.out]; simpa using hr2, by simp⟩, hg3, hB.trans hb2⟩
    case done =>
      rintro D W hD ⟨⟨v, hv, hrow, hne⟩, hgW, hB⟩ hK
      have hc := hv.cell
      rw [turns_cells, show (turns m m).length = m by simp [turns]] at hrow
      clear hv bS2 hrow3 hb3 hgb hgW
      gi_wp2
      refine ⟨by simp, .inl ⟨_, _, rfl, run_takeDeferred hK, ?_⟩⟩
      exact ⟨_, results_tmp rfl _ _ _, v, rfl, ownsRow_putObj hrow _ hK rfl, ⟨fun h => absurd h hne, fun h => by omega⟩, hB.trans (belowK_b (w := w) (Nat.le_refl _) W D _ _ (by have := hb3'; omega) hK rfl rfl)⟩
  · have e : stepN n = 0 := by unfold stepN; split <;> omega
    rw [e]
    refine (trig_Steps_none n w hn (by omega)).mono ?_
    rintro e w' ⟨rfl, hb⟩
    exact ⟨_, rfl, World.ownsRow_nil _ _ _ _, by simp, hb⟩

end

end
end Go.Proofs.Ytneacfhoinaeeaa
