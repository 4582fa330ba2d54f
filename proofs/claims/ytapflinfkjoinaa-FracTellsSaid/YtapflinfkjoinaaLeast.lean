/- Contracts of slices.Collect at ints over a method value that comes whole, of frac's iterator, of slices.MinFunc over its closure, and of frac.Least. -/
import Derived.Test.YtapflinfkjoinaaFrac01
import Derived.Test.YtapflinfkjoinaaSeq
import Derived.Shelf.Abstract
import Derived.OwnWalkIn
import Derived.TacticsInMore
import Derived.LoopNIn
import Derived.LoopIn
import Derived.Maps.AppendAt
namespace Go.Proofs.Ytapflinfkjoinaa
open Go.RowKit Go.Shelf Go.Proofs.Sky
set_option linter.unusedVariables false

theorem int_info : (Try.prog.info? 3).map (fun i => (i.zero, i.size, i.bytes)) = some (some (.int .i64 0), 1, 8) := by kernel_rfl

section
attribute [local go_sem] Oper.semAt_some
set_option maxRecDepth 100000 in
set_option maxHeartbeats 2000000 in
theorem append_seq (gf : Nat) (bd : Array Value) (xs : List Int) (w : World) (eg : ∀ args w, (callFunc gf args).run Try.prog w = .ok (.enter gf args) w)
    (hc : GivesAll Try.prog gf bd #[] (fun x : Int => #[Value.int .i64 x]) xs w.heap.size w) (hlen : xs.length ≤ 1048576) :
    Calls Try.prog 38 #[.slice none 0 0, .func (.func gf) bd #[]] w fun e w' => ∃ v, e = .returned v ∧ w'.ownsRow w.heap.size 3 1 v xs.length (xs.map (Value.int .i64)) ∧ (v = .slice none 0 0 ↔ xs = []) ∧ Below w.heap.size w w' := by
  refine (callsIn_wide (n := 0)).1 ?_
  obtain ⟨i0, hi, hz0, hz1, hz2⟩ := info_parts int_info
  refine callsIn_of_wp_marks Try.func38 rfl trivial ?_ rfl
  simp only [Try.ntmps38, List.size_toArray, List.length_cons, List.length_nil, Nat.reduceAdd, Nat.reduceSub, Array.replicate_succ, Array.replicate_zero, List.push_toArray, List.append_toArray, List.nil_append, List.cons_append]
  gi_wp2
  have bS := Boxed.new w 39 (.slice none 0 0)
  have hB0 : Below w.heap.size w (w.alloc (.cells #[.slice none 0 0] 39)) := (Below.refl _ w).alloc (Nat.le_refl _) _
  refine range_all (gf := gf) (bd := bd) (lb := #[]) (xs := xs) (B := w.heap.size) rfl eg (hc.later hB0) (by simp) (fun _ => rfl)
    (fun pre W => (∃ v, Boxed W w.heap.size 39 v ∧ W.ownsRow w.heap.size 3 1 v pre.length (pre.map (Value.int .i64)) ∧ (v = .slice none 0 0 ↔ pre = [])) ∧ Below w.heap.size w W)
    (OwnFrom.and (Own.from (holdsRow_own w.heap.size w.heap.size 39 3 1 (fun pre => pre.length) (fun pre => pre.map (Value.int .i64)) (fun pre v => v = .slice none 0 0 ↔ pre = [])) _) (ownFrom_below (Nat.le_refl _) (by simp)))
    ⟨⟨_, bS, World.ownsRow_nil _ _ _ _, by simp⟩, hB0⟩
    (fun x => { tmps := #[.slice none 0 0, .func (.func gf) bd #[], .pointer (some ⟨w.heap.size, 0, none⟩), undef, .slice none 0 0, .int .i64 x, .func (.func gf) bd #[], .int .i64 x, undef, undef, undef, undef, undef], defers := [] }) ?assign ?body ?done
  case assign =>
    intro l x W K hK
    gi_wp2
    exact hK
  case body =>
    rintro l pre x rest W hx ⟨⟨v, hv, hrow, hnil⟩, hB⟩
    have hpl : pre.length < 1048576 := by rw [hx] at hlen; simp at hlen; omega
    have hc := hv.cell
    clear hx
    gi_wp2_with (gi_at_builtin; refine wpListIn_append_own _ rfl _ _ 39 rfl w.heap.size 3 i0 (.int .i64 0) 1 8 Try.underlying39 hi hz0 hz1 hz2 rfl (by decide) _ _ _ rfl (hrow.alloc _) ⟨W.heap.size, 0, none⟩ 1 1 [.int .i64 x] rfl rfl (cell_one_new _ _ _) (by simp [Value.oneCell']) (by unfold maxLen; omega) (by omega) (by have := hB.size; simp; omega) ?_; intro v' w1 hown' hgrow _; obtain ⟨g', cap', rfl⟩ := ownsRow_succ hown'; obtain ⟨hv1, hv2, hr2, hk2, hb2⟩ := hv.appended (by decide) hrow hB.size (Nat.le_refl _) hown' hgrow; have hc1 := hv1.cell; have hf1 := hv1.frozen)
    exact ⟨hk2.from _, hb2, ⟨_, hv2, by simpa using hr2, by simp⟩, hB.trans hb2⟩
  case done =>
    rintro D W hD ⟨⟨v, hv, hrow, hnil⟩, hB⟩ hK
    have hc := hv.cell
    gi_wp2
    refine ⟨by simp, .inl ⟨_, _, rfl, run_takeDeferred hK, ?_⟩⟩
    exact ⟨_, results_tmp rfl _ _ _, v, rfl, ownsRow_putObj hrow _ hK rfl, hnil, hB.trans (belowK_b (w := w) (Nat.le_refl _) W D _ _ (by simp at hD; omega) hK rfl rfl)⟩

theorem collect_seq (gf : Nat) (bd : Array Value) (xs : List Int) (w : World) (eg : ∀ args w, (callFunc gf args).run Try.prog w = .ok (.enter gf args) w)
    (hc : GivesAll Try.prog gf bd #[] (fun x : Int => #[Value.int .i64 x]) xs w.heap.size w) (hlen : xs.length ≤ 1048576) :
    Calls Try.prog 23 #[.func (.func gf) bd #[]] w fun e w' => ∃ v, e = .returned v ∧ w'.ownsRow w.heap.size 3 1 v xs.length (xs.map (Value.int .i64)) ∧ (v = .slice none 0 0 ↔ xs = []) ∧ Below w.heap.size w w' := by
  go_enter Try.func23, Try.ntmps23
  go_wp2_with (go_at_call 38; refine (append_seq gf bd xs _ eg hc hlen).mono ?_; rintro e w1 ⟨v, rfl, h1, h2, h3⟩)
  go_ret
  exact ⟨_, rfl, h1, h2, h3⟩

set_option maxRecDepth 100000 in
set_option maxHeartbeats 2000000 in
theorem valid_gives (b off cap n : Nat) (N D : Nat → Int) (w : World) (hrow : FrRow w b off n N D) (hb : b < w.heap.size) (hn : n ≤ 1048576) :
    GivesAll Try.prog 24 #[.slice (some ⟨b, off, none⟩) n cap] #[] (fun x : Int => #[Value.int .i64 x]) (vp D n) w.heap.size w := fun l J W hW hJ hY h0 => by
  have hrowW := hrow.below hW hb
  have hbW : b < W.heap.size := Nat.lt_of_lt_of_le hb hW.size
  refine callsIn_of_wp Try.func24 rfl trivial ?_ rfl
  simp only [Try.ntmps24, List.size_toArray, List.length_cons, List.length_nil, Nat.reduceAdd, Nat.reduceSub, Array.replicate_succ, Array.replicate_zero, List.push_toArray, List.append_toArray, List.nil_append, List.cons_append]
  have HR := Lib.hid hrowW
  have HY := Lib.hid hY
  have HJ := Lib.hid hJ
  have hW' := hW.size
  clear hrowW hrow hY hJ hW
  gi_wp2
  gi_loopw [8] (fun i wr => ∃ k : Nat, k ≤ n ∧ i = .int .i64 k ∧ J (vp D k) wr ∧ Below w.heap.size W wr) (fun i _ => n - (intOf i).toNat)
  case atStart => exact ⟨0, Nat.zero_le _, rfl, h0, Below.refl _ _⟩
  case round =>
    obtain ⟨k, hk, rfl, hj, hB⟩ := hrel
    by_cases hlt : k < n
    · obtain ⟨c0, c1⟩ := (HR.out.below hB hb) k hlt
      by_cases hd : 1 ≤ D k
      · obtain ⟨rest, hx⟩ := vp_split hlt hd
        have HX := Lib.hid hx
        clear hx
        have hdt : decide (1 ≤ D k) = true := decide_eq_true hd
        have HV := Lib.hid (vp_hit hd)
        clear hd
        gi_wp2_with (refine ⟨trivial, rfl, ?_⟩; gi_at_call 9; refine (callsIn_wide.2 (frac_Right _ _ _)).mono ?_; rintro e w1 ⟨rfl, hb1⟩; have hb2 : Below wr.heap.size wr w1 := ((Below.refl _ _).alloc (Nat.le_refl _) _).trans (hb1.mono (by simp)); obtain ⟨fn, tmps, assign, body, hy, hR⟩ := HY.out _ _ _ w1 HX.out (HJ.out _ _ _ hj hb2))
        refine ⟨rfl, hR.mono ?_⟩
        rintro e W3 ⟨rfl, hJ3, hk3⟩
        have hB3 : Below w.heap.size W W3 := (hB.trans (hb2.mono (Nat.le_trans hW' hB.size))).trans hk3
        clear hb1 hb2 hk3 hB c0 c1 hy hR
        gi_wp2
        go_roundw
        case rel => exact ⟨k + 1, by omega, by go_num, by rw [HV.out]; exact hJ3, hB3⟩
        case measure => simp [intOf]; omega
      · have hdt : decide (1 ≤ D k) = false := decide_eq_false hd
        have HV := Lib.hid (vp_miss hd)
        clear hd
        gi_wp2_with (refine ⟨trivial, rfl, ?_⟩; gi_at_call 9; refine (callsIn_wide.2 (frac_Right _ _ _)).mono ?_; rintro e w1 ⟨rfl, hb1⟩; have hb2 : Below wr.heap.size wr w1 := ((Below.refl _ _).alloc (Nat.le_refl _) _).trans (hb1.mono (by simp)))
        refine ⟨fun _ h => (by cases h), ?_⟩
        have hB3 : Below w.heap.size W w1 := hB.trans (hb2.mono (Nat.le_trans hW' hB.size))
        have hJ3 := HJ.out _ _ _ hj hb2
        clear hb1 hb2 hB c0 c1
        gi_wp2
        go_roundw
        case rel => exact ⟨k + 1, by omega, by go_num, by rw [HV.out]; exact hJ3, hB3⟩
        case measure => simp [intOf]; omega
    · obtain rfl : k = n := by omega
      gi_wp2
      go_end0
      exact ⟨⟨_, rfl⟩, hj⟩

end
end Go.Proofs.Ytapflinfkjoinaa
