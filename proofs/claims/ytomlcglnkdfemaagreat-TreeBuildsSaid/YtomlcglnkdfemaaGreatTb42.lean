/- The chapter's example holds: the contract of the statements' own awake, layer 16. -/
import Derived.Test.YtomlcglnkdfemaaGreatTb39
import Derived.Test.YtomlcglnkdfemaaGreatTb40
import Derived.Test.YtomlcglnkdfemaaGreatTb41
import Derived.Deep.DeepCutAuto
import Derived.KernelRfl


namespace Go.Proofs.YtomlcglnkdfemaaGreat
section

open Go.RowKit Go.Proofs.Sky

set_option linter.unusedVariables false

set_option linter.unusedSimpArgs false

def awT (i : Nat) : Pr := ⟨2, (if i = 0 then 0 else if i = 1 then 50 else 100, 0, 0), (0, 0, 0), (0, 0, 0), 5, 0⟩

/-- The two trees of the example. -/
def awN1 : List Nd := [(((-5, -5, -5), (5, 5, 5)), 0, 1, 0)]

def awN3 : List Nd := [(((-5, -5, -5), (105, 5, 5)), 0, 0, 2), (((-5, -5, -5), (5, 5, 5)), 0, 1, 0), (((45, -5, -5), (105, 5, 5)), 1, 2, 0)]

theorem aw_build1 : mBuild awT 1 = (awN1, [0]) := by kernel_rfl

theorem aw_build3 : mBuild awT 3 = (awN3, [0, 1, 2]) := by kernel_rfl

theorem aw_prims16 {X : World} {g n : Nat} (h : Bk X g 39 #[.int .i64 2, .int .i64 0, .int .i64 0, .int .i64 0, .int .i64 0, .int .i64 0, .int .i64 0, .int .i64 0, .int .i64 0, .int .i64 0, .int .i64 5, .int .i64 0, .int .i64 2, .int .i64 50, .int .i64 0, .int .i64 0, .int .i64 0, .int .i64 0, .int .i64 0, .int .i64 0, .int .i64 0, .int .i64 0, .int .i64 5, .int .i64 0, .int .i64 2, .int .i64 100, .int .i64 0, .int .i64 0, .int .i64 0, .int .i64 0, .int .i64 0, .int .i64 0, .int .i64 0, .int .i64 0, .int .i64 5, .int .i64 0]) (hn : n ≤ 3) : Prims X (.slice (some ⟨g, 0, none⟩) n 3) n awT := by
  refine ⟨⟨_, 3, rfl, by unfold maxLen; omega, .inr ⟨g, 0, rfl, h.lt, fun i hi j hj => ?_⟩⟩, fun i hi => ?_⟩
  · rcases (by omega : i = 0 ∨ i = 1 ∨ i = 2) with rfl | rfl | rfl <;> (rcases (by omega : j = 0 ∨ j = 1 ∨ j = 2 ∨ j = 3 ∨ j = 4 ∨ j = 5 ∨ j = 6 ∨ j = 7 ∨ j = 8 ∨ j = 9 ∨ j = 10 ∨ j = 11) with rfl | rfl | rfl | rfl | rfl | rfl | rfl | rfl | rfl | rfl | rfl | rfl <;> exact h.cell rfl)
  · rcases (by omega : i = 0 ∨ i = 1 ∨ i = 2) with rfl | rfl | rfl <;> (unfold Pr.I I3 I64 awT; simp)

set_option maxRecDepth 100000 in
set_option maxHeartbeats 8000000 in
theorem awake16 (w : World) :
    Calls Tryz.prog 4 #[] w fun en w' => en = .returned (.bool true) ∧ Below w.heap.size w w' := by
  have KB1 : Hid (∀ g X, Bk X g 39 #[.int .i64 2, .int .i64 0, .int .i64 0, .int .i64 0, .int .i64 0, .int .i64 0, .int .i64 0, .int .i64 0, .int .i64 0, .int .i64 0, .int .i64 5, .int .i64 0, .int .i64 2, .int .i64 50, .int .i64 0, .int .i64 0, .int .i64 0, .int .i64 0, .int .i64 0, .int .i64 0, .int .i64 0, .int .i64 0, .int .i64 5, .int .i64 0, .int .i64 2, .int .i64 100, .int .i64 0, .int .i64 0, .int .i64 0, .int .i64 0, .int .i64 0, .int .i64 0, .int .i64 0, .int .i64 0, .int .i64 5, .int .i64 0] → Calls Tryz.prog 6 #[.slice (some ⟨g, 0, none⟩) 1 3] X fun e w' => ∃ ga ca av cv, e = .returned (.agg #[.slice (some ⟨ga, 0, none⟩) 1 ca, .slice av 1 cv]) ∧ NodRow w' X.heap.size (.slice (some ⟨ga, 0, none⟩) 1 ca) awN1 ∧ Below X.heap.size X w') := Lib.hid (fun g X hX => (tree_Build (some ⟨g, 0, none⟩) 1 3 awT X (aw_prims16 hX (by omega)) (by omega)).mono fun e w' ⟨u, v, h1, h2, h3, h4⟩ => by
    rw [aw_build1] at h2 h3
    obtain ⟨ga, ca, rfl, _⟩ := owns_some h2 (by decide)
    obtain ⟨av, cv, rfl⟩ := owns_val h3
    exact ⟨ga, ca, av, cv, h1, h2, h4⟩)
  have KB3 : Hid (∀ g X, Bk X g 39 #[.int .i64 2, .int .i64 0, .int .i64 0, .int .i64 0, .int .i64 0, .int .i64 0, .int .i64 0, .int .i64 0, .int .i64 0, .int .i64 0, .int .i64 5, .int .i64 0, .int .i64 2, .int .i64 50, .int .i64 0, .int .i64 0, .int .i64 0, .int .i64 0, .int .i64 0, .int .i64 0, .int .i64 0, .int .i64 0, .int .i64 5, .int .i64 0, .int .i64 2, .int .i64 100, .int .i64 0, .int .i64 0, .int .i64 0, .int .i64 0, .int .i64 0, .int .i64 0, .int .i64 0, .int .i64 0, .int .i64 5, .int .i64 0] → Calls Tryz.prog 6 #[.slice (some ⟨g, 0, none⟩) 3 3] X fun e w' => ∃ au cu av cv, e = .returned (.agg #[.slice au 3 cu, .slice av 3 cv]) ∧ Nodes w' (.slice au 3 cu) awN3 ∧ IntSlice w' av 3 (fun i => ([0, 1, 2] : List Int).getD i 0) ∧ 3 ≤ cv ∧ Below X.heap.size X w') := Lib.hid (fun g X hX => (tree_Build (some ⟨g, 0, none⟩) 3 3 awT X (aw_prims16 hX (by omega)) (by omega)).mono fun e w' ⟨u, v, h1, h2, h3, h4⟩ => by
    rw [aw_build3] at h2 h3
    obtain ⟨au, cu, rfl⟩ := owns_val h2
    obtain ⟨av, cv, rfl, hc, hs⟩ := ordrow_slice (ints_ord h3) (by intro x hx; simp at hx; rcases hx with rfl | rfl | rfl <;> (unfold I64; omega))
    exact ⟨au, cu, av, cv, h1, nodrow_nodes h2 (by decide), hs, hc, h4⟩)
  go_enter Tryz.func4, Tryz.ntmps4
  go_upto_region 2 with (fail)
  obtain ⟨W1, hW1⟩ : ∃ W, W = w.alloc (.cells #[.int .i64 2, .int .i64 0, .int .i64 0, .int .i64 0, .int .i64 0, .int .i64 0, .int .i64 0, .int .i64 0, .int .i64 0, .int .i64 0, .int .i64 5, .int .i64 0, .int .i64 2, .int .i64 50, .int .i64 0, .int .i64 0, .int .i64 0, .int .i64 0, .int .i64 0, .int .i64 0, .int .i64 0, .int .i64 0, .int .i64 5, .int .i64 0, .int .i64 2, .int .i64 100, .int .i64 0, .int .i64 0, .int .i64 0, .int .i64 0, .int .i64 0, .int .i64 0, .int .i64 0, .int .i64 0, .int .i64 5, .int .i64 0] 39) := ⟨_, rfl⟩
  obtain ⟨k_l, B1⟩ := st1 hW1
  rw [← hW1]
  clear hW1
  obtain ⟨LA, hLA⟩ : ∃ LA : Array Value, LA = #[.int .i64 2, .int .i64 0, .int .i64 0, .int .i64 0, .int .i64 0, .int .i64 0, .int .i64 0, .int .i64 0, .int .i64 0, .int .i64 0, .int .i64 5, .int .i64 0, .int .i64 2, .int .i64 50, .int .i64 0, .int .i64 0, .int .i64 0, .int .i64 0, .int .i64 0, .int .i64 0, .int .i64 0, .int .i64 0, .int .i64 5, .int .i64 0, .int .i64 2, .int .i64 100, .int .i64 0, .int .i64 0, .int .i64 0, .int .i64 0, .int .i64 0, .int .i64 0, .int .i64 0, .int .i64 0, .int .i64 5, .int .i64 0] := ⟨_, rfl⟩
  rw [← hLA] at k_l KB1 KB3
  have HLA := Lib.hid hLA
  clear hLA
  obtain ⟨p1, hp1⟩ : ∃ p : BW W1, p.w = W1 := ⟨BW.start W1, rfl⟩
  rw [← hp1]
  clear hp1
  go_upto_region 3 with (first
    | (go_at_call 6; (with_reducible refine (KB1.out _ _ (k_l.below (BW.h _))).mono ?_); rintro e w1 ⟨ga, ca, av, cv, rfl, hn1, hbA⟩; obtain ⟨q1, rfl⟩ := bw_take hbA)
    | (go_at_call 6; (with_reducible refine (KB3.out _ _ (k_l.below (BW.h _))).mono ?_); rintro e w1 ⟨bu, du, bv, dv, rfl, hn3, ho3, hc3, hbB⟩; obtain ⟨q, rfl⟩ := bw_take hbB))
  have kl0 := k_l.below q.h
  rw [HLA.out] at kl0
  have hnA := hn1.below hbB
  have CA : Hid (∀ X, Below q.w.heap.size q.w X → X.cell? ⟨ga, 7, none⟩ = some (.int .i64 1)) := Lib.hid (fun X hX => by
    have h := owns_at (f := ncells) (l := awN1) (i := 0) (j := 7) ncells_len (hnA.below hX) (by decide) (by omega)
    rw [Nat.zero_mul, Nat.zero_add] at h
    exact h)
  have KD0 : Hid (∀ X, Below q.w.heap.size q.w X → Calls Tryz.prog 9 #[.agg #[.slice bu 3 du, .slice bv 3 dv]] X fun e w' => e = .returned (.int .i64 2) ∧ Below X.heap.size X w') := Lib.hid (fun X hX => by
    have h := tree_Depth (.slice bu 3 du) awN3 bv 3 dv X (hn3.below hX (Nat.le_refl _)) (by decide) (by omega)
    rw [show mDeep awN3 ((3 : Nat) : Int) = 2 by kernel_rfl] at h
    exact h)
  have KL0 : Hid (∀ X, Below q.w.heap.size q.w X → Calls Tryz.prog 10 #[.agg #[.slice bu 3 du, .slice bv 3 dv]] X fun e w' => e = .returned (.int .i64 2) ∧ Below X.heap.size X w') := Lib.hid (fun X hX => by
    have h := tree_Leaves (.slice bu 3 du) awN3 bv 3 dv X (hn3.below hX (Nat.le_refl _)) (by decide) (by omega)
    rw [show mLeaves awN3 ((3 : Nat) : Int) = 2 by kernel_rfl] at h
    exact h)
  have KO0 : Hid (∀ X, Below q.w.heap.size q.w X → Calls Tryz.prog 11 #[.agg #[.slice none 0 0, .slice none 0 0]] X fun e w' => e = .returned (.bool true) ∧ Below X.heap.size X w') := Lib.hid (fun X hX => by
    have h := tree_Ordered (.slice none 0 0) [] none 0 0 X ⟨none, 0, rfl, by unfold maxLen; decide, .inl rfl⟩ (by decide) (by omega)
    rw [show (mWhole [] ((0 : Nat) : Int)).2.2.2.2 = true by kernel_rfl] at h
    exact h)
  have KW30 : Hid (∀ X, Below q.w.heap.size q.w X → Calls Tryz.prog 12 #[.agg #[.slice bu 3 du, .slice bv 3 dv], .slice (some ⟨w.heap.size, 0, none⟩) 3 3] X fun e w' => e = .returned (.bool true) ∧ Below X.heap.size X w') := Lib.hid (fun X hX => by
    have h := tree_Whole (.slice bu 3 du) awN3 bv [0, 1, 2] dv (some ⟨w.heap.size, 0, none⟩) 3 3 awT X (hn3.below hX (Nat.le_refl _)) (intslice_down15 ho3 hX) (aw_prims16 (kl0.below hX) (by omega)) hc3 (by decide) (by decide) (by omega)
    rw [show mWh awN3 awT [0, 1, 2] 3 = true by kernel_rfl] at h
    exact h)
  have KW20 : Hid (∀ X, Below q.w.heap.size q.w X → Calls Tryz.prog 12 #[.agg #[.slice bu 3 du, .slice bv 3 dv], .slice (some ⟨w.heap.size, 0, none⟩) 2 3] X fun e w' => e = .returned (.bool false) ∧ Below X.heap.size X w') := Lib.hid (fun X hX => by
    have h := tree_Whole (.slice bu 3 du) awN3 bv [0, 1, 2] dv (some ⟨w.heap.size, 0, none⟩) 2 3 awT X (hn3.below hX (Nat.le_refl _)) (intslice_down15 ho3 hX) (aw_prims16 (kl0.below hX) (by omega)) hc3 (by decide) (by decide) (by omega)
    rw [show mWh awN3 awT [0, 1, 2] 2 = false by kernel_rfl] at h
    exact h)
  clear hn1 hn3 ho3 hc3 hnA kl0 hbA
  obtain ⟨W2, hW2⟩ : ∃ W, W = (q.w.alloc (.cells #[.slice (some ⟨ga, 0, none⟩) 1 ca, .slice av 1 cv] 28)).alloc (.cells #[.slice bu 3 du, .slice bv 3 dv] 28) := ⟨_, rfl⟩
  have B2 : Below w.heap.size w W2 := by rw [hW2]; exact (((bw_below B1 q).alloc (bw_below B1 q).size _).alloc (Nat.le_trans (bw_below B1 q).size (by simp)) _)
  have l_a : w.heap.size < q.w.heap.size := (k_l.below q.h).lt
  have l_b : q.w.heap.size < q.w.heap.size + 1 := by omega
  have o_a : w.heap.size ≤ q.w.heap.size := (bw_below B1 q).size
  have k_l := ((k_l.below q.h).alloc (.cells #[.slice (some ⟨ga, 0, none⟩) 1 ca, .slice av 1 cv] 28)).alloc (.cells #[.slice bu 3 du, .slice bv 3 dv] 28)
  rw [← hW2] at k_l
  have k_a : Bk W2 q.w.heap.size 28 #[.slice (some ⟨ga, 0, none⟩) 1 ca, .slice av 1 cv] := by rw [hW2]; exact (Bk.new _ _ _).alloc _
  have k_b : Bk W2 (q.w.heap.size + 1) 28 #[.slice bu 3 du, .slice bv 3 dv] := by rw [hW2]; exact Bk.new_at _ _ _ _ (by simp)
  have BX : Below q.w.heap.size q.w W2 := by rw [hW2]; exact ((Below.refl _ _).alloc (Nat.le_refl _) _).alloc (by simp) _
  have c_a7 : ∀ p : BW W2, p.w.cell? ⟨ga, 7, none⟩ = some (.int .i64 1) := fun p => CA.out p.w (BX.trans (p.h.mono BX.size))
  clear CA
  have KD := Lib.hid (fun X (hX : Below W2.heap.size W2 X) => KD0.out X (BX.trans (hX.mono BX.size)))
  have KL := Lib.hid (fun X (hX : Below W2.heap.size W2 X) => KL0.out X (BX.trans (hX.mono BX.size)))
  have KO := Lib.hid (fun X (hX : Below W2.heap.size W2 X) => KO0.out X (BX.trans (hX.mono BX.size)))
  have KW3 := Lib.hid (fun X (hX : Below W2.heap.size W2 X) => KW30.out X (BX.trans (hX.mono BX.size)))
  have KW2 := Lib.hid (fun X (hX : Below W2.heap.size W2 X) => KW20.out X (BX.trans (hX.mono BX.size)))
  clear BX hbB KB1 KB3 KD0 KL0 KO0 KW30 KW20
  rw [← hW2]
  clear hW2
  clear B1
  generalize q.w.heap.size + 1 = g_b at *
  generalize q.w.heap.size = g_a at *
  obtain ⟨c_a_0, c_a_1⟩ := bwc2 (k_a)
  obtain ⟨c_b_0, c_b_1⟩ := bwc2 (k_b)
  obtain ⟨p2, hp2⟩ : ∃ p : BW W2, p.w = W2 := ⟨BW.start W2, rfl⟩
  rw [← hp2]
  clear hp2
  refine wp_region_bw (by kernel_rfl) (by kernel_rfl) ?_
  repeat (go_big_quiet_step (first
      | (go_at_call 9; (with_reducible exact (bw_callB KD.out (Below.refl _ _) _)))
      | (go_at_call 10; (with_reducible exact (bw_callB KL.out (Below.refl _ _) _)))
      | (go_at_call 11; (with_reducible exact (bw_callB KO.out (Below.refl _ _) _)))
      | (go_at_call 12; (with_reducible exact (bw_callB KW3.out (Below.refl _ _) _)))
      | (go_at_call 12; (with_reducible exact (bw_callB KW2.out (Below.refl _ _) _)))))
  refine wpQuiet_nil ?_
  intro _ hw'
  obtain ⟨q, rfl⟩ := hw'
  go_wp2
  go_ret
  exact ⟨rfl, bw_below B2 _⟩

end
end Go.Proofs.YtomlcglnkdfemaaGreat
