/- TreeBuilds: the walk. -/
import Derived.Test.YtomlcglnkdfemaaGreatTb42
import Derived.Test.YtomlcglnkdfemaaGreatTb43
import Derived.Test.YtomlcglnkdfemaaGreatTb33
import Derived.Test.YtomlcglnkdfemaaGreatTb44
import Derived.Test.YtomlcglnkdfemaaGreatTb47


namespace Go.Proofs.YtomlcglnkdfemaaGreat
section

open Go.RowKit Go.Proofs.Sky

set_option linter.unusedVariables false

set_option linter.unusedSimpArgs false

set_option maxRecDepth 100000 in
set_option maxHeartbeats 8000000 in
theorem builds_a (lp : Option Addr) (n lc : Nat) (w : World) (h1 : 24 < n) :
    Calls Tryz.prog 3 #[.slice lp n lc] w fun en w' => en = .returned (.bool true) ∧ Below w.heap.size w w' := by
  have t1 : decide (24 < (n : Int)) = true := decide_eq_true (by omega)
  clear h1
  have KA := Lib.hid (fun w => awake16 w)
  go_enter Tryz.func3, Tryz.ntmps3
  go_wp2_with (go_at_call 4; (with_reducible refine (KA.out _).mono ?_); rintro e w' ⟨rfl, hb⟩)
  go_ret
  exact ⟨rfl, hb⟩

set_option maxRecDepth 100000 in
set_option maxHeartbeats 8000000 in
theorem builds_b (lp : Option Addr) (n lc : Nat) (p q : Nat) (w : World) (h1 : ¬ 24 < n) (KB : Hid (Calls Tryz.prog 6 #[.slice lp n lc] w fun e w1 => ∃ u v c d, e = .returned (.agg #[.slice u p c, .slice v q d]) ∧ Hid (Calls Tryz.prog 8 #[.slice lp n lc] w1 fun e w2 => ∃ u2 v2 c2 d2, e = .returned (.agg #[.slice u2 p c2, .slice v2 q d2]) ∧ Hid (Calls Tryz.prog 7 #[.agg #[.slice u2 p c2, .slice v2 q d2]] w2 fun e w3 => ∃ u3 v3 c3 d3, e = .returned (.agg #[.slice u3 p c3, .slice v3 q d3]) ∧ Hid (Calls Tryz.prog 5 #[.agg #[.slice u p c, .slice v q d], .agg #[.slice u3 p c3, .slice v3 q d3]] w3 fun e w4 => e = .returned (.bool true) ∧ Below w.heap.size w w4))))) :
    Calls Tryz.prog 3 #[.slice lp n lc] w fun en w' => en = .returned (.bool true) ∧ Below w.heap.size w w' := by
  have t1 : decide (24 < (n : Int)) = false := decide_eq_false (by omega)
  clear h1
  have KA := Lib.hid (fun w => awake16 w)
  go_enter Tryz.func3, Tryz.ntmps3
  go_wp2_with (first
    | (go_at_call 6; (with_reducible refine KB.out.mono ?_); rintro e w1 ⟨u, v, c, d, rfl, KR⟩)
    | (go_at_call 8; (with_reducible refine KR.out.mono ?_); rintro e w2 ⟨u2, v2, c2, d2, rfl, KO⟩)
    | (go_at_call 7; (with_reducible refine KO.out.mono ?_); rintro e w3 ⟨u3, v3, c3, d3, rfl, KS⟩)
    | (go_at_call 5; (with_reducible refine KS.out.mono ?_); rintro e w4 ⟨rfl, hb4⟩)
    | (go_at_call 4; (with_reducible refine (KA.out _).mono ?_); rintro e w5 ⟨rfl, hb5⟩))
  go_ret
  exact ⟨rfl, hb4.trans (hb5.mono hb4.size)⟩

theorem rnodrow_nodes {w : World} {B : Nat} {v : Value} {l : List Nd} (h : RNodRow w B v l) (hn : l.length ≤ 1048576) : Nodes w v l :=
  owns_sll (f := ncells) ncells_len (by omega) rfl (by unfold maxLen; omega) h

/-- The law, from the reference's contract. -/
theorem law_TreeBuilds0 (lp : Option Addr) (n lc : Nat) (P : Nat → Pr) (w : World) (hs : Prims w (.slice lp n lc) n P)
    (KRB : ¬ 24 < n → ∀ X, Below w.heap.size w X → Calls Tryz.prog 8 #[.slice lp n lc] X fun e w' => ∃ u v, e = .returned (.agg #[u, v]) ∧ RNodRow w' X.heap.size u (mBuild P n).1 ∧ Ints w' X.heap.size v (mBuild P n).2 ∧ Below X.heap.size X w') :
    Calls Tryz.prog 3 #[.slice lp n lc] w fun en w' => en = .returned (.bool true) ∧ Below w.heap.size w w' := by
  by_cases h1 : 24 < n
  · exact builds_a lp n lc w h1
  have KR := KRB h1
  have KB := tree_Build lp n lc P w hs (by omega)
  have hlen : (mBuild P n).1.length ≤ 1048576 ∧ (mBuild P n).2.length ≤ 1048576 ∧ ∀ k ∈ (mBuild P n).2, k < n := by
    unfold mBuild
    by_cases h : 0 < n ∧ n ≤ 1024 ∧ pAll P n = true
    · rw [if_pos h]
      have hl := mGrow_len (P := P) n (List.range n) 0 0 (by simp) (by simpa using h.1)
      have hpm := grow_perm (P := P) n (List.range n) 0 0 (by simp) (by simpa using h.1)
      rw [List.length_range] at hl
      exact ⟨by omega, by omega, fun k hk => List.mem_range.1 (hpm.mem_iff.1 hk)⟩
    · rw [if_neg h]
      exact ⟨by simp, by simp, fun k hk => by simp at hk⟩
  generalize mBuild P n = G at *
  obtain ⟨ns, od⟩ := G
  dsimp only at KR KB hlen
  obtain ⟨l1, l2, l3⟩ := hlen
  have hI : ∀ x ∈ od.map (fun k : Nat => (k : Int)), I64 x := fun x hx => by
    obtain ⟨k, hk, rfl⟩ := List.mem_map.1 hx
    have h := l3 k hk
    unfold I64
    omega
  have hml : (od.map (fun k : Nat => (k : Int))).length ≤ 1048576 := by rw [List.length_map]; exact l2
  refine builds_b lp n lc ns.length (od.map (fun k : Nat => (k : Int))).length w h1 (Lib.hid (KB.mono ?_))
  rintro e w1 ⟨u, v, rfl, hu, hv, hb⟩
  obtain ⟨ua, uc, rfl⟩ := owns_val hu
  obtain ⟨va, vc, rfl, _, hv1⟩ := ordrow_slice (ints_ord hv) hI
  refine ⟨ua, va, uc, vc, rfl, Lib.hid ((KR w1 hb).mono ?_)⟩
  rintro e w2 ⟨u2, v2, rfl, hu2, hv2, hb2⟩
  obtain ⟨ub, ud, rfl⟩ := owns_val hu2
  obtain ⟨vb, vd, rfl, _, hv3⟩ := ordrow_slice (ints_ord hv2) hI
  refine ⟨ub, vb, ud, vd, rfl, Lib.hid ((law16_of (.slice ub ns.length ud) ns vb (od.map (fun k : Nat => (k : Int))) vd w2 (rnodrow_nodes hu2 l1) hv3 l1 hml).mono ?_)⟩
  rintro e w3 ⟨u3, v3, rfl, hu3, hv4, hb3⟩
  obtain ⟨ux, uy, rfl⟩ := owns_val hu3
  obtain ⟨vx, vy, rfl, _, hv5⟩ := ordrow_slice hv4 hI
  refine ⟨ux, vx, uy, vy, rfl, Lib.hid ((law16_same ua ux va vx ns.length _ uc uy vc vy ns (od.map (fun k : Nat => (k : Int))) w3 rfl ((nodrow_nodes hu l1).below (hb2.trans (hb3.mono hb2.size)) (Nat.le_refl _)) (nodrow_nodes hu3 l1) (intslice_down15 hv1 (hb2.trans (hb3.mono hb2.size))) hv5 l1 hml).mono ?_)⟩
  rintro e w4 ⟨rfl, hb4⟩
  have b3 := hb.trans ((hb2.trans (hb3.mono hb2.size)).mono hb.size)
  exact ⟨rfl, b3.trans (hb4.mono b3.size)⟩

/-- **The law.** -/
theorem law_TreeBuilds (lp : Option Addr) (n lc : Nat) (P : Nat → Pr) (w : World) (hs : Prims w (.slice lp n lc) n P) :
    Calls Tryz.prog 3 #[.slice lp n lc] w fun en w' => en = .returned (.bool true) ∧ Below w.heap.size w w' :=
  law_TreeBuilds0 lp n lc P w hs (fun h1 X hX => ref16_Build lp n lc P X (hs.below hX (Nat.le_refl _)) (by omega))

end
end Go.Proofs.YtomlcglnkdfemaaGreat
