/- What the walk of the statement MeshClosed asks: what a mesh may be, what is told of it. -/
import Derived.Test.YtneacfhoinaeeaaMc44
import Derived.Test.YtneacfhoinaeeaaMc45
import Derived.Test.YtneacfhoinaeeaaMc46
import Derived.Test.YtneacfhoinaeeaaMc33


namespace Go.Proofs.Ytneacfhoinaeeaa
section

open Go.RowKit Go.Proofs.Sky

set_option linter.unusedVariables false

set_option linter.unusedSimpArgs false

def mOut (l : List Pr) (e : Int) (tr : List Tg) : Prop := (l = [] ∧ (e = 5 ∨ e = 7)) ∨ (e = 0 ∧ ∃ U : Nat → T3, l = tr.map (mTri 3 U) ∧ ∀ t ∈ tr, tUp U t = true)

theorem out_of (V : Nat → T3) (N : Nat) (tr : List Tg) {p : P4} (h : qRight p = true) : mOut (mMesh p 3 V N tr).1 (mMesh p 3 V N tr).2 tr := by
  rcases mesh_ways V N tr h with e | e | ⟨U, e, hU⟩
  · rw [e]; exact .inl ⟨rfl, .inl rfl⟩
  · rw [e]; exact .inl ⟨rfl, .inr rfl⟩
  · rw [e]; exact .inr ⟨rfl, U, rfl, hU⟩

theorem out_cube {p : P4} (h : qRight p = true) : mOut (mCube p 3).1 (mCube p 3).2 cubeT := out_of _ _ _ h

theorem out_grid {p : P4} (h : qRight p = true) {n : Nat} (h1 : 1 ≤ n) (h4 : n ≤ 4) : mOut (mGrid (n : Int) p 3).1 (mGrid (n : Int) p 3).2 (gridT n) := by
  unfold mGrid
  rw [if_pos (by omega), Int.toNat_natCast]
  exact out_of _ _ _ h

theorem out_cone {p : P4} (h : qRight p = true) {n : Nat} (h1 : 3 ≤ n) (h4 : n ≤ 12) : mOut (mCone (n : Int) p 3).1 (mCone (n : Int) p 3).2 (coneT n) := by
  unfold mCone
  rw [if_pos (by omega), Int.toNat_natCast]
  exact out_of _ _ _ h

theorem out_good {l : List Pr} {e : Int} {tr : List Tg} (h : mOut l e tr) : ∀ p ∈ l, mGood p := by
  rcases h with ⟨rfl, _⟩ | ⟨_, U, rfl, hU⟩
  · simp
  · intro p hp
    obtain ⟨t, ht, rfl⟩ := List.mem_map.1 hp
    exact good_tri (hU t ht)

theorem good_I {p : Pr} (h : mGood p) : p.I := by
  obtain ⟨h1, h2, h3⟩ := h
  have h4 := (pRight_tri h1 h2).1
  rw [pl3_iff] at h4
  have h0 : p.r = 0 := by
    unfold pRight at h1
    rw [if_pos h2] at h1
    simp only [Bool.and_eq_true, decide_eq_true_eq] at h1
    exact h1.2.2
  refine ⟨?_, plc_I3 h4.1, plc_I3 h4.2.1, plc_I3 h4.2.2, ?_, ?_⟩
  · rw [h2]; exact ⟨by omega, by omega⟩
  · rw [h0]; exact ⟨by omega, by omega⟩
  · rw [h3]; exact ⟨by omega, by omega⟩

theorem out_whole {l : List Pr} {e : Int} {tr : List Tg} (h : mOut l e tr) {w : World} {B : Nat} {v : Value} (hv : PRow w B v l) {N : Nat} (hN : N = tr.length) (hl : N ≤ 1000000) :
    Calls Try.prog 17 #[v, .int .i64 e, .int .i64 N] w fun en w' => en = .returned (.bool true) ∧ Below w.heap.size w w' := by
  rcases h with ⟨rfl, rfl | rfl⟩ | ⟨rfl, U, rfl, hU⟩
  · obtain ⟨a, cap, rfl⟩ := owns_val19 hv
    exact law19_whole5 a cap N w
  · obtain ⟨a, cap, rfl⟩ := owns_val19 hv
    exact law19_whole7 a cap N w
  · exact law19_whole v _ N w (prow_sll hv (by rw [List.length_map]; omega)) (by rw [List.length_map]; exact hN) hl (fun p hp => by
      obtain ⟨t, ht, rfl⟩ := List.mem_map.1 hp
      exact good_tri (hU t ht))

theorem good_Closed {l : List Pr} (h : ∀ p ∈ l, mGood p) {w : World} {v : Value} (hv : Sll w v 12 pcells l) (hl : l.length ≤ 1000000) {z : Bool} (hz : mClosed l = z) :
    Calls Try.prog 14 #[v] w fun en w' => en = .returned (.bool z) ∧ Below w.heap.size w w' := by
  have := mesh_Closed v l w hv (fun p hp => good_I (h p hp)) hl
  rw [hz] at this
  exact this

theorem slice_to19 (a : Option Addr) (n ca k : Nat) (hk : k ≤ ca) (w : World) : (Instr.slice 26 (.slice a n ca) none (some (.int .i64 (k : Int))) none).run Try.prog w = .ok (.slice a k ca) w := by
  have hel : Try.prog.elem 26 = 45 := by kernel_rfl
  have hsz : (sizeOf 45).run Try.prog w = .ok 12 w := by kernel_rfl
  rw [run_slice_h w 26 a n ca (by rw [hel]; exact Try.underlying26) .i64 _ (by omega) (by omega), hel, hsz]
  have ha : a.map (fun x => x.add 0) = a := by
    cases a with
    | none => rfl
    | some x => simp [Addr.add]
  simp [sliced, Result.andThen, ha]

theorem slice_from19 (g n ca k : Nat) (hk : k ≤ n) (hc : n ≤ ca) (w : World) : (Instr.slice 26 (.slice (some ⟨g, 0, none⟩) n ca) (some (.int .i64 (k : Int))) none none).run Try.prog w = .ok (.slice (some (if ca = k then ⟨g, 0, none⟩ else ⟨g, k * 12, none⟩)) (n - k) (ca - k)) w := by
  have hel : Try.prog.elem 26 = 45 := by kernel_rfl
  have hsz : (sizeOf 45).run Try.prog w = .ok 12 w := by kernel_rfl
  rw [run_slice_l w 26 (some ⟨g, 0, none⟩) n ca (by rw [hel]; exact Try.underlying26) .i64 _ (by omega) (by omega), hel, hsz]
  have ha : (⟨g, 0, none⟩ : Addr).add (k * 12) = ⟨g, k * 12, none⟩ := by
    unfold Addr.add
    simp
    try omega
  by_cases e : ca = k
  · rw [if_pos e]; simp [sliced, Result.andThen, e]
  · rw [if_neg e]; simp [sliced, Result.andThen, e, ha]

theorem cube_cut {w : World} {B : Nat} {v : Value} {l : List Pr} (hv : PRow w B v l) (hl : l.length = 12) {k : Nat} (hk : k < 12) : ∃ g ca ad c2, v = .slice (some ⟨g, 0, none⟩) 12 ca ∧ 12 ≤ ca ∧ g < w.heap.size ∧ (∀ W, (Instr.slice 26 (.slice (some ⟨g, 0, none⟩) 12 ca) (some (.int .i64 ((k : Int) + 1))) none none).run Try.prog W = .ok (.slice (some ad) (11 - k) c2) W) ∧
    (∀ W, Below w.heap.size w W → ∀ j u, ((l.take k).flatMap pcells)[j]? = some u → W.cell? ((⟨g, 0, none⟩ : Addr).add j) = some u) ∧ (∀ W, Below w.heap.size w W → ∀ j u, ((l.drop (k + 1)).flatMap pcells)[j]? = some u → W.cell? (ad.add j) = some u) := by
  unfold PRow at hv
  rw [hl] at hv
  have hc := hv
  rcases hv.2 with ⟨_, h0⟩ | ⟨g, ca, cur, rfl, _, hg, hnc, _, _, _⟩
  · cases h0
  have hgl : g < w.heap.size := by
    rcases Nat.lt_or_ge g w.heap.size with q | q
    · exact q
    · rw [Array.getElem?_eq_none q] at hg; cases hg
  have hcell := World.ownsRow.cells hc (g := g) rfl
  have hbl : ∀ W, Below w.heap.size w W → ∀ j, W.cell? ⟨g, j, none⟩ = w.cell? ⟨g, j, none⟩ := fun W hW j => hW.cell (p := ⟨g, j, none⟩) hgl
  have hadd : ∀ j, ((⟨g, 0, none⟩ : Addr).add j) = ⟨g, j, none⟩ := fun j => by
    unfold Addr.add
    simp
    try omega
  refine ⟨g, ca, if ca = k + 1 then ⟨g, 0, none⟩ else ⟨g, (k + 1) * 12, none⟩, ca - (k + 1), rfl, hnc, hgl, fun W => ?_, fun W hW j u hj => ?_, fun W hW j u hj => ?_⟩
  · have e3 : ((k : Int) + 1) = ((k + 1 : Nat) : Int) := by omega
    rw [e3, slice_from19 g 12 ca (k + 1) (by omega) hnc W, show 12 - (k + 1) = 11 - k by omega]
  · rw [hadd, hbl W hW, ← hadd]
    refine hcell j u ?_
    have hs : l.flatMap pcells = (l.take k).flatMap pcells ++ (l.drop k).flatMap pcells := by rw [← List.flatMap_append, List.take_append_drop]
    have hjl : j < ((l.take k).flatMap pcells).length := (List.getElem?_eq_some_iff.1 hj).1
    rw [hs, List.getElem?_append_left hjl]
    exact hj
  · have hjl : j < ((l.drop (k + 1)).flatMap pcells).length := (List.getElem?_eq_some_iff.1 hj).1
    rw [flat_len_const pcells 12 _ (fun _ _ => rfl), List.length_drop, hl] at hjl
    · rw [if_neg (by omega)]
      have ha : ((⟨g, (k + 1) * 12, none⟩ : Addr).add j) = ⟨g, (k + 1) * 12 + j, none⟩ := by
        unfold Addr.add
        simp
        try omega
      rw [ha, hbl W hW, ← hadd]
      refine hcell _ u ?_
      have hs : l.flatMap pcells = (l.take (k + 1)).flatMap pcells ++ (l.drop (k + 1)).flatMap pcells := by rw [← List.flatMap_append, List.take_append_drop]
      have hlt : ((l.take (k + 1)).flatMap pcells).length = (k + 1) * 12 := by rw [flat_len_const pcells 12 _ (fun _ _ => rfl), List.length_take, hl, Nat.min_eq_left (by omega)]
      rw [hs, List.getElem?_append_right (by omega), hlt, Nat.add_sub_cancel_left]
      exact hj

end
end Go.Proofs.Ytneacfhoinaeeaa
