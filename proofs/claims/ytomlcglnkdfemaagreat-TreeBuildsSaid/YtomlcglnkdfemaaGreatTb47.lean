/- The reference's grow and Build: their contracts. -/
import Derived.Test.YtomlcglnkdfemaaGreatTb46
import Derived.Test.YtomlcglnkdfemaaGreatTb37


namespace Go.Proofs.YtomlcglnkdfemaaGreat
section

open Go.RowKit Go.Proofs.Sky

set_option linter.unusedVariables false

set_option linter.unusedSimpArgs false

theorem ints_slice16 {Y : World} {B g c : Nat} {l : List Nat} (h : Ints Y B (.slice (some ⟨g, 0, none⟩) l.length c) l) (hb : ∀ k ∈ l, k ≤ 1048576) : IntSlice Y (some ⟨g, 0, none⟩) l.length (fun i => ((l.getD i 0 : Nat) : Int)) := by
  obtain ⟨o, cap, e, h⟩ := h.slice hb
  cases e
  exact h

theorem owns_up16 {w : World} {B C : Nat} {e : TypeId} {size n : Nat} {v : Value} {xs : List Value} (h : w.ownsRow B e size v n xs) (hC : ∀ k, v.ownBlock = some k → C ≤ k) : w.ownsRow C e size v n xs := by
  obtain ⟨hl, h⟩ := h
  refine ⟨hl, ?_⟩
  rcases h with h | ⟨g, cap, cur, rfl, hB, rest⟩
  · exact .inl h
  · exact .inr ⟨g, cap, cur, rfl, hC g rfl, rest⟩

theorem set_mid16 {α : Type} (l m : List α) (x y : α) : (l ++ [x] ++ m).set l.length y = l ++ (y :: m) := by
  rw [List.append_assoc, List.set_append_right _ _ (Nat.le_refl _), Nat.sub_self]; rfl

/-- **The reference's grow.** -/
theorem ref16_grow (P : Nat → Pr) (lp : Option Addr) (n lc : Nat) (w0 : World) (hp : Prims w0 (.slice lp n lc) n P) (hn1 : n ≤ 1024) : ∀ (f : Nat) (wl : List Nat) (un uo uw : Value) (ns : List Nd) (od : List Nat) (w : World),
    wl.length ≤ f → 0 < wl.length → wl.length ≤ 1024 → (∀ j ∈ wl, j < n) → ns.length + 2 * wl.length ≤ 32768 → od.length + wl.length ≤ 32768 → Below w0.heap.size w0 w → RNodRow w w0.heap.size un ns → Ints w w0.heap.size uo od → Ints w w0.heap.size uw wl → Apart2 uw uo →
    Calls Tryz.prog 19 #[.agg #[un, uo], .slice lp n lc, uw] w fun e w' => ∃ u v, e = .returned (.agg #[u, v]) ∧ RSt w un.ownBlock uo.ownBlock w' w0.heap.size u v (ns ++ (mGrow P f wl ns.length od.length).1) (od ++ (mGrow P f wl ns.length od.length).2) [] []
  | 0, wl, un, uo, uw, ns, od, w, hf, h0, h1, hlt, hb1, hb2, hB, hn, ho, hi, hap => by omega
  | f + 1, wl, un, uo, uw, ns, od, w, hf, h0, h1, hlt, hb1, hb2, hB, hn, ho, hi, hap => by
    obtain ⟨au, cu, rfl⟩ := owns_val hn
    obtain ⟨ao, co, rfl⟩ := owns_val ho
    obtain ⟨gw, cw, rfl, _, _, _⟩ := owns_some hi h0
    have hV : (fun k => pBox (P (((wl.getD k 0 : Nat) : Int)).toNat)) = wBox P wl := by funext k; rfl
    have hlb : ∀ k ∈ wl, k ≤ 1048576 := fun k hk => by have := hlt k hk; omega
    have KBX : ∀ Y, Below w.heap.size w Y → Calls Tryz.prog 31 #[.slice lp n lc, .slice (some ⟨gw, 0, none⟩) wl.length cw] Y fun e w' => ∃ ab cb, e = .returned (.slice ab wl.length cb) ∧ RboxRow w' Y.heap.size (.slice ab wl.length cb) (bls (wBox P wl) wl.length) ∧ Below Y.heap.size Y w' := fun Y hY => by
      have h := ref16_boxes lp (some ⟨gw, 0, none⟩) n lc wl.length cw P (fun i => ((wl.getD i 0 : Nat) : Int)) Y (hp.below (hB.trans (hY.mono hB.size)) (Nat.le_refl _)) (ints_slice16 (hi.below hY) hlb) (fun k hk => ⟨by omega, by
        have := hlt (wl.getD k 0) (by rw [getD_at hk]; exact List.getElem_mem _)
        omega⟩) h1
      rw [hV] at h
      refine h.mono ?_
      rintro e w' ⟨u, rfl, hu, hb⟩
      obtain ⟨_, a, c, rfl⟩ := rboxrow_boxes hu (by omega)
      exact ⟨a, c, rfl, hu, hb⟩
    have hbx : ∀ (Y : World) (ab : Option Addr) (cb : Nat), RboxRow Y w0.heap.size (.slice ab wl.length cb) (bls (wBox P wl) wl.length) → Boxes Y (.slice ab wl.length cb) wl.length (wBox P wl) := fun Y ab cb h => (rboxrow_boxes h (by omega)).1
    have KAL := fun (Y : World) (ab : Option Addr) (cb : Nat) (h : RboxRow Y w0.heap.size (.slice ab wl.length cb) (bls (wBox P wl) wl.length)) => ref16_all ab wl.length cb (wBox P wl) Y (hbx Y ab cb h) h0 (by omega)
    have KBS := fun (Y : World) (ab : Option Addr) (cb : Nat) (h : RboxRow Y w0.heap.size (.slice ab wl.length cb) (bls (wBox P wl) wl.length)) => ref15_Best ab wl.length cb (wBox P wl) Y (hbx Y ab cb h) h1
    have hbi := bBest_i64 (wBox P wl) wl.length
    cases he : wEnds P wl with
    | true =>
      rw [mGrow_leaf he]
      by_cases h2 : wl.length ≤ 2
      · exact grow_leaf1 gw wl.length cw ns.length cu od.length co n lc au ao lp wl ns od (bls (wBox P wl) wl.length) _ _ _ _ _ _ _ _ _ _ _ w0 w rfl rfl rfl h0 (by omega) (by omega) hB hn ho hi hap h2 (Lib.hid KBX) (Lib.hid KAL) (Lib.hid KBS)
      · have hs : (bBest (wBox P wl) wl.length).2 = false := by
          unfold wEnds at he
          rw [decide_eq_false h2, Bool.false_or] at he
          simpa [wSplit] using he
        rw [hs] at KBS
        exact grow_leaf2 gw wl.length cw ns.length cu od.length co n lc au ao lp wl ns od (bls (wBox P wl) wl.length) _ _ _ _ _ _ _ _ _ _ w0 w rfl rfl rfl h0 (by omega) (by omega) hB hn ho hi hap h2 (Lib.hid KBX) (Lib.hid KAL) (Lib.hid KBS)
    | false =>
      obtain ⟨p1, p2, p3⟩ := wSplit_less he
      have hs : ¬ wl.length ≤ 2 ∧ (bBest (wBox P wl) wl.length).2 = true := by
        unfold wEnds at he
        rw [Bool.or_eq_false_iff] at he
        exact ⟨of_decide_eq_false he.1, by simpa [wSplit] using he.2⟩
      rw [hs.2] at KBS
      have KSD : ∀ (Y : World) (ab : Option Addr) (cb : Nat), RboxRow Y w0.heap.size (.slice ab wl.length cb) (bls (wBox P wl) wl.length) → Calls Tryz.prog 34 #[.agg #[.int .i64 (bBest (wBox P wl) wl.length).1.1, .int .i64 (bBest (wBox P wl) wl.length).1.2.1, .int .i64 (bBest (wBox P wl) wl.length).1.2.2.1, .int .i64 (bBest (wBox P wl) wl.length).1.2.2.2], .slice ab wl.length cb] Y fun e w' => ∃ gl cl gr cr, e = .returned (.tuple #[.slice (some ⟨gl, 0, none⟩) (wLeft P wl).length cl, .slice (some ⟨gr, 0, none⟩) (wRight P wl).length cr]) ∧ Ints w' Y.heap.size (.slice (some ⟨gl, 0, none⟩) (wLeft P wl).length cl) (wLeft P wl) ∧ Ints w' Y.heap.size (.slice (some ⟨gr, 0, none⟩) (wRight P wl).length cr) (wRight P wl) ∧ Below Y.heap.size Y w' := fun Y ab cb h => by
        refine (ref15_Sides ab wl.length cb (wBox P wl) _ _ _ _ Y (hbx Y ab cb h) hbi.1 hbi.2.1 hbi.2.2 h1).mono ?_
        rintro e w' ⟨u, v, rfl, hu, hv, hb⟩
        have hu : Ints w' Y.heap.size u (wLeft P wl) := hu
        have hv : Ints w' Y.heap.size v (wRight P wl) := hv
        obtain ⟨gl, cl, rfl, _, _, _⟩ := owns_some hu p1
        obtain ⟨gr, cr, rfl, _, _, _⟩ := owns_some hv p2
        exact ⟨gl, cl, gr, cr, rfl, hu, hv, hb⟩
      have hat : ∀ (sl : List Nat), 0 < sl.length → sl.length ≤ wl.length → (∀ k ∈ sl, k < wl.length) → ∀ (Y : World) (gl cl : Nat), Ints Y w0.heap.size (.slice (some ⟨gw, 0, none⟩) wl.length cw) wl → Ints Y w0.heap.size (.slice (some ⟨gl, 0, none⟩) sl.length cl) sl → Calls Tryz.prog 35 #[.slice (some ⟨gw, 0, none⟩) wl.length cw, .slice (some ⟨gl, 0, none⟩) sl.length cl] Y fun e w' => ∃ gx cx, e = .returned (.slice (some ⟨gx, 0, none⟩) sl.length cx) ∧ Ints w' Y.heap.size (.slice (some ⟨gx, 0, none⟩) sl.length cx) (wAt wl sl) ∧ Below Y.heap.size Y w' := fun sl q1 q2 q3 Y gl cl hw hl => by
        refine (ref16_at (some ⟨gw, 0, none⟩) (some ⟨gl, 0, none⟩) cw cl wl sl Y (ints_slice16 hw hlb) (ints_slice16 hl (fun k hk => by have := q3 k hk; omega)) q3 (by omega)).mono ?_
        rintro e w' ⟨u, rfl, hu, hb⟩
        obtain ⟨gx, cx, rfl, _, _, _⟩ := owns_some hu (by rw [wAt_len]; exact q1)
        rw [wAt_len] at hu ⊢
        exact ⟨gx, cx, rfl, hu, hb⟩
      have hltl : ∀ j ∈ wAt wl (wLeft P wl), j < n := fun j hj => hlt j (wAt_mem (fun i hi => ix_lt hi) hj)
      have hltr : ∀ j ∈ wAt wl (wRight P wl), j < n := fun j hj => hlt j (wAt_mem (fun i hi => ix_lt hi) hj)
      have hla := mGrow_len (P := P) f (wAt wl (wLeft P wl)) (ns.length + 1) od.length (by rw [wAt_len]; omega) (by rw [wAt_len]; omega)
      rw [mGrow_node he rfl rfl]
      have IL := ref16_grow P lp n lc w0 hp hn1 f (wAt wl (wLeft P wl))
      have IR := ref16_grow P lp n lc w0 hp hn1 f (wAt wl (wRight P wl))
      have hl1 := wAt_len wl (wLeft P wl)
      have hl2 := wAt_len wl (wRight P wl)
      have htl := hat (wLeft P wl) p1 (by omega) (fun k hk => ix_lt hk)
      have htr := hat (wRight P wl) p2 (by omega) (fun k hk => ix_lt hk)
      clear hat hlt hlb
      generalize wAt wl (wLeft P wl) = tl at *
      generalize wAt wl (wRight P wl) = tr at *
      obtain ⟨⟨⟨v1, v2, v3⟩, v4, v5, v6⟩, hv⟩ : ∃ v : Bx, v = bAll (wBox P wl) wl.length := ⟨_, rfl⟩
      rw [← hv] at KAL ⊢
      dsimp only at KAL
      generalize hA : mGrow P f tl (ns.length + 1) od.length = A at *
      obtain ⟨an, ao1⟩ := A
      dsimp only at hla ⊢
      generalize hQ : mGrow P f tr (ns.length + 1 + an.length) (od.length + ao1.length) = Q at *
      obtain ⟨bn, bo⟩ := Q
      dsimp only
      have hle1 : (ns ++ [((((v1, v2, v3), v4, v5, v6), 0, 0, 0) : Nd)]).length = ns.length + 1 := by simp
      have hle2 : (ns ++ [((((v1, v2, v3), v4, v5, v6), 0, 0, 0) : Nd)] ++ an).length = ns.length + 1 + an.length := by simp; omega
      have hle3 : ((ns ++ [((((v1, v2, v3), v4, v5, v6), 0, 0, 0) : Nd)] ++ an).set ns.length (((v1, v2, v3), v4, v5, v6), 0, 0, ((ns.length + 1 + an.length : Nat) : Int))).length = ns.length + 1 + an.length := by rw [List.length_set]; exact hle2
      have hle4 : (od ++ ao1).length = od.length + ao1.length := List.length_append
      have eN : ns ++ ((((v1, v2, v3), v4, v5, v6), 0, 0, ((ns.length + 1 + an.length : Nat) : Int)) :: (an ++ bn)) = (ns ++ [((((v1, v2, v3), v4, v5, v6), 0, 0, 0) : Nd)] ++ an).set ns.length (((v1, v2, v3), v4, v5, v6), 0, 0, ((ns.length + 1 + an.length : Nat) : Int)) ++ bn := by
        rw [set_mid16, List.append_assoc]; rfl
      rw [eN, ← List.append_assoc od]
      refine grow_node gw wl.length cw ns.length cu od.length co n lc au ao lp wl ns od (bls (wBox P wl) wl.length) v1 v2 v3 v4 v5 v6 _ _ _ _ w0 w (wLeft P wl).length (wRight P wl).length (ns.length + 1 + an.length) (od ++ ao1).length (((ns ++ [((((v1, v2, v3), v4, v5, v6), 0, 0, 0) : Nd)] ++ an).set ns.length (((v1, v2, v3), v4, v5, v6), 0, 0, ((ns.length + 1 + an.length : Nat) : Int)) ++ bn).length) (od ++ ao1 ++ bo).length (wLeft P wl) (wRight P wl) tl tr (od ++ ao1) (od ++ ao1 ++ bo) (ns ++ [((((v1, v2, v3), v4, v5, v6), 0, 0, 0) : Nd)] ++ an) _ rfl rfl rfl h0 (by omega) (by omega) hB hn ho hi hap hs.1 hle2.symm (by omega) (Lib.hid KBX) (Lib.hid KAL) (Lib.hid KBS) (Lib.hid KSD) (Lib.hid htl) (Lib.hid htr) (Lib.hid ?_) (Lib.hid ?_)
      · intro Y gn cn gx cx hY hn hord hx hap
        have h := IL (.slice (some ⟨gn, 0, none⟩) (ns.length + 1) cn) (.slice ao od.length co) (.slice (some ⟨gx, 0, none⟩) (wLeft P wl).length cx) (ns ++ [((((v1, v2, v3), v4, v5, v6), 0, 0, 0) : Nd)]) od Y (by omega) (by omega) (by omega) hltl (by rw [hle1]; omega) (by omega) hY hn hord hx hap
        rw [hle1, hA] at h
        refine h.mono ?_
        rintro e w' ⟨u, v, rfl, hc⟩
        dsimp only at hc
        obtain ⟨g2, c2, rfl, _, _, _⟩ := owns_some hc.nod (by rw [hle2]; omega)
        obtain ⟨a3, c3, rfl⟩ := owns_val hc.ord
        rw [hle2] at hc ⊢
        exact ⟨g2, c2, a3, c3, rfl, hc⟩
      · intro Y g2 c2 c3 gx cx a3 hY hn hord hx hap
        have h := IR (.slice (some ⟨g2, 0, none⟩) (ns.length + 1 + an.length) c2) (.slice a3 (od ++ ao1).length c3) (.slice (some ⟨gx, 0, none⟩) (wRight P wl).length cx) _ (od ++ ao1) Y (by omega) (by omega) (by omega) hltr (by rw [hle3]; omega) (by rw [hle4]; omega) hY hn hord hx hap
        rw [hle3, hle4, hQ] at h
        rw [← hle4] at h
        refine h.mono ?_
        rintro e w' ⟨u, v, rfl, hc⟩
        dsimp only at hc
        obtain ⟨a4, c4, rfl⟩ := owns_val hc.nod
        obtain ⟨a5, c5, rfl⟩ := owns_val hc.ord
        exact ⟨a4, c4, a5, c5, rfl, hc⟩

/-- **The reference's Build.** -/
theorem ref16_Build (lp : Option Addr) (n lc : Nat) (P : Nat → Pr) (w : World) (hs : Prims w (.slice lp n lc) n P) (hn : n ≤ 1000000) :
    Calls Tryz.prog 8 #[.slice lp n lc] w fun e w' => ∃ u v, e = .returned (.agg #[u, v]) ∧ RNodRow w' w.heap.size u (mBuild P n).1 ∧ Ints w' w.heap.size v (mBuild P n).2 ∧ Below w.heap.size w w' := by
  have KR : ∀ X, Below w.heap.size w X → Calls Tryz.prog 18 #[.slice lp n lc] X fun e w' => e = .returned (.bool (pAll P n)) ∧ Below X.heap.size X w' := fun X hX => ref14_Right _ n P X (hs.below hX (Nat.le_refl _)) hn
  have fin : ∀ (en : Ending) (w' : World), (en = .returned (.agg #[.slice none 0 0, .slice none 0 0]) ∧ Below w.heap.size w w') → ∃ u v, en = .returned (.agg #[u, v]) ∧ RNodRow w' w.heap.size u [] ∧ Ints w' w.heap.size v [] ∧ Below w.heap.size w w' :=
    fun en w' ⟨h1, h2⟩ => ⟨_, _, h1, World.ownsRow_nil _ _ _ _, World.ownsRow_nil _ _ _ _, h2⟩
  by_cases h : 0 < n ∧ n ≤ 1024 ∧ pAll P n = true
  · have e : mBuild P n = mGrow P n (List.range n) 0 0 := by unfold mBuild; rw [if_pos h]
    rw [e]
    rw [h.2.2] at KR
    refine rbuild_d lp n lc _ _ w (by omega) (by omega) (Lib.hid KR) (Lib.hid ?_)
    intro X uw hX hi
    have g := ref16_grow P lp n lc w hs h.2.1 n (List.range n) (.slice none 0 0) (.slice none 0 0) uw [] [] X (by simp) (by simpa using h.1) (by simpa using h.2.1) (fun j hj => List.mem_range.1 hj) (by simp; omega) (by simp; omega) hX (World.ownsRow_nil _ _ _ _) (World.ownsRow_nil _ _ _ _) hi (fun j _ e => by cases e)
    refine g.mono ?_
    rintro e w' ⟨u, v, rfl, hc⟩
    refine ⟨u, v, rfl, owns_up16 hc.nod (fun k hk => ?_), owns_up16 hc.ord (fun k hk => ?_), ⟨hc.two.os, hc.two.tape, hc.two.output, hc.two.size, fun k hk => hc.two.block k hk (fun e => by cases e) (fun e => by cases e)⟩⟩
    · rcases Nat.lt_or_ge k X.heap.size with q | q
      · exact absurd (hc.fn k hk q) (fun e => by cases e)
      · exact q
    · rcases Nat.lt_or_ge k X.heap.size with q | q
      · exact absurd (hc.fo k hk q) (fun e => by cases e)
      · exact q
  · have e : mBuild P n = ([], []) := by unfold mBuild; rw [if_neg h]
    rw [e]
    by_cases h0 : n = 0
    · exact (rbuild_a lp n lc w h0).mono fin
    · by_cases h1 : 1024 < n
      · exact (rbuild_b lp n lc w h0 h1).mono fin
      · have hp : pAll P n = false := by
          cases e : pAll P n with
          | false => rfl
          | true => exact absurd ⟨by omega, by omega, e⟩ h
        rw [hp] at KR
        exact (rbuild_c lp n lc w h0 h1 (Lib.hid KR)).mono fin

end
end Go.Proofs.YtomlcglnkdfemaaGreat
