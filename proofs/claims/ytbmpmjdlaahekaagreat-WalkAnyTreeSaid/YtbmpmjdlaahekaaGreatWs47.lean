/- The reference's grow and Build: their contracts. The statements' own ' -/
import Derived.Test.YtbmpmjdlaahekaaGreatWs46
set_option maxRecDepth 100000
set_option maxHeartbeats 8000000
set_option linter.unusedVariables false
set_option linter.unusedSimpArgs false
open Go.Proofs.Tryz
namespace Go.Proofs.YtbmpmjdlaahekaaGreat
section
open Go.RowKit Go.Proofs.Sky
theorem ints_slice16 {Y : World} {B g c : Nat} {l : List Nat} (h : Ints Y B (.slice (some ⟨g, 0, none⟩) l.length c) l) (hb : ∀ k ∈ l, k ≤ 1048576) : IntSlice Y (some ⟨g, 0, none⟩) l.length (fun i => ((l.getD i 0 : Nat) : Int)) := by
 obtain ⟨o, cap, e, h⟩ := h.slice hb
 cases e
 exact h
theorem owns_up16 {w : World} {B C : Nat} {e : TypeId} {size n : Nat} {v : Value} {xs : List Value} (h : w.ownsRow B e size v n xs) (hC : ∀ k, v.ownBlock = some k → C ≤ k) : w.ownsRow C e size v n xs := by
 obtain ⟨hl, h⟩ := h
 refine ⟨hl, ?_⟩
 rcases h with h | ⟨g, cap, cur, rfl, hB, rest⟩
 · exact .inl h
 · exact .inr ⟨g, cap, cur, rfl, hC g rfl, rest⟩
theorem set_mid16 {α : Type} (l m : List α) (x y : α) : (l ++ [x] ++ m).set l.length y = l ++ (y :: m) := by
 rw [List.append_assoc, List.set_append_right _ _ (Nat.le_refl _), Nat.sub_self]; rfl
theorem ref16_grow (P : Nat → Pr) (lp : Option Addr) (n lc : Nat) (w0 : World) (hp : Prims w0 (.slice lp n lc) n P) (hn1 : n ≤ 1024) : ∀ (f : Nat) (wl : List Nat) (un uo uw : Value) (ns : List Nd) (od : List Nat) (w : World),
  wl.length ≤ f → 0 < wl.length → wl.length ≤ 1024 → (∀ j ∈ wl, j < n) → ns.length + 2 * wl.length ≤ 32768 → od.length + wl.length ≤ 32768 → Below w0.heap.size w0 w → RNodRow w w0.heap.size un ns → Ints w w0.heap.size uo od → Ints w w0.heap.size uw wl → Apart2 uw uo →
  Calls prog 25 #[.agg #[un, uo], .slice lp n lc, uw] w fun e w' => ∃ u v, e = .returned (.agg #[u, v]) ∧ RSt w un.ownBlock uo.ownBlock w' w0.heap.size u v (ns ++ (mGrow P f wl ns.length od.length).1) (od ++ (mGrow P f wl ns.length od.length).2) [] []
 | 0, wl, un, uo, uw, ns, od, w, hf, h0, h1, hlt, hb1, hb2, hB, hn, ho, hi, hap => by omega
 | f + 1, wl, un, uo, uw, ns, od, w, hf, h0, h1, hlt, hb1, hb2, hB, hn, ho, hi, hap => by
  obtain ⟨au, cu, rfl⟩ := z0d hn
  obtain ⟨ao, co, rfl⟩ := z0d ho
  obtain ⟨gw, cw, rfl, _, _, _⟩ := z1a hi h0
  have hV : (fun k => pBox (P (((wl.getD k 0 : Nat) : Int)).toNat)) = wBox P wl := by funext k; rfl
  have hlb : ∀ k ∈ wl, k ≤ 1048576 := fun k hk => by have := hlt k hk; omega
  have KBX : ∀ Y, Below w.heap.size w Y → Calls prog 40 #[.slice lp n lc, .slice (some ⟨gw, 0, none⟩) wl.length cw] Y fun e w' => ∃ ab cb, e = .returned (.slice ab wl.length cb) ∧ RboxRow w' Y.heap.size (.slice ab wl.length cb) (bls (wBox P wl) wl.length) ∧ Below Y.heap.size Y w' := fun Y hY => by
   have h := ref16_boxes lp (some ⟨gw, 0, none⟩) n lc wl.length cw P (fun i => ((wl.getD i 0 : Nat) : Int)) Y (hp.below (hB.trans (hY.mono hB.size)) (Nat.le_refl _)) (ints_slice16 (hi.below hY) hlb) (fun k hk => ⟨by omega, by
    have := hlt (wl.getD k 0) (by rw [z0g hk]; exact List.getElem_mem _)
    omega⟩) h1
   rw [hV] at h
   refine h.mono ?_
   rintro e w' ⟨u, rfl, hu, hb⟩
   obtain ⟨_, a, c, rfl⟩ := rboxrow_boxes hu (by omega)
   exact ⟨a, c, rfl, hu, hb⟩
  have hbx : ∀ (Y : World) (ab : Option Addr) (cb : Nat), RboxRow Y w0.heap.size (.slice ab wl.length cb) (bls (wBox P wl) wl.length) → Boxes Y (.slice ab wl.length cb) wl.length (wBox P wl) := fun Y ab cb h => (rboxrow_boxes h (by omega)).1
  have KAL := fun (Y : World) (ab : Option Addr) (cb : Nat) (h : RboxRow Y w0.heap.size (.slice ab wl.length cb) (bls (wBox P wl) wl.length)) => ref16_all ab wl.length cb (wBox P wl) Y (hbx Y ab cb h) h0 (by omega)
  have KBS := fun (Y : World) (ab : Option Addr) (cb : Nat) (h : RboxRow Y w0.heap.size (.slice ab wl.length cb) (bls (wBox P wl) wl.length)) => ref15_Best ab wl.length cb (wBox P wl) Y (hbx Y ab cb h) h1
  have hbi := bBest_i64 (wBox P wl) wl.length
  cases he : wEnds P wl with
  | true =>
   rw [mGrow_leaf he]
   by_cases h2 : wl.length ≤ 2
   · exact grow_leaf1 gw wl.length cw ns.length cu od.length co n lc au ao lp wl ns od (bls (wBox P wl) wl.length) _ _ _ _ _ _ _ _ _ _ _ w0 w rfl rfl rfl h0 (by omega) (by omega) hB hn ho hi hap h2 (zh KBX) (zh KAL) (zh KBS)
   · have hs : (bBest (wBox P wl) wl.length).2 = false := by
      unfold wEnds at he
      rw [zf h2, Bool.false_or] at he
      simpa [wSplit] using he
     rw [hs] at KBS
     exact grow_leaf2 gw wl.length cw ns.length cu od.length co n lc au ao lp wl ns od (bls (wBox P wl) wl.length) _ _ _ _ _ _ _ _ _ _ w0 w rfl rfl rfl h0 (by omega) (by omega) hB hn ho hi hap h2 (zh KBX) (zh KAL) (zh KBS)
  | false =>
   obtain ⟨p1, p2, p3⟩ := wSplit_less he
   have hs : ¬ wl.length ≤ 2 ∧ (bBest (wBox P wl) wl.length).2 = true := by
    unfold wEnds at he
    rw [Bool.or_eq_false_iff] at he
    exact ⟨of_decide_eq_false he.1, by simpa [wSplit] using he.2⟩
   rw [hs.2] at KBS
   have KSD : ∀ (Y : World) (ab : Option Addr) (cb : Nat), RboxRow Y w0.heap.size (.slice ab wl.length cb) (bls (wBox P wl) wl.length) → Calls prog 50 #[.agg #[(bBest (wBox P wl) wl.length).1.1, (bBest (wBox P wl) wl.length).1.2.1, (bBest (wBox P wl) wl.length).1.2.2.1, (bBest (wBox P wl) wl.length).1.2.2.2], .slice ab wl.length cb] Y fun e w' => ∃ gl cl gr cr, e = .returned (.tuple #[.slice (some ⟨gl, 0, none⟩) (wLeft P wl).length cl, .slice (some ⟨gr, 0, none⟩) (wRight P wl).length cr]) ∧ Ints w' Y.heap.size (.slice (some ⟨gl, 0, none⟩) (wLeft P wl).length cl) (wLeft P wl) ∧ Ints w' Y.heap.size (.slice (some ⟨gr, 0, none⟩) (wRight P wl).length cr) (wRight P wl) ∧ Below Y.heap.size Y w' := fun Y ab cb h => by
    refine (ref15_Sides ab wl.length cb (wBox P wl) _ _ _ _ Y (hbx Y ab cb h) hbi.1 hbi.2.1 hbi.2.2 h1).mono ?_
    rintro e w' ⟨u, v, rfl, hu, hv, hb⟩
    have hu : Ints w' Y.heap.size u (wLeft P wl) := hu
    have hv : Ints w' Y.heap.size v (wRight P wl) := hv
    obtain ⟨gl, cl, rfl, _, _, _⟩ := z1a hu p1
    obtain ⟨gr, cr, rfl, _, _, _⟩ := z1a hv p2
    exact ⟨gl, cl, gr, cr, rfl, hu, hv, hb⟩
   have hat : ∀ (sl : List Nat), 0 < sl.length → sl.length ≤ wl.length → (∀ k ∈ sl, k < wl.length) → ∀ (Y : World) (gl cl : Nat), Ints Y w0.heap.size (.slice (some ⟨gw, 0, none⟩) wl.length cw) wl → Ints Y w0.heap.size (.slice (some ⟨gl, 0, none⟩) sl.length cl) sl → Calls prog 51 #[.slice (some ⟨gw, 0, none⟩) wl.length cw, .slice (some ⟨gl, 0, none⟩) sl.length cl] Y fun e w' => ∃ gx cx, e = .returned (.slice (some ⟨gx, 0, none⟩) sl.length cx) ∧ Ints w' Y.heap.size (.slice (some ⟨gx, 0, none⟩) sl.length cx) (wAt wl sl) ∧ Below Y.heap.size Y w' := fun sl q1 q2 q3 Y gl cl hw hl => by
    refine (ref16_at (some ⟨gw, 0, none⟩) (some ⟨gl, 0, none⟩) cw cl wl sl Y (ints_slice16 hw hlb) (ints_slice16 hl (fun k hk => by have := q3 k hk; omega)) q3 (by omega)).mono ?_
    rintro e w' ⟨u, rfl, hu, hb⟩
    obtain ⟨gx, cx, rfl, _, _, _⟩ := z1a hu (by rw [z0j]; exact q1)
    rw [z0j] at hu ⊢
    exact ⟨gx, cx, rfl, hu, hb⟩
   have hltl : ∀ j ∈ wAt wl (wLeft P wl), j < n := fun j hj => hlt j (wAt_mem (fun i hi => ix_lt hi) hj)
   have hltr : ∀ j ∈ wAt wl (wRight P wl), j < n := fun j hj => hlt j (wAt_mem (fun i hi => ix_lt hi) hj)
   have hla := mGrow_len (P := P) f (wAt wl (wLeft P wl)) (ns.length + 1) od.length (by rw [z0j]; omega) (by rw [z0j]; omega)
   rw [mGrow_node he rfl rfl]
   have IL := ref16_grow P lp n lc w0 hp hn1 f (wAt wl (wLeft P wl))
   have IR := ref16_grow P lp n lc w0 hp hn1 f (wAt wl (wRight P wl))
   have hl1 := z0j wl (wLeft P wl)
   have hl2 := z0j wl (wRight P wl)
   have htl := hat (wLeft P wl) p1 (by omega) (fun k hk => ix_lt hk)
   have htr := hat (wRight P wl) p2 (by omega) (fun k hk => ix_lt hk)
   clear hat hlt hlb
   generalize wAt wl (wLeft P wl) = tl at *
   generalize wAt wl (wRight P wl) = tr at *
   obtain ⟨⟨⟨v1, v2, v3⟩, v4, v5, v6⟩, hv⟩ : ∃ v : Bx, v = bAll (wBox P wl) wl.length := ⟨_, rfl⟩
   rw [← hv] at KAL ⊢
   dsimp only at KAL
   generalize hA : mGrow P f tl (ns.length + 1) od.length = A at *
   obtain ⟨an, ao1⟩ := A
   dsimp only at hla ⊢
   generalize hQ : mGrow P f tr (ns.length + 1 + an.length) (od.length + ao1.length) = Q at *
   obtain ⟨bn, bo⟩ := Q
   dsimp only
   have hle1 : (ns ++ [((((v1, v2, v3), v4, v5, v6), 0, 0, 0) : Nd)]).length = ns.length + 1 := by simp
   have hle2 : (ns ++ [((((v1, v2, v3), v4, v5, v6), 0, 0, 0) : Nd)] ++ an).length = ns.length + 1 + an.length := by simp; omega
   have hle3 : ((ns ++ [((((v1, v2, v3), v4, v5, v6), 0, 0, 0) : Nd)] ++ an).set ns.length (((v1, v2, v3), v4, v5, v6), 0, 0, ((ns.length + 1 + an.length : Nat) : Int))).length = ns.length + 1 + an.length := by rw [List.length_set]; exact hle2
   have hle4 : (od ++ ao1).length = od.length + ao1.length := List.length_append
   have eN : ns ++ ((((v1, v2, v3), v4, v5, v6), 0, 0, ((ns.length + 1 + an.length : Nat) : Int)) :: (an ++ bn)) = (ns ++ [((((v1, v2, v3), v4, v5, v6), 0, 0, 0) : Nd)] ++ an).set ns.length (((v1, v2, v3), v4, v5, v6), 0, 0, ((ns.length + 1 + an.length : Nat) : Int)) ++ bn := by
    rw [set_mid16, List.append_assoc]; rfl
   rw [eN, ← List.append_assoc od]
   refine grow_node gw wl.length cw ns.length cu od.length co n lc au ao lp wl ns od (bls (wBox P wl) wl.length) v1 v2 v3 v4 v5 v6 _ _ _ _ w0 w (wLeft P wl).length (wRight P wl).length (ns.length + 1 + an.length) (od ++ ao1).length (((ns ++ [((((v1, v2, v3), v4, v5, v6), 0, 0, 0) : Nd)] ++ an).set ns.length (((v1, v2, v3), v4, v5, v6), 0, 0, ((ns.length + 1 + an.length : Nat) : Int)) ++ bn).length) (od ++ ao1 ++ bo).length (wLeft P wl) (wRight P wl) tl tr (od ++ ao1) (od ++ ao1 ++ bo) (ns ++ [((((v1, v2, v3), v4, v5, v6), 0, 0, 0) : Nd)] ++ an) _ rfl rfl rfl h0 (by omega) (by omega) hB hn ho hi hap hs.1 hle2.symm (by omega) (zh KBX) (zh KAL) (zh KBS) (zh KSD) (zh htl) (zh htr) (zh ?_) (zh ?_)
   · intro Y gn cn gx cx hY hn hord hx hap
     have h := IL (.slice (some ⟨gn, 0, none⟩) (ns.length + 1) cn) (.slice ao od.length co) (.slice (some ⟨gx, 0, none⟩) (wLeft P wl).length cx) (ns ++ [((((v1, v2, v3), v4, v5, v6), 0, 0, 0) : Nd)]) od Y (by omega) (by omega) (by omega) hltl (by rw [hle1]; omega) (by omega) hY hn hord hx hap
     rw [hle1, hA] at h
     refine h.mono ?_
     rintro e w' ⟨u, v, rfl, hc⟩
     dsimp only at hc
     obtain ⟨g2, c2, rfl, _, _, _⟩ := z1a hc.nod (by rw [hle2]; omega)
     obtain ⟨a3, c3, rfl⟩ := z0d hc.ord
     rw [hle2] at hc ⊢
     exact ⟨g2, c2, a3, c3, rfl, hc⟩
   · intro Y g2 c2 c3 gx cx a3 hY hn hord hx hap
     have h := IR (.slice (some ⟨g2, 0, none⟩) (ns.length + 1 + an.length) c2) (.slice a3 (od ++ ao1).length c3) (.slice (some ⟨gx, 0, none⟩) (wRight P wl).length cx) _ (od ++ ao1) Y (by omega) (by omega) (by omega) hltr (by rw [hle3]; omega) (by rw [hle4]; omega) hY hn hord hx hap
     rw [hle3, hle4, hQ] at h
     rw [← hle4] at h
     refine h.mono ?_
     rintro e w' ⟨u, v, rfl, hc⟩
     dsimp only at hc
     obtain ⟨a4, c4, rfl⟩ := z0d hc.nod
     obtain ⟨a5, c5, rfl⟩ := z0d hc.ord
     exact ⟨a4, c4, a5, c5, rfl, hc⟩
theorem ref16_Build (lp : Option Addr) (n lc : Nat) (P : Nat → Pr) (w : World) (hs : Prims w (.slice lp n lc) n P) (hn : n ≤ 1000000) :
  Calls prog 10 #[.slice lp n lc] w fun e w' => ∃ u v, e = .returned (.agg #[u, v]) ∧ RNodRow w' w.heap.size u (mBuild P n).1 ∧ Ints w' w.heap.size v (mBuild P n).2 ∧ Below w.heap.size w w' := by
 have KR : ∀ X, Below w.heap.size w X → Rt prog 6 #[.slice lp n lc] X (.bool (pAll P n)) := fun X hX => z17 _ n P X (hs.below hX (Nat.le_refl _)) hn
 have fin : ∀ (en : Ending) (w' : World), (en = .returned (.agg #[.slice none 0 0, .slice none 0 0]) ∧ Below w.heap.size w w') → ∃ u v, en = .returned (.agg #[u, v]) ∧ RNodRow w' w.heap.size u [] ∧ Ints w' w.heap.size v [] ∧ Below w.heap.size w w' :=
  fun en w' ⟨h1, h2⟩ => ⟨_, _, h1, World.ownsRow_nil _ _ _ _, World.ownsRow_nil _ _ _ _, h2⟩
 by_cases h : 0 < n ∧ n ≤ 1024 ∧ pAll P n = true
 · have e : mBuild P n = mGrow P n (List.range n) 0 0 := by unfold mBuild; rw [if_pos h]
   rw [e]
   rw [h.2.2] at KR
   refine rbuild_d lp n lc _ _ w (by omega) (by omega) (zh KR) (zh ?_)
   intro X uw hX hi
   have g := ref16_grow P lp n lc w hs h.2.1 n (List.range n) (.slice none 0 0) (.slice none 0 0) uw [] [] X (by simp) (by simpa using h.1) (by simpa using h.2.1) (fun j hj => List.mem_range.1 hj) (by simp; omega) (by simp; omega) hX (World.ownsRow_nil _ _ _ _) (World.ownsRow_nil _ _ _ _) hi (fun j _ e => by cases e)
   refine g.mono ?_
   rintro e w' ⟨u, v, rfl, hc⟩
   refine ⟨u, v, rfl, owns_up16 hc.nod (fun k hk => ?_), owns_up16 hc.ord (fun k hk => ?_), ⟨hc.two.os, hc.two.tape, hc.two.output, hc.two.size, fun k hk => hc.two.block k hk (fun e => by cases e) (fun e => by cases e)⟩⟩
   · rcases Nat.lt_or_ge k X.heap.size with q | q
     · exact absurd (hc.fn k hk q) (fun e => by cases e)
     · exact q
   · rcases Nat.lt_or_ge k X.heap.size with q | q
     · exact absurd (hc.fo k hk q) (fun e => by cases e)
     · exact q
 · have e : mBuild P n = ([], []) := by unfold mBuild; rw [if_neg h]
   rw [e]
   by_cases h0 : n = 0
   · exact (rbuild_a lp n lc w h0).mono fin
   · by_cases h1 : 1024 < n
     · exact (rbuild_b lp n lc w h0 h1).mono fin
     · have hp : pAll P n = false := by
        cases e : pAll P n with
        | false => rfl
        | true => exact absurd ⟨by omega, by omega, e⟩ h
       rw [hp] at KR
       exact (rbuild_c lp n lc w h0 h1 (zh KR)).mono fin
end
section
open Go.RowKit Go.Proofs.Sky
theorem law17_of (tv : Value) (ns : List Nd) (a : Option Addr) (ord : List Int) (ca : Nat) (w : World) (hN : Nodes w tv ns) (ho : IntSlice w a ord.length (fun i => ord.getD i 0)) (hn : ns.length ≤ 1048576) (hm : ord.length ≤ 1048576) :
  Calls prog 9 #[.agg #[tv, .slice a ord.length ca]] w fun e w' => ∃ u v, e = .returned (.agg #[u, v]) ∧ NodRow w' w.heap.size u ns ∧ OrdRow w' w.heap.size v ord ∧ Below w.heap.size w w' := by
 obtain ⟨av, ct, rfl⟩ := nodes_val hN
 have HN := zh hN
 have HO := zh ho
 clear hN ho
 obtain ⟨i0, hi0, hz0, hz1, hz2⟩ := info_parts node_info
 obtain ⟨i1, hi1, hy0, hy1, hy2⟩ := info_parts z1i
 obtain ⟨n, hnn⟩ := nmd (ns.length)
 obtain ⟨m, hmm⟩ := nmd (ord.length)
 rw [← hnn] at hn ⊢
 rw [← hmm] at hm ⊢
 have HNN := zh hnn
 have HMM := zh hmm
 clear hnn hmm
 go_enter func9, ntmps9
 go_upto_region 1 with (fail)
 refine wst2 fun W1 kt kr B1 => ?_
 have lr : w.heap.size < w.heap.size + 1 := by omega
 generalize w.heap.size + 1 = gr at *
 have c_t := bwc2 kt
 have cr := bwc2 kr
 refine bws fun p1 => ?_
 go_upto_region 2 with (fail)
 refine wnm fun W2 hW2 => ?_
 have B2 := bwA p1 hW2 B1
 have lo : gr < p1.w.heap.size := (kr.below p1.h).lt
 have oo : w.heap.size ≤ p1.w.heap.size := (z00 B1 p1).size
 have lot : w.heap.size < p1.w.heap.size := (kt.below p1.h).lt
 have kt := bka hW2 (kt.below p1.h)
 have kr := bka hW2 (kr.below p1.h)
 have ko := bkn hW2
 clear hW2
 clear B1
 clear c_t cr
 generalize p1.w.heap.size = go at *
 have c_t := bwc2 kt
 have cr := bwc2 kr
 have co := bwc2 ko
 refine bws fun p2 => ?_
 go_wp2
 go_loopw [4] (fun i wr => ∃ (k : Nat) (un : Value), k ≤ n ∧ i = .int .i64 k ∧ NodRow wr w.heap.size un (ns.take k) ∧ Bk wr w.heap.size 39 #[.slice av n ct, .slice a m ca] ∧ Bk wr gr 35 #[.slice none 0 0, .slice none 0 0] ∧ Bk wr go 35 #[un, .slice none 0 0] ∧ Below w.heap.size w wr) (fun i _ => n - (intOf i).toNat)
 case atStart => exact ⟨0, _, by omega, rfl, World.ownsRow_nil _ _ _ _, kt.below p2.h, kr.below p2.h, ko.below p2.h, z00 B2 p2⟩
 case round =>
  clear kt kr ko
  obtain ⟨k, un, hk, rfl, hu, kt, kr, ko, BO⟩ := hrel
  have B1 := BO
  obtain ⟨au, cu, hua⟩ := z0d hu
  by_cases hlt : k < n
  · have hkl : k < ns.length := by rw [← HNN.out]; exact hlt
    have hl : (ns.take k).length = k := by rw [List.length_take]; omega
    rw [hl] at hua
    subst hua
    have hT : ns.take (k + 1) = ns.take k ++ [ns[k]] := by rw [List.take_add_one, List.getElem?_eq_getElem hkl]; rfl
    obtain ⟨bb, off, hav, hbb, x0, x1, x2, x3, x4, x5, x6, x7, x8⟩ := nodes_at (a := av) (n := n) (cap := ct) (ns := ns) (by rw [HNN.out]; exact HN.out) hkl
    subst hav
    generalize ns[k] = nd at *
    have HT := zh hT
    clear hT hkl
    obtain ⟨⟨⟨n1, n2, n3⟩, n4, n5, n6⟩, fi, cn, ri⟩ := nd
    dsimp only at x0 x1 x2 x3 x4 x5 x6 x7 x8
    generalize ns.take k = L at *
    have c_t := bwc2 kt
    have cr := bwc2 kr
    have co := bwc2 ko
    have cx0 : ∀ p : BW wr, p.w.cell? ⟨bb, off + k * 9, none⟩ = some (.int .i64 n1) := bwB B1 x0 hbb
    have cx1 : ∀ p : BW wr, p.w.cell? ⟨bb, off + k * 9 + 1, none⟩ = some (.int .i64 n2) := bwB B1 x1 hbb
    have cx2 : ∀ p : BW wr, p.w.cell? ⟨bb, off + k * 9 + 2, none⟩ = some (.int .i64 n3) := bwB B1 x2 hbb
    have cx3 : ∀ p : BW wr, p.w.cell? ⟨bb, off + k * 9 + 3, none⟩ = some (.int .i64 n4) := bwB B1 x3 hbb
    have cx4 : ∀ p : BW wr, p.w.cell? ⟨bb, off + k * 9 + 4, none⟩ = some (.int .i64 n5) := bwB B1 x4 hbb
    have cx5 : ∀ p : BW wr, p.w.cell? ⟨bb, off + k * 9 + 5, none⟩ = some (.int .i64 n6) := bwB B1 x5 hbb
    have cx6 : ∀ p : BW wr, p.w.cell? ⟨bb, off + k * 9 + 6, none⟩ = some (.int .i64 fi) := bwB B1 x6 hbb
    have cx7 : ∀ p : BW wr, p.w.cell? ⟨bb, off + k * 9 + 7, none⟩ = some (.int .i64 cn) := bwB B1 x7 hbb
    have cx8 : ∀ p : BW wr, p.w.cell? ⟨bb, off + k * 9 + 8, none⟩ = some (.int .i64 ri) := bwB B1 x8 hbb
    refine bws fun p1 => ?_
    go_upto_region 6 with (fail)
    refine wnm fun W2 hW2 => ?_
    have B2 := bwA p1 hW2 B1
    have ld : go < p1.w.heap.size := (ko.below p1.h).lt
    have od : w.heap.size ≤ p1.w.heap.size := (z00 B1 p1).size
    have ldt : w.heap.size < p1.w.heap.size := (kt.below p1.h).lt
    have ldr : gr < p1.w.heap.size := (kr.below p1.h).lt
    have kt := bka hW2 (kt.below p1.h)
    have kr := bka hW2 (kr.below p1.h)
    have ko := bka hW2 (ko.below p1.h)
    have hu := nodrow_alloc hW2 (hu.below p1.h)
    have kd := bkn hW2
    clear hW2
    clear B1
    clear c_t cr co cx0 cx1 cx2 cx3 cx4 cx5 cx6 cx7 cx8
    generalize p1.w.heap.size = gd at *
    have c_t := bwc2 kt
    have cr := bwc2 kr
    have co := bwc2 ko
    have fo := bwf2 ko
    have cd := bwc9 kd
    refine bws fun p2 => ?_
    go_wp2_with (at_builtin; refine z06 rfl _ _ 32 rfl w.heap.size 66 i0 _ 9 72 Tryz.underlying32 hi0 hz0 hz1 hz2 rfl (by decide) _ k (L.flatMap ncells) rfl (World.ownsRow.alloc (by have h := hu.below (BW.h p2); unfold NodRow at h; rw [hl] at h; exact h) _) ⟨_, 0, none⟩ 1 1 (ncells ((((n1, n2, n3), n4, n5, n6), fi, cn, ri) : Nd)) rfl rfl ?g1 ?g2 ?g3 ?g4 ?g5 ?_)
    case g1 => exact z1h _ #[n1, n2, n3, n4, n5, n6, fi, cn, ri] _
    case g2 => exact ncells_one _
    case g3 => unfold maxLen; omega
    case g4 => omega
    case g5 => have := (z00 B2 p2).size; simp; omega
    intro vn w1 hown hgrow hat
    obtain ⟨an, cn2, rfl⟩ := z0d hown
    have hu0 := nodrow_alloc (o := .cells #[n1, n2, n3, n4, n5, n6, fi, cn, ri] 66) rfl (hu.below (BW.h p2))
    have hrow : NodRow w1 w.heap.size (.slice an (k + 1) cn2) (L ++ [(((n1, n2, n3), n4, n5, n6), fi, cn, ri)]) := by unfold NodRow; rw [List.length_append, hl, List.flatMap_append, List.flatMap_cons, List.flatMap_nil, List.append_nil]; exact hown
    have hsz := (z00 B2 p2).size
    have hb1 : Below w.heap.size w w1 := ((z00 B2 p2).alloc hsz _).grown hgrow (by simp; omega) (fun j ej => (World.ownsRow.lt hu0 j ej).1)
    have kr1 := z0q hu0 ((kr.below (BW.h p2)).alloc _) (by decide) hgrow
    have kt1 := z0q hu0 ((kt.below (BW.h p2)).alloc _) (by decide) hgrow
    have ko1 := z0q hu0 ((ko.below (BW.h p2)).alloc _) (by decide) hgrow
    have q0 := ko1.cell (i := 0) rfl
    have q1 := ko1.frozen 0
    go_wp2
    go_roundw
    case rel => exact ⟨k + 1, .slice an (k + 1) cn2, by omega, by go_num, by rw [HT.out]; exact z0f hrow (a := ⟨go, 0, none⟩) (z0e hrow ko1 (by decide)) _, kt1.other (a := ⟨go, 0, none⟩) (by show ¬ w.heap.size = go; omega) _, kr1.other (a := ⟨go, 0, none⟩) (by show ¬ gr = go; omega) _, (ko1.set 0 _).cast (by simp), hb1.setCell (p := ⟨go, 0, none⟩) (by show w.heap.size ≤ go; omega) _⟩
    case measure => simp [intOf]; omega
  · obtain rfl : k = n := by omega
    have hl : (ns.take k).length = k := by rw [List.length_take, ← HNN.out]; omega
    rw [hl] at hua
    subst hua
    have hT : ns.take k = ns := by rw [HNN.out]; exact List.take_length
    rw [hT] at hu
    have c_t := bwc2 kt
    have cr := bwc2 kr
    have fr := bwf2 kr
    have co := bwc2 ko
    have fo := bwf2 ko
    refine bws fun p1 => ?_
    have hoW : IntSlice p1.w a ord.length (fun i => ord.getD i 0) := intslice_down15 HO.out (z00 B1 p1)
    go_wp2_with (at_builtin; refine wpList_append_row16 rfl _ _ 33 rfl w.heap.size 3 i1 (.int .i64 0) 1 8 Tryz.underlying33 hi1 hy0 hy1 hy2 rfl (by decide) rfl a m ca (ord.map (Value.int .i64)) rfl (by rw [List.length_map, HMM.out, Nat.mul_one]) ?g1 ?g2 ?g3 ?g4 ?g5 ?_)
    case g1 => have h := intslice_row hoW; rw [← HMM.out] at h; exact h
    case g2 => intro u hu; obtain ⟨k, _, rfl⟩ := List.mem_map.1 hu; rfl
    case g3 => unfold maxLen; omega
    case g4 => omega
    case g5 => exact (z00 B1 p1).size
    intro vo w1 hown hgrow
    obtain ⟨ao2, co2, rfl⟩ := z0d hown
    have hrow : OrdRow w1 w.heap.size (.slice ao2 m co2) ord := by unfold OrdRow; rw [← HMM.out]; exact hown
    have hu1 := z14 (hu.below p1.h) hgrow (fun j _ e => by cases e)
    have kt1 := (kt.below p1.h).grown hgrow (fun e => by cases e)
    have kr1 := (kr.below p1.h).grown hgrow (fun e => by cases e)
    have ko1 := (ko.below p1.h).grown hgrow (fun e => by cases e)
    have hb1 : Below w.heap.size w w1 := (z00 B1 p1).grown hgrow (z00 B1 p1).size (fun j ej => by cases ej)
    have q0 := ko1.cell (i := 0) rfl
    have q1 := ko1.cell (i := 1) rfl
    have q2 := ko1.frozen 1
    have q3 := kr1.cell (i := 0) rfl
    have q4 := kr1.cell (i := 1) rfl
    have q5 := kr1.frozen 0
    have q6 := kr1.frozen 1
    go_wp2
    have kr2 := bkp2 (kr1.other (a := ⟨go, 1, none⟩) (by show ¬ gr = go; omega) (.slice ao2 m co2)) (.slice au k cu) (.slice ao2 m co2)
    have rc := rwc2 kr2
    have hu2 := z0f (z0f (z0f hu1 (a := ⟨go, 1, none⟩) (z0e hu1 ko1 (by decide)) (.slice ao2 m co2)) (a := ⟨gr, 0, none⟩) (z0e hu1 kr1 (by decide)) (.slice au k cu)) (a := ⟨gr, 1, none⟩) (z0e hu1 kr1 (by decide)) (.slice ao2 m co2)
    have ho2 := z0f (z0f (z0f hrow (a := ⟨go, 1, none⟩) (z0e hrow ko1 (by decide)) (.slice ao2 m co2)) (a := ⟨gr, 0, none⟩) (z0e hrow kr1 (by decide)) (.slice au k cu)) (a := ⟨gr, 1, none⟩) (z0e hrow kr1 (by decide)) (.slice ao2 m co2)
    exact bodyPost_ret (v := .agg #[.slice au k cu, .slice ao2 m co2]) (by simp [results, results9, go_sem, rc]) rfl ⟨_, _, rfl, hu2, ho2, blp2 (hb1.setCell (p := ⟨go, 1, none⟩) (by show w.heap.size ≤ go; omega) _) (by omega)⟩
end
end Go.Proofs.YtbmpmjdlaahekaaGreat
