/- The chapter's example holds: the contract of the statements' own awake -/
import Derived.KernelRfl
import Derived.Test.YtbmpmjdlaahekaaGreatWs34
import Derived.Test.YtbmpmjdlaahekaaGreatWs47
import Derived.Test.YtbmpmjdlaahekaaGreatWs41
set_option maxRecDepth 100000
set_option maxHeartbeats 8000000
set_option linter.unusedVariables false
set_option linter.unusedSimpArgs false
open Go.Proofs.Tryz
namespace Go.Proofs.YtbmpmjdlaahekaaGreat
section
open Go.RowKit Go.Proofs.Sky
def awT (i : Nat) : Pr := ⟨2, (if i = 0 then 0 else if i = 1 then 50 else 100, 0, 0), (0, 0, 0), (0, 0, 0), 5, 0⟩
def awN3 : List Nd := [(((-5, -5, -5), (105, 5, 5)), 0, 0, 2), (((-5, -5, -5), (5, 5, 5)), 0, 1, 0), (((45, -5, -5), (105, 5, 5)), 1, 2, 0)]
theorem aw_build3 : mBuild awT 3 = (awN3, [0, 1, 2]) := by kernel_rfl
theorem aw_prims16 {X : World} {g n : Nat} (h : Bk X g 59 #[.int .i64 2, .int .i64 0, .int .i64 0, .int .i64 0, .int .i64 0, .int .i64 0, .int .i64 0, .int .i64 0, .int .i64 0, .int .i64 0, .int .i64 5, .int .i64 0, .int .i64 2, .int .i64 50, .int .i64 0, .int .i64 0, .int .i64 0, .int .i64 0, .int .i64 0, .int .i64 0, .int .i64 0, .int .i64 0, .int .i64 5, .int .i64 0, .int .i64 2, .int .i64 100, .int .i64 0, .int .i64 0, .int .i64 0, .int .i64 0, .int .i64 0, .int .i64 0, .int .i64 0, .int .i64 0, .int .i64 5, .int .i64 0]) (hn : n ≤ 3) : Prims X (.slice (some ⟨g, 0, none⟩) n 3) n awT := by
 refine ⟨⟨_, 3, rfl, by unfold maxLen; omega, .inr ⟨g, 0, rfl, h.lt, fun i hi j hj => ?_⟩⟩, fun i hi => ?_⟩
 · rcases (by omega : i = 0 ∨ i = 1 ∨ i = 2) with rfl | rfl | rfl <;> (rcases (by omega : j = 0 ∨ j = 1 ∨ j = 2 ∨ j = 3 ∨ j = 4 ∨ j = 5 ∨ j = 6 ∨ j = 7 ∨ j = 8 ∨ j = 9 ∨ j = 10 ∨ j = 11) with rfl | rfl | rfl | rfl | rfl | rfl | rfl | rfl | rfl | rfl | rfl | rfl <;> exact h.cell rfl)
 · rcases (by omega : i = 0 ∨ i = 1 ∨ i = 2) with rfl | rfl | rfl <;> (unfold Pr.I I3 I64 awT; simp)
end
section
open Go.RowKit Go.Proofs.Sky
def pOf16 (V : List Value) : Pr :=
 ⟨intOf (V.getD 0 (.bool false)), (intOf (V.getD 1 (.bool false)), intOf (V.getD 2 (.bool false)), intOf (V.getD 3 (.bool false))), (intOf (V.getD 4 (.bool false)), intOf (V.getD 5 (.bool false)), intOf (V.getD 6 (.bool false))), (intOf (V.getD 7 (.bool false)), intOf (V.getD 8 (.bool false)), intOf (V.getD 9 (.bool false))), intOf (V.getD 10 (.bool false)), intOf (V.getD 11 (.bool false))⟩
theorem pOf16_pcells (p : Pr) : pOf16 (pcells p) = p := rfl
theorem prim_row16 {V : List Value} (h : LeafAll [.int .i64, .int .i64, .int .i64, .int .i64, .int .i64, .int .i64, .int .i64, .int .i64, .int .i64, .int .i64, .int .i64, .int .i64] V) : ∃ p : Pr, V = pcells p ∧ p.I := by
 obtain ⟨_, _, rfl, ⟨x0, rfl, h0⟩, _, _, rfl, ⟨x1, rfl, h1⟩, _, _, rfl, ⟨x2, rfl, h2⟩, _, _, rfl, ⟨x3, rfl, h3⟩, _, _, rfl, ⟨x4, rfl, h4⟩, _, _, rfl, ⟨x5, rfl, h5⟩, _, _, rfl, ⟨x6, rfl, h6⟩, _, _, rfl, ⟨x7, rfl, h7⟩, _, _, rfl, ⟨x8, rfl, h8⟩, _, _, rfl, ⟨x9, rfl, h9⟩, _, _, rfl, ⟨x10, rfl, h10⟩, _, r, rfl, ⟨x11, rfl, h11⟩, he⟩ := h
 have he' : r = [] := he
 subst he'
 exact ⟨⟨x0, (x1, x2, x3), (x4, x5, x6), (x7, x8, x9), x10, x11⟩, rfl, ⟨I64.of_wf h0, ⟨I64.of_wf h1, I64.of_wf h2, I64.of_wf h3⟩, ⟨I64.of_wf h4, I64.of_wf h5, I64.of_wf h6⟩, ⟨I64.of_wf h7, I64.of_wf h8, I64.of_wf h9⟩, I64.of_wf h10, I64.of_wf h11⟩⟩
theorem open_prims16 {H : Type} {enc : TypeId × Value → H} {W : World} {r : Reach} {b0 : Nat} {v : Value} {d : DataW H} {p : List MemPlace} (hv : Value.okWide prog W r b0 22 v)
  (h : DataW.Trod enc prog W 0 (fun _ => true) true 22 v d p) : ∃ (a : Option Addr) (len cap : Nat) (P : Nat → Pr), v = .slice a len cap ∧ Prims W (.slice a len cap) len P := by
 obtain ⟨z0, z1, z2, rfl⟩ := Go.WideShapes.okWide_slice Tryz.underlying22 hv
 obtain ⟨fuel, hf⟩ := h
 obtain ⟨a, len, cap, V, ev, _, hm, hr⟩ := open_rows16 (n := 5) (ks := [.int .i64, .int .i64, .int .i64, .int .i64, .int .i64, .int .i64, .int .i64, .int .i64, .int .i64, .int .i64, .int .i64, .int .i64]) Tryz.underlying22 (by kernel_rfl) (by kernel_rfl) (by simp) hf
 rw [ev]
 clear ev hf hv
 refine ⟨a, len, cap, fun i => pOf16 (V i), rfl, ?_⟩
 rcases hr with rfl | ⟨b, off, rfl, hR, hb⟩
 · exact ⟨⟨a, cap, rfl, hm, .inl rfl⟩, fun i hi => absurd hi (by omega)⟩
 · refine ⟨⟨_, cap, rfl, hm, .inr ⟨b, off, rfl, hb, fun k hk j hj => ?_⟩⟩, fun k hk => ?_⟩
   · obtain ⟨p, e, _⟩ := prim_row16 (hR k hk).1
     have c : W.cell? ⟨b, off + k * 12 + j, none⟩ = (V k)[j]? := (hR k hk).2 j hj
     dsimp only
     rw [c, e, pOf16_pcells]
   · obtain ⟨p, e, hI⟩ := prim_row16 (hR k hk).1
     dsimp only
     rw [e, pOf16_pcells]
     exact hI
end
section
open Go.RowKit Go.Proofs.Sky
theorem walk_Clear_w (a ov lp : Option Addr) (N cap m co n lc : Nat) (q1 q2 q3 t1 t2 t3 d1 d2 d3 lv : Int) (res : Bool) (w : World) (KS : Hid (∀ w, Rt prog 46 #[.agg #[t1, t2, t3], .agg #[q1, q2, q3]] w (.agg #[d1, d2, d3])))
  (KA : Hid (∀ X, Below w.heap.size w X → Rt prog 13 #[.agg #[.slice a N cap, .slice ov m co], .slice lp n lc, .agg #[q1, q2, q3, d1, d2, d3, lv], .agg #[.int .i64 1, .int .i64 1]] X (.bool res))) :
  Rt prog 22 #[.agg #[.slice a N cap, .slice ov m co], .slice lp n lc, .agg #[q1, q2, q3], .agg #[t1, t2, t3], lv] w (.bool (!res)) := by
 go_enter func22, ntmps22
 go_upto_region 1 with (fail)
 refine wst3 fun W1 kt kq kto B1 => ?_
 have lq : w.heap.size < w.heap.size + 1 := by omega
 have lto : w.heap.size + 1 < w.heap.size + 1 + 1 := by omega
 generalize w.heap.size + 1 + 1 = gto at *
 generalize w.heap.size + 1 = gq at *
 have ct := bwc2 kt
 have cq := bwc3 kq
 have cto := bwc3 kto
 refine bws fun p1 => ?_
 refine wp_region_float (t := 26) (zs := #[.int .i64 0, .int .i64 0, .int .i64 0, .int .i64 0, .int .i64 0, .int .i64 0, .int .i64 0]) 7 6 11 24 (by kernel_rfl) (by kernel_rfl) (by kernel_rfl) (by kernel_rfl) (by kernel_rfl) rfl ?_ ?_
 · intro ev wx
   simp [execOp, go_sem]
 apply Exists.intro
 refine ⟨?_, ?_⟩
 · intro wb' hwb'
   obtain ⟨dt0, dt1⟩ := bwc2 (kt.below hwb')
   obtain ⟨dq0, dq1, dq2⟩ := bwc3 (kq.below hwb')
   obtain ⟨dto0, dto1, dto2⟩ := bwc3 (kto.below hwb')
   simp only [maskAt, List.take_succ_cons, List.take_zero]
   repeat (go_big_quiet_step ((go_at_call 46; (with_reducible exact z02 KS.out _))))
   refine wpQuiet_nil ?_
   exact rfl
 intro W2 gy hW hg ky
 have B2 : Below w.heap.size w W2 := B1.trans (hW.mono B1.size)
 have oy : w.heap.size ≤ gy := Nat.le_trans B1.size hg
 have ly : gto < gy := zl kto.lt hg
 have kt := kt.below hW
 have kq := kq.below hW
 have kto := kto.below hW
 clear hW hg B1
 clear ct cq cto
 simp only [List.drop_succ_cons, List.drop_zero, Act.put, List.setIfInBounds_toArray, List.set_cons_zero, List.set_cons_succ]
 have ct := bwc2 kt
 have cq := bwc3 kq
 have cto := bwc3 kto
 have cy := bwc7 ky
 have fy := bwf7 ky
 refine bwsL fun p2 => ?_
 go_upto_region 2 with (fail)
 refine wnm fun W3 hW3 => ?_
 have B3 : Below w.heap.size w W3 := by rw [hW3]; exact blp7 (z00 B2 p2) (by omega)
 have kt := bkoe7 hW3 (kt.below p2.h) (by omega)
 have kq := bkoe7 hW3 (kq.below p2.h) (by omega)
 have kto := bkoe7 hW3 (kto.below p2.h) (by omega)
 have ky := bkpe7 hW3 (ky.below p2.h)
 clear hW3
 clear B2
 clear ct cq cto cy fy
 have ct := bwc2 kt
 have cq := bwc3 kq
 have cto := bwc3 kto
 have cy := bwc7 ky
 refine bws fun p3 => ?_
 have KA2 := zh (fun Y (hY : Below W3.heap.size W3 Y) => KA.out Y (B3.trans (hY.mono B3.size)))
 go_wp2_with (go_at_call 13; (with_reducible refine (z0c KA2.out (Below.refl _ _) _).mono ?_); rintro e w' ⟨rfl, q, rfl⟩)
 go_ret
 exact ⟨rfl, z00 B3 _⟩
end
section
open Go.RowKit Go.Proofs.Sky
structure TreeAt (X : World) (a : Option Addr) (N c : Nat) (o : Option Addr) (M co : Nat) (ns : List Nd) (ord : List Int) : Prop where
 hnod : Nodes X (.slice a N c) ns
 hord : IntSlice X o M (fun i => ord.getD i 0)
 hn : N = ns.length
 hm : M = ord.length
 hc : M ≤ co
theorem TreeAt.below {X Y : World} {a o : Option Addr} {N c M co : Nat} {ns : List Nd} {ord : List Int} (h : TreeAt X a N c o M co ns ord) (hb : Below X.heap.size X Y) : TreeAt Y a N c o M co ns ord :=
 ⟨h.hnod.below hb (Nat.le_refl _), intslice_below h.hord hb, h.hn, h.hm, h.hc⟩
theorem rnodrow_nodes17 {w : World} {B : Nat} {v : Value} {l : List Nd} (h : RNodRow w B v l) (hn : l.length ≤ 1048576) : Nodes w v l :=
 owns_sll (f := ncells) ncells_len (by omega) rfl (by unfold maxLen; omega) h
def bOrd (P : Nat → Pr) (n : Nat) : List Int := (mBuild P n).2.map (fun k : Nat => (k : Int))
theorem build_lens (P : Nat → Pr) (n : Nat) : (mBuild P n).1.length ≤ 2 * n ∧ (bOrd P n).length ≤ n ∧ ∀ k ∈ (mBuild P n).2, k < n := by
 unfold bOrd
 rw [List.length_map]
 by_cases h : 0 < n ∧ n ≤ 1024 ∧ pAll P n = true
 · have e : mBuild P n = mGrow P n (List.range n) 0 0 := by unfold mBuild; rw [if_pos h]
   rw [e]
   obtain ⟨h1, h2, h3⟩ := mGrow_len (P := P) n (List.range n) 0 0 (by simp) (by simpa using h.1)
   rw [List.length_range] at h1 h2
   exact ⟨by omega, by omega, fun k hk => by have := mGrow_mem n _ _ _ k hk; simpa using this⟩
 · have e : mBuild P n = ([], []) := by unfold mBuild; rw [if_neg h]
   rw [e]
   exact ⟨by simp, by simp, fun k hk => by simp at hk⟩
theorem ref_built17 (lp : Option Addr) (n lc : Nat) (P : Nat → Pr) (ns : List Nd) (ord : List Int) (N M : Nat) (X : World) (hs : Prims X (.slice lp n lc) n P) (hn : n ≤ 1000) (hns : ns = (mBuild P n).1) (hord : ord = bOrd P n) (hN : N = ns.length) (hM : M = ord.length) :
  Calls prog 10 #[.slice lp n lc] X fun e w' => ∃ ua uc va vc, e = .returned (.agg #[.slice ua N uc, .slice va M vc]) ∧ TreeAt w' ua N uc va M vc ns ord ∧ Below X.heap.size X w' := by
 obtain ⟨l1, l2, l3⟩ := build_lens P n
 refine (ref16_Build lp n lc P X hs (by omega)).mono ?_
 rintro e w' ⟨u, v, rfl, hu, hv, hb⟩
 rw [← hns] at hu l1
 obtain ⟨ua, uc, rfl⟩ := z0d hu
 obtain ⟨va, vc, rfl, hc, hi⟩ := ordrow_slice (ints_ord hv) (by
  intro x hx
  obtain ⟨k, hk, rfl⟩ := List.mem_map.1 hx
  have := l3 k hk
  unfold I64; omega)
 have eo : List.map (fun k : Nat => (k : Int)) (mBuild P n).2 = ord := hord.symm
 rw [eo] at hi hc ⊢
 rw [← hN, ← hM]
 exact ⟨ua, uc, va, vc, rfl, ⟨by rw [hN]; exact rnodrow_nodes17 hu (by omega), by rw [hM]; exact hi, hN, hM, by rw [hM]; exact hc⟩, hb⟩
theorem of_at17 (ua va : Option Addr) (uc vc N M : Nat) (ns : List Nd) (ord : List Int) (X : World) (h : TreeAt X ua N uc va M vc ns ord) (hn : N ≤ 1048576) (hm : M ≤ 1048576) :
  Calls prog 9 #[.agg #[.slice ua N uc, .slice va M vc]] X fun e w' => ∃ ta tc oa oc, e = .returned (.agg #[.slice ta N tc, .slice oa M oc]) ∧ TreeAt w' ta N tc oa M oc ns ord ∧ Below X.heap.size X w' := by
 obtain ⟨h1, h2, rfl, rfl, h5⟩ := h
 refine (law17_of _ ns va ord vc X h1 h2 hn hm).mono ?_
 rintro e w' ⟨u, v, rfl, hu, hv, hb⟩
 obtain ⟨ta, tc, rfl⟩ := z0d hu
 obtain ⟨oa, oc, rfl, hc, hi⟩ := ordrow_slice hv (intslice_i64 h2)
 exact ⟨ta, tc, oa, oc, rfl, ⟨nodrow_nodes hu hn, hi, rfl, rfl, hc⟩, hb⟩
theorem closest_at17 (a o lp : Option Addr) (N c M co n lc : Nat) (ns : List Nd) (ord : List Int) (P : Nat → Pr) (o1 o2 o3 d1 d2 d3 fr : Int) (X : World) (h : TreeAt X a N c o M co ns ord) (hw : mWh ns P ord n = true) (hns : N ≤ 1048576) (io : I3 (o1, o2, o3)) (id : I3 (d1, d2, d3)) (hf : I64 fr) (hs : Prims X (.slice lp n lc) n P) (hn : n ≤ 1000) :
  Rt prog 11 #[.agg #[.slice a N c, .slice o M co], .slice lp n lc, .agg #[o1, o2, o3, d1, d2, d3, fr]] X (.tuple #[.agg #[(hClosest P n (o1, o2, o3) (d1, d2, d3) fr).1.1, (hClosest P n (o1, o2, o3) (d1, d2, d3) fr).1.2.1, (hClosest P n (o1, o2, o3) (d1, d2, d3) fr).1.2.2], .bool (hClosest P n (o1, o2, o3) (d1, d2, d3) fr).2]) := by
 have hl := wh_len hw
 have := h.hm
 exact walk_Closest a o lp N c M co lc ns ord P n o1 o2 o3 d1 d2 d3 fr X hw h.hn h.hnod h.hm h.hord h.hc hns (by omega) io id hf hs (by omega)
theorem any_at17 (a o lp : Option Addr) (N c M co n lc : Nat) (ns : List Nd) (ord : List Int) (P : Nat → Pr) (o1 o2 o3 d1 d2 d3 fr mm ee : Int) (X : World) (h : TreeAt X a N c o M co ns ord) (hw : mWh ns P ord n = true) (hns : N ≤ 1048576) (io : I3 (o1, o2, o3)) (id : I3 (d1, d2, d3)) (hf : I64 fr) (hs : Prims X (.slice lp n lc) n P) (hn : n ≤ 1000) (hm : I64 mm) (he : I64 ee) :
  Rt prog 13 #[.agg #[.slice a N c, .slice o M co], .slice lp n lc, .agg #[o1, o2, o3, d1, d2, d3, fr], .agg #[mm, ee]] X (.bool (hAny P n (o1, o2, o3) (d1, d2, d3) fr mm ee)) := by
 have hl := wh_len hw
 have := h.hm
 exact walk_Any a o lp N c M co lc ns ord P n o1 o2 o3 d1 d2 d3 fr X hw h.hn h.hnod h.hm h.hord h.hc hns (by omega) io id hf hs (by omega) mm ee hm he
theorem clear_at17 (a o lp : Option Addr) (N c M co n lc : Nat) (ns : List Nd) (ord : List Int) (P : Nat → Pr) (q1 q2 q3 t1 t2 t3 lv : Int) (X : World) (h : TreeAt X a N c o M co ns ord) (hw : mWh ns P ord n = true) (hns : N ≤ 1048576) (iq : I3 (q1, q2, q3)) (it : I3 (t1, t2, t3)) (hl : I64 lv) (hs : Prims X (.slice lp n lc) n P) (hn : n ≤ 1000) :
  Rt prog 22 #[.agg #[.slice a N c, .slice o M co], .slice lp n lc, .agg #[q1, q2, q3], .agg #[t1, t2, t3], lv] X (.bool (!hAny P n (q1, q2, q3) (vsub t1 q1, vsub t2 q2, vsub t3 q3) lv 1 1)) := by
 have i1 : I64 1 := by unfold I64; omega
 exact walk_Clear_w a o lp N c M co n lc q1 q2 q3 t1 t2 t3 _ _ _ lv _ X (zh fun w => z0u t1 t2 t3 q1 q2 q3 w it.1 it.2.1 it.2.2 iq.1 iq.2.1 iq.2.2)
  (zh fun Y hY => any_at17 a o lp N c M co n lc ns ord P q1 q2 q3 _ _ _ lv 1 1 Y (h.below hY) hw hns iq ⟨sat_I64 _, sat_I64 _, sat_I64 _⟩ hl (hs.below hY (Nat.le_refl _)) hn i1 i1)
end
section
open Go.RowKit Go.Proofs.Sky
theorem prims_none17 (X : World) (P : Nat → Pr) : Prims X (.slice none 0 0) 0 P := ⟨⟨none, 0, rfl, by unfold maxLen; omega, .inl rfl⟩, fun i hi => by omega⟩
theorem tree_none17 (X : World) : TreeAt X none 0 0 none 0 0 [] [] := ⟨⟨none, 0, rfl, by unfold maxLen; decide, .inl rfl⟩, .inl rfl, rfl, rfl, Nat.le_refl _⟩
theorem aw_mwh17 : mWh awN3 awT [0, 1, 2] 3 = true := by kernel_rfl
theorem aw_closest17 : hClosest awT 3 (200, 0, 0) (-1, 0, 0) (-1) = ((2, 95, 1), true) := by kernel_rfl
theorem aw_any17 : hAny awT 3 (-20, 0, 0) (vsub 20 (-20), vsub 0 0, vsub 0 0) (-1) 1 1 = true := by kernel_rfl
theorem aw_hit17 {x : Int} (h1 : -5 ≤ x) (h2 : x ≤ 105) (b : Bx) (hb : bRight b = true) (h3 : b.1.1 ≤ x ∧ x ≤ b.2.1) (h4 : b.1.2.1 ≤ 0 ∧ 0 ≤ b.2.2.1) (h5 : b.1.2.2 ≤ 0 ∧ 0 ≤ b.2.2.2) : bHit b (200, 0, 0) (-1, 0, 0) 0 0 = true := by
 rw [bHit_iff]
 refine ⟨hb, by decide, by decide, 200 - x, 1, by omega, by omega, fun h => by omega, ?_, ?_, ?_⟩ <;> unfold onAx <;> dsimp only <;> omega
theorem aw_met17 : bMet awN3 (200, 0, 0) (-1, 0, 0) 3 = 3 := by
 have e0 : bHit (awN3.getD 0 nd0).1 (200, 0, 0) (-1, 0, 0) 0 0 = true := aw_hit17 (x := 0) (by omega) (by omega) _ (by decide) (by decide) (by decide) (by decide)
 have e1 : bHit (awN3.getD 1 nd0).1 (200, 0, 0) (-1, 0, 0) 0 0 = true := aw_hit17 (x := 0) (by omega) (by omega) _ (by decide) (by decide) (by decide) (by decide)
 have e2 : bHit (awN3.getD 2 nd0).1 (200, 0, 0) (-1, 0, 0) 0 0 = true := aw_hit17 (x := 50) (by omega) (by omega) _ (by decide) (by decide) (by decide) (by decide)
 rw [bMet_succ, bMet_succ, bMet_succ, e0, e1, e2]
 rfl
theorem awake17 (w : World) :
  Rt prog 8 #[] w (.bool true) := by
 have i3 : ∀ a b c : Int, (-1000 ≤ a ∧ a ≤ 1000) → (-1000 ≤ b ∧ b ≤ 1000) → (-1000 ≤ c ∧ c ≤ 1000) → I3 (a, b, c) := fun a b c h1 h2 h3 => by unfold I3 I64; dsimp only; omega
 have i1 : ∀ a : Int, (-1000 ≤ a ∧ a ≤ 1000) → I64 a := fun a h => by unfold I64; omega
 have KC0 := zh (fun X : World => closest_at17 none none none 0 0 0 0 0 0 [] [] awT 0 0 0 0 0 0 0 X (tree_none17 X) rfl (by omega) (i3 0 0 0 (by omega) (by omega) (by omega)) (i3 0 0 0 (by omega) (by omega) (by omega)) (i1 0 (by omega)) (prims_none17 X awT) (by omega))
 have KL0 := zh (fun X : World => clear_at17 none none none 0 0 0 0 0 0 [] [] awT 0 0 0 9 0 0 (-1) X (tree_none17 X) rfl (by omega) (i3 0 0 0 (by omega) (by omega) (by omega)) (i3 9 0 0 (by omega) (by omega) (by omega)) (i1 (-1) (by omega)) (prims_none17 X awT) (by omega))
 rw [show hClosest awT 0 (0, 0, 0) (0, 0, 0) 0 = ((0, 0, 0), false) by rfl] at KC0
 rw [show hAny awT 0 (0, 0, 0) (vsub 9 0, vsub 0 0, vsub 0 0) (-1) 1 1 = false by rfl] at KL0
 dsimp only at KC0
 have KB : Hid (∀ g X, Bk X g 59 #[.int .i64 2, .int .i64 0, .int .i64 0, .int .i64 0, .int .i64 0, .int .i64 0, .int .i64 0, .int .i64 0, .int .i64 0, .int .i64 0, .int .i64 5, .int .i64 0, .int .i64 2, .int .i64 50, .int .i64 0, .int .i64 0, .int .i64 0, .int .i64 0, .int .i64 0, .int .i64 0, .int .i64 0, .int .i64 0, .int .i64 5, .int .i64 0, .int .i64 2, .int .i64 100, .int .i64 0, .int .i64 0, .int .i64 0, .int .i64 0, .int .i64 0, .int .i64 0, .int .i64 0, .int .i64 0, .int .i64 5, .int .i64 0] → _) := zh (fun g X (h : Bk X g 59 #[.int .i64 2, .int .i64 0, .int .i64 0, .int .i64 0, .int .i64 0, .int .i64 0, .int .i64 0, .int .i64 0, .int .i64 0, .int .i64 0, .int .i64 5, .int .i64 0, .int .i64 2, .int .i64 50, .int .i64 0, .int .i64 0, .int .i64 0, .int .i64 0, .int .i64 0, .int .i64 0, .int .i64 0, .int .i64 0, .int .i64 5, .int .i64 0, .int .i64 2, .int .i64 100, .int .i64 0, .int .i64 0, .int .i64 0, .int .i64 0, .int .i64 0, .int .i64 0, .int .i64 0, .int .i64 0, .int .i64 5, .int .i64 0]) => ref_built17 (some ⟨g, 0, none⟩) 3 3 awT awN3 [0, 1, 2] 3 3 X (aw_prims16 h (by omega)) (by omega) (by rw [aw_build3]) (by unfold bOrd; rw [aw_build3]; rfl) rfl rfl)
 have KO := zh (fun ua va uc vc X h => of_at17 ua va uc vc 3 3 awN3 [0, 1, 2] X h (by omega) (by omega))
 have KC : Hid (∀ g a o c co X, Bk X g 59 #[.int .i64 2, .int .i64 0, .int .i64 0, .int .i64 0, .int .i64 0, .int .i64 0, .int .i64 0, .int .i64 0, .int .i64 0, .int .i64 0, .int .i64 5, .int .i64 0, .int .i64 2, .int .i64 50, .int .i64 0, .int .i64 0, .int .i64 0, .int .i64 0, .int .i64 0, .int .i64 0, .int .i64 0, .int .i64 0, .int .i64 5, .int .i64 0, .int .i64 2, .int .i64 100, .int .i64 0, .int .i64 0, .int .i64 0, .int .i64 0, .int .i64 0, .int .i64 0, .int .i64 0, .int .i64 0, .int .i64 5, .int .i64 0] → TreeAt X a 3 c o 3 co awN3 [0, 1, 2] → _) := zh (fun g a o c co X (h : Bk X g 59 #[.int .i64 2, .int .i64 0, .int .i64 0, .int .i64 0, .int .i64 0, .int .i64 0, .int .i64 0, .int .i64 0, .int .i64 0, .int .i64 0, .int .i64 5, .int .i64 0, .int .i64 2, .int .i64 50, .int .i64 0, .int .i64 0, .int .i64 0, .int .i64 0, .int .i64 0, .int .i64 0, .int .i64 0, .int .i64 0, .int .i64 5, .int .i64 0, .int .i64 2, .int .i64 100, .int .i64 0, .int .i64 0, .int .i64 0, .int .i64 0, .int .i64 0, .int .i64 0, .int .i64 0, .int .i64 0, .int .i64 5, .int .i64 0]) (ht : TreeAt X a 3 c o 3 co awN3 [0, 1, 2]) => closest_at17 a o (some ⟨g, 0, none⟩) 3 c 3 co 3 3 awN3 [0, 1, 2] awT 200 0 0 (-1) 0 0 (-1) X ht aw_mwh17 (by omega) (i3 _ _ _ (by omega) (by omega) (by omega)) (i3 _ _ _ (by omega) (by omega) (by omega)) (i1 (-1) (by omega)) (aw_prims16 h (by omega)) (by omega))
 have KL : Hid (∀ g a o c co X, Bk X g 59 #[.int .i64 2, .int .i64 0, .int .i64 0, .int .i64 0, .int .i64 0, .int .i64 0, .int .i64 0, .int .i64 0, .int .i64 0, .int .i64 0, .int .i64 5, .int .i64 0, .int .i64 2, .int .i64 50, .int .i64 0, .int .i64 0, .int .i64 0, .int .i64 0, .int .i64 0, .int .i64 0, .int .i64 0, .int .i64 0, .int .i64 5, .int .i64 0, .int .i64 2, .int .i64 100, .int .i64 0, .int .i64 0, .int .i64 0, .int .i64 0, .int .i64 0, .int .i64 0, .int .i64 0, .int .i64 0, .int .i64 5, .int .i64 0] → TreeAt X a 3 c o 3 co awN3 [0, 1, 2] → _) := zh (fun g a o c co X (h : Bk X g 59 #[.int .i64 2, .int .i64 0, .int .i64 0, .int .i64 0, .int .i64 0, .int .i64 0, .int .i64 0, .int .i64 0, .int .i64 0, .int .i64 0, .int .i64 5, .int .i64 0, .int .i64 2, .int .i64 50, .int .i64 0, .int .i64 0, .int .i64 0, .int .i64 0, .int .i64 0, .int .i64 0, .int .i64 0, .int .i64 0, .int .i64 5, .int .i64 0, .int .i64 2, .int .i64 100, .int .i64 0, .int .i64 0, .int .i64 0, .int .i64 0, .int .i64 0, .int .i64 0, .int .i64 0, .int .i64 0, .int .i64 5, .int .i64 0]) (ht : TreeAt X a 3 c o 3 co awN3 [0, 1, 2]) => clear_at17 a o (some ⟨g, 0, none⟩) 3 c 3 co 3 3 awN3 [0, 1, 2] awT (-20) 0 0 20 0 0 (-1) X ht aw_mwh17 (by omega) (i3 _ _ _ (by omega) (by omega) (by omega)) (i3 _ _ _ (by omega) (by omega) (by omega)) (i1 (-1) (by omega)) (aw_prims16 h (by omega)) (by omega))
 have KM : Hid (∀ a o c co X, TreeAt X a 3 c o 3 co awN3 [0, 1, 2] → _) := zh (fun a o c co X (ht : TreeAt X a 3 c o 3 co awN3 [0, 1, 2]) => walk_Met a o 3 c 3 co awN3 200 0 0 (-1) 0 0 0 X ht.hn ht.hnod (by omega))
 rw [aw_closest17] at KC
 rw [aw_any17] at KL
 rw [aw_met17] at KM
 dsimp only at KC
 obtain ⟨LA, hLA⟩ : ∃ LA : Array Value, LA = #[.int .i64 2, .int .i64 0, .int .i64 0, .int .i64 0, .int .i64 0, .int .i64 0, .int .i64 0, .int .i64 0, .int .i64 0, .int .i64 0, .int .i64 5, .int .i64 0, .int .i64 2, .int .i64 50, .int .i64 0, .int .i64 0, .int .i64 0, .int .i64 0, .int .i64 0, .int .i64 0, .int .i64 0, .int .i64 0, .int .i64 5, .int .i64 0, .int .i64 2, .int .i64 100, .int .i64 0, .int .i64 0, .int .i64 0, .int .i64 0, .int .i64 0, .int .i64 0, .int .i64 0, .int .i64 0, .int .i64 5, .int .i64 0] := ⟨_, rfl⟩
 rw [← hLA] at KB KC KL
 have HLA := zh hLA
 clear hLA i3 i1
 go_enter func8, ntmps8
 go_upto_region 2 with (go_at_call 11; (with_reducible refine (KC0.out _).mono ?_); rintro e w1 ⟨rfl, hb1⟩)
 refine wnm fun W1 hW1 => ?_
 have B1 : Below w.heap.size w W1 := by rw [hW1]; exact hb1.alloc hb1.size _
 clear hW1 hb1
 go_upto_region 3 with (fail)
 refine wnm fun W2 hW2 => ?_
 have B2 : Below w.heap.size w W2 := by rw [hW2]; exact B1.alloc B1.size _
 have kl := bkn hW2
 rw [← HLA.out] at kl
 clear hW2 B1
 generalize W1.heap.size = gl at *
 go_upto_region 4 with (first
  | (go_at_call 10; (with_reducible refine (KB.out _ _ kl).mono ?_); rintro e w2 ⟨ua, uc, va, vc, rfl, ht2, hb2⟩)
  | (go_at_call 9; (with_reducible refine (KO.out _ _ _ _ _ ht2).mono ?_); rintro e w3 ⟨ta, tc, oa, oc, rfl, ht3, hb3⟩))
 refine wnm fun W3 hW3 => ?_
 have B23 : Below w.heap.size w w3 := (B2.trans (hb2.mono B2.size)).trans (hb3.mono (Nat.le_trans B2.size hb2.size))
 have B3 : Below w.heap.size w W3 := by rw [hW3]; exact B23.alloc B23.size _
 have kl3 := bka hW3 ((kl.below hb2).below hb3)
 have kt := bkn hW3
 have ht : TreeAt W3 ta 3 tc oa 3 oc awN3 [0, 1, 2] := by rw [hW3]; exact ht3.below (z0s _ (Nat.le_refl _))
 clear hW3 B23 hb2 hb3 ht2 ht3 kl B2 KB KO KC0
 generalize w3.heap.size = gt at *
 have ct0 : W3.cell? ⟨gt, 0, none⟩ = some (.slice ta 3 tc) := kt.cell rfl
 have ct1 : W3.cell? ⟨gt, 1, none⟩ = some (.slice oa 3 oc) := kt.cell rfl
 go_upto_region 5 with (go_at_call 11; (with_reducible refine (KC.out _ _ _ _ _ _ kl3 ht).mono ?_); rintro e w4 ⟨rfl, hb4⟩)
 refine wnm fun W4 hW4 => ?_
 have B34 := B3.trans (hb4.mono B3.size)
 have B4 : Below w.heap.size w W4 := by rw [hW4]; exact B34.alloc B34.size _
 have kt4 := bka hW4 (kt.below hb4)
 have kh := bkn hW4
 have hb5 : Below W3.heap.size W3 W4 := by rw [hW4]; exact hb4.alloc hb4.size _
 have KL4 := zh (fun Y (hY : Below W4.heap.size W4 Y) => KL.out gl ta oa tc oc Y ((kl3.below hb5).below hY) ((ht.below hb5).below hY))
 have KM4 := zh (fun Y (hY : Below W4.heap.size W4 Y) => KM.out ta oa tc oc Y ((ht.below hb5).below hY))
 clear hW4 B34 hb4 hb5 ht kl3 kt B3 KC KL KM ct0 ct1
 generalize w4.heap.size = gh at *
 obtain ⟨ct0, ct1⟩ := bwc2 kt4
 have ch := bwc3 kh
 refine bws fun p1 => ?_
 go_wp2_with (first
  | (go_at_call 22; (first | (with_reducible refine (z02 KL0.out _).mono ?_) | (with_reducible refine (z0c KL4.out (Below.refl _ _) _).mono ?_)); rintro e w' ⟨rfl, q, rfl⟩)
  | (go_at_call 15; (with_reducible refine (z0c KM4.out (Below.refl _ _) _).mono ?_); rintro e w' ⟨rfl, q, rfl⟩))
 go_ret
 exact ⟨rfl, z00 B4 _⟩
end
end Go.Proofs.YtbmpmjdlaahekaaGreat
namespace Go.Proofs.Sky
section
open Go.ChangeShapes Go.WideShapes Go.RowKit
variable {P : Program} {H : Type} {enc : TypeId × Value → H} {w : World} {base : Nat} {spare : Nat → Bool} {held : Bool}
theorem open_flat {r : Reach} {b0 n : Nat} {t : TypeId} {ks : List LK} {v : Value} {d : DataW H} {p : List MemPlace} {fs : Array Field} (hs : P.underlying t = some (.struct fs)) (hk : flat P n t = some ks)
    (hv : Value.okWide P w r b0 t v) (h : DataW.Trod enc P w base spare held t v d p) : ∃ cs : List Value, v = .agg cs.toArray ∧ LeafAll ks cs := by
  obtain ⟨cs, rfl, hsz⟩ := okWide_struct hs hv
  obtain ⟨fuel, hf⟩ := h
  exact ⟨cs.toList, by simp, flat_trod n t ks hk fuel cs.toList _ (by simpa [Value.cells] using hf)⟩
end
end Go.Proofs.Sky
