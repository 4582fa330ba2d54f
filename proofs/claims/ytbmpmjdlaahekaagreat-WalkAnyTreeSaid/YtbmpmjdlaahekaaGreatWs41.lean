/- Contracts of package walk: what a ray meets first by a tree. -/
import Derived.Test.YtbmpmjdlaahekaaGreatWs40
set_option maxRecDepth 100000
set_option maxHeartbeats 8000000
set_option linter.unusedVariables false
set_option linter.unusedSimpArgs false
open Go.Proofs.Tryz
namespace Go.Proofs.YtbmpmjdlaahekaaGreat
section
open Go.RowKit Go.Shelf Go.Proofs.Sky
theorem walk_best (g : Nat) (f1 f2 f3 : Int) (w : World) (k : Bk w g 42 #[f1, f2, f3]) :
  Rt prog 26 #[.pointer (some ⟨g, 0, none⟩)] w (.agg #[f2, f3]) := by
 go_enter func26, ntmps26
 go_upto_region 1 with (fail)
 refine wst1 fun W1 k_r B1 => ?_
 have kb := k.below B1
 have cb := bwc3 kb
 have cr := bwc2 k_r
 have fr := bwf2 k_r
 refine bws fun p1 => ?_
 go_wp2
 try rw [Exit.noGoto_ret]
 have kr := bkp2 (k_r.below p1.h) (.int .i64 f2) (.int .i64 f3)
 have rc := rwc2 kr
 exact bodyPost_ret (v := .agg #[f2, f3]) (by simp [results, results26, go_sem, rc]) rfl ⟨rfl, blp2 (z00 B1 p1) (by omega)⟩
section
attribute [local go_sem] Oper.semAt_some
theorem walk_Closest (a o lp : Option Addr) (N cap m co lc : Nat) (ns : List Nd) (ord : List Int) (P : Nat → Pr) (n : Nat) (o1 o2 o3 d1 d2 d3 fr : Int) (w : World)
  (hw : mWh ns P ord n = true) (hNl : N = ns.length) (hN : Nodes w (.slice a N cap) ns) (hm : m = ord.length) (ho : IntSlice w o m (fun i => ord.getD i 0)) (hmc : m ≤ co) (hns : N ≤ 1048576) (hmm : m ≤ 1000) (io : I3 (o1, o2, o3)) (id : I3 (d1, d2, d3)) (hf : I64 fr) (hs : Prims w (.slice lp n lc) n P) (hn : n ≤ 1000000) :
  Rt prog 11 #[.agg #[.slice a N cap, .slice o m co], .slice lp n lc, .agg #[o1, o2, o3, d1, d2, d3, fr]] w (.tuple #[.agg #[(hClosest P n (o1, o2, o3) (d1, d2, d3) fr).1.1, (hClosest P n (o1, o2, o3) (d1, d2, d3) fr).1.2.1, (hClosest P n (o1, o2, o3) (d1, d2, d3) fr).1.2.2], .bool (hClosest P n (o1, o2, o3) (d1, d2, d3) fr).2]) := by
 have hmf : ∀ (fn : Fn) (first cap : Array Value) (w : World), (Instr.makeFunc fn first cap).run prog w = .ok (.func fn first cap) w := fun _ _ _ _ => rfl
 have HI := zh (hUp_I64 (P := P) (o := (o1, o2, o3)) (d := (d1, d2, d3)) (fr := fr) (show n ≤ 4611686018427387904 by omega))
 have KH := zh (fun lf lb w => walk_hits a o lp N cap m co n lc o1 o2 o3 d1 d2 d3 fr lf lb w)
 have HG := zh (fun gt gr gl gp lb => whits_gives gt gr gl gp a o lp N cap m co lc ns ord P n o1 o2 o3 d1 d2 d3 fr 26 lb limC w hw hNl hN hm ho hmc hns hmm io id hf hs hn (enters_of func26 (by kernel_rfl) rfl))
 clear hw hNl hN hm ho hmc hns hmm io id hf hs hn
 refine (callsIn_wide (n := 0)).1 ?_
 refine callsIn_of_wp_marks func11 rfl trivial ?_ rfl
 simp only [ntmps11, List.size_toArray, List.length_cons, List.length_nil, Nat.reduceAdd, Nat.reduceSub, Array.replicate_succ, Array.replicate_zero, List.push_toArray, List.append_toArray, List.nil_append, List.cons_append]
 gi_upto_region 2 with (fail)
 obtain ⟨W1, hW1⟩ : ∃ W, W = ((((w.alloc (.cells #[.slice a N cap, .slice o m co] 35)).alloc (.cells #[o1, o2, o3, d1, d2, d3, fr] 26)).alloc (.cells #[.int .i64 0, .int .i64 0, .int .i64 0] 42)).alloc (.cells #[.int .i64 0, .int .i64 0, .int .i64 0] 42)).alloc (.cells #[.bool false] 4) := ⟨_, rfl⟩
 obtain ⟨k_t, ky, k_r, kb, kk, B1⟩ := st5 hW1
 rw [← hW1]
 clear hW1
 have ly : w.heap.size < w.heap.size + 1 := by omega
 have lr : w.heap.size + 1 < w.heap.size + 1 + 1 := by omega
 have l_b : w.heap.size + 1 + 1 < w.heap.size + 1 + 1 + 1 := by omega
 have lk : w.heap.size + 1 + 1 + 1 < w.heap.size + 1 + 1 + 1 + 1 := by omega
 generalize w.heap.size + 1 + 1 + 1 + 1 = gk at *
 generalize w.heap.size + 1 + 1 + 1 = gb at *
 generalize w.heap.size + 1 + 1 = g_r at *
 generalize w.heap.size + 1 = gy at *
 have ct0 : W1.cell? ⟨w.heap.size, 0, none⟩ = some (.slice a N cap) := k_t.cell rfl
 have ct1 : W1.cell? ⟨w.heap.size, 1, none⟩ = some (.slice o m co) := k_t.cell rfl
 have cy0 : W1.cell? ⟨gy, 0, none⟩ = some (.int .i64 o1) := ky.cell rfl
 have cy1 : W1.cell? ⟨gy, 1, none⟩ = some (.int .i64 o2) := ky.cell rfl
 have cy2 : W1.cell? ⟨gy, 2, none⟩ = some (.int .i64 o3) := ky.cell rfl
 have cy3 : W1.cell? ⟨gy, 3, none⟩ = some (.int .i64 d1) := ky.cell rfl
 have cy4 : W1.cell? ⟨gy, 4, none⟩ = some (.int .i64 d2) := ky.cell rfl
 have cy5 : W1.cell? ⟨gy, 5, none⟩ = some (.int .i64 d3) := ky.cell rfl
 have cy6 : W1.cell? ⟨gy, 6, none⟩ = some (.int .i64 fr) := ky.cell rfl
 gi_wp2_with (refine ⟨trivial, rfl, ?_⟩; gi_at_call 27; (with_reducible refine (callsIn_wide.2 (KH.out _ _ _)).mono ?_); rintro e w2 ⟨gt, gp, gr, gl, rfl, kt, kp, kr, kl, ⟨ogt, ogp, ogr, ogl⟩, hb2⟩)
 have hgb : gb < w2.heap.size := (kb.below hb2).lt
 have hgk : gk < w2.heap.size := (kk.below hb2).lt
 have hgr : g_r < w2.heap.size := (k_r.below hb2).lt
 have lk1 := kk.lt
 have hs1 := B1.size
 have hBw2 := B1.trans (hb2.mono hs1)
 have kr2 := k_r.below hb2
 have kb2 := kb.below hb2
 have kk2 := kk.below hb2
 clear ct0 ct1 cy0 cy1 cy2 cy3 cy4 cy5 cy6 KH k_r kb kk k_t ky B1
 refine range_by (gf := 52) (lb := #[.pointer (some ⟨gt, 0, none⟩), .pointer (some ⟨gr, 0, none⟩), .pointer (some ⟨gl, 0, none⟩), .pointer (some ⟨gp, 0, none⟩)]) (encs := encH) rfl (enters_of func52 (by kernel_rfl) rfl) (HG.out gt gr gl gp #[.pointer (some ⟨gb, 0, none⟩)]) (fun _ => rfl)
  (fun s V => (Bk V g_r 42 #[.int .i64 0, .int .i64 0, .int .i64 0] ∧ Bk V gb 42 #[(pFirst s).1.1, (pFirst s).1.2.1, (pFirst s).1.2.2] ∧ Bk V gk 4 #[.bool (pFirst s).2]) ∧ (Bk V gr 26 #[o1, o2, o3, d1, d2, d3, fr] ∧ Bk V gt 35 #[.slice a N cap, .slice o m co] ∧ Bk V gl 68 #[.func (.func 26) #[] #[.pointer (some ⟨gb, 0, none⟩)]] ∧ Bk V gp 22 #[.slice lp n lc]) ∧ (∀ x ∈ s, x ∈ hUp P n (o1, o2, o3) (d1, d2, d3) fr) ∧ Below w.heap.size w V)
  (fun _ _ => False)
  (Solid.and (Solid.and (solid_bk (fun _ => g_r) (fun _ => _) (fun _ => _) (fun _ => hgr)) (Solid.and (solid_bk (fun _ => gb) (fun _ => _) (fun s => #[(pFirst s).1.1, (pFirst s).1.2.1, (pFirst s).1.2.2]) (fun _ => hgb)) (solid_bk (fun _ => gk) (fun _ => _) (fun s => #[.bool (pFirst s).2]) (fun _ => hgk)))) (Solid.and (Solid.and (solid_bk (fun _ => gr) (fun _ => _) (fun _ => _) (fun _ => kr.lt)) (Solid.and (solid_bk (fun _ => gt) (fun _ => _) (fun _ => _) (fun _ => kt.lt)) (Solid.and (solid_bk (fun _ => gl) (fun _ => _) (fun _ => _) (fun _ => kl.lt)) (solid_bk (fun _ => gp) (fun _ => _) (fun _ => _) (fun _ => kp.lt))))) (Solid.and (solid_pure _) (solid_below (by omega)))))
  (fun _ _ _ h _ => h)
  (fun s V h => ⟨h.2.2.2, h.2.1, (pFirst_I64 (fun y hy => HI.out y (h.2.2.1 y hy))).2, fun Y hY => walk_best gb _ _ _ Y (h.1.2.1.below hY)⟩) ⟨⟨kr2, kb2, kk2⟩, ⟨kr, kt, kl, kp⟩, (fun x hx => by cases hx), hBw2⟩ ?round ?done ?stop
 case round =>
  rintro l s x V hl hxU ⟨⟨k_r', k_b', k_k'⟩, ⟨kr', kt', kl', kp'⟩, hsU, hB⟩
  clear kr2 kb2 kk2 kt kp kr kl HG hBw2 hb2
  have HF := zh (pFirst_snoc s x)
  have hxi := HI.out x hxU
  have hfi := pFirst_I64 (l := s) (fun y hy => HI.out y (hsU y hy))
  have HSN : ∀ y ∈ s ++ [x], y ∈ hUp P n (o1, o2, o3) (d1, d2, d3) fr := fun y hy => by
   rcases List.mem_append.1 hy with hy | hy
   · exact hsU y hy
   · have : y = x := by simpa using hy
     rw [this]; exact hxU
  clear hsU hxU
  generalize pFirst s = f at *
  obtain ⟨⟨f1, f2, f3⟩, fk⟩ := f
  obtain ⟨x1, x2, x3⟩ := x
  dsimp only at hxi hfi k_b' k_k'
  have KB := zh (fun w => plain_Better x1 x2 x3 f1 f2 f3 w hxi.2.1 hxi.2.2 hfi.2.1 hfi.2.2)
  clear hxi hfi
  gi_wp2
  refine ⟨z0l ((Below.refl _ _).alloc (Nat.le_refl _) _), fun r r' hlr => ?_⟩
  obtain ⟨V2, hV2⟩ : ∃ V2, V2 = (V.alloc (.cells #[x1, x2, x3] 42)).putObj l (.loop r') := ⟨_, rfl⟩
  have kx : Bk V2 V.heap.size 42 #[x1, x2, x3] := by rw [hV2]; exact bk_put (Bk.new _ _ _) hlr _
  have k_r : Bk V2 g_r 42 #[.int .i64 0, .int .i64 0, .int .i64 0] := by rw [hV2]; exact bk_put (k_r'.alloc _) hlr _
  have kb : Bk V2 gb 42 #[f1, f2, f3] := by rw [hV2]; exact bk_put (k_b'.alloc _) hlr _
  have kk : Bk V2 gk 4 #[.bool fk] := by rw [hV2]; exact bk_put (k_k'.alloc _) hlr _
  have kgr : Bk V2 gr 26 #[o1, o2, o3, d1, d2, d3, fr] := by rw [hV2]; exact bk_put (kr'.alloc _) hlr _
  have kgt : Bk V2 gt 35 #[.slice a N cap, .slice o m co] := by rw [hV2]; exact bk_put (kt'.alloc _) hlr _
  have kgl : Bk V2 gl 68 #[.func (.func 26) #[] #[.pointer (some ⟨gb, 0, none⟩)]] := by rw [hV2]; exact bk_put (kl'.alloc _) hlr _
  have kgp : Bk V2 gp 22 #[.slice lp n lc] := by rw [hV2]; exact bk_put (kp'.alloc _) hlr _
  have B1 : Below w.heap.size w V2 := by rw [hV2]; exact (hB.alloc hB.size _).trans (z1g (by omega))
  rw [← hV2]
  clear hV2 hlr hB k_r' k_b' k_k' kr' kt' kl' kp'
  obtain ⟨V0, hV0⟩ := nmd (V2)
  refine stopsBy_from hV0 ?_
  have HV0 := zh hV0
  clear hV0
  generalize V.heap.size = gx at *
  cases fk with
  | false =>
   have cb := bwc3 kb
   have fb := bwf3 kb
   have ck0 := bwc1 kk
   have fk0 := bwf1 kk
   have cx := bwc3 kx
   obtain ⟨p1, hp1⟩ := bwx V2
   rw [← hp1]
   clear hp1
   gi_wp2
   refine ⟨trivial, ?_⟩
   gi_wp2
   have hd : ∀ p : BW V2, KeepsBut w2.heap.size none V0 ((((p.w.setCell ⟨gb, 0, none⟩ (.int .i64 x1)).setCell ⟨gb, 1, none⟩ (.int .i64 x2)).setCell ⟨gb, 2, none⟩ (.int .i64 x3)).setCell ⟨gk, 0, none⟩ (.bool true)) := fun p => by
    rw [HV0.out]
    exact ((((z0l p.h).trans (z0k hgb)).trans (z0k hgb)).trans (z0k hgb)).trans (z0k hgk)
   exact ⟨hd _, ⟨bko1 (bko3 (k_r.below (BW.h _)) (by omega)) (by omega), by rw [HF.out, stepH_none]; exact bko1 (bkp3 (kb.below (BW.h _)) _ _ _) (by omega), by rw [HF.out, stepH_none]; exact bkp1 (bko3 (kk.below (BW.h _)) (by omega)) _⟩, ⟨bko1 (bko3 (kgr.below (BW.h _)) (by omega)) (by omega), bko1 (bko3 (kgt.below (BW.h _)) (by omega)) (by omega), bko1 (bko3 (kgl.below (BW.h _)) (by omega)) (by omega), bko1 (bko3 (kgp.below (BW.h _)) (by omega)) (by omega)⟩, HSN, blp1 (blp3 (z00 B1 _) (by omega)) (by omega)⟩
  | true =>
   cases hx : hb (x1, x2, x3) (f1, f2, f3) with
   | true =>
    rw [hx] at KB
    have HX := zh hx
    clear hx
    have cb := bwc3 kb
    have fb := bwf3 kb
    have ck0 := bwc1 kk
    have fk0 := bwf1 kk
    have cx := bwc3 kx
    obtain ⟨p1, hp1⟩ := bwx V2
    rw [← hp1]
    clear hp1
    gi_wp2_with (refine ⟨trivial, rfl, ?_⟩; gi_at_call 28; refine (CallsIn.inRound l (callsIn_wide.2 (z02 KB.out _))).mono ?_; rintro e w' ⟨rfl, q, rfl⟩)
    have hd : ∀ p : BW V2, KeepsBut w2.heap.size none V0 ((((p.w.setCell ⟨gb, 0, none⟩ (.int .i64 x1)).setCell ⟨gb, 1, none⟩ (.int .i64 x2)).setCell ⟨gb, 2, none⟩ (.int .i64 x3)).setCell ⟨gk, 0, none⟩ (.bool true)) := fun p => by
     rw [HV0.out]
     exact ((((z0l p.h).trans (z0k hgb)).trans (z0k hgb)).trans (z0k hgb)).trans (z0k hgk)
    exact ⟨hd _, ⟨bko1 (bko3 (k_r.below (BW.h _)) (by omega)) (by omega), by rw [HF.out, stepH_yes HX.out]; exact bko1 (bkp3 (kb.below (BW.h _)) _ _ _) (by omega), by rw [HF.out, stepH_yes HX.out]; exact bkp1 (bko3 (kk.below (BW.h _)) (by omega)) _⟩, ⟨bko1 (bko3 (kgr.below (BW.h _)) (by omega)) (by omega), bko1 (bko3 (kgt.below (BW.h _)) (by omega)) (by omega), bko1 (bko3 (kgl.below (BW.h _)) (by omega)) (by omega), bko1 (bko3 (kgp.below (BW.h _)) (by omega)) (by omega)⟩, HSN, blp1 (blp3 (z00 B1 _) (by omega)) (by omega)⟩
   | false =>
    rw [hx] at KB
    have HX := zh hx
    clear hx
    have cb := bwc3 kb
    have fb := bwf3 kb
    have ck0 := bwc1 kk
    have fk0 := bwf1 kk
    have cx := bwc3 kx
    obtain ⟨p1, hp1⟩ := bwx V2
    rw [← hp1]
    clear hp1
    gi_wp2_with (refine ⟨trivial, rfl, ?_⟩; gi_at_call 28; refine (CallsIn.inRound l (callsIn_wide.2 (z02 KB.out _))).mono ?_; rintro e w' ⟨rfl, q, rfl⟩)
    exact ⟨by rw [HV0.out]; exact z0l (BW.h _), ⟨k_r.below (BW.h _), by rw [HF.out, stepH_no HX.out]; exact kb.below (BW.h _), by rw [HF.out, stepH_no HX.out]; exact kk.below (BW.h _)⟩, ⟨kgr.below (BW.h _), kgt.below (BW.h _), kgl.below (BW.h _), kgp.below (BW.h _)⟩, HSN, z00 B1 _⟩
 case done =>
  rintro D s V hD hF ⟨⟨k_r', k_b', k_k'⟩, _, hsU, hB⟩ hK
  clear kr2 kb2 kk2 kt kp kr kl HG hBw2 hb2
  have hcl := closest_told hsU hF
  rw [hcl] at k_b' k_k'
  clear hF hsU hcl
  obtain ⟨f, hf⟩ := nmd (hClosest P n (o1, o2, o3) (d1, d2, d3) fr)
  rw [← hf] at k_b' k_k'
  have HFX := zh hf
  clear hf
  obtain ⟨⟨f1, f2, f3⟩, fk⟩ := f
  dsimp only at k_b' k_k'
  have hDr : ¬ D = g_r := by omega
  have hDV := (Array.getElem?_eq_some_iff.1 hK).1
  have k_r := k_r'
  have kb := k_b'
  have kk := k_k'
  have HK := zh hK
  have B1 := hB
  clear hK k_r' k_b' k_k' hB
  have cr := bwc3 k_r
  have f_r := bwf3 k_r
  have cb := bwc3 kb
  have ck0 := bwc1 kk
  obtain ⟨p1, hp1⟩ := bwx V
  rw [← hp1]
  clear hp1
  gi_upto_region 7 with (fail)
  refine wpIn_wide.2 ?_
  have n1 : ¬ gk = g_r := by omega
  have n2 : ¬ gb = g_r := by omega
  go_region
  have kr3 : Bk (((p1.w.setCell ⟨g_r, 0, none⟩ (.int .i64 f1)).setCell ⟨g_r, 1, none⟩ (.int .i64 f2)).setCell ⟨g_r, 2, none⟩ (.int .i64 f3)).drew g_r 42 #[f1, f2, f3] := (bkp3 (k_r.below p1.h) _ _ _).drew
  have B3 : Below w.heap.size w (((p1.w.setCell ⟨g_r, 0, none⟩ (.int .i64 f1)).setCell ⟨g_r, 1, none⟩ (.int .i64 f2)).setCell ⟨g_r, 2, none⟩ (.int .i64 f3)).drew := (blp3 (z00 B1 p1) (by omega)).trans ⟨rfl, rfl, rfl, Nat.le_refl _, fun _ _ => rfl⟩
  have hK3 : (((p1.w.setCell ⟨g_r, 0, none⟩ (.int .i64 f1)).setCell ⟨g_r, 1, none⟩ (.int .i64 f2)).setCell ⟨g_r, 2, none⟩ (.int .i64 f3)).drew.heap[D]? = some (.deferred (some [])) := by
   show (((p1.w.setCell ⟨g_r, 0, none⟩ (.int .i64 f1)).setCell ⟨g_r, 1, none⟩ (.int .i64 f2)).setCell ⟨g_r, 2, none⟩ (.int .i64 f3)).heap[D]? = _
   rw [Below.heap_setCell _ _ _ _ hDr, Below.heap_setCell _ _ _ _ hDr, Below.heap_setCell _ _ _ _ hDr]
   exact (p1.h.block D hDV).trans HK.out
  generalize (((p1.w.setCell ⟨g_r, 0, none⟩ (.int .i64 f1)).setCell ⟨g_r, 1, none⟩ (.int .i64 f2)).setCell ⟨g_r, 2, none⟩ (.int .i64 f3)).drew = V3 at *
  gi_wp2
  try rw [Exit.noGoto_ret]
  refine ⟨by simp, .inl ⟨_, _, rfl, run_takeDeferred hK3, ?_⟩⟩
  have kr := bk_turn kr3 hK3 rfl (.deferred none)
  have rc := rwc3 kr
  exact ⟨.tuple #[.agg #[f1, f2, f3], .bool fk], by simp [results, results11, go_sem, rc], by rw [← HFX.out], B3.trans (belowK_b (w := w) (Nat.le_refl _) V3 D _ _ (by omega) hK3 rfl rfl)⟩
 case stop => exact fun D c W _ h => h.elim
end
end
end Go.Proofs.YtbmpmjdlaahekaaGreat
