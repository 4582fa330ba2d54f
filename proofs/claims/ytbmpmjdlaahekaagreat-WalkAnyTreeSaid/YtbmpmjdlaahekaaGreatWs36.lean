/- Contracts of package plain: the exported functions, and first. -/
import Derived.Maps.OwnIn
import Derived.Test.YtbmpmjdlaahekaaGreatWs35
import Derived.Test.YtbmpmjdlaahekaaGreatWs31
set_option maxRecDepth 100000
set_option maxHeartbeats 8000000
set_option linter.unusedVariables false
set_option linter.unusedSimpArgs false
open Go.Proofs.Tryz
namespace Go.Proofs.YtbmpmjdlaahekaaGreat
section
open Go.RowKit Go.Shelf Go.Proofs.Sky
theorem plain_Better_less (x1 x2 x3 y1 y2 y3 : Int) (w : World)  (KL : Hid (∀ w, Rt prog 33 #[.agg #[x2, x3], .agg #[y2, y3]] w (.bool true))) :
  Rt prog 28 #[.agg #[x1, x2, x3], .agg #[y1, y2, y3]] w (.bool true) := by
 go_enter func28, ntmps28
 go_upto_region 1 with (fail)
 refine wst2 fun W1 kx ky B1 => ?_
 have ly : w.heap.size < w.heap.size + 1 := by omega
 generalize w.heap.size + 1 = gy at *
 have cx := bwc3 kx
 have cy := bwc3 ky
 refine bws fun p1 => ?_
 go_wp2_with ((go_at_call 33; (with_reducible refine (z02 KL.out _).mono ?_); rintro e w' ⟨rfl, q, rfl⟩))
 go_ret
 exact ⟨rfl, z00 B1 _⟩
theorem plain_Better_unlike (x1 x2 x3 y1 y2 y3 : Int) (w : World)  (KL : Hid (∀ w, Rt prog 33 #[.agg #[x2, x3], .agg #[y2, y3]] w (.bool false))) (KS : Hid (∀ w, Rt prog 55 #[.agg #[x2, x3], .agg #[y2, y3]] w (.bool false))) :
  Rt prog 28 #[.agg #[x1, x2, x3], .agg #[y1, y2, y3]] w (.bool false) := by
 go_enter func28, ntmps28
 go_upto_region 1 with (fail)
 refine wst2 fun W1 kx ky B1 => ?_
 have ly : w.heap.size < w.heap.size + 1 := by omega
 generalize w.heap.size + 1 = gy at *
 have cx := bwc3 kx
 have cy := bwc3 ky
 refine bws fun p1 => ?_
 go_wp2_with (first
  | (go_at_call 33; (with_reducible refine (z02 KL.out _).mono ?_); rintro e w' ⟨rfl, q, rfl⟩)
  | (go_at_call 55; (with_reducible refine (z02 KS.out _).mono ?_); rintro e w' ⟨rfl, q, rfl⟩))
 go_ret
 exact ⟨rfl, z00 B1 _⟩
theorem plain_Better_same (x1 x2 x3 y1 y2 y3 : Int) (w : World)  (KL : Hid (∀ w, Rt prog 33 #[.agg #[x2, x3], .agg #[y2, y3]] w (.bool false))) (KS : Hid (∀ w, Rt prog 55 #[.agg #[x2, x3], .agg #[y2, y3]] w (.bool true))) :
  Rt prog 28 #[.agg #[x1, x2, x3], .agg #[y1, y2, y3]] w (.bool (decide (x1 < y1))) := by
 go_enter func28, ntmps28
 go_upto_region 1 with (fail)
 refine wst2 fun W1 kx ky B1 => ?_
 have ly : w.heap.size < w.heap.size + 1 := by omega
 generalize w.heap.size + 1 = gy at *
 have cx := bwc3 kx
 have cy := bwc3 ky
 refine bws fun p1 => ?_
 go_wp2_with (first
  | (go_at_call 33; (with_reducible refine (z02 KL.out _).mono ?_); rintro e w' ⟨rfl, q, rfl⟩)
  | (go_at_call 55; (with_reducible refine (z02 KS.out _).mono ?_); rintro e w' ⟨rfl, q, rfl⟩))
 go_ret
 exact ⟨rfl, z00 B1 _⟩
theorem plain_Better (x1 x2 x3 y1 y2 y3 : Int) (w : World) (i1 : I64 x2) (i2 : I64 x3) (i3 : I64 y2) (i4 : I64 y3) :
  Rt prog 28 #[.agg #[x1, x2, x3], .agg #[y1, y2, y3]] w (.bool (hb (x1, x2, x3) (y1, y2, y3))) := by
 have KL := zh (fun w => frac_Less x2 x3 y2 y3 w i1 i2 i3 i4)
 have KS := zh (fun w => frac_Same x2 x3 y2 y3 w i1 i2 i3 i4)
 unfold hb
 dsimp only
 cases h1 : fless x2 x3 y2 y3 with
 | true => rw [h1] at KL; exact plain_Better_less x1 x2 x3 y1 y2 y3 w KL
 | false =>
  rw [h1] at KL
  cases h2 : fsame x2 x3 y2 y3 with
  | false => rw [h2] at KS; exact plain_Better_unlike x1 x2 x3 y1 y2 y3 w KL KS
  | true => rw [h2] at KS; rw [Bool.false_or, Bool.true_and]; exact plain_Better_same x1 x2 x3 y1 y2 y3 w KL KS
section
attribute [local go_sem] Oper.semAt_some
abbrev encH (h : H3) : Array Value := #[.agg #[h.1, h.2.1, h.2.2]]
theorem plain_first (gf : Nat) (lb : Array Value) (xs : List H3) (w : World) (eg : ∀ args w, (callFunc gf args).run prog w = .ok (.enter gf args) w) (hz : GivesTo prog gf lb encH xs w) (hI : ∀ x ∈ xs, I64 x.1 ∧ I64 x.2.1 ∧ I64 x.2.2) :
  Rt prog 85 #[.func (.func gf) #[] lb] w (.tuple #[.agg #[(pFirst xs).1.1, (pFirst xs).1.2.1, (pFirst xs).1.2.2], .bool (pFirst xs).2]) := by
 refine (callsIn_wide (n := 0)).1 ?_
 refine callsIn_of_wp_marks func85 rfl trivial ?_ rfl
 simp only [ntmps85, List.size_toArray, List.length_cons, List.length_nil, Nat.reduceAdd, Nat.reduceSub, Array.replicate_succ, Array.replicate_zero, List.push_toArray, List.append_toArray, List.nil_append, List.cons_append]
 have HI := zh hI
 clear hI
 gi_upto_region 2 with (fail)
 obtain ⟨W1, hW1⟩ : ∃ W, W = ((w.alloc (.cells #[.int .i64 0, .int .i64 0, .int .i64 0] 42)).alloc (.cells #[.int .i64 0, .int .i64 0, .int .i64 0] 42)).alloc (.cells #[.bool false] 4) := ⟨_, rfl⟩
 obtain ⟨k_r, kb, kk, B1⟩ := st3 hW1
 rw [← hW1]
 clear hW1
 have l_b : w.heap.size < w.heap.size + 1 := by omega
 have lk : w.heap.size + 1 < w.heap.size + 1 + 1 := by omega
 generalize w.heap.size + 1 + 1 = gk at *
 generalize w.heap.size + 1 = gb at *
 gi_wp2
 have hs1 := B1.size
 have hgb := kb.lt
 have hgk := kk.lt
 have hgr := k_r.lt
 refine range_to (gf := gf) (lb := lb) (encs := encH) (xs := xs) (w0 := w) rfl eg hz (fun _ => rfl)
  (fun pre b V => (Bk V w.heap.size 42 #[.int .i64 0, .int .i64 0, .int .i64 0] ∧ Bk V gb 42 #[(pFirst pre).1.1, (pFirst pre).1.2.1, (pFirst pre).1.2.2] ∧ Bk V gk 4 #[.bool (pFirst pre).2]) ∧ b = none ∧ Below w.heap.size w V)
  (fun _ _ _ _ => False)
  (fun b => OwnFrom.and (OwnFrom.and (bk_own _) (OwnFrom.and (bk_own _) (bk_own _))) (OwnFrom.and (pure_own _) (ownFrom_below (Nat.le_refl _) hs1)))
  (fun c b => fun _ _ _ _ h _ _ => h)
  (fun s b V h => h.2.2) ⟨⟨k_r, kb, kk⟩, rfl, B1⟩ ?round ?done ?stop
 case round =>
  rintro l pre x rest b V hl hx ⟨⟨k_r', k_b', k_k'⟩, rfl, hB⟩ hnl
  clear k_r kb kk B1 eg hz
  have HF := zh (pFirst_snoc pre x)
  have hxi := HI.out x (by rw [hx]; simp)
  have hfi := pFirst_I64 (l := pre) (fun y hy => HI.out y (by rw [hx]; simp [hy]))
  clear hx
  generalize pFirst pre = f at *
  obtain ⟨⟨f1, f2, f3⟩, fk⟩ := f
  obtain ⟨x1, x2, x3⟩ := x
  dsimp only at hxi hfi k_b' k_k'
  have KB := zh (fun w => plain_Better x1 x2 x3 f1 f2 f3 w hxi.2.1 hxi.2.2 hfi.2.1 hfi.2.2)
  clear hxi hfi
  gi_wp2
  refine ⟨z0l ((Below.refl _ _).alloc (Nat.le_refl _) _), fun r r' hlr => ?_⟩
  obtain ⟨V2, hV2⟩ : ∃ V2, V2 = (V.alloc (.cells #[x1, x2, x3] 42)).putObj l (.loop r') := ⟨_, rfl⟩
  have kx : Bk V2 V.heap.size 42 #[x1, x2, x3] := by rw [hV2]; exact bk_put (Bk.new _ _ _) hlr _
  have k_r : Bk V2 w.heap.size 42 #[.int .i64 0, .int .i64 0, .int .i64 0] := by rw [hV2]; exact bk_put (k_r'.alloc _) hlr _
  have kb : Bk V2 gb 42 #[f1, f2, f3] := by rw [hV2]; exact bk_put (k_b'.alloc _) hlr _
  have kk : Bk V2 gk 4 #[.bool fk] := by rw [hV2]; exact bk_put (k_k'.alloc _) hlr _
  have B1 : Below w.heap.size w V2 := by rw [hV2]; exact (hB.alloc hB.size _).trans (belowK_b (w := w) (Nat.le_refl _) _ _ _ _ (by omega) hlr rfl rfl)
  rw [← hV2]
  clear hV2 hlr hB k_r' k_b' k_k'
  obtain ⟨V0, hV0⟩ := nmd (V2)
  refine stops_from hV0 ?_
  have HV0 := zh hV0
  clear hV0
  generalize V.heap.size = gx at *
  cases fk with
  | false =>
   have cr := bwc3 k_r
   have cb := bwc3 kb
   have fb := bwf3 kb
   have ck0 := bwc1 kk
   have fk0 := bwf1 kk
   have cx := bwc3 kx
   obtain ⟨p1, hp1⟩ := bwx V2
   rw [← hp1]
   clear hp1
   gi_wp2
   refine ⟨trivial, ?_⟩
   gi_wp2
   have hd : ∀ p : BW V2, KeepsBut W1.heap.size none V0 ((((p.w.setCell ⟨gb, 0, none⟩ (.int .i64 x1)).setCell ⟨gb, 1, none⟩ (.int .i64 x2)).setCell ⟨gb, 2, none⟩ (.int .i64 x3)).setCell ⟨gk, 0, none⟩ (.bool true)) := fun p => by
    rw [HV0.out]
    exact ((((z0l p.h).trans (z0k hgb)).trans (z0k hgb)).trans (z0k hgb)).trans (z0k hgk)
   exact ⟨none, hd _, FreshRow.same _ _, ⟨bko1 (bko3 (k_r.below (BW.h _)) (by omega)) (by omega), by rw [HF.out, stepH_none]; exact bko1 (bkp3 (kb.below (BW.h _)) _ _ _) (by omega), by rw [HF.out, stepH_none]; exact bkp1 (bko3 (kk.below (BW.h _)) (by omega)) _⟩, rfl, blp1 (blp3 (z00 B1 _) (by omega)) (by omega)⟩
  | true =>
   cases hx : hb (x1, x2, x3) (f1, f2, f3) with
   | true =>
    rw [hx] at KB
    have HX := zh hx
    clear hx
    have cr := bwc3 k_r
    have cb := bwc3 kb
    have fb := bwf3 kb
    have ck0 := bwc1 kk
    have fk0 := bwf1 kk
    have cx := bwc3 kx
    obtain ⟨p1, hp1⟩ := bwx V2
    rw [← hp1]
    clear hp1
    gi_wp2_with (refine ⟨trivial, rfl, ?_⟩; gi_at_call 28; refine (CallsIn.inRound l (callsIn_wide.2 (z02 KB.out _))).mono ?_; rintro e w' ⟨rfl, q, rfl⟩)
    have hd : ∀ p : BW V2, KeepsBut W1.heap.size none V0 ((((p.w.setCell ⟨gb, 0, none⟩ (.int .i64 x1)).setCell ⟨gb, 1, none⟩ (.int .i64 x2)).setCell ⟨gb, 2, none⟩ (.int .i64 x3)).setCell ⟨gk, 0, none⟩ (.bool true)) := fun p => by
     rw [HV0.out]
     exact ((((z0l p.h).trans (z0k hgb)).trans (z0k hgb)).trans (z0k hgb)).trans (z0k hgk)
    exact ⟨none, hd _, FreshRow.same _ _, ⟨bko1 (bko3 (k_r.below (BW.h _)) (by omega)) (by omega), by rw [HF.out, stepH_yes HX.out]; exact bko1 (bkp3 (kb.below (BW.h _)) _ _ _) (by omega), by rw [HF.out, stepH_yes HX.out]; exact bkp1 (bko3 (kk.below (BW.h _)) (by omega)) _⟩, rfl, blp1 (blp3 (z00 B1 _) (by omega)) (by omega)⟩
   | false =>
    rw [hx] at KB
    have HX := zh hx
    clear hx
    have cr := bwc3 k_r
    have cb := bwc3 kb
    have fb := bwf3 kb
    have ck0 := bwc1 kk
    have fk0 := bwf1 kk
    have cx := bwc3 kx
    obtain ⟨p1, hp1⟩ := bwx V2
    rw [← hp1]
    clear hp1
    gi_wp2_with (refine ⟨trivial, rfl, ?_⟩; gi_at_call 28; refine (CallsIn.inRound l (callsIn_wide.2 (z02 KB.out _))).mono ?_; rintro e w' ⟨rfl, q, rfl⟩)
    exact ⟨none, by rw [HV0.out]; exact z0l (BW.h _), FreshRow.same _ _, ⟨k_r.below (BW.h _), by rw [HF.out, stepH_no HX.out]; exact kb.below (BW.h _), by rw [HF.out, stepH_no HX.out]; exact kk.below (BW.h _)⟩, rfl, z00 B1 _⟩
 case done =>
  rintro D b V hD ⟨⟨k_r', k_b', k_k'⟩, rfl, hB⟩ hK
  clear k_r kb kk B1 eg hz
  obtain ⟨f, hf⟩ := nmd (pFirst xs)
  rw [← hf] at k_b' k_k'
  have HFX := zh hf
  clear hf
  obtain ⟨⟨f1, f2, f3⟩, fk⟩ := f
  dsimp only at k_b' k_k'
  have hDr : ¬ D = w.heap.size := by omega
  have hDV := (Array.getElem?_eq_some_iff.1 hK).1
  have k_r := k_r'
  have kb := k_b'
  have kk := k_k'
  have HK := zh hK
  have B1 := hB
  clear hK k_r' k_b' k_k' hB
  have cr := bwc3 k_r
  have fr := bwf3 k_r
  have cb := bwc3 kb
  have ck0 := bwc1 kk
  obtain ⟨p1, hp1⟩ := bwx V
  rw [← hp1]
  clear hp1
  gi_upto_region 6 with (fail)
  refine wpIn_wide.2 ?_
  have n1 : ¬ gk = w.heap.size := by omega
  have n2 : ¬ gb = w.heap.size := by omega
  go_region
  have kr3 : Bk (((p1.w.setCell ⟨w.heap.size, 0, none⟩ (.int .i64 f1)).setCell ⟨w.heap.size, 1, none⟩ (.int .i64 f2)).setCell ⟨w.heap.size, 2, none⟩ (.int .i64 f3)).drew w.heap.size 42 #[f1, f2, f3] := (bkp3 (k_r.below p1.h) _ _ _).drew
  have B3 : Below w.heap.size w (((p1.w.setCell ⟨w.heap.size, 0, none⟩ (.int .i64 f1)).setCell ⟨w.heap.size, 1, none⟩ (.int .i64 f2)).setCell ⟨w.heap.size, 2, none⟩ (.int .i64 f3)).drew := (blp3 (z00 B1 p1) (by omega)).trans ⟨rfl, rfl, rfl, Nat.le_refl _, fun _ _ => rfl⟩
  have hK3 : (((p1.w.setCell ⟨w.heap.size, 0, none⟩ (.int .i64 f1)).setCell ⟨w.heap.size, 1, none⟩ (.int .i64 f2)).setCell ⟨w.heap.size, 2, none⟩ (.int .i64 f3)).drew.heap[D]? = some (.deferred (some [])) := by
   show (((p1.w.setCell ⟨w.heap.size, 0, none⟩ (.int .i64 f1)).setCell ⟨w.heap.size, 1, none⟩ (.int .i64 f2)).setCell ⟨w.heap.size, 2, none⟩ (.int .i64 f3)).heap[D]? = _
   rw [Below.heap_setCell _ _ _ _ hDr, Below.heap_setCell _ _ _ _ hDr, Below.heap_setCell _ _ _ _ hDr]
   exact (p1.h.block D hDV).trans HK.out
  generalize (((p1.w.setCell ⟨w.heap.size, 0, none⟩ (.int .i64 f1)).setCell ⟨w.heap.size, 1, none⟩ (.int .i64 f2)).setCell ⟨w.heap.size, 2, none⟩ (.int .i64 f3)).drew = V3 at *
  gi_wp2
  try rw [Exit.noGoto_ret]
  refine ⟨by simp, .inl ⟨_, _, rfl, run_takeDeferred hK3, ?_⟩⟩
  have kr := bk_turn kr3 hK3 rfl (.deferred none)
  have rc := rwc3 kr
  exact ⟨.tuple #[.agg #[f1, f2, f3], .bool fk], by simp [results, results85, go_sem, rc], by rw [← HFX.out], B3.trans (belowK_b (w := w) (Nat.le_refl _) V3 D _ _ (by omega) hK3 rfl rfl)⟩
 case stop => exact fun D c pre b W _ h => h.elim
theorem row_gives (a : Option Addr) (n cap : Nat) (P : Nat → Pr) (o1 o2 o3 d1 d2 d3 fr : Int) (gf : Nat) (lb : Array Value) (zs : List Int) (gi gl gr : Nat) (w : World) (eg : ∀ args w, (callFunc gf args).run prog w = .ok (.enter gf args) w) (hz : GivesTo prog gf lb (fun x : Int => #[x]) zs w)
  (ki : Bk w gi 136 #[.func (.func gf) #[] lb]) (kl : Bk w gl 22 #[.slice a n cap]) (kr : Bk w gr 26 #[o1, o2, o3, d1, d2, d3, fr])
  (hs : Prims w (.slice a n cap) n P) (hn : n ≤ 1000000) (ho : I3 (o1, o2, o3)) (hd : I3 (d1, d2, d3)) (hf : I64 fr) :
  GivesTo prog 112 #[.pointer (some ⟨gi, 0, none⟩), .pointer (some ⟨gl, 0, none⟩), .pointer (some ⟨gr, 0, none⟩)] encH (hOver P n (o1, o2, o3) (d1, d2, d3) fr zs) w :=
 hits_gives gi gl gr a n cap P o1 o2 o3 d1 d2 d3 fr gf lb zs w eg hz ki kl kr hs (by omega) (fun k w hk => prim_Hit (P k).k (P k).a.1 (P k).a.2.1 (P k).a.2.2 (P k).b.1 (P k).b.2.1 (P k).b.2.2 (P k).c.1 (P k).c.2.1 (P k).c.2.2 (P k).r (P k).m (k : Int) o1 o2 o3 d1 d2 d3 fr w (hs.2 k hk) (by unfold I64; omega) ho hd hf)
theorem intslice_below {w w' : World} {a : Option Addr} {n : Nat} {Z : Nat → Int} (h : IntSlice w a n Z) (hb : Below w.heap.size w w') : IntSlice w' a n Z := by
 rcases h with h | ⟨b, off, e, hc, hlt⟩
 · exact .inl h
 · exact .inr ⟨b, off, e, fun k hk => ⟨(hb.cell (p := ⟨b, off + k, none⟩) hlt).trans (hc k hk).1, (hc k hk).2⟩, zl hlt hb.size⟩
theorem first_some (a : Option Addr) (n cap : Nat) (P : Nat → Pr) (o1 o2 o3 d1 d2 d3 fr : Int) (a2 : Option Addr) (m cap2 : Nat) (Z : Nat → Int) (g gi gl gr : Nat) (w : World) (kg : Bk w g 33 #[.slice a2 m cap2]) (ki : Bk w gi 136 #[.func (.func 114) #[] #[.pointer (some ⟨g, 0, none⟩)]]) (kl : Bk w gl 22 #[.slice a n cap]) (kr : Bk w gr 26 #[o1, o2, o3, d1, d2, d3, fr]) (hs : Prims w (.slice a n cap) n P) (hz : IntSlice w a2 m Z) (hn : n ≤ 1000000) (hm : m ≤ 1000000) (ho : I3 (o1, o2, o3)) (hd : I3 (d1, d2, d3)) (hf : I64 fr) :
  Rt prog 85 #[.func (.func 112) #[] #[.pointer (some ⟨gi, 0, none⟩), .pointer (some ⟨gl, 0, none⟩), .pointer (some ⟨gr, 0, none⟩)]] w (.tuple #[.agg #[(hAmong P n Z m (o1, o2, o3) (d1, d2, d3) fr).1.1, (hAmong P n Z m (o1, o2, o3) (d1, d2, d3) fr).1.2.1, (hAmong P n Z m (o1, o2, o3) (d1, d2, d3) fr).1.2.2], .bool (hAmong P n Z m (o1, o2, o3) (d1, d2, d3) fr).2]) := by
 rw [← pFirst_among]
 refine plain_first _ _ _ w (enters_of func112 (by kernel_rfl) rfl) (row_gives a n cap P o1 o2 o3 d1 d2 d3 fr _ _ (rowOf Z m) gi gl gr w (enters_of func114 (by kernel_rfl) rfl) (values_gives g a2 m cap2 Z w kg (by omega) (fun k hk => ?_)) ki kl kr hs hn ho hd hf) (fun x hx => hUp_I64 (by omega) x (hOver_mem.1 hx).1)
 rcases hz with h | ⟨b, off, e, hc, hlt⟩
 · omega
 · exact ⟨b, off, e, hlt, (hc k hk).1⟩
theorem plain_Among (a : Option Addr) (n cap : Nat) (P : Nat → Pr) (o1 o2 o3 d1 d2 d3 fr : Int) (w : World) (hs : Prims w (.slice a n cap) n P) (ho : I3 (o1, o2, o3)) (hd : I3 (d1, d2, d3)) (hf : I64 fr) (hn : n ≤ 1000000) (a2 : Option Addr) (m cap2 : Nat) (Z : Nat → Int) (hz : IntSlice w a2 m Z) (hm : m ≤ 1000000) :
  Rt prog 54 #[.slice a n cap, .slice a2 m cap2, .agg #[o1, o2, o3, d1, d2, d3, fr]] w (.tuple #[.agg #[(hAmong P n Z m (o1, o2, o3) (d1, d2, d3) fr).1.1, (hAmong P n Z m (o1, o2, o3) (d1, d2, d3) fr).1.2.1, (hAmong P n Z m (o1, o2, o3) (d1, d2, d3) fr).1.2.2], .bool (hAmong P n Z m (o1, o2, o3) (d1, d2, d3) fr).2]) := by
 have KF : Hid (∀ (g gi gl gr : Nat) (w : World) (kg : Bk w g 33 #[.slice a2 m cap2]) (ki : Bk w gi 136 #[.func (.func 114) #[] #[.pointer (some ⟨g, 0, none⟩)]]) (kl : Bk w gl 22 #[.slice a n cap]) (kr : Bk w gr 26 #[o1, o2, o3, d1, d2, d3, fr]) (hs : Prims w (.slice a n cap) n P) (hz : IntSlice w a2 m Z), Rt prog 85 #[.func (.func 112) #[] #[.pointer (some ⟨gi, 0, none⟩), .pointer (some ⟨gl, 0, none⟩), .pointer (some ⟨gr, 0, none⟩)]] w (.tuple #[.agg #[(hAmong P n Z m (o1, o2, o3) (d1, d2, d3) fr).1.1, (hAmong P n Z m (o1, o2, o3) (d1, d2, d3) fr).1.2.1, (hAmong P n Z m (o1, o2, o3) (d1, d2, d3) fr).1.2.2], .bool (hAmong P n Z m (o1, o2, o3) (d1, d2, d3) fr).2])) := zh (fun g gi gl gr w kg ki kl kr hs hz => first_some a n cap P o1 o2 o3 d1 d2 d3 fr a2 m cap2 Z g gi gl gr w kg ki kl kr hs hz hn hm ho hd hf)
 obtain ⟨F, hF⟩ := nmd (hAmong P n Z m (o1, o2, o3) (d1, d2, d3) fr)
 rw [← hF] at KF ⊢
 clear hF
 obtain ⟨⟨f1, f2, f3⟩, fk⟩ := F
 dsimp only at KF ⊢
 have HZ := zh hz
 clear hz hm
 have HS := zh hs
 have HO := zh ho
 have HD := zh hd
 have HF := zh hf
 have HN := zh hn
 clear hs ho hd hf hn
 go_enter func54, ntmps54
 go_upto_region 1 with (fail)
 refine wst2 fun W1 ky k_r B1 => ?_
 have lr : w.heap.size < w.heap.size + 1 := by omega
 generalize w.heap.size + 1 = g_r at *
 have hs1 := HS.out.below B1 (Nat.le_refl _)
 have hz1 := intslice_below HZ.out B1
 have cy := bwc7 ky
 have cr := bwc3 k_r
 have f_r := bwf3 k_r
 refine bws fun p1 => ?_
 go_region_with (first | (go_at_call 87; refine (slices_Values _ _ _ _).mono ?_; rintro e w1 ⟨g1, rfl, kg, hb⟩; (first | obtain ⟨q, rfl⟩ := z08 hb | obtain ⟨q, rfl⟩ := z04 hb)) | (go_at_call 86; refine (plain_hits _ _ _ _ _ _ o1 o2 o3 d1 d2 d3 fr _).mono ?_; rintro e w2 ⟨gi, gl, gr, rfl, ki, kl, kr, hb⟩; have kg2 := kg.below hb; obtain ⟨q, rfl⟩ := z04 hb) | (go_at_call 85; refine (KF.out g1 gi gl gr _ kg2 ki kl kr (hs1.below q.h (Nat.le_refl _)) (intslice_below hz1 q.h)).mono ?_; rintro e w3 ⟨rfl, hb⟩; obtain ⟨q, rfl⟩ := z04 hb) | fail)
 all_goals (
  go_wp2
  have kr := bkp3 (k_r.below q.h) (.int .i64 f1) (.int .i64 f2) (.int .i64 f3)
  have rc := rwc3 kr
  exact bodyPost_ret (v := .tuple #[.agg #[f1, f2, f3], .bool fk]) (by simp [results, results54, go_sem, rc]) rfl ⟨rfl, blp3 (z00 B1 q) (by omega)⟩)
end
end
end Go.Proofs.YtbmpmjdlaahekaaGreat
