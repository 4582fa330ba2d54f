/- Contracts of package walk: the iterator over hits; what is met first;  -/
import Derived.Test.YtbmpmjdlaahekaaGreatWs39
import Derived.Test.YtbmpmjdlaahekaaGreatWs36
set_option maxRecDepth 100000
set_option maxHeartbeats 8000000
set_option linter.unusedVariables false
set_option linter.unusedSimpArgs false
open Go.Proofs.Tryz
namespace Go.Proofs.YtbmpmjdlaahekaaGreat
section
open Go.RowKit Go.Shelf Go.Proofs.Sky
theorem intslice_put {V : World} {a : Option Addr} {n : Nat} {Z : Nat → Int} {l : Nat} {r : Loop} (h : IntSlice V a n Z) (hl : V.heap[l]? = some (.loop r)) (o : Obj) : IntSlice (V.putObj l o) a n Z := by
 rcases h with h | ⟨b, off, e, hc, hlt⟩
 · exact .inl h
 · by_cases h0 : n = 0
   · exact .inl h0
   · have hbl : b ≠ l := fun e2 => by
      subst e2
      have := (hc 0 (by omega)).1
      simp only [World.cell?, hl] at this
      cases this
     exact .inr ⟨b, off, e, fun k hk => ⟨by have := (hc k hk).1; simpa only [World.cell?, World.putObj_heap_other hbl] using this, (hc k hk).2⟩, by simp; exact hlt⟩
theorem walk_hits (a o lp : Option Addr) (N cap m co n lc : Nat) (o1 o2 o3 d1 d2 d3 fr : Int) (lf : FuncId) (lb : Array Value) (w : World) :
  Calls prog 27 #[.agg #[.slice a N cap, .slice o m co], .slice lp n lc, .agg #[o1, o2, o3, d1, d2, d3, fr], .func (.func lf) #[] lb] w fun e w' => ∃ gt gp gr gl, e = .returned (.func (.func 52) #[] #[.pointer (some ⟨gt, 0, none⟩), .pointer (some ⟨gr, 0, none⟩), .pointer (some ⟨gl, 0, none⟩), .pointer (some ⟨gp, 0, none⟩)]) ∧
   Bk w' gt 35 #[.slice a N cap, .slice o m co] ∧ Bk w' gp 22 #[.slice lp n lc] ∧ Bk w' gr 26 #[o1, o2, o3, d1, d2, d3, fr] ∧ Bk w' gl 68 #[.func (.func lf) #[] lb] ∧ (w.heap.size ≤ gt ∧ w.heap.size ≤ gp ∧ w.heap.size ≤ gr ∧ w.heap.size ≤ gl) ∧ Below w.heap.size w w' := by
 have hmf : ∀ (fn : Fn) (first cap : Array Value) (w : World), (Instr.makeFunc fn first cap).run prog w = .ok (.func fn first cap) w := fun _ _ _ _ => rfl
 go_enter func27, ntmps27
 go_upto_region 1 with (fail)
 refine wst4 fun W1 kt kp kr kl B1 => ?_
 go_wp2
 go_ret
 exact ⟨_, _, _, _, rfl, kt, kp, kr, kl, ⟨by omega, by omega, by omega, by omega⟩, B1⟩
section
attribute [local go_sem] Oper.semAt_some
theorem whits_gives (gt gr gl gp : Nat) (a o lp : Option Addr) (N cap m co lc : Nat) (ns : List Nd) (ord : List Int) (P : Nat → Pr) (n : Nat) (o1 o2 o3 d1 d2 d3 fr : Int) (lf : FuncId) (lb : Array Value) (lim : List H3 → Int × Int) (w : World)
  (hw : mWh ns P ord n = true) (hNl : N = ns.length) (hN : Nodes w (.slice a N cap) ns) (hm : m = ord.length) (ho : IntSlice w o m (fun i => ord.getD i 0)) (hmc : m ≤ co) (hns : N ≤ 1048576) (hmm : m ≤ 1000) (io : I3 (o1, o2, o3)) (id : I3 (d1, d2, d3)) (hf : I64 fr) (hs : Prims w (.slice lp n lc) n P) (hn : n ≤ 1000000)
  (eg : ∀ args w, (callFunc lf args).run prog w = .ok (.enter lf args) w) :
  GivesBy prog 52 #[.pointer (some ⟨gt, 0, none⟩), .pointer (some ⟨gr, 0, none⟩), .pointer (some ⟨gl, 0, none⟩), .pointer (some ⟨gp, 0, none⟩)] encH
   (fun s X => Below w.heap.size w X ∧ (Bk X gr 26 #[o1, o2, o3, d1, d2, d3, fr] ∧ Bk X gt 35 #[.slice a N cap, .slice o m co] ∧ Bk X gl 68 #[.func (.func lf) #[] lb] ∧ Bk X gp 22 #[.slice lp n lc]) ∧ (I64 (lim s).1 ∧ I64 (lim s).2) ∧ ∀ Y, Below X.heap.size X Y → Calls prog lf lb Y fun e w' => e = .returned (.agg #[(lim s).1, (lim s).2]) ∧ Below Y.heap.size Y w')
   (fun s h W1 => h ∈ hUp P n (o1, o2, o3) (d1, d2, d3) fr) (fun s h => s ++ [h]) (AllCov P n (o1, o2, o3) (d1, d2, d3) fr lim) [] := fun l J Jx W hJ hJx hB hY h0 => by
 have hbW := (hB _ _ h0).1
 refine callsIn_of_wp_marks func52 rfl trivial ?_ rfl
 simp only [ntmps52, List.size_toArray, List.length_cons, List.length_nil, Nat.reduceAdd, Nat.reduceSub, Array.replicate_succ, Array.replicate_zero, List.push_toArray, List.append_toArray, List.nil_append, List.cons_append]
 have HY := zh hY
 have HB := zh hB
 have HJ := zh hJ
 have HJx := zh hJx
 have HSW := zh hs
 clear hY hB hJ hJx
 gi_upto_region 1 with (fail)
 obtain ⟨W1, hW1⟩ : ∃ W1, W1 = W.alloc (.cells #[.func (.yield l) #[] #[]] 96) := ⟨_, rfl⟩
 have ky : Bk W1 W.heap.size 96 #[.func (.yield l) #[] #[]] := bkn hW1
 have hb1 : Below W.heap.size W W1 := by rw [hW1]; exact (Below.refl _ _).alloc (Nat.le_refl _) _
 have h1 := HJ.out _ _ _ h0 hb1
 have hsz1 : W.heap.size < W1.heap.size := by rw [hW1]; simp
 obtain ⟨hbW1, ⟨kr, kt, kl, kp⟩, _⟩ := HB.out _ _ h1
 rw [← hW1]
 clear hW1 hbW kp
 have cr0 : W1.cell? ⟨gr, 0, none⟩ = some (.int .i64 o1) := kr.cell rfl
 have cr1 : W1.cell? ⟨gr, 1, none⟩ = some (.int .i64 o2) := kr.cell rfl
 have cr2 : W1.cell? ⟨gr, 2, none⟩ = some (.int .i64 o3) := kr.cell rfl
 have cr3 : W1.cell? ⟨gr, 3, none⟩ = some (.int .i64 d1) := kr.cell rfl
 have cr4 : W1.cell? ⟨gr, 4, none⟩ = some (.int .i64 d2) := kr.cell rfl
 have cr5 : W1.cell? ⟨gr, 5, none⟩ = some (.int .i64 d3) := kr.cell rfl
 have cr6 : W1.cell? ⟨gr, 6, none⟩ = some (.int .i64 fr) := kr.cell rfl
 have ct0 : W1.cell? ⟨gt, 0, none⟩ = some (.slice a N cap) := kt.cell rfl
 have ct1 : W1.cell? ⟨gt, 1, none⟩ = some (.slice o m co) := kt.cell rfl
 have cl0 : W1.cell? ⟨gl, 0, none⟩ = some (.func (.func lf) #[] lb) := kl.cell rfl
 clear kr kt kl
 have KE := zh (fun w => walk_examined a o N cap m co o1 o2 o3 d1 d2 d3 fr lf lb w)
 have HNL := zh hNl
 have HML := zh hm
 have HN0 := zh hN
 have HO0 := zh ho
 clear hNl hm hN ho
 gi_wp2_with (refine ⟨trivial, rfl, ?_⟩; gi_at_call 53; (with_reducible refine (callsIn_wide.2 (KE.out _)).mono ?_); rintro e w2 ⟨gr2, gt2, gl2, rfl, kr2, kt2, kl2, hog, hb2⟩)
 have ogr : W.heap.size ≤ gr2 := by omega
 have ogt : W.heap.size ≤ gt2 := by omega
 have ogl : W.heap.size ≤ gl2 := by omega
 have hj2 := HJ.out _ _ _ h1 (hb2.mono (Nat.le_of_lt hsz1))
 have ky2 := ky.below hb2
 have hsz2 : W.heap.size < w2.heap.size := by have := hb2.size; omega
 have HG := zh (examined_gives gr2 gt2 gl2 a o N cap m co ns ord P n o1 o2 o3 d1 d2 d3 fr lf lb lim w hw HNL.out HN0.out HML.out HO0.out hmc hns hmm hf eg)
 clear cr0 cr1 cr2 cr3 cr4 cr5 cr6 ct0 ct1 cl0 KE ky h0 h1 hb1 hbW1
 refine range_by (gf := 83) (lb := #[.pointer (some ⟨gr2, 0, none⟩), .pointer (some ⟨gt2, 0, none⟩), .pointer (some ⟨gl2, 0, none⟩)]) (encs := fun x : Wh => #[.slice x.1 x.2.1 x.2.2.1]) rfl (enters_of func83 (by kernel_rfl) rfl) HG.out (fun _ => rfl)
  (fun s V => (J s V ∧ Bk V W.heap.size 96 #[.func (.yield l) #[] #[]]) ∧ (Bk V gr2 26 #[o1, o2, o3, d1, d2, d3, fr] ∧ Bk V gt2 35 #[.slice a N cap, .slice o m co] ∧ Bk V gl2 68 #[.func (.func lf) #[] lb]))
  (fun c V => c = .ret ∧ Jx V)
  (Solid.and (Solid.and (HJ.out.mono (Nat.le_of_lt hsz2)) (solid_bk (fun _ => W.heap.size) (fun _ => 96) (fun _ => #[.func (.yield l) #[] #[]]) (fun _ => hsz2))) (Solid.and (solid_bk (fun _ => gr2) (fun _ => _) (fun _ => _) (fun _ => kr2.lt)) (Solid.and (solid_bk (fun _ => gt2) (fun _ => _) (fun _ => _) (fun _ => kt2.lt)) (solid_bk (fun _ => gl2) (fun _ => _) (fun _ => _) (fun _ => kl2.lt)))))
  (fun c X Y ⟨e, h⟩ hb => ⟨e, HJx.out () X Y h (hb.mono (Nat.le_of_lt hsz2))⟩)
  (fun s V h => ⟨(HB.out s V h.1.1).1, h.2, (HB.out s V h.1.1).2.2⟩) ⟨⟨hj2, ky2⟩, kr2, kt2, kl2⟩ ?round ?done ?stop
 case round =>
  rintro l2 s ⟨a2, m2, cap2, Z⟩ V hl2 ⟨hz, hm2⟩ ⟨⟨hj, ky⟩, kr3, kt3, kl3⟩
  dsimp only at hz hm2
  clear HG hj2 ky2 kr2 kt2 kl2 hb2
  gi_wp2
  refine ⟨KeepsBut.refl _ _ _, fun r' r'' hlr => ?_⟩
  obtain ⟨V2, hV2⟩ := nmd (V.putObj l2 (.loop r''))
  have hbp : Below w2.heap.size V V2 := by rw [hV2]; exact z1g (Nat.le_of_lt hl2)
  have hj2 : J s V2 := HJ.out _ _ _ hj (hbp.mono (Nat.le_of_lt hsz2))
  have ky2 : Bk V2 W.heap.size 96 #[.func (.yield l) #[] #[]] := by rw [hV2]; exact bk_put ky hlr _
  have hz2 : IntSlice V2 a2 m2 Z := by rw [hV2]; exact intslice_put hz hlr _
  have kr4 : Bk V2 gr2 26 #[o1, o2, o3, d1, d2, d3, fr] := by rw [hV2]; exact bk_put kr3 hlr _
  have kt4 : Bk V2 gt2 35 #[.slice a N cap, .slice o m co] := by rw [hV2]; exact bk_put kt3 hlr _
  have kl4 : Bk V2 gl2 68 #[.func (.func lf) #[] lb] := by rw [hV2]; exact bk_put kl3 hlr _
  have hszv : W.heap.size ≤ V2.heap.size := by have := ky2.lt; omega
  rw [← hV2]
  clear hV2 hlr hj ky hz hbp kr3 kt3 kl3
  obtain ⟨V0, hV0⟩ := nmd (V2)
  refine stopsBy_from hV0 ?_
  have HV0 := zh hV0
  clear hV0
  obtain ⟨hB2, ⟨kr, _, _, kp⟩, _⟩ := HB.out _ _ hj2
  have hs2 := HSW.out.below hB2 (Nat.le_refl _)
  have KA : Hid (∀ Y, Below V2.heap.size V2 Y → _) := zh (fun Y (hY : Below V2.heap.size V2 Y) => plain_Among lp n lc P o1 o2 o3 d1 d2 d3 fr Y (hs2.below hY (Nat.le_refl _)) io id hf hn a2 m2 cap2 Z (intslice_below hz2 hY) (by omega))
  obtain ⟨F, hF⟩ := nmd (hAmong P n Z m2 (o1, o2, o3) (d1, d2, d3) fr)
  have ham := amL_mem (P := P) (n := n) (m := m2) (Z := Z) (o := (o1, o2, o3)) (d := (d1, d2, d3)) (fr := fr)
  have hal : amL P n Z m2 (o1, o2, o3) (d1, d2, d3) fr = if F.2 = true then [F.1] else [] := by rw [hF]; rfl
  rw [← hF] at KA ham
  have HAM := zh ham
  have HAL := zh hal
  clear hF ham hal hs2 hz2
  obtain ⟨⟨f1, f2, f3⟩, fk⟩ := F
  dsimp only at KA HAM HAL
  obtain ⟨cr0, cr1, cr2, cr3, cr4, cr5, cr6⟩ := bwc7 kr
  have cp0 := bwc1 kp
  have cy0 := bwc1 ky2
  obtain ⟨p1, hp1⟩ := bwx V2
  rw [← hp1]
  clear hp1
  gi_upto_region 4 with (refine ⟨trivial, rfl, ?_⟩; gi_at_call 54; (with_reducible refine (CallsIn.inRound l2 (callsIn_wide.2 (z0c KA.out (Below.refl _ _) _))).mono ?_); rintro e w' ⟨rfl, q, rfl⟩)
  obtain ⟨W3, hW3⟩ : ∃ W, W = q.w.alloc (.cells #[f1, f2, f3] 42) := ⟨_, rfl⟩
  have B3 : Below V2.heap.size V2 W3 := by rw [hW3]; exact q.h.alloc q.h.size _
  have kh := bkn hW3
  rw [← hW3]
  clear hW3
  generalize q.w.heap.size = gh at *
  have hj3 : J s W3 := HJ.out _ _ _ hj2 (B3.mono (by omega))
  have ky3 := ky2.below B3
  have kr5 := kr4.below B3
  have kt5 := kt4.below B3
  have kl5 := kl4.below B3
  have hk3 : KeepsBut w2.heap.size none V0 W3 := by rw [HV0.out]; exact z0l B3
  have ch0 : W3.cell? ⟨gh, 0, none⟩ = some (.int .i64 f1) := kh.cell rfl
  have ch1 : W3.cell? ⟨gh, 1, none⟩ = some (.int .i64 f2) := kh.cell rfl
  have ch2 : W3.cell? ⟨gh, 2, none⟩ = some (.int .i64 f3) := kh.cell rfl
  have cy3 : W3.cell? ⟨W.heap.size, 0, none⟩ = some (.func (.yield l) #[] #[]) := ky3.cell rfl
  clear cr0 cr1 cr2 cr3 cr4 cr5 cr6 cp0 cy0 hj2 ky2 kr kp hB2 B3 kr4 kt4 kl4
  cases fk with
  | false =>
   gi_wp2
   refine ⟨fun _ h => (by cases h), ?_⟩
   gi_wp2
   have e : amL P n Z m2 (o1, o2, o3) (d1, d2, d3) fr = [] := HAL.out
   exact ⟨hk3, ⟨⟨by rw [e, List.append_nil]; exact hj3, ky3⟩, kr5, kt5, kl5⟩⟩
  | true =>
   have e : amL P n Z m2 (o1, o2, o3) (d1, d2, d3) fr = [(f1, f2, f3)] := HAL.out
   have HE := zh e
   clear e
   obtain ⟨fn, tmps, assign, body, hy, hR⟩ := HY.out s (f1, f2, f3) W3 (HAM.out rfl) hj3
   gi_wp2
   refine ⟨rfl, hR.mono ?_⟩
   rintro e W4 ⟨hk4, (⟨rfl, hj4⟩ | ⟨rfl, hj4⟩)⟩
   · clear hy hR
     gi_wp2
     exact ⟨hk3.trans (hk4.mono (Nat.le_of_lt hsz2)), ⟨⟨by rw [HE.out]; exact hj4, hk4.bk (Nat.le_refl _) (fun e => by cases e) ky3⟩, hk4.bk ogr (fun e => by cases e) kr5, hk4.bk ogt (fun e => by cases e) kt5, hk4.bk ogl (fun e => by cases e) kl5⟩⟩
   · clear hy hR
     gi_wp2
     exact ⟨hk3.trans (hk4.mono (Nat.le_of_lt hsz2)), rfl, hj4⟩
 case done =>
  rintro D s V hD hF ⟨⟨hj, ky⟩, _⟩ hK
  gi_wp2
  refine ⟨by simp, .inl ⟨_, _, rfl, run_takeDeferred hK, ?_⟩⟩
  exact ⟨_, results_none rfl _ _ _, ⟨_, rfl⟩, .inl ⟨s, hF, HJ.out _ _ _ hj (z1g (by omega))⟩⟩
 case stop =>
  rintro D c V hD ⟨rfl, hj⟩ hK
  gi_wp2
  refine ⟨by simp, .inl ⟨_, _, rfl, run_takeDeferred hK, ?_⟩⟩
  exact ⟨_, results_none rfl _ _ _, ⟨_, rfl⟩, .inr (HJx.out () _ _ hj (z1g (by omega)))⟩
end
end
section
open Go.RowKit Go.Shelf Go.Proofs.Sky
theorem walk_most (g : Nat) (mm ee : Int) (w : World) (k : Bk w g 28 #[mm, ee]) :
  Rt prog 32 #[.pointer (some ⟨g, 0, none⟩)] w (.agg #[mm, ee]) := by
 go_enter func32, ntmps32
 go_upto_region 1 with (fail)
 refine wst1 fun W1 k_r B1 => ?_
 have kb := k.below B1
 have cb := bwc2 kb
 have cr := bwc2 k_r
 have fr := bwf2 k_r
 refine bws fun p1 => ?_
 go_wp2
 try rw [Exit.noGoto_ret]
 have kr := bkp2 (k_r.below p1.h) (.int .i64 mm) (.int .i64 ee)
 have rc := rwc2 kr
 exact bodyPost_ret (v := .agg #[mm, ee]) (by simp [results, results32, go_sem, rc]) rfl ⟨rfl, blp2 (z00 B1 p1) (by omega)⟩
section
attribute [local go_sem] Oper.semAt_some
theorem walk_Any (a o lp : Option Addr) (N cap m co lc : Nat) (ns : List Nd) (ord : List Int) (P : Nat → Pr) (n : Nat) (o1 o2 o3 d1 d2 d3 fr : Int) (w : World)
  (hw : mWh ns P ord n = true) (hNl : N = ns.length) (hN : Nodes w (.slice a N cap) ns) (hm : m = ord.length) (ho : IntSlice w o m (fun i => ord.getD i 0)) (hmc : m ≤ co) (hns : N ≤ 1048576) (hmm : m ≤ 1000) (io : I3 (o1, o2, o3)) (id : I3 (d1, d2, d3)) (hf : I64 fr) (hs : Prims w (.slice lp n lc) n P) (hn : n ≤ 1000000) (mm : Int) (ee : Int) (hmi : I64 mm) (hei : I64 ee) :
  Rt prog 13 #[.agg #[.slice a N cap, .slice o m co], .slice lp n lc, .agg #[o1, o2, o3, d1, d2, d3, fr], .agg #[mm, ee]] w (.bool (hAny P n (o1, o2, o3) (d1, d2, d3) fr mm ee)) := by
 have hmf : ∀ (fn : Fn) (first cap : Array Value) (w : World), (Instr.makeFunc fn first cap).run prog w = .ok (.func fn first cap) w := fun _ _ _ _ => rfl
 have KR := zh (fun w => frac_Right mm ee w)
 have KL := zh (fun x2 x3 (h2 : I64 x2) (h3 : I64 x3) w => frac_Less x2 x3 mm ee w h2 h3 hmi hei)
 have HI := zh (hUp_I64 (P := P) (o := (o1, o2, o3)) (d := (d1, d2, d3)) (fr := fr) (show n ≤ 4611686018427387904 by omega))
 have KH := zh (fun lf lb w => walk_hits a o lp N cap m co n lc o1 o2 o3 d1 d2 d3 fr lf lb w)
 have HG := zh (fun gt gr gl gp lb => whits_gives gt gr gl gp a o lp N cap m co lc ns ord P n o1 o2 o3 d1 d2 d3 fr 32 lb (limA mm ee) w hw hNl hN hm ho hmc hns hmm io id hf hs hn (enters_of func32 (by kernel_rfl) rfl))
 have HNO := zh (fun s => any_told (P := P) (n := n) (o := (o1, o2, o3)) (d := (d1, d2, d3)) (fr := fr) (m := mm) (e := ee) (s := s))
 have HYES := zh (fun x => any_yes (P := P) (n := n) (o := (o1, o2, o3)) (d := (d1, d2, d3)) (fr := fr) (m := mm) (e := ee) (x := x))
 have HME : Hid (I64 mm ∧ I64 ee) := zh ⟨hmi, hei⟩
 obtain ⟨res, hres⟩ := nmd (hAny P n (o1, o2, o3) (d1, d2, d3) fr mm ee)
 rw [← hres] at HNO HYES ⊢
 obtain ⟨de, hde⟩ := nmd (decide (1 ≤ ee))
 rw [← hde] at KR HNO HYES
 clear hw hNl hN hm ho hmc hns hmm io id hf hs hn hmi hei hres hde
 refine (callsIn_wide (n := 0)).1 ?_
 refine callsIn_of_wp_marks func13 rfl trivial ?_ rfl
 simp only [ntmps13, List.size_toArray, List.length_cons, List.length_nil, Nat.reduceAdd, Nat.reduceSub, Array.replicate_succ, Array.replicate_zero, List.push_toArray, List.append_toArray, List.nil_append, List.cons_append]
 gi_upto_region 1 with (fail)
 obtain ⟨W1, hW1⟩ : ∃ W, W = (((w.alloc (.cells #[.slice a N cap, .slice o m co] 35)).alloc (.cells #[o1, o2, o3, d1, d2, d3, fr] 26)).alloc (.cells #[mm, ee] 28)).alloc (.cells #[.bool false] 4) := ⟨_, rfl⟩
 obtain ⟨k_t, ky, kf, k_r, B1⟩ := st4 hW1
 rw [← hW1]
 clear hW1
 have ly : w.heap.size < w.heap.size + 1 := by omega
 have l_f : w.heap.size + 1 < w.heap.size + 1 + 1 := by omega
 have lr : w.heap.size + 1 + 1 < w.heap.size + 1 + 1 + 1 := by omega
 generalize w.heap.size + 1 + 1 + 1 = g_r at *
 generalize w.heap.size + 1 + 1 = g_f at *
 generalize w.heap.size + 1 = gy at *
 have cf0 : W1.cell? ⟨g_f, 0, none⟩ = some (.int .i64 mm) := kf.cell rfl
 have cf1 : W1.cell? ⟨g_f, 1, none⟩ = some (.int .i64 ee) := kf.cell rfl
 gi_upto_region 2 with (refine ⟨trivial, rfl, ?_⟩; gi_at_call 31; (with_reducible refine (callsIn_wide.2 (KR.out _)).mono ?_); rintro e w1 ⟨rfl, hb1⟩)
 obtain ⟨W2, hW2⟩ : ∃ W, W = w1.alloc (.cells #[.bool (!de)] 4) := ⟨_, rfl⟩
 have hs1 := B1.size
 have hB1 := B1.trans (hb1.mono hs1)
 have B2 : Below w.heap.size w W2 := by rw [hW2]; exact hB1.alloc hB1.size _
 have lu : g_r < w1.heap.size := (k_r.below hb1).lt
 have k_t := bka hW2 (k_t.below hb1)
 have ky := bka hW2 (ky.below hb1)
 have kf := bka hW2 (kf.below hb1)
 have k_r := bka hW2 (k_r.below hb1)
 have ku := bkn hW2
 rw [← hW2]
 clear hW2 cf0 cf1 B1 hB1 hb1 hs1
 generalize w1.heap.size = gu at *
 obtain ⟨du, hdu⟩ := nmd (!de)
 rw [← hdu] at ku HNO HYES
 rw [← hdu]
 clear hdu
 have ct0 : W2.cell? ⟨w.heap.size, 0, none⟩ = some (.slice a N cap) := k_t.cell rfl
 have ct1 : W2.cell? ⟨w.heap.size, 1, none⟩ = some (.slice o m co) := k_t.cell rfl
 have cy0 : W2.cell? ⟨gy, 0, none⟩ = some (.int .i64 o1) := ky.cell rfl
 have cy1 : W2.cell? ⟨gy, 1, none⟩ = some (.int .i64 o2) := ky.cell rfl
 have cy2 : W2.cell? ⟨gy, 2, none⟩ = some (.int .i64 o3) := ky.cell rfl
 have cy3 : W2.cell? ⟨gy, 3, none⟩ = some (.int .i64 d1) := ky.cell rfl
 have cy4 : W2.cell? ⟨gy, 4, none⟩ = some (.int .i64 d2) := ky.cell rfl
 have cy5 : W2.cell? ⟨gy, 5, none⟩ = some (.int .i64 d3) := ky.cell rfl
 have cy6 : W2.cell? ⟨gy, 6, none⟩ = some (.int .i64 fr) := ky.cell rfl
 gi_wp2_with (refine ⟨trivial, rfl, ?_⟩; gi_at_call 27; (with_reducible refine (callsIn_wide.2 (KH.out _ _ _)).mono ?_); rintro e w2 ⟨gt, gp, gr, gl, rfl, kt, kp, kr, kl, ⟨ogt, ogp, ogr, ogl⟩, hb2⟩)
 have hgr : g_r < w2.heap.size := (k_r.below hb2).lt
 have hBw2 := B2.trans (hb2.mono B2.size)
 have kf0 := kf.below hb2
 have kr0 := k_r.below hb2
 have ku0 := ku.below hb2
 clear ct0 ct1 cy0 cy1 cy2 cy3 cy4 cy5 cy6 KH k_r kf ku k_t ky B2
 refine range_by (gf := 52) (lb := #[.pointer (some ⟨gt, 0, none⟩), .pointer (some ⟨gr, 0, none⟩), .pointer (some ⟨gl, 0, none⟩), .pointer (some ⟨gp, 0, none⟩)]) (encs := encH) rfl (enters_of func52 (by kernel_rfl) rfl) (HG.out gt gr gl gp #[.pointer (some ⟨g_f, 0, none⟩)]) (fun _ => rfl)
  (fun s V => Below w2.heap.size w2 V ∧ (∀ x ∈ s, x ∈ hUp P n (o1, o2, o3) (d1, d2, d3) fr) ∧ ∀ x ∈ s, (du || fless x.2.1 x.2.2 mm ee) = false)
  (fun c V => (c = .ret ∧ res = true) ∧ Bk V g_r 4 #[.bool true] ∧ Below w.heap.size w V)
  (Solid.and (solid_below (Nat.le_refl _)) (Solid.and (solid_pure _) (solid_pure _)))
  (Solid.and (solid_pure _) (Solid.and (solid_bk (fun _ => g_r) (fun _ => _) (fun _ => _) (fun _ => hgr)) (solid_below hBw2.size)))
  (fun s V h => ⟨hBw2.trans (h.1.mono hBw2.size), ⟨kr.below h.1, kt.below h.1, kl.below h.1, kp.below h.1⟩, HME.out, fun Y hY => walk_most g_f mm ee Y ((kf0.below h.1).below hY)⟩) ⟨Below.refl _ _, (fun x hx => by cases hx), fun x hx => by cases hx⟩ ?round ?done ?stop
 case round =>
  rintro l s x V hl hxU ⟨hV, hsU, hno⟩
  have hxi := HI.out x hxU
  have HXY := zh (HYES.out x hxU)
  have HSN := zh hsU
  have HXU := zh hxU
  have HNX := zh hno
  clear hsU hno HG kt kp kr kl hb2 hxU
  obtain ⟨x1, x2, x3⟩ := x
  dsimp only at HXY
  have KLx := zh (fun w => KL.out x2 x3 hxi.2.1 hxi.2.2 w)
  clear hxi
  obtain ⟨fl, hfl⟩ := nmd (fless x2 x3 mm ee)
  rw [← hfl] at KLx HXY
  have HFL := zh hfl
  clear hfl
  gi_wp2
  refine ⟨z0l ((Below.refl _ _).alloc (Nat.le_refl _) _), fun r' r'' hlr => ?_⟩
  obtain ⟨V2, hV2⟩ : ∃ V2, V2 = (V.alloc (.cells #[x1, x2, x3] 42)).putObj l (.loop r'') := ⟨_, rfl⟩
  have kx : Bk V2 V.heap.size 42 #[x1, x2, x3] := by rw [hV2]; exact bk_put (Bk.new _ _ _) hlr _
  have hq2 : Below w2.heap.size w2 V2 := by rw [hV2]; exact (hV.alloc hV.size _).trans (z1g (by omega))
  have B1 : Below w.heap.size w V2 := hBw2.trans (hq2.mono hBw2.size)
  have kf := kf0.below hq2
  have k_r := kr0.below hq2
  have ku := ku0.below hq2
  have hgx : g_r < V.heap.size := zl hgr hV.size
  rw [← hV2]
  clear hV2 hlr
  obtain ⟨V0, hV0⟩ := nmd (V2)
  refine stopsBy_from hV0 ?_
  have HV0 := zh hV0
  clear hV0
  generalize V.heap.size = gx at *
  cases du with
  | true =>
   obtain ⟨cf0, cf1⟩ := bwc2 kf
   have cr0 := bwc1 k_r
   have fr0 := bwf1 k_r
   have cu0 := bwc1 ku
   have cx := bwc3 kx
   obtain ⟨p1, hp1⟩ := bwx V2
   rw [← hp1]
   clear hp1
   gi_wp2
   refine ⟨trivial, ?_⟩
   gi_wp2
   exact ⟨by rw [HV0.out]; exact (z0l (BW.h _)).trans (z0k hgr), ⟨rfl, HXY.out rfl⟩, bkp1 (k_r.below (BW.h _)) _, blp1 (z00 B1 _) (by omega)⟩
  | false =>
   cases fl with
   | true =>
    obtain ⟨cf0, cf1⟩ := bwc2 kf
    have cr0 := bwc1 k_r
    have fr0 := bwf1 k_r
    have cu0 := bwc1 ku
    have cx := bwc3 kx
    obtain ⟨p1, hp1⟩ := bwx V2
    rw [← hp1]
    clear hp1
    gi_wp2_with (refine ⟨trivial, rfl, ?_⟩; gi_at_call 33; refine (CallsIn.inRound l (callsIn_wide.2 (z02 KLx.out _))).mono ?_; rintro e w' ⟨rfl, q', rfl⟩)
    exact ⟨by rw [HV0.out]; exact (z0l (BW.h _)).trans (z0k hgr), ⟨rfl, HXY.out rfl⟩, bkp1 (k_r.below (BW.h _)) _, blp1 (z00 B1 _) (by omega)⟩
   | false =>
    obtain ⟨cf0, cf1⟩ := bwc2 kf
    have cr0 := bwc1 k_r
    have fr0 := bwf1 k_r
    have cu0 := bwc1 ku
    have cx := bwc3 kx
    obtain ⟨p1, hp1⟩ := bwx V2
    rw [← hp1]
    clear hp1
    gi_wp2_with (refine ⟨trivial, rfl, ?_⟩; gi_at_call 33; refine (CallsIn.inRound l (callsIn_wide.2 (z02 KLx.out _))).mono ?_; rintro e w' ⟨rfl, q', rfl⟩)
    exact ⟨by rw [HV0.out]; exact z0l (BW.h _), hq2.trans ((BW.h _).mono hq2.size), (fun y hy => by
      rcases List.mem_append.1 hy with hy | hy
      · exact HSN.out y hy
      · have : y = (x1, x2, x3) := by simpa using hy
        rw [this]; exact HXU.out), fun y hy => by
      rcases List.mem_append.1 hy with hy | hy
      · exact HNX.out y hy
      · have : y = (x1, x2, x3) := by simpa using hy
        rw [this, Bool.false_or]; exact HFL.out.symm⟩
 case done =>
  rintro D s V hD hF ⟨hV, hsU, hno⟩ hK
  have hfalse : res = false := HNO.out s hsU hF hno
  clear hsU hF hno HG kt kp kr kl hb2
  have k_r := kr0.below hV
  have cr := k_r.cell (i := 0) rfl
  have f_r := k_r.frozen 0
  have hDr : ¬ D = g_r := by omega
  have kr1 := bkp1 k_r (.bool false)
  have hK1 : (V.setCell ⟨g_r, 0, none⟩ (.bool false)).heap[D]? = some (.deferred (some [])) := (Below.heap_setCell _ _ _ _ hDr).trans hK
  have B3 : Below w.heap.size w (V.setCell ⟨g_r, 0, none⟩ (.bool false)) := blp1 (hBw2.trans (hV.mono hBw2.size)) (by omega)
  gi_wp2
  try rw [Exit.noGoto_ret]
  refine ⟨by simp, .inl ⟨_, _, rfl, run_takeDeferred hK1, ?_⟩⟩
  have rc0 := rwc1 (bk_turn kr1 hK1 rfl (.deferred none))
  exact ⟨.bool false, by simp [results, results13, go_sem, rc0], by rw [hfalse], B3.trans (z1g (by have := hBw2.size; omega))⟩
 case stop =>
  rintro D c V hD ⟨⟨rfl, htrue⟩, k_r, hB⟩ hK
  clear HG kt kp kr kl hb2
  gi_wp2
  try rw [Exit.noGoto_ret]
  refine ⟨by simp, .inl ⟨_, _, rfl, run_takeDeferred hK, ?_⟩⟩
  have rc0 := rwc1 (bk_turn k_r hK rfl (.deferred none))
  exact ⟨.bool true, by simp [results, results13, go_sem, rc0], by rw [htrue], hB.trans (z1g (by have := hBw2.size; omega))⟩
end
end
end Go.Proofs.YtbmpmjdlaahekaaGreat
