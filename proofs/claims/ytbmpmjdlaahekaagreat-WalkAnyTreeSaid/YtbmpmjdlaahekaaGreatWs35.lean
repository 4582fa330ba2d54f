/- Contracts of package plain: its iterators. -/
import Derived.OwnWalkIn
import Derived.TacticsInMore
import Derived.LoopNIn
import Derived.LoopIn
import Derived.WalkMore
import Derived.Sort.CutIn
import Derived.Test.YtbmpmjdlaahekaaGreatWs32
set_option maxRecDepth 100000
set_option maxHeartbeats 8000000
set_option linter.unusedVariables false
set_option linter.unusedSimpArgs false
open Go.Proofs.Tryz
namespace Go.Proofs.YtbmpmjdlaahekaaGreat
section
open Go.RowKit Go.Shelf Go.Proofs.Sky
section
attribute [local go_sem] Oper.semAt_some
theorem values_gives (g : Nat) (a : Option Addr) (n cap : Nat) (Z : Nat → Int) (w : World) (hg : Bk w g 33 #[.slice a n cap]) (hn : n ≤ 1048576) (hr : ∀ k, k < n → ∃ b off, a = some ⟨b, off, none⟩ ∧ b < w.heap.size ∧ w.cell? ⟨b, off + k, none⟩ = some (.int .i64 (Z k))) :
  GivesTo prog 114 #[.pointer (some ⟨g, 0, none⟩)] (fun x : Int => #[x]) (rowOf (Z) n) w := fun l J Jx W hJ hJx hB hY h0 => by
 have c0 : W.cell? ⟨g, 0, none⟩ = some (.slice a n cap) := (hg.below (hB _ _ _ h0)).cell rfl
 refine callsIn_of_wp func114 rfl trivial ?_ rfl
 simp only [ntmps114, List.size_toArray, List.length_cons, List.length_nil, Nat.reduceAdd, Nat.reduceSub, Array.replicate_succ, Array.replicate_zero, List.push_toArray, List.append_toArray, List.nil_append, List.cons_append]
 have HY := zh hY
 have HB := zh hB
 clear hY hB hJ hJx
 gi_wp2
 clear c0
 gi_loopw [7] (fun i wr => ∃ (k : Nat) (b : Option Nat), k ≤ n ∧ i = .int .i64 k ∧ J (rowOf (Z) k) b wr) (fun i _ => n - (intOf i).toNat)
 case atStart => exact ⟨0, none, Nat.zero_le _, rfl, h0⟩
 case round =>
  obtain ⟨k, b, hk, rfl, hj⟩ := hrel
  by_cases hlt : k < n
  · obtain ⟨rest, hx⟩ := rowOf_split (Z) n k hlt
    obtain ⟨fn, tmps, assign, body, hy, hR⟩ := HY.out _ _ _ _ wr hx hj
    obtain ⟨bb, off, rfl, hb, hc⟩ := hr k hlt
    have c1 : wr.cell? ⟨bb, off + k, none⟩ = some (.int .i64 (Z k)) := ((HB.out _ _ _ hj).cell (p := ⟨bb, off + k, none⟩) hb).trans hc
    clear hx
    gi_wp2
    refine ⟨rfl, hR.mono ?_⟩
    rintro e W3 ⟨b', hk3, hf3, (⟨rfl, hj3⟩ | ⟨rfl, hj3⟩)⟩
    · clear hy hR hk3 hf3 hj c1
      gi_wp2
      go_roundw
      case rel => exact ⟨k + 1, b', by omega, by go_num, by rw [rowOf_succ]; exact hj3⟩
      case measure => simp [intOf]; omega
    · clear hy hR hk3 hf3 hj c1
      gi_wp2
      refine bodyPost_ret (results_none rfl _ _ _) rfl ?_
      exact ⟨⟨_, rfl⟩, .inr ⟨_, b', hj3⟩⟩
  · obtain rfl : k = n := by omega
    gi_wp2
    go_end0
    exact ⟨⟨_, rfl⟩, .inl ⟨b, hj⟩⟩
theorem slices_Values (a : Option Addr) (n cap : Nat) (w : World) :
  Calls prog 87 #[.slice a n cap] w fun e w' => ∃ g, e = .returned (.func (.func 114) #[] #[.pointer (some ⟨g, 0, none⟩)]) ∧ Bk w' g 33 #[.slice a n cap] ∧ Below w.heap.size w w' := by
 have hmf : ∀ (fn : Fn) (first cap : Array Value) (w : World), (Instr.makeFunc fn first cap).run prog w = .ok (.func fn first cap) w := fun _ _ _ _ => rfl
 go_enter func87, ntmps87
 go_wp2
 go_ret
 exact ⟨_, rfl, Bk.new _ _ _, (Below.refl _ _).alloc (Nat.le_refl _) _⟩
theorem plain_hits (a : Option Addr) (n cap : Nat) (f : Fn) (bd lb : Array Value) (o1 o2 o3 d1 d2 d3 fr : Int) (w : World) :
  Calls prog 86 #[.slice a n cap, .func f bd lb, .agg #[o1, o2, o3, d1, d2, d3, fr]] w fun e w' => ∃ gi gl gr, e = .returned (.func (.func 112) #[] #[.pointer (some ⟨gi, 0, none⟩), .pointer (some ⟨gl, 0, none⟩), .pointer (some ⟨gr, 0, none⟩)]) ∧
   Bk w' gi 136 #[.func f bd lb] ∧ Bk w' gl 22 #[.slice a n cap] ∧ Bk w' gr 26 #[o1, o2, o3, d1, d2, d3, fr] ∧ Below w.heap.size w w' := by
 have hmf : ∀ (fn : Fn) (first cap : Array Value) (w : World), (Instr.makeFunc fn first cap).run prog w = .ok (.func fn first cap) w := fun _ _ _ _ => rfl
 go_enter func86, ntmps86
 go_wp2
 go_ret
 refine ⟨_, _, _, rfl, ?_, ((Bk.new _ _ _).alloc _).alloc _, ?_, (((Below.refl _ _).alloc (Nat.le_refl _) _).alloc (by simp) _).alloc (by simp; omega) _⟩
 · exact Bk.alloc (by have := Bk.new (w.alloc (.cells #[.slice a n cap] 22)) #[.func f bd lb] 136; simpa using this) _
 · have := Bk.new ((w.alloc (.cells #[.slice a n cap] 22)).alloc (.cells #[.func f bd lb] 136)) #[o1, o2, o3, d1, d2, d3, fr] 26; simpa using this
theorem hits_gives (gi gl gr : Nat) (a : Option Addr) (n cap : Nat) (P : Nat → Pr) (o1 o2 o3 d1 d2 d3 fr : Int) (gf : Nat) (lb : Array Value) (zs : List Int) (w : World)
  (eg : ∀ args w, (callFunc gf args).run prog w = .ok (.enter gf args) w) (hz : GivesTo prog gf lb (fun x : Int => #[x]) zs w)
  (ki : Bk w gi 136 #[.func (.func gf) #[] lb]) (kl : Bk w gl 22 #[.slice a n cap]) (kr : Bk w gr 26 #[o1, o2, o3, d1, d2, d3, fr])
  (hs : Prims w (.slice a n cap) n P) (hn : n ≤ 1048576)
  (KH : ∀ (k : Nat) (w : World), k < n → Rt prog 113 #[.agg #[.int .i64 (P k).k, .int .i64 (P k).a.1, .int .i64 (P k).a.2.1, .int .i64 (P k).a.2.2, .int .i64 (P k).b.1, .int .i64 (P k).b.2.1, .int .i64 (P k).b.2.2, .int .i64 (P k).c.1, .int .i64 (P k).c.2.1, .int .i64 (P k).c.2.2, .int .i64 (P k).r, .int .i64 (P k).m], k, .agg #[o1, o2, o3, d1, d2, d3, fr]] w (.tuple #[.agg #[(pHit (P k) k (o1, o2, o3) (d1, d2, d3) fr).1.1, (pHit (P k) k (o1, o2, o3) (d1, d2, d3) fr).1.2], .bool (pHit (P k) k (o1, o2, o3) (d1, d2, d3) fr).2])) :
  GivesTo prog 112 #[.pointer (some ⟨gi, 0, none⟩), .pointer (some ⟨gl, 0, none⟩), .pointer (some ⟨gr, 0, none⟩)] (fun h : H3 => #[.agg #[h.1, h.2.1, h.2.2]]) (hOver P n (o1, o2, o3) (d1, d2, d3) fr zs) w := fun l J Jx W hJ hJx hB hY h0 => by
 have hbW := hB _ _ _ h0
 have ci : W.cell? ⟨gi, 0, none⟩ = some (.func (.func gf) #[] lb) := (ki.below hbW).cell rfl
 have igi := (ki.below hbW).lt
 refine callsIn_of_wp_marks func112 rfl trivial ?_ rfl
 simp only [ntmps112, List.size_toArray, List.length_cons, List.length_nil, Nat.reduceAdd, Nat.reduceSub, Array.replicate_succ, Array.replicate_zero, List.push_toArray, List.append_toArray, List.nil_append, List.cons_append]
 have HS := zh hs
 have HK := zh KH
 have HY := zh hY
 have HB := zh hB
 have HJ := zh hJ
 have HJx := zh hJx
 have HN := zh hn
 clear hs KH hY hB hJ hJx hn
 gi_upto_region 1 with (fail)
 obtain ⟨W1, hW1⟩ : ∃ W1, W1 = W.alloc (.cells #[.func (.yield l) #[] #[]] 96) := ⟨_, rfl⟩
 have ky : Bk W1 W.heap.size 96 #[.func (.yield l) #[] #[]] := by rw [hW1]; exact Bk.new _ _ _
 have hb1 : Below W.heap.size W W1 := by rw [hW1]; exact (Below.refl _ _).alloc (Nat.le_refl _) _
 have ci1 : W1.cell? ⟨gi, 0, none⟩ = some (.func (.func gf) #[] lb) := (hb1.cell (p := ⟨gi, 0, none⟩) igi).trans ci
 have h1 := own_below (HJ.out none) h0 hb1
 have hle := hb1.size
 rw [← hW1]
 clear hW1 ci
 gi_wp2
 clear ci1
 refine range_to (gf := gf) (lb := lb) (encs := fun x : Int => #[x]) (xs := zs) (w0 := w) rfl eg hz (fun _ => rfl)
  (fun pre b V => (J (hOver P n (o1, o2, o3) (d1, d2, d3) fr pre) b V ∧ Bk V W.heap.size 96 #[.func (.yield l) #[] #[]]) ∧ b ≠ some W.heap.size)
  (fun c pre b V => c = .ret ∧ ∃ s, Jx s b V)
  (fun b => OwnFrom.and (OwnFrom.and (own_map _ (own_mono (HJ.out b) hle)) (bk_own _)) (pure_own _))
  (fun c b => OwnFrom.and (pure_own _) (fun _ X Y row ⟨s, h⟩ hg hr => ⟨s, own_mono (HJx.out b) hle s X Y row h hg hr⟩))
  (fun s b V h => HB.out _ _ _ h.1.1) ⟨⟨h1, ky⟩, by simp⟩ ?round ?done ?stop
 case round =>
  rintro l2 pre x rest b V hl2 hx ⟨⟨hj, ky⟩, hne⟩ hnl
  clear h0 h1 hbW hb1 eg hz
  gi_wp2
  refine ⟨KeepsBut.refl _ _ _, fun r' r'' hlr => ?_⟩
  obtain ⟨V2, hV2⟩ := nmd (V.putObj l2 (.loop r''))
  have hj2 : J (hOver P n (o1, o2, o3) (d1, d2, d3) fr pre) b V2 := by rw [hV2]; exact (HJ.out b).putObj _ hj (by omega) hlr rfl
  have ky2 : Bk V2 W.heap.size 96 #[.func (.yield l) #[] #[]] := by rw [hV2]; exact bk_put ky hlr _
  have hsz : V.heap.size ≤ V2.heap.size := by rw [hV2]; simp
  rw [← hV2]
  clear hV2 hlr hj ky
  obtain ⟨V0, hV0⟩ := nmd (V2)
  refine stops_from hV0 ?_
  have HV0 := zh hV0
  clear hV0
  have hB2 := HB.out _ _ _ hj2
  have cl : V2.cell? ⟨gl, 0, none⟩ = some (.slice a n cap) := (kl.below hB2).cell rfl
  by_cases h0 : x < 0
  · have t1 : decide (x < 0) = true := zt h0
    gi_wp2
    exact ⟨b, by rw [HV0.out]; exact KeepsBut.refl _ _ _, FreshRow.same _ _, ⟨by rw [hOver_snoc, hAt_out (.inl h0), List.append_nil]; exact hj2, ky2⟩, hne⟩
  have t1 : decide (x < 0) = false := zf h0
  by_cases hge : (n : Int) ≤ x
  · have t2 : decide ((n : Int) ≤ x) = true := zt hge
    gi_wp2
    exact ⟨b, by rw [HV0.out]; exact KeepsBut.refl _ _ _, FreshRow.same _ _, ⟨by rw [hOver_snoc, hAt_out (.inr hge), List.append_nil]; exact hj2, ky2⟩, hne⟩
  have t2 : decide ((n : Int) ≤ x) = false := zf hge
  obtain ⟨k, rfl⟩ : ∃ k : Nat, x = k := ⟨x.toNat, by omega⟩
  have hlt : k < n := by omega
  obtain ⟨⟨_, _, hsl, _, hS⟩, hI⟩ := HS.out
  cases hsl
  obtain ⟨bb, off, rfl, hbb, hcell⟩ := hS.resolve_left (by omega)
  have hx' := hcell k hlt
  have KH := zh (fun w => HK.out k w hlt)
  have HX := zh hx
  have HSN := zh (hOver_snoc P n (o1, o2, o3) (d1, d2, d3) fr pre k)
  have hAtk := hAt_in (P := P) (o := (o1, o2, o3)) (d := (d1, d2, d3)) (fr := fr) hlt
  clear hx hcell hS hI
  have x0 : V2.cell? ⟨bb, off + k * 12 + 0, none⟩ = some (.int .i64 (P k).k) := (hB2.cell (p := ⟨bb, off + k * 12 + 0, none⟩) hbb).trans (hx' 0 (by omega))
  have x1 : V2.cell? ⟨bb, off + k * 12 + 1, none⟩ = some (.int .i64 (P k).a.1) := (hB2.cell (p := ⟨bb, off + k * 12 + 1, none⟩) hbb).trans (hx' 1 (by omega))
  have x2 : V2.cell? ⟨bb, off + k * 12 + 2, none⟩ = some (.int .i64 (P k).a.2.1) := (hB2.cell (p := ⟨bb, off + k * 12 + 2, none⟩) hbb).trans (hx' 2 (by omega))
  have x3 : V2.cell? ⟨bb, off + k * 12 + 3, none⟩ = some (.int .i64 (P k).a.2.2) := (hB2.cell (p := ⟨bb, off + k * 12 + 3, none⟩) hbb).trans (hx' 3 (by omega))
  have x4 : V2.cell? ⟨bb, off + k * 12 + 4, none⟩ = some (.int .i64 (P k).b.1) := (hB2.cell (p := ⟨bb, off + k * 12 + 4, none⟩) hbb).trans (hx' 4 (by omega))
  have x5 : V2.cell? ⟨bb, off + k * 12 + 5, none⟩ = some (.int .i64 (P k).b.2.1) := (hB2.cell (p := ⟨bb, off + k * 12 + 5, none⟩) hbb).trans (hx' 5 (by omega))
  have x6 : V2.cell? ⟨bb, off + k * 12 + 6, none⟩ = some (.int .i64 (P k).b.2.2) := (hB2.cell (p := ⟨bb, off + k * 12 + 6, none⟩) hbb).trans (hx' 6 (by omega))
  have x7 : V2.cell? ⟨bb, off + k * 12 + 7, none⟩ = some (.int .i64 (P k).c.1) := (hB2.cell (p := ⟨bb, off + k * 12 + 7, none⟩) hbb).trans (hx' 7 (by omega))
  have x8 : V2.cell? ⟨bb, off + k * 12 + 8, none⟩ = some (.int .i64 (P k).c.2.1) := (hB2.cell (p := ⟨bb, off + k * 12 + 8, none⟩) hbb).trans (hx' 8 (by omega))
  have x9 : V2.cell? ⟨bb, off + k * 12 + 9, none⟩ = some (.int .i64 (P k).c.2.2) := (hB2.cell (p := ⟨bb, off + k * 12 + 9, none⟩) hbb).trans (hx' 9 (by omega))
  have x10 : V2.cell? ⟨bb, off + k * 12 + 10, none⟩ = some (.int .i64 (P k).r) := (hB2.cell (p := ⟨bb, off + k * 12 + 10, none⟩) hbb).trans (hx' 10 (by omega))
  have x11 : V2.cell? ⟨bb, off + k * 12 + 11, none⟩ = some (.int .i64 (P k).m) := (hB2.cell (p := ⟨bb, off + k * 12 + 11, none⟩) hbb).trans (hx' 11 (by omega))
  have hbb := zl hbb hB2.size
  have k_r := kr.below hB2
  have ky := ky2
  have k_l := kl.below hB2
  have hAy := fun h => hitAt_yes (p := P k) (i := k) (o := (o1, o2, o3)) (d := (d1, d2, d3)) (fr := fr) h
  have hAn := fun h => hitAt_no (p := P k) (i := k) (o := (o1, o2, o3)) (d := (d1, d2, d3)) (fr := fr) h
  rw [← hAtk] at hAy hAn
  clear hAtk hx' cl
  change Hid (∀ w, Calls prog 113 _ w fun en w' => en = .returned (.tuple #[.agg #[(pHit (P k) k (o1, o2, o3) (d1, d2, d3) fr).1.1, (pHit (P k) k (o1, o2, o3) (d1, d2, d3) fr).1.2], .bool (pHit (P k) k (o1, o2, o3) (d1, d2, d3) fr).2]) ∧ Below w.heap.size w w') at KH
  obtain ⟨R, hR⟩ := nmd (pHit (P k) k (o1, o2, o3) (d1, d2, d3) fr)
  rw [← hR] at KH hAy hAn
  clear hR
  obtain ⟨pk, hpk⟩ := nmd (P k)
  rw [← hpk] at KH x0 x1 x2 x3 x4 x5 x6 x7 x8 x9 x10 x11
  clear hpk
  obtain ⟨kk, ⟨a1, a2, a3⟩, ⟨b1, b2, b3⟩, ⟨c1, c2, c3⟩, r, m⟩ := pk
  obtain ⟨⟨rn, rd⟩, ok⟩ := R
  dsimp only at KH hAy hAn x0 x1 x2 x3 x4 x5 x6 x7 x8 x9 x10 x11
  have HAY := zh hAy
  have HAN := zh hAn
  have B1 : Below V2.heap.size V2 V2 := Below.refl _ _
  clear hAy hAn
  cases ok with
  | false =>
   have cy0 := bwc1 ky
   have cr := bwc7 k_r
   have cl0 := bwc1 k_l
   have ce0 : ∀ p : BW V2, p.w.cell? ⟨bb, off + k * 12, none⟩ = some (.int .i64 kk) := bwB B1 x0 hbb
   have ce1 := bwB B1 x1 hbb
   have ce2 := bwB B1 x2 hbb
   have ce3 := bwB B1 x3 hbb
   have ce4 := bwB B1 x4 hbb
   have ce5 := bwB B1 x5 hbb
   have ce6 := bwB B1 x6 hbb
   have ce7 := bwB B1 x7 hbb
   have ce8 := bwB B1 x8 hbb
   have ce9 := bwB B1 x9 hbb
   have ce10 := bwB B1 x10 hbb
   have ce11 := bwB B1 x11 hbb
   obtain ⟨p1, hp1⟩ := bwx V2
   rw [← hp1]
   clear hp1
   gi_upto_region 4 with (fail)
   refine region_in (by kernel_rfl) (by kernel_rfl) (fun _ _ h => h) ?_
   refine any_late 9 11 27 (by kernel_rfl) rfl rfl rfl (fun _ _ _ _ h => h) ?_
   refine z0w (t := 28) (zs := #[.int .i64 0, .int .i64 0]) 11 10 6 37 (by kernel_rfl) (by kernel_rfl) (by kernel_rfl) (by kernel_rfl) rfl ?_ ?_
   · intro ev wx
     simp [execOp, go_sem]
   apply Exists.intro
   refine ⟨?_, ?_⟩
   · intro wb' hwb'
     have dy0 := bwc1 (ky.below hwb')
     obtain ⟨dr0, dr1, dr2, dr3, dr4, dr5, dr6⟩ := bwc7 (k_r.below hwb')
     have dl0 := bwc1 (k_l.below hwb')
     have de0 : ∀ q : BW wb', q.w.cell? ⟨bb, off + k * 12, none⟩ = some (.int .i64 kk) := bwC hwb' B1 x0 hbb
     have de1 := bwC hwb' B1 x1 hbb
     have de2 := bwC hwb' B1 x2 hbb
     have de3 := bwC hwb' B1 x3 hbb
     have de4 := bwC hwb' B1 x4 hbb
     have de5 := bwC hwb' B1 x5 hbb
     have de6 := bwC hwb' B1 x6 hbb
     have de7 := bwC hwb' B1 x7 hbb
     have de8 := bwC hwb' B1 x8 hbb
     have de9 := bwC hwb' B1 x9 hbb
     have de10 := bwC hwb' B1 x10 hbb
     have de11 := bwC hwb' B1 x11 hbb
     simp only [edgeAt, maskAt, List.take_succ_cons, List.take_zero]
     repeat (go_big_quiet_step ((go_at_call 113; (with_reducible exact z02 KH.out _))))
     refine wpQuiet_nil ?_
     exact rfl
   intro W2 gt hW hg kt
   have B2 : Below V2.heap.size V2 W2 := B1.trans (hW.mono B1.size)
   have ot : V2.heap.size ≤ gt := Nat.le_trans B1.size hg
   have l_t : gl < gt := zl k_l.lt hg
   have lty : W.heap.size < gt := zl ky.lt hg
   have ltr : gr < gt := zl k_r.lt hg
   have ky := ky.below hW
   have k_r := k_r.below hW
   have k_l := k_l.below hW
   clear hW hg B1
   clear cy0 cr cl0 ce0 ce1 ce2 ce3 ce4 ce5 ce6 ce7 ce8 ce9 ce10 ce11
   simp only [edgeAt, List.drop_succ_cons, List.drop_zero, Act.put, List.setIfInBounds_toArray, List.set_cons_zero, List.set_cons_succ]
   have cy0 := bwc1 ky
   have cr := bwc7 k_r
   have cl0 := bwc1 k_l
   have ct := bwc2 kt
   have ft := bwf2 kt
   have ce0 : ∀ p : BW W2, p.w.cell? ⟨bb, off + k * 12, none⟩ = some (.int .i64 kk) := bwB B2 x0 hbb
   have ce1 := bwB B2 x1 hbb
   have ce2 := bwB B2 x2 hbb
   have ce3 := bwB B2 x3 hbb
   have ce4 := bwB B2 x4 hbb
   have ce5 := bwB B2 x5 hbb
   have ce6 := bwB B2 x6 hbb
   have ce7 := bwB B2 x7 hbb
   have ce8 := bwB B2 x8 hbb
   have ce9 := bwB B2 x9 hbb
   have ce10 := bwB B2 x10 hbb
   have ce11 := bwB B2 x11 hbb
   obtain ⟨p2, hp2⟩ := bwx W2
   rw [← hp2]
   clear hp2
   go_wp2
   obtain ⟨W3, hW3⟩ : ∃ W, W = (p2.w.setCell ⟨gt, 0, none⟩ (.int .i64 rn)).setCell ⟨gt, 1, none⟩ (.int .i64 rd) := ⟨_, rfl⟩
   have B3 : Below V2.heap.size V2 W3 := by rw [hW3]; exact blp2 (z00 B2 p2) (by omega)
   have ky := bkoe2 hW3 (ky.below p2.h) (by omega)
   have k_r := bkoe2 hW3 (k_r.below p2.h) (by omega)
   have k_l := bkoe2 hW3 (k_l.below p2.h) (by omega)
   have kt := bkpe2 hW3 (kt.below p2.h)
   rw [← hW3]
   clear hW3
   clear B2
   clear cy0 cr cl0 ct ft ce0 ce1 ce2 ce3 ce4 ce5 ce6 ce7 ce8 ce9 ce10 ce11
   have cy0 := bwc1 ky
   have cr := bwc7 k_r
   have cl0 := bwc1 k_l
   have ct := bwc2 kt
   have ce0 : ∀ p : BW W3, p.w.cell? ⟨bb, off + k * 12, none⟩ = some (.int .i64 kk) := bwB B3 x0 hbb
   have ce1 := bwB B3 x1 hbb
   have ce2 := bwB B3 x2 hbb
   have ce3 := bwB B3 x3 hbb
   have ce4 := bwB B3 x4 hbb
   have ce5 := bwB B3 x5 hbb
   have ce6 := bwB B3 x6 hbb
   have ce7 := bwB B3 x7 hbb
   have ce8 := bwB B3 x8 hbb
   have ce9 := bwB B3 x9 hbb
   have ce10 := bwB B3 x10 hbb
   have ce11 := bwB B3 x11 hbb
   obtain ⟨p3, hp3⟩ := bwx W3
   rw [← hp3]
   clear hp3
   have hj3 := own_below (HJ.out b) hj2 (z00 B3 p3)
   have hk3 : KeepsBut W1.heap.size b V0 p3.w := by rw [HV0.out]; exact z0l (z00 B3 p3)
   have hy3 := ky2.below (z00 B3 p3)
   gi_wp2
   refine ⟨fun _ h => (by cases h), ?_⟩
   gi_wp2
   exact ⟨b, hk3, FreshRow.same _ _, ⟨by rw [HSN.out, HAN.out (by simp), List.append_nil]; exact hj3, hy3⟩, hne⟩
  | true =>
   have cy0 := bwc1 ky
   have cr := bwc7 k_r
   have cl0 := bwc1 k_l
   have ce0 : ∀ p : BW V2, p.w.cell? ⟨bb, off + k * 12, none⟩ = some (.int .i64 kk) := bwB B1 x0 hbb
   have ce1 := bwB B1 x1 hbb
   have ce2 := bwB B1 x2 hbb
   have ce3 := bwB B1 x3 hbb
   have ce4 := bwB B1 x4 hbb
   have ce5 := bwB B1 x5 hbb
   have ce6 := bwB B1 x6 hbb
   have ce7 := bwB B1 x7 hbb
   have ce8 := bwB B1 x8 hbb
   have ce9 := bwB B1 x9 hbb
   have ce10 := bwB B1 x10 hbb
   have ce11 := bwB B1 x11 hbb
   obtain ⟨p1, hp1⟩ := bwx V2
   rw [← hp1]
   clear hp1
   gi_upto_region 4 with (fail)
   refine region_in (by kernel_rfl) (by kernel_rfl) (fun _ _ h => h) ?_
   refine any_late 9 11 27 (by kernel_rfl) rfl rfl rfl (fun _ _ _ _ h => h) ?_
   refine z0w (t := 28) (zs := #[.int .i64 0, .int .i64 0]) 11 10 6 37 (by kernel_rfl) (by kernel_rfl) (by kernel_rfl) (by kernel_rfl) rfl ?_ ?_
   · intro ev wx
     simp [execOp, go_sem]
   apply Exists.intro
   refine ⟨?_, ?_⟩
   · intro wb' hwb'
     have dy0 := bwc1 (ky.below hwb')
     obtain ⟨dr0, dr1, dr2, dr3, dr4, dr5, dr6⟩ := bwc7 (k_r.below hwb')
     have dl0 := bwc1 (k_l.below hwb')
     have de0 : ∀ q : BW wb', q.w.cell? ⟨bb, off + k * 12, none⟩ = some (.int .i64 kk) := bwC hwb' B1 x0 hbb
     have de1 := bwC hwb' B1 x1 hbb
     have de2 := bwC hwb' B1 x2 hbb
     have de3 := bwC hwb' B1 x3 hbb
     have de4 := bwC hwb' B1 x4 hbb
     have de5 := bwC hwb' B1 x5 hbb
     have de6 := bwC hwb' B1 x6 hbb
     have de7 := bwC hwb' B1 x7 hbb
     have de8 := bwC hwb' B1 x8 hbb
     have de9 := bwC hwb' B1 x9 hbb
     have de10 := bwC hwb' B1 x10 hbb
     have de11 := bwC hwb' B1 x11 hbb
     simp only [edgeAt, maskAt, List.take_succ_cons, List.take_zero]
     repeat (go_big_quiet_step ((go_at_call 113; (with_reducible exact z02 KH.out _))))
     refine wpQuiet_nil ?_
     exact rfl
   intro W2 gt hW hg kt
   have B2 : Below V2.heap.size V2 W2 := B1.trans (hW.mono B1.size)
   have ot : V2.heap.size ≤ gt := Nat.le_trans B1.size hg
   have l_t : gl < gt := zl k_l.lt hg
   have lty : W.heap.size < gt := zl ky.lt hg
   have ltr : gr < gt := zl k_r.lt hg
   have ky := ky.below hW
   have k_r := k_r.below hW
   have k_l := k_l.below hW
   clear hW hg B1
   clear cy0 cr cl0 ce0 ce1 ce2 ce3 ce4 ce5 ce6 ce7 ce8 ce9 ce10 ce11
   simp only [edgeAt, List.drop_succ_cons, List.drop_zero, Act.put, List.setIfInBounds_toArray, List.set_cons_zero, List.set_cons_succ]
   have cy0 := bwc1 ky
   have cr := bwc7 k_r
   have cl0 := bwc1 k_l
   have ct := bwc2 kt
   have ft := bwf2 kt
   have ce0 : ∀ p : BW W2, p.w.cell? ⟨bb, off + k * 12, none⟩ = some (.int .i64 kk) := bwB B2 x0 hbb
   have ce1 := bwB B2 x1 hbb
   have ce2 := bwB B2 x2 hbb
   have ce3 := bwB B2 x3 hbb
   have ce4 := bwB B2 x4 hbb
   have ce5 := bwB B2 x5 hbb
   have ce6 := bwB B2 x6 hbb
   have ce7 := bwB B2 x7 hbb
   have ce8 := bwB B2 x8 hbb
   have ce9 := bwB B2 x9 hbb
   have ce10 := bwB B2 x10 hbb
   have ce11 := bwB B2 x11 hbb
   obtain ⟨p2, hp2⟩ := bwx W2
   rw [← hp2]
   clear hp2
   go_wp2
   obtain ⟨W3, hW3⟩ : ∃ W, W = (p2.w.setCell ⟨gt, 0, none⟩ (.int .i64 rn)).setCell ⟨gt, 1, none⟩ (.int .i64 rd) := ⟨_, rfl⟩
   have B3 : Below V2.heap.size V2 W3 := by rw [hW3]; exact blp2 (z00 B2 p2) (by omega)
   have ky := bkoe2 hW3 (ky.below p2.h) (by omega)
   have k_r := bkoe2 hW3 (k_r.below p2.h) (by omega)
   have k_l := bkoe2 hW3 (k_l.below p2.h) (by omega)
   have kt := bkpe2 hW3 (kt.below p2.h)
   rw [← hW3]
   clear hW3
   clear B2
   clear cy0 cr cl0 ct ft ce0 ce1 ce2 ce3 ce4 ce5 ce6 ce7 ce8 ce9 ce10 ce11
   have cy0 := bwc1 ky
   have cr := bwc7 k_r
   have cl0 := bwc1 k_l
   have ct := bwc2 kt
   have ce0 : ∀ p : BW W3, p.w.cell? ⟨bb, off + k * 12, none⟩ = some (.int .i64 kk) := bwB B3 x0 hbb
   have ce1 := bwB B3 x1 hbb
   have ce2 := bwB B3 x2 hbb
   have ce3 := bwB B3 x3 hbb
   have ce4 := bwB B3 x4 hbb
   have ce5 := bwB B3 x5 hbb
   have ce6 := bwB B3 x6 hbb
   have ce7 := bwB B3 x7 hbb
   have ce8 := bwB B3 x8 hbb
   have ce9 := bwB B3 x9 hbb
   have ce10 := bwB B3 x10 hbb
   have ce11 := bwB B3 x11 hbb
   obtain ⟨p3, hp3⟩ := bwx W3
   rw [← hp3]
   clear hp3
   have hj3 := own_below (HJ.out b) hj2 (z00 B3 p3)
   have hk3 : KeepsBut W1.heap.size b V0 p3.w := by rw [HV0.out]; exact z0l (z00 B3 p3)
   have hy3 := ky2.below (z00 B3 p3)
   have hsp : hOver P n (o1, o2, o3) (d1, d2, d3) fr zs = hOver P n (o1, o2, o3) (d1, d2, d3) fr pre ++ ((k : Int), rn, rd) :: hOver P n (o1, o2, o3) (d1, d2, d3) fr rest := by rw [HX.out, hOver_split, HAY.out (by simp)]; rfl
   obtain ⟨fn, tmps, assign, body, hy, hR⟩ := HY.out _ _ _ b p3.w hsp hj3
   clear hsp
   gi_wp2
   refine ⟨rfl, hR.mono ?_⟩
   rintro e W4 ⟨b', hk4, hf4, (⟨rfl, hj4⟩ | ⟨rfl, hj4⟩)⟩
   · clear hy hR
     gi_wp2
     exact ⟨b', hk3.trans (hk4.mono hle), hf4.mono (Nat.le_trans hsz (z00 B3 p3).size), ⟨by rw [HSN.out, HAY.out (by simp)]; exact hj4, hk4.bk (Nat.le_refl _) (fun e => hne e.symm) hy3⟩, hf4.ne hy3.lt hne⟩
   · clear hy hR
     gi_wp2
     exact ⟨b', hk3.trans (hk4.mono hle), hf4.mono (Nat.le_trans hsz (z00 B3 p3).size), rfl, _, hj4⟩
 case done =>
  rintro D b V hD ⟨⟨hj, ky⟩, hne⟩ hK
  gi_wp2
  refine ⟨by simp, .inl ⟨_, _, rfl, run_takeDeferred hK, ?_⟩⟩
  exact ⟨_, results_none rfl _ _ _, ⟨_, rfl⟩, .inl ⟨b, (HJ.out b).putObj _ hj (by omega) hK rfl⟩⟩
 case stop =>
  rintro D c pre b V hD ⟨rfl, s, hj⟩ hK
  gi_wp2
  refine ⟨by simp, .inl ⟨_, _, rfl, run_takeDeferred hK, ?_⟩⟩
  exact ⟨_, results_none rfl _ _ _, ⟨_, rfl⟩, .inr ⟨s, b, (HJx.out b).putObj _ hj (by omega) hK rfl⟩⟩
end
end
end Go.Proofs.YtbmpmjdlaahekaaGreat
