/- Contracts of the document's own answers, layer 14: Better, All. -/
import Derived.Test.YtbmpmjdlaahekaaGreatWs26
import Derived.Test.YtbmpmjdlaahekaaGreatWs32
set_option maxRecDepth 100000
set_option maxHeartbeats 8000000
set_option linter.unusedVariables false
set_option linter.unusedSimpArgs false
open Go.Proofs.Tryz
namespace Go.Proofs.YtbmpmjdlaahekaaGreat
section
open Go.RowKit Go.Proofs.Sky
theorem hit_info : (Tryz.prog.info? 42).map (fun i => (i.zero, i.size, i.bytes)) = some (some (.agg #[.int .i64 0, .int .i64 0, .int .i64 0]), 3, 24) := by kernel_rfl
theorem ref14_Better_less (x1 x2 x3 y1 y2 y3 : Int) (w : World) 
  (KL : Hid (∀ w, Rt prog 35 #[.agg #[x2, x3], .agg #[y2, y3]] w (.bool true))) :
  Rt prog 56 #[.agg #[x1, x2, x3], .agg #[y1, y2, y3]] w (.bool true) := by
 go_enter func56, ntmps56
 go_upto_region 1 with (fail)
 refine wst2 fun W1 kx ky B1 => ?_
 have ly : w.heap.size < w.heap.size + 1 := by omega
 generalize w.heap.size + 1 = gy at *
 have cx := bwc3 kx
 have cy := bwc3 ky
 refine bws fun p1 => ?_
 go_wp2_with ((go_at_call 35; (with_reducible refine (z02 KL.out _).mono ?_); rintro e w' ⟨rfl, q, rfl⟩))
 go_ret
 exact ⟨rfl, z00 B1 _⟩
theorem ref14_Better_unlike (x1 x2 x3 y1 y2 y3 : Int) (w : World) 
  (KL : Hid (∀ w, Rt prog 35 #[.agg #[x2, x3], .agg #[y2, y3]] w (.bool false)))
  (KS : Hid (∀ w, Rt prog 88 #[.agg #[x2, x3], .agg #[y2, y3]] w (.bool false))) :
  Rt prog 56 #[.agg #[x1, x2, x3], .agg #[y1, y2, y3]] w (.bool false) := by
 go_enter func56, ntmps56
 go_upto_region 1 with (fail)
 refine wst2 fun W1 kx ky B1 => ?_
 have ly : w.heap.size < w.heap.size + 1 := by omega
 generalize w.heap.size + 1 = gy at *
 have cx := bwc3 kx
 have cy := bwc3 ky
 refine bws fun p1 => ?_
 go_wp2_with (first
  | (go_at_call 35; (with_reducible refine (z02 KL.out _).mono ?_); rintro e w' ⟨rfl, q, rfl⟩)
  | (go_at_call 88; (with_reducible refine (z02 KS.out _).mono ?_); rintro e w' ⟨rfl, q, rfl⟩))
 go_ret
 exact ⟨rfl, z00 B1 _⟩
theorem ref14_Better_same (x1 x2 x3 y1 y2 y3 : Int) (w : World) 
  (KL : Hid (∀ w, Rt prog 35 #[.agg #[x2, x3], .agg #[y2, y3]] w (.bool false)))
  (KS : Hid (∀ w, Rt prog 88 #[.agg #[x2, x3], .agg #[y2, y3]] w (.bool true))) :
  Rt prog 56 #[.agg #[x1, x2, x3], .agg #[y1, y2, y3]] w (.bool (decide (x1 < y1))) := by
 go_enter func56, ntmps56
 go_upto_region 1 with (fail)
 refine wst2 fun W1 kx ky B1 => ?_
 have ly : w.heap.size < w.heap.size + 1 := by omega
 generalize w.heap.size + 1 = gy at *
 have cx := bwc3 kx
 have cy := bwc3 ky
 refine bws fun p1 => ?_
 go_wp2_with (first
  | (go_at_call 35; (with_reducible refine (z02 KL.out _).mono ?_); rintro e w' ⟨rfl, q, rfl⟩)
  | (go_at_call 88; (with_reducible refine (z02 KS.out _).mono ?_); rintro e w' ⟨rfl, q, rfl⟩))
 go_ret
 exact ⟨rfl, z00 B1 _⟩
theorem ref14_Better (x1 x2 x3 y1 y2 y3 : Int) (w : World) (i1 : I64 x2) (i2 : I64 x3) (i3 : I64 y2) (i4 : I64 y3) :
  Rt prog 56 #[.agg #[x1, x2, x3], .agg #[y1, y2, y3]] w (.bool (hb (x1, x2, x3) (y1, y2, y3))) := by
 have KL := zh (fun w => ref3_Less x2 x3 y2 y3 w i1 i2 i3 i4)
 have KS := zh (fun w => ref3_Same x2 x3 y2 y3 w i1 i2 i3 i4)
 unfold hb
 dsimp only
 cases h1 : fless x2 x3 y2 y3 with
 | true => rw [h1] at KL; exact ref14_Better_less x1 x2 x3 y1 y2 y3 w KL
 | false =>
  rw [h1] at KL
  cases h2 : fsame x2 x3 y2 y3 with
  | false => rw [h2] at KS; exact ref14_Better_unlike x1 x2 x3 y1 y2 y3 w KL KS
  | true => rw [h2] at KS; rw [Bool.false_or, Bool.true_and]; exact ref14_Better_same x1 x2 x3 y1 y2 y3 w KL KS
theorem ref14_All (v : Value) (n : Nat) (P : Nat → Pr) (o1 o2 o3 d1 d2 d3 fr : Int) (w : World) (hs : Prims w v n P) (ho : I3 (o1, o2, o3)) (hd : I3 (d1, d2, d3)) (hf : I64 fr) (hn : n ≤ 1000000) :
  Calls prog 30 #[v, .agg #[o1, o2, o3, d1, d2, d3, fr]] w fun e w' => ∃ u, e = .returned u ∧ w'.ownsRow w.heap.size 42 3 u (hUp P n (o1, o2, o3) (d1, d2, d3) fr).length ((hUp P n (o1, o2, o3) (d1, d2, d3) fr).flatMap hcells) ∧ Below w.heap.size w w' := by
 obtain ⟨hsl, hI⟩ := hs
 obtain ⟨a, cap, rfl, hm, hS⟩ := hsl
 obtain ⟨i0, hi, hz0, hz1, hz2⟩ := info_parts hit_info
 have HS := zh hS
 clear hS
 go_enter func30, ntmps30
 go_upto_region 1 with (fail)
 obtain ⟨W1, hW1⟩ : ∃ W, W = w.alloc (.cells #[o1, o2, o3, d1, d2, d3, fr] 26) := ⟨_, rfl⟩
 obtain ⟨ky, B1⟩ := st1 hW1
 rw [← hW1]
 clear hW1
 go_wp2
 go_loopw [5, 6] (fun u i wr => ∃ k : Nat, k ≤ n ∧ i = .int .i64 k ∧ wr.ownsRow (w.heap.size + 1) 42 3 u (hUp P k (o1, o2, o3) (d1, d2, d3) fr).length ((hUp P k (o1, o2, o3) (d1, d2, d3) fr).flatMap hcells) ∧ Bk wr w.heap.size 26 #[o1, o2, o3, d1, d2, d3, fr] ∧ Below w.heap.size w wr) (fun _ i _ => n - (intOf i).toNat)
 case atStart => exact ⟨0, by omega, rfl, World.ownsRow_nil _ _ _ _, ky, B1⟩
 case round =>
  clear ky B1
  obtain ⟨k, hk, rfl, hown, ky, BO⟩ := hrel
  by_cases hlt : k < n
  · obtain ⟨b, off, rfl, hb, hcell⟩ := HS.out.resolve_left (by omega)
    have hx := hcell k hlt
    have hIk := hI k hlt
    have KH := zh (fun w => ref13_Hit (P k).k (P k).a.1 (P k).a.2.1 (P k).a.2.2 (P k).b.1 (P k).b.2.1 (P k).b.2.2 (P k).c.1 (P k).c.2.1 (P k).c.2.2 (P k).r (P k).m k o1 o2 o3 d1 d2 d3 fr w hIk (by unfold I64; omega) ho hd hf)
    have hU := fun h => flat_hits_next P k (o1, o2, o3) (d1, d2, d3) fr h
    have hV := fun h => flat_hits_same P k (o1, o2, o3) (d1, d2, d3) fr h
    have hlen := hUp_len P (o1, o2, o3) (d1, d2, d3) fr k
    have x0 : wr.cell? ⟨b, off + k * 12 + 0, none⟩ = some (.int .i64 (P k).k) := (BO.cell (p := ⟨b, off + k * 12 + 0, none⟩) hb).trans (hx 0 (by omega))
    have x1 : wr.cell? ⟨b, off + k * 12 + 1, none⟩ = some (.int .i64 (P k).a.1) := (BO.cell (p := ⟨b, off + k * 12 + 1, none⟩) hb).trans (hx 1 (by omega))
    have x2 : wr.cell? ⟨b, off + k * 12 + 2, none⟩ = some (.int .i64 (P k).a.2.1) := (BO.cell (p := ⟨b, off + k * 12 + 2, none⟩) hb).trans (hx 2 (by omega))
    have x3 : wr.cell? ⟨b, off + k * 12 + 3, none⟩ = some (.int .i64 (P k).a.2.2) := (BO.cell (p := ⟨b, off + k * 12 + 3, none⟩) hb).trans (hx 3 (by omega))
    have x4 : wr.cell? ⟨b, off + k * 12 + 4, none⟩ = some (.int .i64 (P k).b.1) := (BO.cell (p := ⟨b, off + k * 12 + 4, none⟩) hb).trans (hx 4 (by omega))
    have x5 : wr.cell? ⟨b, off + k * 12 + 5, none⟩ = some (.int .i64 (P k).b.2.1) := (BO.cell (p := ⟨b, off + k * 12 + 5, none⟩) hb).trans (hx 5 (by omega))
    have x6 : wr.cell? ⟨b, off + k * 12 + 6, none⟩ = some (.int .i64 (P k).b.2.2) := (BO.cell (p := ⟨b, off + k * 12 + 6, none⟩) hb).trans (hx 6 (by omega))
    have x7 : wr.cell? ⟨b, off + k * 12 + 7, none⟩ = some (.int .i64 (P k).c.1) := (BO.cell (p := ⟨b, off + k * 12 + 7, none⟩) hb).trans (hx 7 (by omega))
    have x8 : wr.cell? ⟨b, off + k * 12 + 8, none⟩ = some (.int .i64 (P k).c.2.1) := (BO.cell (p := ⟨b, off + k * 12 + 8, none⟩) hb).trans (hx 8 (by omega))
    have x9 : wr.cell? ⟨b, off + k * 12 + 9, none⟩ = some (.int .i64 (P k).c.2.2) := (BO.cell (p := ⟨b, off + k * 12 + 9, none⟩) hb).trans (hx 9 (by omega))
    have x10 : wr.cell? ⟨b, off + k * 12 + 10, none⟩ = some (.int .i64 (P k).r) := (BO.cell (p := ⟨b, off + k * 12 + 10, none⟩) hb).trans (hx 10 (by omega))
    have x11 : wr.cell? ⟨b, off + k * 12 + 11, none⟩ = some (.int .i64 (P k).m) := (BO.cell (p := ⟨b, off + k * 12 + 11, none⟩) hb).trans (hx 11 (by omega))
    have hb := zl hb BO.size
    have B1 : Below wr.heap.size wr wr := Below.refl _ _
    obtain ⟨l1, e1⟩ := nmd (hUp P (k + 1) (o1, o2, o3) (d1, d2, d3) fr)
    obtain ⟨l0, e0⟩ := nmd (hUp P k (o1, o2, o3) (d1, d2, d3) fr)
    rw [← e0] at hU hV hlen hown
    rw [← e1] at hU hV
    have HE := zh e1
    clear e0 e1
    change Hid (∀ w, Calls prog 57 _ w fun en w' => en = .returned (.tuple #[.agg #[(pHit (P k) k (o1, o2, o3) (d1, d2, d3) fr).1.1, (pHit (P k) k (o1, o2, o3) (d1, d2, d3) fr).1.2], .bool (pHit (P k) k (o1, o2, o3) (d1, d2, d3) fr).2]) ∧ Below w.heap.size w w') at KH
    generalize pHit (P k) k (o1, o2, o3) (d1, d2, d3) fr = R at *
    generalize P k = pk at *
    obtain ⟨kk, ⟨a1, a2, a3⟩, ⟨b1, b2, b3⟩, ⟨c1, c2, c3⟩, r, m⟩ := pk
    obtain ⟨⟨rn, rd⟩, ok⟩ := R
    dsimp only at KH hU hV x0 x1 x2 x3 x4 x5 x6 x7 x8 x9 x10 x11
    have HU := zh hU
    have HV := zh hV
    have HOWN := zh hown
    clear hx hIk hU hV hcell hI hown
    cases ok with
    | false =>
     have cy := bwc7 ky
     have ce0 : ∀ p : BW wr, p.w.cell? ⟨b, off + k * 12, none⟩ = some (.int .i64 kk) := bwB B1 x0 hb
     have ce1 := bwB B1 x1 hb
     have ce2 := bwB B1 x2 hb
     have ce3 := bwB B1 x3 hb
     have ce4 := bwB B1 x4 hb
     have ce5 := bwB B1 x5 hb
     have ce6 := bwB B1 x6 hb
     have ce7 := bwB B1 x7 hb
     have ce8 := bwB B1 x8 hb
     have ce9 := bwB B1 x9 hb
     have ce10 := bwB B1 x10 hb
     have ce11 := bwB B1 x11 hb
     obtain ⟨p1, hp1⟩ := bwx wr
     rw [← hp1]
     clear hp1
     go_upto_region 5 with (fail)
     refine z1c 9 11 24 (by kernel_rfl) (by kernel_rfl) rfl rfl rfl (fun _ _ _ _ h => h) ?_
     refine z0w (t := 28) (zs := #[.int .i64 0, .int .i64 0]) 11 10 7 33 (by kernel_rfl) (by kernel_rfl) (by kernel_rfl) (by kernel_rfl) rfl ?_ ?_
     · intro ev wx
       simp [execOp, go_sem]
     apply Exists.intro
     refine ⟨?_, ?_⟩
     · intro wb' hwb'
       obtain ⟨dy0, dy1, dy2, dy3, dy4, dy5, dy6⟩ := bwc7 (ky.below hwb')
       have de0 : ∀ q : BW wb', q.w.cell? ⟨b, off + k * 12, none⟩ = some (.int .i64 kk) := bwC hwb' B1 x0 hb
       have de1 := bwC hwb' B1 x1 hb
       have de2 := bwC hwb' B1 x2 hb
       have de3 := bwC hwb' B1 x3 hb
       have de4 := bwC hwb' B1 x4 hb
       have de5 := bwC hwb' B1 x5 hb
       have de6 := bwC hwb' B1 x6 hb
       have de7 := bwC hwb' B1 x7 hb
       have de8 := bwC hwb' B1 x8 hb
       have de9 := bwC hwb' B1 x9 hb
       have de10 := bwC hwb' B1 x10 hb
       have de11 := bwC hwb' B1 x11 hb
       simp only [edgeAt, maskAt, List.take_succ_cons, List.take_zero]
       repeat (go_big_quiet_step ((go_at_call 57; (with_reducible exact z02 KH.out _))))
       refine wpQuiet_nil ?_
       exact rfl
     intro W2 gt hW hg kt
     have B2 : Below wr.heap.size wr W2 := B1.trans (hW.mono B1.size)
     have ot : wr.heap.size ≤ gt := Nat.le_trans B1.size hg
     have l_t : w.heap.size < gt := zl ky.lt hg
     have ky := ky.below hW
     clear hW hg B1
     clear cy ce0 ce1 ce2 ce3 ce4 ce5 ce6 ce7 ce8 ce9 ce10 ce11
     simp only [edgeAt, List.drop_succ_cons, List.drop_zero, Act.put, List.setIfInBounds_toArray, List.set_cons_zero, List.set_cons_succ]
     have cy := bwc7 ky
     have ct := bwc2 kt
     have ft := bwf2 kt
     have ce0 : ∀ p : BW W2, p.w.cell? ⟨b, off + k * 12, none⟩ = some (.int .i64 kk) := bwB B2 x0 hb
     have ce1 := bwB B2 x1 hb
     have ce2 := bwB B2 x2 hb
     have ce3 := bwB B2 x3 hb
     have ce4 := bwB B2 x4 hb
     have ce5 := bwB B2 x5 hb
     have ce6 := bwB B2 x6 hb
     have ce7 := bwB B2 x7 hb
     have ce8 := bwB B2 x8 hb
     have ce9 := bwB B2 x9 hb
     have ce10 := bwB B2 x10 hb
     have ce11 := bwB B2 x11 hb
     obtain ⟨p2, hp2⟩ := bwx W2
     rw [← hp2]
     clear hp2
     go_upto_region 6 with (fail)
     obtain ⟨W3, hW3⟩ : ∃ W, W = (p2.w.setCell ⟨gt, 0, none⟩ (.int .i64 rn)).setCell ⟨gt, 1, none⟩ (.int .i64 rd) := ⟨_, rfl⟩
     have B3 : Below wr.heap.size wr W3 := by rw [hW3]; exact blp2 (z00 B2 p2) (by omega)
     have ky := bkoe2 hW3 (ky.below p2.h) (by omega)
     have kt := bkpe2 hW3 (kt.below p2.h)
     rw [← hW3]
     clear hW3
     clear B2
     clear cy ct ft ce0 ce1 ce2 ce3 ce4 ce5 ce6 ce7 ce8 ce9 ce10 ce11
     have cy := bwc7 ky
     have ct := bwc2 kt
     have ce0 : ∀ p : BW W3, p.w.cell? ⟨b, off + k * 12, none⟩ = some (.int .i64 kk) := bwB B3 x0 hb
     have ce1 := bwB B3 x1 hb
     have ce2 := bwB B3 x2 hb
     have ce3 := bwB B3 x3 hb
     have ce4 := bwB B3 x4 hb
     have ce5 := bwB B3 x5 hb
     have ce6 := bwB B3 x6 hb
     have ce7 := bwB B3 x7 hb
     have ce8 := bwB B3 x8 hb
     have ce9 := bwB B3 x9 hb
     have ce10 := bwB B3 x10 hb
     have ce11 := bwB B3 x11 hb
     obtain ⟨p3, hp3⟩ := bwx W3
     rw [← hp3]
     clear hp3
     go_wp2
     go_roundw
     case rel => exact ⟨k + 1, by omega, by go_num, (by rw [← HE.out, HV.out (by simp)]; exact z07 HOWN.out (z00 B3 p3)), ky.below p3.h, BO.trans ((z00 B3 p3).mono BO.size)⟩
     case measure => simp [intOf]; omega
    | true =>
     have cy := bwc7 ky
     have ce0 : ∀ p : BW wr, p.w.cell? ⟨b, off + k * 12, none⟩ = some (.int .i64 kk) := bwB B1 x0 hb
     have ce1 := bwB B1 x1 hb
     have ce2 := bwB B1 x2 hb
     have ce3 := bwB B1 x3 hb
     have ce4 := bwB B1 x4 hb
     have ce5 := bwB B1 x5 hb
     have ce6 := bwB B1 x6 hb
     have ce7 := bwB B1 x7 hb
     have ce8 := bwB B1 x8 hb
     have ce9 := bwB B1 x9 hb
     have ce10 := bwB B1 x10 hb
     have ce11 := bwB B1 x11 hb
     obtain ⟨p1, hp1⟩ := bwx wr
     rw [← hp1]
     clear hp1
     go_upto_region 5 with (fail)
     refine z1c 9 11 24 (by kernel_rfl) (by kernel_rfl) rfl rfl rfl (fun _ _ _ _ h => h) ?_
     refine z0w (t := 28) (zs := #[.int .i64 0, .int .i64 0]) 11 10 7 33 (by kernel_rfl) (by kernel_rfl) (by kernel_rfl) (by kernel_rfl) rfl ?_ ?_
     · intro ev wx
       simp [execOp, go_sem]
     apply Exists.intro
     refine ⟨?_, ?_⟩
     · intro wb' hwb'
       obtain ⟨dy0, dy1, dy2, dy3, dy4, dy5, dy6⟩ := bwc7 (ky.below hwb')
       have de0 : ∀ q : BW wb', q.w.cell? ⟨b, off + k * 12, none⟩ = some (.int .i64 kk) := bwC hwb' B1 x0 hb
       have de1 := bwC hwb' B1 x1 hb
       have de2 := bwC hwb' B1 x2 hb
       have de3 := bwC hwb' B1 x3 hb
       have de4 := bwC hwb' B1 x4 hb
       have de5 := bwC hwb' B1 x5 hb
       have de6 := bwC hwb' B1 x6 hb
       have de7 := bwC hwb' B1 x7 hb
       have de8 := bwC hwb' B1 x8 hb
       have de9 := bwC hwb' B1 x9 hb
       have de10 := bwC hwb' B1 x10 hb
       have de11 := bwC hwb' B1 x11 hb
       simp only [edgeAt, maskAt, List.take_succ_cons, List.take_zero]
       repeat (go_big_quiet_step ((go_at_call 57; (with_reducible exact z02 KH.out _))))
       refine wpQuiet_nil ?_
       exact rfl
     intro W2 gt hW hg kt
     have B2 : Below wr.heap.size wr W2 := B1.trans (hW.mono B1.size)
     have ot : wr.heap.size ≤ gt := Nat.le_trans B1.size hg
     have l_t : w.heap.size < gt := zl ky.lt hg
     have ky := ky.below hW
     clear hW hg B1
     clear cy ce0 ce1 ce2 ce3 ce4 ce5 ce6 ce7 ce8 ce9 ce10 ce11
     simp only [edgeAt, List.drop_succ_cons, List.drop_zero, Act.put, List.setIfInBounds_toArray, List.set_cons_zero, List.set_cons_succ]
     have cy := bwc7 ky
     have ct := bwc2 kt
     have ft := bwf2 kt
     have ce0 : ∀ p : BW W2, p.w.cell? ⟨b, off + k * 12, none⟩ = some (.int .i64 kk) := bwB B2 x0 hb
     have ce1 := bwB B2 x1 hb
     have ce2 := bwB B2 x2 hb
     have ce3 := bwB B2 x3 hb
     have ce4 := bwB B2 x4 hb
     have ce5 := bwB B2 x5 hb
     have ce6 := bwB B2 x6 hb
     have ce7 := bwB B2 x7 hb
     have ce8 := bwB B2 x8 hb
     have ce9 := bwB B2 x9 hb
     have ce10 := bwB B2 x10 hb
     have ce11 := bwB B2 x11 hb
     obtain ⟨p2, hp2⟩ := bwx W2
     rw [← hp2]
     clear hp2
     go_upto_region 6 with (fail)
     obtain ⟨W3, hW3⟩ : ∃ W, W = (p2.w.setCell ⟨gt, 0, none⟩ (.int .i64 rn)).setCell ⟨gt, 1, none⟩ (.int .i64 rd) := ⟨_, rfl⟩
     have B3 : Below wr.heap.size wr W3 := by rw [hW3]; exact blp2 (z00 B2 p2) (by omega)
     have ky := bkoe2 hW3 (ky.below p2.h) (by omega)
     have kt := bkpe2 hW3 (kt.below p2.h)
     rw [← hW3]
     clear hW3
     clear B2
     clear cy ct ft ce0 ce1 ce2 ce3 ce4 ce5 ce6 ce7 ce8 ce9 ce10 ce11
     have cy := bwc7 ky
     have ct := bwc2 kt
     have ce0 : ∀ p : BW W3, p.w.cell? ⟨b, off + k * 12, none⟩ = some (.int .i64 kk) := bwB B3 x0 hb
     have ce1 := bwB B3 x1 hb
     have ce2 := bwB B3 x2 hb
     have ce3 := bwB B3 x3 hb
     have ce4 := bwB B3 x4 hb
     have ce5 := bwB B3 x5 hb
     have ce6 := bwB B3 x6 hb
     have ce7 := bwB B3 x7 hb
     have ce8 := bwB B3 x8 hb
     have ce9 := bwB B3 x9 hb
     have ce10 := bwB B3 x10 hb
     have ce11 := bwB B3 x11 hb
     obtain ⟨p3, hp3⟩ := bwx W3
     rw [← hp3]
     clear hp3
     have hown := z07 HOWN.out (z00 B3 p3)
     have hbase : w.heap.size + 1 ≤ p3.w.heap.size := (ky.below p3.h).lt
     go_wp2_with (at_builtin; refine wpList_append_own _ rfl _ _ 74 rfl (w.heap.size + 1) 42 i0 (.agg #[.int .i64 0, .int .i64 0, .int .i64 0]) 3 24 Tryz.underlying74 hi hz0 hz1 hz2 rfl (by decide) _ _ _ rfl (hown.alloc _) ⟨p3.w.heap.size, 0, none⟩ 1 1 [.int .i64 k, .int .i64 rn, .int .i64 rd] rfl rfl ?g1 ?g2 ?g3 ?g4 ?g5 ?_)
     case g2 => first | exact ⟨rfl, rfl, rfl⟩ | (intro u hu; simp only [List.mem_cons, List.not_mem_nil, or_false] at hu; rcases hu with rfl | rfl | rfl <;> rfl)
     case g3 => unfold maxLen; omega
     case g4 => omega
     case g5 => first | omega | (simp; omega)
     intro v' w1 hown' hgrow hne
     have hB1 : Below w.heap.size w w1 := ((BO.trans ((z00 B3 p3).mono BO.size)).alloc (by omega) _).grown hgrow (by simp; omega) (fun j ej => by have := (hown.lt j ej).1; omega)
     have ky1 : Bk w1 w.heap.size 26 #[o1, o2, o3, d1, d2, d3, fr] := Bk.grown ((ky.below p3.h).alloc _) hgrow (fun e => by have := (hown.lt _ e.symm).1; omega)
     have HO : Hid (w1.ownsRow (w.heap.size + 1) 42 3 v' l1.length (l1.flatMap hcells)) := zh (by rw [(HU.out (by simp)).1, (HU.out (by simp)).2]; exact hown')
     clear hown' hgrow hne hown
     go_wp2
     go_roundw
     case rel => exact ⟨k + 1, by omega, by go_num, (by rw [← HE.out]; exact HO.out), ky1, hB1⟩
     case measure => simp [intOf]; omega
  · obtain rfl : k = n := by omega
    go_wp2
    go_ret
    exact ⟨_, rfl, z1f hown (by omega), BO⟩
end
end Go.Proofs.YtbmpmjdlaahekaaGreat
