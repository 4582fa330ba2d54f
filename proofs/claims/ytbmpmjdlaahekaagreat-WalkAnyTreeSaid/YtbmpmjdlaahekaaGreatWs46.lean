/- The reference's grow. -/
import Derived.Test.YtbmpmjdlaahekaaGreatWs45
set_option maxRecDepth 100000
set_option maxHeartbeats 8000000
set_option linter.unusedVariables false
set_option linter.unusedSimpArgs false
open Go.Proofs.Tryz
namespace Go.Proofs.YtbmpmjdlaahekaaGreat
section
open Go.RowKit Go.Proofs.Sky
theorem rnode_info16 : (Tryz.prog.info? 63).map (fun i => (i.zero, i.size, i.bytes)) = some (some (.agg #[.int .i64 0, .int .i64 0, .int .i64 0, .int .i64 0, .int .i64 0, .int .i64 0, .int .i64 0, .int .i64 0, .int .i64 0]), 9, 72) := by kernel_rfl
theorem ints_cells16 {w : World} {B g m cw : Nat} {l : List Nat} (h : Ints w B (.slice (some ⟨g, 0, none⟩) m cw) l) (j : Nat) (k : Nat) (hk : l[j]? = some k) : w.cell? ⟨g, j, none⟩ = some (.int .i64 (k : Int)) := by
 have e := World.ownsRow.cells h (g := g) rfl j (.int .i64 (k : Int)) (by simp [hk])
 have hadd : (⟨g, 0, none⟩ : Addr).add j = ⟨g, j, none⟩ := by unfold Addr.add; split <;> simp_all
 rw [hadd] at e
 exact e
theorem set_last16 {α : Type} (l : List α) (x y : α) : (l ++ [x]).set l.length y = l ++ [y] := by
 rw [List.set_append_right _ _ (Nat.le_refl _), Nat.sub_self]; rfl
theorem grow_leaf1 (gw m cw N cu D co n lc : Nat) (au ao lp : Option Addr) (wl : List Nat) (ns : List Nd) (od : List Nat) (bx : List Bx) (v1 v2 v3 v4 v5 v6 s1 s2 s3 s4 : Int) (ok : Bool) (w0 w : World) (hm : m = wl.length) (hN : N = ns.length) (hD : D = od.length) (h0 : 0 < m) (hb1 : N + m ≤ 65536) (hb2 : D + m ≤ 65536) (hB : Below w0.heap.size w0 w) (hn : RNodRow w w0.heap.size (.slice au N cu) ns) (ho : Ints w w0.heap.size (.slice ao D co) od) (hi : Ints w w0.heap.size (.slice (some ⟨gw, 0, none⟩) m cw) wl) (hap : Apart2 (.slice (some ⟨gw, 0, none⟩) m cw) (.slice ao D co)) (h2 : m ≤ 2) (KBX : Hid (∀ (Y : World), Below w.heap.size w Y → Calls prog 40 #[.slice lp n lc, .slice (some ⟨gw, 0, none⟩) m cw] Y fun e w' => ∃ ab cb, e = .returned (.slice ab m cb) ∧ RboxRow w' Y.heap.size (.slice ab m cb) bx ∧ Below Y.heap.size Y w')) (KAL : Hid (∀ (Y : World) (ab : Option Addr) (cb : Nat), RboxRow Y w0.heap.size (.slice ab m cb) bx → Rt prog 39 #[.slice ab m cb] Y (.agg #[v1, v2, v3, v4, v5, v6]))) (KBS : Hid (∀ (Y : World) (ab : Option Addr) (cb : Nat), RboxRow Y w0.heap.size (.slice ab m cb) bx → Rt prog 49 #[.slice ab m cb] Y (.tuple #[.agg #[s1, s2, s3, s4], .bool ok]))) :
  Calls prog 25 #[.agg #[.slice au N cu, .slice ao D co], .slice lp n lc, .slice (some ⟨gw, 0, none⟩) m cw] w fun e w' => ∃ u v, e = .returned (.agg #[u, v]) ∧ RSt w (Value.slice au N cu).ownBlock (Value.slice ao D co).ownBlock w' w0.heap.size u v (ns ++ [((((v1, v2, v3), (v4, v5, v6)), (D : Int), (m : Int), 0) : Nd)]) (od ++ wl) [] [] := by
 have t1 : decide ((m : Int) ≤ 2) = true := zt (by omega)
 clear h2
 obtain ⟨i0, hi0, hz0, hz1, hz2⟩ := info_parts rnode_info16
 obtain ⟨i1, hi1, hy0, hy1, hy2⟩ := info_parts z1i
 have HM := zh hm
 have HN := zh hN
 have HD := zh hD
 have hst := RSt.start hn ho (I := [(.slice (some ⟨gw, 0, none⟩) m cw, wl)]) (by intro x hx; rw [List.mem_singleton] at hx; subst hx; exact ⟨hi, hap⟩)
 have l_t : w0.heap.size ≤ w.heap.size := hB.size
 clear hm hN hD hn ho hi hap
 go_enter func25, ntmps25
 go_upto_region 1 with (fail)
 refine wnm fun W1 hW1 => ?_
 obtain ⟨kt, k_r, Bx⟩ := st2 hW1
 have hst := rst_alloc hW1 (rst_alloc rfl hst)
 have B1 : Below w0.heap.size w0 W1 := hB.trans (Bx.mono hB.size)
 clear hW1
 have lr : w.heap.size < w.heap.size + 1 := by omega
 generalize w.heap.size + 1 = gr at *
 have ct := bwc2 kt
 have cr := bwc2 k_r
 refine bws fun p1 => ?_
 go_upto_region 3 with (go_at_call 40; (with_reducible refine (KBX.out _ (z00 Bx _)).mono ?_); rintro e w2 ⟨ab, cb, rfl, hub, hb2⟩; obtain ⟨q, rfl⟩ := z04 hb2)
 have hub : RboxRow q.w w0.heap.size (.slice ab m cb) bx := z1f hub (z00 B1 p1).size
 clear KBX Bx
 obtain ⟨W2, hW2⟩ : ∃ W, W = q.w := ⟨_, rfl⟩
 have B2 : Below w0.heap.size w0 W2 := by rw [hW2]; exact (z00 B1 q)
 have kt := kt.below q.h
 rw [← hW2] at kt
 have k_r := k_r.below q.h
 rw [← hW2] at k_r
 have hst := hst.below q.h
 rw [← hW2] at hst
 rw [← hW2] at hub
 rw [← hW2]
 clear hW2
 clear B1
 clear ct cr
 have hst := hst.addBox hub
 clear hub
 have KA := zh (fun (Y : World) (hY : Below W2.heap.size W2 Y) => KAL.out Y ab cb ((hst.box _ List.mem_cons_self).below hY))
 have ct := bwc2 kt
 have cr := bwc2 k_r
 refine bws fun p2 => ?_
 refine z1d (t := 63) (zs := #[v1, v2, v3, v4, v5, v6, .int .i64 0, .int .i64 0, .int .i64 0]) 6 5 24 85 [23] (fun g => .slice (some ⟨g, 0, none⟩) 1 1) (by kernel_rfl) (by kernel_rfl) (by kernel_rfl) (by kernel_rfl) rfl rfl ?_
 apply Exists.intro
 refine ⟨?_, ?_, ?_⟩
 · intro wb' hwb'
   obtain ⟨dt0, dt1⟩ := bwc2 (kt.below hwb')
   obtain ⟨dr0, dr1⟩ := bwc2 (k_r.below hwb')
   simp only [maskAt, List.take_succ_cons, List.take_zero]
   repeat (go_big_quiet_step ((go_at_call 39; (with_reducible exact (z0c KA.out hwb') _))))
   refine wpQuiet_nil ?_
   exact rfl
 · intro ax wx hp
   have e23 := hp 23 (by decide)
   clear hp
   simp only [Act.put, List.setIfInBounds_toArray, List.set_cons_zero, List.set_cons_succ, List.getElem?_toArray, List.getElem?_cons_succ, List.getElem?_cons_zero] at e23
   exact ⟨by simp [Region.wanted, yielded, e23], by simp [execOp, go_sem, Act.eval, e23]⟩
 intro W3 gnb hW hg knb
 have B3 : Below w0.heap.size w0 W3 := B2.trans (hW.mono B2.size)
 have onb : w0.heap.size ≤ gnb := Nat.le_trans B2.size hg
 have hst := hst.below hW
 have lnb : gr < gnb := zl k_r.lt hg
 have kt := kt.below hW
 have k_r := k_r.below hW
 clear hW hg B2
 clear ct cr
 simp only [List.drop_succ_cons, List.drop_zero, Act.put, List.setIfInBounds_toArray, List.set_cons_zero, List.set_cons_succ]
 clear KA
 have hsz := B3.size
 go_wp2_with (at_builtin; refine z06 rfl _ _ 37 rfl w0.heap.size 63 i0 _ 9 72 Tryz.underlying37 hi0 hz0 hz1 hz2 rfl (by decide) _ N (ns.flatMap ncells) rfl (by have h := hst.nod; unfold RNodRow at h; rw [← HN.out] at h; exact h) ⟨gnb, 0, none⟩ 1 1 (ncells (((v1, v2, v3), (v4, v5, v6)), 0, 0, 0)) rfl rfl ?g1 ?g2 ?g3 ?g4 ?g5 ?_)
 case g1 => exact cells_at15 knb
 case g2 => exact ncells_one _
 case g3 => unfold maxLen; omega
 case g4 => omega
 case g5 => omega
 intro vn w1 hown hgrow hat
 obtain ⟨gn, cn, rfl, hgnB, hgnl, hgnc⟩ := z1a hown (by omega)
 obtain ⟨n1, hn1⟩ := nmd (ns ++ [((((v1, v2, v3), (v4, v5, v6)), 0, 0, 0) : Nd)])
 have hl1 : n1.length = N + 1 := by rw [hn1, List.length_append, ← HN.out]; rfl
 have hgd : n1.getD N nd0 = ((((v1, v2, v3), (v4, v5, v6)), 0, 0, 0) : Nd) := by rw [hn1, HN.out]; simp
 have hrow : RNodRow w1 w0.heap.size (.slice (some ⟨gn, 0, none⟩) (N + 1) cn) n1 := by unfold RNodRow; rw [hl1, hn1, List.flatMap_append, List.flatMap_cons, List.flatMap_nil, List.append_nil]; exact hown
 have hs1 := hst.putNode hrow hgrow (by simpa using hat)
 have hb1 : Below w0.heap.size w0 w1 := B3.grown hgrow hsz (fun j ej => (World.ownsRow.lt hst.nod j ej).1)
 have kr1 := z0q hst.nod k_r (by decide) hgrow
 have kt1 := z0q hst.nod kt (by decide) hgrow
 have HN1 := zh hn1
 have HGD := zh hgd
 have q0 := kt1.cell (i := 0) rfl
 have q1 := kt1.frozen 0
 clear hown hgrow hat hrow hst k_r kt knb hn1 hgd
 go_upto_region 4 with (fail)
 refine wnm fun W4 hW4 => ?_
 have B4 : Below w0.heap.size w0 W4 := by rw [hW4]; exact (hb1.setCell (p := ⟨w.heap.size, 0, none⟩) (by show w0.heap.size ≤ w.heap.size; omega) (.slice (some ⟨gn, 0, none⟩) (N + 1) cn))
 have hst := (RSt.setT (i := 0) (x := .slice (some ⟨gn, 0, none⟩) (N + 1) cn) hs1 kt1 (Nat.le_refl _) (by decide) (by decide) (by decide))
 rw [← hW4] at hst
 have kt : Bk W4 w.heap.size 39 #[.slice (some ⟨gn, 0, none⟩) (N + 1) cn, .slice ao D co] := by rw [hW4]; exact (kt1.set 0 (.slice (some ⟨gn, 0, none⟩) (N + 1) cn)).cast (by simp)
 have k_r : Bk W4 gr 39 #[.slice none 0 0, .slice none 0 0] := by rw [hW4]; exact (kr1.other (a := ⟨w.heap.size, 0, none⟩) (by show ¬ gr = w.heap.size; omega) (.slice (some ⟨gn, 0, none⟩) (N + 1) cn))
 clear hW4 hb1 hs1 kt1 kr1 q0 q1
 have ct := bwc2 kt
 have cr := bwc2 k_r
 refine bws fun p4 => ?_
 have KB := zh (fun (Y : World) (hY : Below W4.heap.size W4 Y) => KBS.out Y ab cb ((hst.box _ List.mem_cons_self).below hY))
 go_upto_region 5 with (go_at_call 49; (with_reducible refine (KB.out _ (BW.h _)).mono ?_); rintro e w2 ⟨rfl, hb2⟩; obtain ⟨q, rfl⟩ := z04 hb2)
 clear KB KBS
 refine wnm fun W5 hW5 => ?_
 have B5 := bwA q hW5 B4
 have ls : gr < q.w.heap.size := (k_r.below q.h).lt
 have os : w0.heap.size ≤ q.w.heap.size := (z00 B4 q).size
 have kt := bka hW5 (kt.below q.h)
 have k_r := bka hW5 (k_r.below q.h)
 have hst := rst_alloc hW5 (hst.below q.h)
 have ks := bkn hW5
 clear hW5
 clear B4
 clear ct cr
 generalize q.w.heap.size = gs at *
 have ct := bwc2 kt
 have cr := bwc2 k_r
 have cs := bwc4 ks
 refine bws fun p5 => ?_
 go_upto_region 6 with (fail)
 have KA := zh (fun (Y : World) (hY : Below W5.heap.size W5 Y) => KAL.out Y ab cb ((hst.box _ List.mem_cons_self).below hY))
 have hnod : World.ownsRow W5 w0.heap.size 63 9 (.slice (some ⟨gn, 0, none⟩) (N + 1) cn) (N + 1) (n1.flatMap ncells) := by have h := hst.nod; unfold RNodRow at h; rw [hl1] at h; exact h
 have z0 : ∀ p : BW W5, p.w.frozen? ⟨gn, N * 9, none⟩ = false := fun p => World.ownsRow.frozenAt (z07 hnod p.h) _
 have cx0 : ∀ p : BW W5, p.w.cell? ⟨gn, N * 9, none⟩ = some (.int .i64 v1) := z01 (rn_at (q := 0) hst.nod hl1.symm (by omega) HGD.out (by omega))
 have z1 : ∀ p : BW W5, p.w.frozen? ⟨gn, N * 9 + 1, none⟩ = false := fun p => World.ownsRow.frozenAt (z07 hnod p.h) _
 have cx1 : ∀ p : BW W5, p.w.cell? ⟨gn, N * 9 + 1, none⟩ = some (.int .i64 v2) := z01 (rn_at (q := 1) hst.nod hl1.symm (by omega) HGD.out (by omega))
 have z2 : ∀ p : BW W5, p.w.frozen? ⟨gn, N * 9 + 2, none⟩ = false := fun p => World.ownsRow.frozenAt (z07 hnod p.h) _
 have cx2 : ∀ p : BW W5, p.w.cell? ⟨gn, N * 9 + 2, none⟩ = some (.int .i64 v3) := z01 (rn_at (q := 2) hst.nod hl1.symm (by omega) HGD.out (by omega))
 have z3 : ∀ p : BW W5, p.w.frozen? ⟨gn, N * 9 + 3, none⟩ = false := fun p => World.ownsRow.frozenAt (z07 hnod p.h) _
 have cx3 : ∀ p : BW W5, p.w.cell? ⟨gn, N * 9 + 3, none⟩ = some (.int .i64 v4) := z01 (rn_at (q := 3) hst.nod hl1.symm (by omega) HGD.out (by omega))
 have z4 : ∀ p : BW W5, p.w.frozen? ⟨gn, N * 9 + 4, none⟩ = false := fun p => World.ownsRow.frozenAt (z07 hnod p.h) _
 have cx4 : ∀ p : BW W5, p.w.cell? ⟨gn, N * 9 + 4, none⟩ = some (.int .i64 v5) := z01 (rn_at (q := 4) hst.nod hl1.symm (by omega) HGD.out (by omega))
 have z5 : ∀ p : BW W5, p.w.frozen? ⟨gn, N * 9 + 5, none⟩ = false := fun p => World.ownsRow.frozenAt (z07 hnod p.h) _
 have cx5 : ∀ p : BW W5, p.w.cell? ⟨gn, N * 9 + 5, none⟩ = some (.int .i64 v6) := z01 (rn_at (q := 5) hst.nod hl1.symm (by omega) HGD.out (by omega))
 have z6 : ∀ p : BW W5, p.w.frozen? ⟨gn, N * 9 + 6, none⟩ = false := fun p => World.ownsRow.frozenAt (z07 hnod p.h) _
 have cx6 : ∀ p : BW W5, p.w.cell? ⟨gn, N * 9 + 6, none⟩ = some (.int .i64 0) := z01 (rn_at (q := 6) hst.nod hl1.symm (by omega) HGD.out (by omega))
 have z7 : ∀ p : BW W5, p.w.frozen? ⟨gn, N * 9 + 7, none⟩ = false := fun p => World.ownsRow.frozenAt (z07 hnod p.h) _
 have cx7 : ∀ p : BW W5, p.w.cell? ⟨gn, N * 9 + 7, none⟩ = some (.int .i64 0) := z01 (rn_at (q := 7) hst.nod hl1.symm (by omega) HGD.out (by omega))
 have z8 : ∀ p : BW W5, p.w.frozen? ⟨gn, N * 9 + 8, none⟩ = false := fun p => World.ownsRow.frozenAt (z07 hnod p.h) _
 have cx8 : ∀ p : BW W5, p.w.cell? ⟨gn, N * 9 + 8, none⟩ = some (.int .i64 0) := z01 (rn_at (q := 8) hst.nod hl1.symm (by omega) HGD.out (by omega))
 refine z0h 12 (by kernel_rfl) (by kernel_rfl) (by kernel_rfl) ?_
 simp only [List.take_succ_cons, List.take_zero, List.drop_succ_cons, List.drop_zero]
 repeat (go_big_quiet_step ((go_at_call 39; (with_reducible exact (z0c KA.out (Below.refl _ _) _)))))
 refine wpQuiet_nil ?_
 intro _ hw'
 obtain ⟨q, rfl⟩ := hw'
 go_upto_region 7 with (fail)
 obtain ⟨W6, hW⟩ : ∃ W, W = ((((((((q.w.setCell ⟨gn, N * 9, none⟩ (.int .i64 v1)).setCell ⟨gn, N * 9 + 1, none⟩ (.int .i64 v2)).setCell ⟨gn, N * 9 + 2, none⟩ (.int .i64 v3)).setCell ⟨gn, N * 9 + 3, none⟩ (.int .i64 v4)).setCell ⟨gn, N * 9 + 4, none⟩ (.int .i64 v5)).setCell ⟨gn, N * 9 + 5, none⟩ (.int .i64 v6)).setCell ⟨gn, N * 9 + 6, none⟩ (.int .i64 (D : Int))).setCell ⟨gn, N * 9 + 7, none⟩ (.int .i64 (m : Int))).setCell ⟨gn, N * 9 + 8, none⟩ (.int .i64 0) := ⟨_, rfl⟩
 rw [← hW]
 have hW2 : W6 = q.w.setCells gn (N * 9) (ncells ((((v1, v2, v3), (v4, v5, v6)), (D : Int), (m : Int), 0) : Nd)) := by rw [hW]; rfl
 clear hW
 have hs0 := hst.below q.h
 rw [← hl1] at hs0
 obtain ⟨hs1, hgr⟩ := hs0.setNode ((((v1, v2, v3), (v4, v5, v6)), (D : Int), (m : Int), 0) : Nd) (k := N) (by omega)
 rw [hl1] at hs1
 rw [← hW2] at hs1 hgr
 have B6 : Below w0.heap.size w0 W6 := (z00 B5 q).grown hgr (z00 B5 q).size (fun j ej => by cases ej; exact hgnB)
 have k_t1 : Bk W6 w.heap.size 39 #[.slice (some ⟨gn, 0, none⟩) (N + 1) cn, .slice ao D co] := Bk.grown (kt.below q.h) hgr (fun e => z0e hs0.nod (kt.below q.h) (by decide) e.symm)
 have k_r1 : Bk W6 gr 39 #[.slice none 0 0, .slice none 0 0] := Bk.grown (k_r.below q.h) hgr (fun e => z0e hs0.nod (k_r.below q.h) (by decide) e.symm)
 have k_s1 : Bk W6 gs 90 #[s1, s2, s3, s4] := Bk.grown (ks.below q.h) hgr (fun e => z0e hs0.nod (ks.below q.h) (by decide) e.symm)
 clear hst hs0 hgr hW2 hnod KA kt k_r ks ct cr cs z0 z1 z2 z3 z4 z5 z6 z7 z8 cx0 cx1 cx2 cx3 cx4 cx5 cx6 cx7 cx8 B5
 have hst := hs1
 clear hs1
 have kt := k_t1
 clear k_t1
 have k_r := k_r1
 clear k_r1
 have ks := k_s1
 clear k_s1
 have hxI := (hst.int _ List.mem_cons_self).1
 have ct := bwc2 kt
 have cr := bwc2 k_r
 have cs := bwc4 ks
 refine bws fun p6 => ?_
 go_wp2_with (at_builtin; refine z06 rfl _ _ 33 rfl w0.heap.size 3 i1 (.int .i64 0) 1 8 Tryz.underlying33 hi1 hy0 hy1 hy2 rfl (by decide) _ D (od.map (fun k : Nat => Value.int .i64 (k : Int))) rfl (by have h := (hst.below (BW.h p6)).ord; unfold Ints at h; rw [← HD.out] at h; exact h) ⟨gw, 0, none⟩ m cw (wl.map (fun k : Nat => Value.int .i64 (k : Int))) rfl (by rw [List.length_map, Nat.mul_one, ← HM.out]) ?g1 ?g2 ?g3 ?g4 ?g5 ?_)
 case g1 => first | exact World.ownsRow.cells (hxI.below (BW.h p6)) rfl | exact ints_cells16 (hxI.below (BW.h p6))
 case g2 => first | (intro u hu; obtain ⟨k, _, rfl⟩ := List.mem_map.1 hu; rfl) | (intro u hu; rfl)
 case g3 => unfold maxLen; omega
 case g4 => omega
 case g5 => exact (z00 B6 p6).size
 intro vo w1 hown hgrow hat
 obtain ⟨ao2, co2, rfl⟩ := z0d hown
 have hst0 := hst.below (BW.h p6)
 have hrow : Ints w1 w0.heap.size (.slice ao2 (D + m) co2) (od ++ wl) := by unfold Ints; rw [List.length_append, ← HD.out, ← HM.out, List.map_append]; exact hown
 have hs1 := hst0.putOrd hrow hgrow (by simpa using hat)
 have hb1 : Below w0.heap.size w0 w1 := (z00 B6 p6).grown hgrow (z00 B6 p6).size (fun j ej => (World.ownsRow.lt hst0.ord j ej).1)
 have kr1 := z0q hst0.ord (k_r.below (BW.h p6)) (by decide) hgrow
 have kt1 := z0q hst0.ord (kt.below (BW.h p6)) (by decide) hgrow
 have ks1 := z0q hst0.ord (ks.below (BW.h p6)) (by decide) hgrow
 have q0 := kt1.cell (i := 1) rfl
 have q1 := kt1.frozen 1
 clear hown hgrow hat hrow hst hst0 hxI k_r kt ks
 clear ct cr cs
 go_upto_region 8 with (fail)
 refine wnm fun W7 hW7 => ?_
 have B7 : Below w0.heap.size w0 W7 := by rw [hW7]; exact (hb1.setCell (p := ⟨w.heap.size, 1, none⟩) (by show w0.heap.size ≤ w.heap.size; omega) (.slice ao2 (D + m) co2))
 have hst := (RSt.setT (i := 1) (x := .slice ao2 (D + m) co2) hs1 kt1 (Nat.le_refl _) (by decide) (by decide) (by decide))
 rw [← hW7] at hst
 have kt : Bk W7 w.heap.size 39 #[.slice (some ⟨gn, 0, none⟩) (N + 1) cn, .slice ao2 (D + m) co2] := by rw [hW7]; exact (kt1.set 1 (.slice ao2 (D + m) co2)).cast (by simp)
 have k_r : Bk W7 gr 39 #[.slice none 0 0, .slice none 0 0] := by rw [hW7]; exact (kr1.other (a := ⟨w.heap.size, 1, none⟩) (by show ¬ gr = w.heap.size; omega) (.slice ao2 (D + m) co2))
 have ks : Bk W7 gs 90 #[s1, s2, s3, s4] := by rw [hW7]; exact (ks1.other (a := ⟨w.heap.size, 1, none⟩) (by show ¬ gs = w.heap.size; omega) (.slice ao2 (D + m) co2))
 clear hW7 hb1 hs1 kt1 kr1 ks1 q0 q1
 have ct := bwc2 kt
 have cr := bwc2 k_r
 have fr := bwf2 k_r
 have cs := bwc4 ks
 refine bws fun p7 => ?_
 go_wp2
 have kq := k_r.below (BW.h p7)
 have hq := hst.below (BW.h p7)
 have hq1 := hq.setT (i := 0) (x := .slice (some ⟨gn, 0, none⟩) (N + 1) cn) kq (by omega) (by decide) (by decide) (by decide)
 have hq2 := (hq1.setT (i := 1) (x := .slice ao2 (D + m) co2) (kq.set 0 _) (by omega) (by decide) (by decide) (by decide)).bare
 have kr := bkp2 kq (.slice (some ⟨gn, 0, none⟩) (N + 1) cn) (.slice ao2 (D + m) co2)
 have rc := rwc2 kr
 have hE : (n1.set N ((((v1, v2, v3), (v4, v5, v6)), (D : Int), (m : Int), 0) : Nd)) = ns ++ [((((v1, v2, v3), (v4, v5, v6)), (D : Int), (m : Int), 0) : Nd)] := by rw [HN1.out, HN.out]; exact set_last16 _ _ _
 rw [hE] at hq2
 exact bodyPost_ret (v := .agg #[.slice (some ⟨gn, 0, none⟩) (N + 1) cn, .slice ao2 (D + m) co2]) (by simp [results, results25, go_sem, rc]) rfl ⟨_, _, rfl, hq2⟩
theorem grow_leaf2 (gw m cw N cu D co n lc : Nat) (au ao lp : Option Addr) (wl : List Nat) (ns : List Nd) (od : List Nat) (bx : List Bx) (v1 v2 v3 v4 v5 v6 s1 s2 s3 s4 : Int) (w0 w : World) (hm : m = wl.length) (hN : N = ns.length) (hD : D = od.length) (h0 : 0 < m) (hb1 : N + m ≤ 65536) (hb2 : D + m ≤ 65536) (hB : Below w0.heap.size w0 w) (hn : RNodRow w w0.heap.size (.slice au N cu) ns) (ho : Ints w w0.heap.size (.slice ao D co) od) (hi : Ints w w0.heap.size (.slice (some ⟨gw, 0, none⟩) m cw) wl) (hap : Apart2 (.slice (some ⟨gw, 0, none⟩) m cw) (.slice ao D co)) (h2 : ¬ m ≤ 2) (KBX : Hid (∀ (Y : World), Below w.heap.size w Y → Calls prog 40 #[.slice lp n lc, .slice (some ⟨gw, 0, none⟩) m cw] Y fun e w' => ∃ ab cb, e = .returned (.slice ab m cb) ∧ RboxRow w' Y.heap.size (.slice ab m cb) bx ∧ Below Y.heap.size Y w')) (KAL : Hid (∀ (Y : World) (ab : Option Addr) (cb : Nat), RboxRow Y w0.heap.size (.slice ab m cb) bx → Rt prog 39 #[.slice ab m cb] Y (.agg #[v1, v2, v3, v4, v5, v6]))) (KBS : Hid (∀ (Y : World) (ab : Option Addr) (cb : Nat), RboxRow Y w0.heap.size (.slice ab m cb) bx → Rt prog 49 #[.slice ab m cb] Y (.tuple #[.agg #[s1, s2, s3, s4], .bool false]))) :
  Calls prog 25 #[.agg #[.slice au N cu, .slice ao D co], .slice lp n lc, .slice (some ⟨gw, 0, none⟩) m cw] w fun e w' => ∃ u v, e = .returned (.agg #[u, v]) ∧ RSt w (Value.slice au N cu).ownBlock (Value.slice ao D co).ownBlock w' w0.heap.size u v (ns ++ [((((v1, v2, v3), (v4, v5, v6)), (D : Int), (m : Int), 0) : Nd)]) (od ++ wl) [] [] := by
 have t1 : decide ((m : Int) ≤ 2) = false := zf (by omega)
 clear h2
 obtain ⟨i0, hi0, hz0, hz1, hz2⟩ := info_parts rnode_info16
 obtain ⟨i1, hi1, hy0, hy1, hy2⟩ := info_parts z1i
 have HM := zh hm
 have HN := zh hN
 have HD := zh hD
 have hst := RSt.start hn ho (I := [(.slice (some ⟨gw, 0, none⟩) m cw, wl)]) (by intro x hx; rw [List.mem_singleton] at hx; subst hx; exact ⟨hi, hap⟩)
 have l_t : w0.heap.size ≤ w.heap.size := hB.size
 clear hm hN hD hn ho hi hap
 go_enter func25, ntmps25
 go_upto_region 1 with (fail)
 refine wnm fun W1 hW1 => ?_
 obtain ⟨kt, k_r, Bx⟩ := st2 hW1
 have hst := rst_alloc hW1 (rst_alloc rfl hst)
 have B1 : Below w0.heap.size w0 W1 := hB.trans (Bx.mono hB.size)
 clear hW1
 have lr : w.heap.size < w.heap.size + 1 := by omega
 generalize w.heap.size + 1 = gr at *
 have ct := bwc2 kt
 have cr := bwc2 k_r
 refine bws fun p1 => ?_
 go_upto_region 3 with (go_at_call 40; (with_reducible refine (KBX.out _ (z00 Bx _)).mono ?_); rintro e w2 ⟨ab, cb, rfl, hub, hb2⟩; obtain ⟨q, rfl⟩ := z04 hb2)
 have hub : RboxRow q.w w0.heap.size (.slice ab m cb) bx := z1f hub (z00 B1 p1).size
 clear KBX Bx
 obtain ⟨W2, hW2⟩ : ∃ W, W = q.w := ⟨_, rfl⟩
 have B2 : Below w0.heap.size w0 W2 := by rw [hW2]; exact (z00 B1 q)
 have kt := kt.below q.h
 rw [← hW2] at kt
 have k_r := k_r.below q.h
 rw [← hW2] at k_r
 have hst := hst.below q.h
 rw [← hW2] at hst
 rw [← hW2] at hub
 rw [← hW2]
 clear hW2
 clear B1
 clear ct cr
 have hst := hst.addBox hub
 clear hub
 have KA := zh (fun (Y : World) (hY : Below W2.heap.size W2 Y) => KAL.out Y ab cb ((hst.box _ List.mem_cons_self).below hY))
 have ct := bwc2 kt
 have cr := bwc2 k_r
 refine bws fun p2 => ?_
 refine z1d (t := 63) (zs := #[v1, v2, v3, v4, v5, v6, .int .i64 0, .int .i64 0, .int .i64 0]) 6 5 24 85 [23] (fun g => .slice (some ⟨g, 0, none⟩) 1 1) (by kernel_rfl) (by kernel_rfl) (by kernel_rfl) (by kernel_rfl) rfl rfl ?_
 apply Exists.intro
 refine ⟨?_, ?_, ?_⟩
 · intro wb' hwb'
   obtain ⟨dt0, dt1⟩ := bwc2 (kt.below hwb')
   obtain ⟨dr0, dr1⟩ := bwc2 (k_r.below hwb')
   simp only [maskAt, List.take_succ_cons, List.take_zero]
   repeat (go_big_quiet_step ((go_at_call 39; (with_reducible exact (z0c KA.out hwb') _))))
   refine wpQuiet_nil ?_
   exact rfl
 · intro ax wx hp
   have e23 := hp 23 (by decide)
   clear hp
   simp only [Act.put, List.setIfInBounds_toArray, List.set_cons_zero, List.set_cons_succ, List.getElem?_toArray, List.getElem?_cons_succ, List.getElem?_cons_zero] at e23
   exact ⟨by simp [Region.wanted, yielded, e23], by simp [execOp, go_sem, Act.eval, e23]⟩
 intro W3 gnb hW hg knb
 have B3 : Below w0.heap.size w0 W3 := B2.trans (hW.mono B2.size)
 have onb : w0.heap.size ≤ gnb := Nat.le_trans B2.size hg
 have hst := hst.below hW
 have lnb : gr < gnb := zl k_r.lt hg
 have kt := kt.below hW
 have k_r := k_r.below hW
 clear hW hg B2
 clear ct cr
 simp only [List.drop_succ_cons, List.drop_zero, Act.put, List.setIfInBounds_toArray, List.set_cons_zero, List.set_cons_succ]
 clear KA
 have hsz := B3.size
 go_wp2_with (at_builtin; refine z06 rfl _ _ 37 rfl w0.heap.size 63 i0 _ 9 72 Tryz.underlying37 hi0 hz0 hz1 hz2 rfl (by decide) _ N (ns.flatMap ncells) rfl (by have h := hst.nod; unfold RNodRow at h; rw [← HN.out] at h; exact h) ⟨gnb, 0, none⟩ 1 1 (ncells (((v1, v2, v3), (v4, v5, v6)), 0, 0, 0)) rfl rfl ?g1 ?g2 ?g3 ?g4 ?g5 ?_)
 case g1 => exact cells_at15 knb
 case g2 => exact ncells_one _
 case g3 => unfold maxLen; omega
 case g4 => omega
 case g5 => omega
 intro vn w1 hown hgrow hat
 obtain ⟨gn, cn, rfl, hgnB, hgnl, hgnc⟩ := z1a hown (by omega)
 obtain ⟨n1, hn1⟩ := nmd (ns ++ [((((v1, v2, v3), (v4, v5, v6)), 0, 0, 0) : Nd)])
 have hl1 : n1.length = N + 1 := by rw [hn1, List.length_append, ← HN.out]; rfl
 have hgd : n1.getD N nd0 = ((((v1, v2, v3), (v4, v5, v6)), 0, 0, 0) : Nd) := by rw [hn1, HN.out]; simp
 have hrow : RNodRow w1 w0.heap.size (.slice (some ⟨gn, 0, none⟩) (N + 1) cn) n1 := by unfold RNodRow; rw [hl1, hn1, List.flatMap_append, List.flatMap_cons, List.flatMap_nil, List.append_nil]; exact hown
 have hs1 := hst.putNode hrow hgrow (by simpa using hat)
 have hb1 : Below w0.heap.size w0 w1 := B3.grown hgrow hsz (fun j ej => (World.ownsRow.lt hst.nod j ej).1)
 have kr1 := z0q hst.nod k_r (by decide) hgrow
 have kt1 := z0q hst.nod kt (by decide) hgrow
 have HN1 := zh hn1
 have HGD := zh hgd
 have q0 := kt1.cell (i := 0) rfl
 have q1 := kt1.frozen 0
 clear hown hgrow hat hrow hst k_r kt knb hn1 hgd
 go_upto_region 4 with (fail)
 refine wnm fun W4 hW4 => ?_
 have B4 : Below w0.heap.size w0 W4 := by rw [hW4]; exact (hb1.setCell (p := ⟨w.heap.size, 0, none⟩) (by show w0.heap.size ≤ w.heap.size; omega) (.slice (some ⟨gn, 0, none⟩) (N + 1) cn))
 have hst := (RSt.setT (i := 0) (x := .slice (some ⟨gn, 0, none⟩) (N + 1) cn) hs1 kt1 (Nat.le_refl _) (by decide) (by decide) (by decide))
 rw [← hW4] at hst
 have kt : Bk W4 w.heap.size 39 #[.slice (some ⟨gn, 0, none⟩) (N + 1) cn, .slice ao D co] := by rw [hW4]; exact (kt1.set 0 (.slice (some ⟨gn, 0, none⟩) (N + 1) cn)).cast (by simp)
 have k_r : Bk W4 gr 39 #[.slice none 0 0, .slice none 0 0] := by rw [hW4]; exact (kr1.other (a := ⟨w.heap.size, 0, none⟩) (by show ¬ gr = w.heap.size; omega) (.slice (some ⟨gn, 0, none⟩) (N + 1) cn))
 clear hW4 hb1 hs1 kt1 kr1 q0 q1
 have ct := bwc2 kt
 have cr := bwc2 k_r
 refine bws fun p4 => ?_
 have KB := zh (fun (Y : World) (hY : Below W4.heap.size W4 Y) => KBS.out Y ab cb ((hst.box _ List.mem_cons_self).below hY))
 go_upto_region 5 with (go_at_call 49; (with_reducible refine (KB.out _ (BW.h _)).mono ?_); rintro e w2 ⟨rfl, hb2⟩; obtain ⟨q, rfl⟩ := z04 hb2)
 clear KB KBS
 refine wnm fun W5 hW5 => ?_
 have B5 := bwA q hW5 B4
 have ls : gr < q.w.heap.size := (k_r.below q.h).lt
 have os : w0.heap.size ≤ q.w.heap.size := (z00 B4 q).size
 have kt := bka hW5 (kt.below q.h)
 have k_r := bka hW5 (k_r.below q.h)
 have hst := rst_alloc hW5 (hst.below q.h)
 have ks := bkn hW5
 clear hW5
 clear B4
 clear ct cr
 generalize q.w.heap.size = gs at *
 have ct := bwc2 kt
 have cr := bwc2 k_r
 have cs := bwc4 ks
 refine bws fun p5 => ?_
 go_upto_region 6 with (fail)
 have KA := zh (fun (Y : World) (hY : Below W5.heap.size W5 Y) => KAL.out Y ab cb ((hst.box _ List.mem_cons_self).below hY))
 have hnod : World.ownsRow W5 w0.heap.size 63 9 (.slice (some ⟨gn, 0, none⟩) (N + 1) cn) (N + 1) (n1.flatMap ncells) := by have h := hst.nod; unfold RNodRow at h; rw [hl1] at h; exact h
 have z0 : ∀ p : BW W5, p.w.frozen? ⟨gn, N * 9, none⟩ = false := fun p => World.ownsRow.frozenAt (z07 hnod p.h) _
 have cx0 : ∀ p : BW W5, p.w.cell? ⟨gn, N * 9, none⟩ = some (.int .i64 v1) := z01 (rn_at (q := 0) hst.nod hl1.symm (by omega) HGD.out (by omega))
 have z1 : ∀ p : BW W5, p.w.frozen? ⟨gn, N * 9 + 1, none⟩ = false := fun p => World.ownsRow.frozenAt (z07 hnod p.h) _
 have cx1 : ∀ p : BW W5, p.w.cell? ⟨gn, N * 9 + 1, none⟩ = some (.int .i64 v2) := z01 (rn_at (q := 1) hst.nod hl1.symm (by omega) HGD.out (by omega))
 have z2 : ∀ p : BW W5, p.w.frozen? ⟨gn, N * 9 + 2, none⟩ = false := fun p => World.ownsRow.frozenAt (z07 hnod p.h) _
 have cx2 : ∀ p : BW W5, p.w.cell? ⟨gn, N * 9 + 2, none⟩ = some (.int .i64 v3) := z01 (rn_at (q := 2) hst.nod hl1.symm (by omega) HGD.out (by omega))
 have z3 : ∀ p : BW W5, p.w.frozen? ⟨gn, N * 9 + 3, none⟩ = false := fun p => World.ownsRow.frozenAt (z07 hnod p.h) _
 have cx3 : ∀ p : BW W5, p.w.cell? ⟨gn, N * 9 + 3, none⟩ = some (.int .i64 v4) := z01 (rn_at (q := 3) hst.nod hl1.symm (by omega) HGD.out (by omega))
 have z4 : ∀ p : BW W5, p.w.frozen? ⟨gn, N * 9 + 4, none⟩ = false := fun p => World.ownsRow.frozenAt (z07 hnod p.h) _
 have cx4 : ∀ p : BW W5, p.w.cell? ⟨gn, N * 9 + 4, none⟩ = some (.int .i64 v5) := z01 (rn_at (q := 4) hst.nod hl1.symm (by omega) HGD.out (by omega))
 have z5 : ∀ p : BW W5, p.w.frozen? ⟨gn, N * 9 + 5, none⟩ = false := fun p => World.ownsRow.frozenAt (z07 hnod p.h) _
 have cx5 : ∀ p : BW W5, p.w.cell? ⟨gn, N * 9 + 5, none⟩ = some (.int .i64 v6) := z01 (rn_at (q := 5) hst.nod hl1.symm (by omega) HGD.out (by omega))
 have z6 : ∀ p : BW W5, p.w.frozen? ⟨gn, N * 9 + 6, none⟩ = false := fun p => World.ownsRow.frozenAt (z07 hnod p.h) _
 have cx6 : ∀ p : BW W5, p.w.cell? ⟨gn, N * 9 + 6, none⟩ = some (.int .i64 0) := z01 (rn_at (q := 6) hst.nod hl1.symm (by omega) HGD.out (by omega))
 have z7 : ∀ p : BW W5, p.w.frozen? ⟨gn, N * 9 + 7, none⟩ = false := fun p => World.ownsRow.frozenAt (z07 hnod p.h) _
 have cx7 : ∀ p : BW W5, p.w.cell? ⟨gn, N * 9 + 7, none⟩ = some (.int .i64 0) := z01 (rn_at (q := 7) hst.nod hl1.symm (by omega) HGD.out (by omega))
 have z8 : ∀ p : BW W5, p.w.frozen? ⟨gn, N * 9 + 8, none⟩ = false := fun p => World.ownsRow.frozenAt (z07 hnod p.h) _
 have cx8 : ∀ p : BW W5, p.w.cell? ⟨gn, N * 9 + 8, none⟩ = some (.int .i64 0) := z01 (rn_at (q := 8) hst.nod hl1.symm (by omega) HGD.out (by omega))
 refine z0h 12 (by kernel_rfl) (by kernel_rfl) (by kernel_rfl) ?_
 simp only [List.take_succ_cons, List.take_zero, List.drop_succ_cons, List.drop_zero]
 repeat (go_big_quiet_step ((go_at_call 39; (with_reducible exact (z0c KA.out (Below.refl _ _) _)))))
 refine wpQuiet_nil ?_
 intro _ hw'
 obtain ⟨q, rfl⟩ := hw'
 go_upto_region 7 with (fail)
 obtain ⟨W6, hW⟩ : ∃ W, W = ((((((((q.w.setCell ⟨gn, N * 9, none⟩ (.int .i64 v1)).setCell ⟨gn, N * 9 + 1, none⟩ (.int .i64 v2)).setCell ⟨gn, N * 9 + 2, none⟩ (.int .i64 v3)).setCell ⟨gn, N * 9 + 3, none⟩ (.int .i64 v4)).setCell ⟨gn, N * 9 + 4, none⟩ (.int .i64 v5)).setCell ⟨gn, N * 9 + 5, none⟩ (.int .i64 v6)).setCell ⟨gn, N * 9 + 6, none⟩ (.int .i64 (D : Int))).setCell ⟨gn, N * 9 + 7, none⟩ (.int .i64 (m : Int))).setCell ⟨gn, N * 9 + 8, none⟩ (.int .i64 0) := ⟨_, rfl⟩
 rw [← hW]
 have hW2 : W6 = q.w.setCells gn (N * 9) (ncells ((((v1, v2, v3), (v4, v5, v6)), (D : Int), (m : Int), 0) : Nd)) := by rw [hW]; rfl
 clear hW
 have hs0 := hst.below q.h
 rw [← hl1] at hs0
 obtain ⟨hs1, hgr⟩ := hs0.setNode ((((v1, v2, v3), (v4, v5, v6)), (D : Int), (m : Int), 0) : Nd) (k := N) (by omega)
 rw [hl1] at hs1
 rw [← hW2] at hs1 hgr
 have B6 : Below w0.heap.size w0 W6 := (z00 B5 q).grown hgr (z00 B5 q).size (fun j ej => by cases ej; exact hgnB)
 have k_t1 : Bk W6 w.heap.size 39 #[.slice (some ⟨gn, 0, none⟩) (N + 1) cn, .slice ao D co] := Bk.grown (kt.below q.h) hgr (fun e => z0e hs0.nod (kt.below q.h) (by decide) e.symm)
 have k_r1 : Bk W6 gr 39 #[.slice none 0 0, .slice none 0 0] := Bk.grown (k_r.below q.h) hgr (fun e => z0e hs0.nod (k_r.below q.h) (by decide) e.symm)
 have k_s1 : Bk W6 gs 90 #[s1, s2, s3, s4] := Bk.grown (ks.below q.h) hgr (fun e => z0e hs0.nod (ks.below q.h) (by decide) e.symm)
 clear hst hs0 hgr hW2 hnod KA kt k_r ks ct cr cs z0 z1 z2 z3 z4 z5 z6 z7 z8 cx0 cx1 cx2 cx3 cx4 cx5 cx6 cx7 cx8 B5
 have hst := hs1
 clear hs1
 have kt := k_t1
 clear k_t1
 have k_r := k_r1
 clear k_r1
 have ks := k_s1
 clear k_s1
 have hxI := (hst.int _ List.mem_cons_self).1
 have ct := bwc2 kt
 have cr := bwc2 k_r
 have cs := bwc4 ks
 refine bws fun p6 => ?_
 go_wp2_with (at_builtin; refine z06 rfl _ _ 33 rfl w0.heap.size 3 i1 (.int .i64 0) 1 8 Tryz.underlying33 hi1 hy0 hy1 hy2 rfl (by decide) _ D (od.map (fun k : Nat => Value.int .i64 (k : Int))) rfl (by have h := (hst.below (BW.h p6)).ord; unfold Ints at h; rw [← HD.out] at h; exact h) ⟨gw, 0, none⟩ m cw (wl.map (fun k : Nat => Value.int .i64 (k : Int))) rfl (by rw [List.length_map, Nat.mul_one, ← HM.out]) ?g1 ?g2 ?g3 ?g4 ?g5 ?_)
 case g1 => first | exact World.ownsRow.cells (hxI.below (BW.h p6)) rfl | exact ints_cells16 (hxI.below (BW.h p6))
 case g2 => first | (intro u hu; obtain ⟨k, _, rfl⟩ := List.mem_map.1 hu; rfl) | (intro u hu; rfl)
 case g3 => unfold maxLen; omega
 case g4 => omega
 case g5 => exact (z00 B6 p6).size
 intro vo w1 hown hgrow hat
 obtain ⟨ao2, co2, rfl⟩ := z0d hown
 have hst0 := hst.below (BW.h p6)
 have hrow : Ints w1 w0.heap.size (.slice ao2 (D + m) co2) (od ++ wl) := by unfold Ints; rw [List.length_append, ← HD.out, ← HM.out, List.map_append]; exact hown
 have hs1 := hst0.putOrd hrow hgrow (by simpa using hat)
 have hb1 : Below w0.heap.size w0 w1 := (z00 B6 p6).grown hgrow (z00 B6 p6).size (fun j ej => (World.ownsRow.lt hst0.ord j ej).1)
 have kr1 := z0q hst0.ord (k_r.below (BW.h p6)) (by decide) hgrow
 have kt1 := z0q hst0.ord (kt.below (BW.h p6)) (by decide) hgrow
 have ks1 := z0q hst0.ord (ks.below (BW.h p6)) (by decide) hgrow
 have q0 := kt1.cell (i := 1) rfl
 have q1 := kt1.frozen 1
 clear hown hgrow hat hrow hst hst0 hxI k_r kt ks
 clear ct cr cs
 go_upto_region 8 with (fail)
 refine wnm fun W7 hW7 => ?_
 have B7 : Below w0.heap.size w0 W7 := by rw [hW7]; exact (hb1.setCell (p := ⟨w.heap.size, 1, none⟩) (by show w0.heap.size ≤ w.heap.size; omega) (.slice ao2 (D + m) co2))
 have hst := (RSt.setT (i := 1) (x := .slice ao2 (D + m) co2) hs1 kt1 (Nat.le_refl _) (by decide) (by decide) (by decide))
 rw [← hW7] at hst
 have kt : Bk W7 w.heap.size 39 #[.slice (some ⟨gn, 0, none⟩) (N + 1) cn, .slice ao2 (D + m) co2] := by rw [hW7]; exact (kt1.set 1 (.slice ao2 (D + m) co2)).cast (by simp)
 have k_r : Bk W7 gr 39 #[.slice none 0 0, .slice none 0 0] := by rw [hW7]; exact (kr1.other (a := ⟨w.heap.size, 1, none⟩) (by show ¬ gr = w.heap.size; omega) (.slice ao2 (D + m) co2))
 have ks : Bk W7 gs 90 #[s1, s2, s3, s4] := by rw [hW7]; exact (ks1.other (a := ⟨w.heap.size, 1, none⟩) (by show ¬ gs = w.heap.size; omega) (.slice ao2 (D + m) co2))
 clear hW7 hb1 hs1 kt1 kr1 ks1 q0 q1
 have ct := bwc2 kt
 have cr := bwc2 k_r
 have fr := bwf2 k_r
 have cs := bwc4 ks
 refine bws fun p7 => ?_
 go_wp2
 have kq := k_r.below (BW.h p7)
 have hq := hst.below (BW.h p7)
 have hq1 := hq.setT (i := 0) (x := .slice (some ⟨gn, 0, none⟩) (N + 1) cn) kq (by omega) (by decide) (by decide) (by decide)
 have hq2 := (hq1.setT (i := 1) (x := .slice ao2 (D + m) co2) (kq.set 0 _) (by omega) (by decide) (by decide) (by decide)).bare
 have kr := bkp2 kq (.slice (some ⟨gn, 0, none⟩) (N + 1) cn) (.slice ao2 (D + m) co2)
 have rc := rwc2 kr
 have hE : (n1.set N ((((v1, v2, v3), (v4, v5, v6)), (D : Int), (m : Int), 0) : Nd)) = ns ++ [((((v1, v2, v3), (v4, v5, v6)), (D : Int), (m : Int), 0) : Nd)] := by rw [HN1.out, HN.out]; exact set_last16 _ _ _
 rw [hE] at hq2
 exact bodyPost_ret (v := .agg #[.slice (some ⟨gn, 0, none⟩) (N + 1) cn, .slice ao2 (D + m) co2]) (by simp [results, results25, go_sem, rc]) rfl ⟨_, _, rfl, hq2⟩
theorem grow_node (gw m cw N cu D co n lc : Nat) (au ao lp : Option Addr) (wl : List Nat) (ns : List Nd) (od : List Nat) (bx : List Bx) (v1 v2 v3 v4 v5 v6 s1 s2 s3 s4 : Int) (w0 w : World) (ml mr N2 D2 N4 D4 : Nat) (ll rl tl tr od2 od4 : List Nat) (n2 n4 : List Nd) (hm : m = wl.length) (hN : N = ns.length) (hD : D = od.length) (h0 : 0 < m) (hb1 : N + m ≤ 65536) (hb2 : D + m ≤ 65536) (hB : Below w0.heap.size w0 w) (hn : RNodRow w w0.heap.size (.slice au N cu) ns) (ho : Ints w w0.heap.size (.slice ao D co) od) (hi : Ints w w0.heap.size (.slice (some ⟨gw, 0, none⟩) m cw) wl) (hap : Apart2 (.slice (some ⟨gw, 0, none⟩) m cw) (.slice ao D co)) (h2 : ¬ m ≤ 2) (hN2 : N2 = n2.length) (hNN : N < N2) (KBX : Hid (∀ (Y : World), Below w.heap.size w Y → Calls prog 40 #[.slice lp n lc, .slice (some ⟨gw, 0, none⟩) m cw] Y fun e w' => ∃ ab cb, e = .returned (.slice ab m cb) ∧ RboxRow w' Y.heap.size (.slice ab m cb) bx ∧ Below Y.heap.size Y w')) (KAL : Hid (∀ (Y : World) (ab : Option Addr) (cb : Nat), RboxRow Y w0.heap.size (.slice ab m cb) bx → Rt prog 39 #[.slice ab m cb] Y (.agg #[v1, v2, v3, v4, v5, v6]))) (KBS : Hid (∀ (Y : World) (ab : Option Addr) (cb : Nat), RboxRow Y w0.heap.size (.slice ab m cb) bx → Rt prog 49 #[.slice ab m cb] Y (.tuple #[.agg #[s1, s2, s3, s4], .bool true]))) (KSD : Hid (∀ (Y : World) (ab : Option Addr) (cb : Nat), RboxRow Y w0.heap.size (.slice ab m cb) bx → Calls prog 50 #[.agg #[s1, s2, s3, s4], .slice ab m cb] Y fun e w' => ∃ gl cl gr cr, e = .returned (.tuple #[.slice (some ⟨gl, 0, none⟩) ml cl, .slice (some ⟨gr, 0, none⟩) mr cr]) ∧ Ints w' Y.heap.size (.slice (some ⟨gl, 0, none⟩) ml cl) ll ∧ Ints w' Y.heap.size (.slice (some ⟨gr, 0, none⟩) mr cr) rl ∧ Below Y.heap.size Y w')) (KTL : Hid (∀ (Y : World) (gl cl : Nat), Ints Y w0.heap.size (.slice (some ⟨gw, 0, none⟩) m cw) wl → Ints Y w0.heap.size (.slice (some ⟨gl, 0, none⟩) ml cl) ll → Calls prog 51 #[.slice (some ⟨gw, 0, none⟩) m cw, .slice (some ⟨gl, 0, none⟩) ml cl] Y fun e w' => ∃ gx cx, e = .returned (.slice (some ⟨gx, 0, none⟩) ml cx) ∧ Ints w' Y.heap.size (.slice (some ⟨gx, 0, none⟩) ml cx) tl ∧ Below Y.heap.size Y w')) (KTR : Hid (∀ (Y : World) (gr cr : Nat), Ints Y w0.heap.size (.slice (some ⟨gw, 0, none⟩) m cw) wl → Ints Y w0.heap.size (.slice (some ⟨gr, 0, none⟩) mr cr) rl → Calls prog 51 #[.slice (some ⟨gw, 0, none⟩) m cw, .slice (some ⟨gr, 0, none⟩) mr cr] Y fun e w' => ∃ gx cx, e = .returned (.slice (some ⟨gx, 0, none⟩) mr cx) ∧ Ints w' Y.heap.size (.slice (some ⟨gx, 0, none⟩) mr cx) tr ∧ Below Y.heap.size Y w')) (KGL : Hid (∀ (Y : World) (gn cn gx cx : Nat), Below w0.heap.size w0 Y → RNodRow Y w0.heap.size (.slice (some ⟨gn, 0, none⟩) (N + 1) cn) (ns ++ [((((v1, v2, v3), (v4, v5, v6)), 0, 0, 0) : Nd)]) → Ints Y w0.heap.size (.slice ao D co) od → Ints Y w0.heap.size (.slice (some ⟨gx, 0, none⟩) ml cx) tl → Apart2 (.slice (some ⟨gx, 0, none⟩) ml cx) (.slice ao D co) → Calls prog 25 #[.agg #[.slice (some ⟨gn, 0, none⟩) (N + 1) cn, .slice ao D co], .slice lp n lc, .slice (some ⟨gx, 0, none⟩) ml cx] Y fun e w' => ∃ g2 c2 a3 c3, e = .returned (.agg #[.slice (some ⟨g2, 0, none⟩) N2 c2, .slice a3 D2 c3]) ∧ RSt Y (Value.slice (some ⟨gn, 0, none⟩) (N + 1) cn).ownBlock (Value.slice ao D co).ownBlock w' w0.heap.size (.slice (some ⟨g2, 0, none⟩) N2 c2) (.slice a3 D2 c3) n2 od2 [] [])) (KGR : Hid (∀ (Y : World) (g2 c2 c3 gx cx : Nat) (a3 : Option Addr), Below w0.heap.size w0 Y → RNodRow Y w0.heap.size (.slice (some ⟨g2, 0, none⟩) N2 c2) (n2.set N ((((v1, v2, v3), (v4, v5, v6)), 0, 0, (N2 : Int)) : Nd)) → Ints Y w0.heap.size (.slice a3 D2 c3) od2 → Ints Y w0.heap.size (.slice (some ⟨gx, 0, none⟩) mr cx) tr → Apart2 (.slice (some ⟨gx, 0, none⟩) mr cx) (.slice a3 D2 c3) → Calls prog 25 #[.agg #[.slice (some ⟨g2, 0, none⟩) N2 c2, .slice a3 D2 c3], .slice lp n lc, .slice (some ⟨gx, 0, none⟩) mr cx] Y fun e w' => ∃ a4 c4 a5 c5, e = .returned (.agg #[.slice a4 N4 c4, .slice a5 D4 c5]) ∧ RSt Y (Value.slice (some ⟨g2, 0, none⟩) N2 c2).ownBlock (Value.slice a3 D2 c3).ownBlock w' w0.heap.size (.slice a4 N4 c4) (.slice a5 D4 c5) n4 od4 [] [])) :
  Calls prog 25 #[.agg #[.slice au N cu, .slice ao D co], .slice lp n lc, .slice (some ⟨gw, 0, none⟩) m cw] w fun e w' => ∃ u v, e = .returned (.agg #[u, v]) ∧ RSt w (Value.slice au N cu).ownBlock (Value.slice ao D co).ownBlock w' w0.heap.size u v n4 od4 [] [] := by
 have HN2 := zh hN2
 clear hN2
 have t1 : decide ((m : Int) ≤ 2) = false := zf (by omega)
 clear h2
 obtain ⟨i0, hi0, hz0, hz1, hz2⟩ := info_parts rnode_info16
 obtain ⟨i1, hi1, hy0, hy1, hy2⟩ := info_parts z1i
 have HM := zh hm
 have HN := zh hN
 have HD := zh hD
 have hst := RSt.start hn ho (I := [(.slice (some ⟨gw, 0, none⟩) m cw, wl)]) (by intro x hx; rw [List.mem_singleton] at hx; subst hx; exact ⟨hi, hap⟩)
 have l_t : w0.heap.size ≤ w.heap.size := hB.size
 clear hm hN hD hn ho hi hap
 go_enter func25, ntmps25
 go_upto_region 1 with (fail)
 refine wnm fun W1 hW1 => ?_
 obtain ⟨kt, k_r, Bx⟩ := st2 hW1
 have hst := rst_alloc hW1 (rst_alloc rfl hst)
 have B1 : Below w0.heap.size w0 W1 := hB.trans (Bx.mono hB.size)
 clear hW1
 have lr : w.heap.size < w.heap.size + 1 := by omega
 generalize w.heap.size + 1 = g_r at *
 have ct := bwc2 kt
 have c_r := bwc2 k_r
 refine bws fun p1 => ?_
 go_upto_region 3 with (go_at_call 40; (with_reducible refine (KBX.out _ (z00 Bx _)).mono ?_); rintro e w2 ⟨ab, cb, rfl, hub, hb2⟩; obtain ⟨q, rfl⟩ := z04 hb2)
 have hub : RboxRow q.w w0.heap.size (.slice ab m cb) bx := z1f hub (z00 B1 p1).size
 clear KBX Bx
 obtain ⟨W2, hW2⟩ : ∃ W, W = q.w := ⟨_, rfl⟩
 have B2 : Below w0.heap.size w0 W2 := by rw [hW2]; exact (z00 B1 q)
 have kt := kt.below q.h
 rw [← hW2] at kt
 have k_r := k_r.below q.h
 rw [← hW2] at k_r
 have hst := hst.below q.h
 rw [← hW2] at hst
 rw [← hW2] at hub
 rw [← hW2]
 clear hW2
 clear B1
 clear ct c_r
 have hst := hst.addBox hub
 clear hub
 have KA := zh (fun (Y : World) (hY : Below W2.heap.size W2 Y) => KAL.out Y ab cb ((hst.box _ List.mem_cons_self).below hY))
 have ct := bwc2 kt
 have c_r := bwc2 k_r
 refine bws fun p2 => ?_
 refine z1d (t := 63) (zs := #[v1, v2, v3, v4, v5, v6, .int .i64 0, .int .i64 0, .int .i64 0]) 6 5 24 85 [23] (fun g => .slice (some ⟨g, 0, none⟩) 1 1) (by kernel_rfl) (by kernel_rfl) (by kernel_rfl) (by kernel_rfl) rfl rfl ?_
 apply Exists.intro
 refine ⟨?_, ?_, ?_⟩
 · intro wb' hwb'
   obtain ⟨dt0, dt1⟩ := bwc2 (kt.below hwb')
   obtain ⟨dr0, dr1⟩ := bwc2 (k_r.below hwb')
   simp only [maskAt, List.take_succ_cons, List.take_zero]
   repeat (go_big_quiet_step ((go_at_call 39; (with_reducible exact (z0c KA.out hwb') _))))
   refine wpQuiet_nil ?_
   exact rfl
 · intro ax wx hp
   have e23 := hp 23 (by decide)
   clear hp
   simp only [Act.put, List.setIfInBounds_toArray, List.set_cons_zero, List.set_cons_succ, List.getElem?_toArray, List.getElem?_cons_succ, List.getElem?_cons_zero] at e23
   exact ⟨by simp [Region.wanted, yielded, e23], by simp [execOp, go_sem, Act.eval, e23]⟩
 intro W3 gnb hW hg knb
 have B3 : Below w0.heap.size w0 W3 := B2.trans (hW.mono B2.size)
 have onb : w0.heap.size ≤ gnb := Nat.le_trans B2.size hg
 have hst := hst.below hW
 have lnb : g_r < gnb := zl k_r.lt hg
 have kt := kt.below hW
 have k_r := k_r.below hW
 clear hW hg B2
 clear ct c_r
 simp only [List.drop_succ_cons, List.drop_zero, Act.put, List.setIfInBounds_toArray, List.set_cons_zero, List.set_cons_succ]
 clear KA
 have hsz := B3.size
 go_wp2_with (at_builtin; refine z06 rfl _ _ 37 rfl w0.heap.size 63 i0 _ 9 72 Tryz.underlying37 hi0 hz0 hz1 hz2 rfl (by decide) _ N (ns.flatMap ncells) rfl (by have h := hst.nod; unfold RNodRow at h; rw [← HN.out] at h; exact h) ⟨gnb, 0, none⟩ 1 1 (ncells (((v1, v2, v3), (v4, v5, v6)), 0, 0, 0)) rfl rfl ?g1 ?g2 ?g3 ?g4 ?g5 ?_)
 case g1 => exact cells_at15 knb
 case g2 => exact ncells_one _
 case g3 => unfold maxLen; omega
 case g4 => omega
 case g5 => omega
 intro vn w1 hown hgrow hat
 obtain ⟨gn, cn, rfl, hgnB, hgnl, hgnc⟩ := z1a hown (by omega)
 obtain ⟨n1, hn1⟩ := nmd (ns ++ [((((v1, v2, v3), (v4, v5, v6)), 0, 0, 0) : Nd)])
 have hl1 : n1.length = N + 1 := by rw [hn1, List.length_append, ← HN.out]; rfl
 have hgd : n1.getD N nd0 = ((((v1, v2, v3), (v4, v5, v6)), 0, 0, 0) : Nd) := by rw [hn1, HN.out]; simp
 have hrow : RNodRow w1 w0.heap.size (.slice (some ⟨gn, 0, none⟩) (N + 1) cn) n1 := by unfold RNodRow; rw [hl1, hn1, List.flatMap_append, List.flatMap_cons, List.flatMap_nil, List.append_nil]; exact hown
 have hs1 := hst.putNode hrow hgrow (by simpa using hat)
 have hb1 : Below w0.heap.size w0 w1 := B3.grown hgrow hsz (fun j ej => (World.ownsRow.lt hst.nod j ej).1)
 have kr1 := z0q hst.nod k_r (by decide) hgrow
 have kt1 := z0q hst.nod kt (by decide) hgrow
 have HN1 := zh hn1
 have HGD := zh hgd
 have q0 := kt1.cell (i := 0) rfl
 have q1 := kt1.frozen 0
 clear hown hgrow hat hrow hst k_r kt knb hn1 hgd
 go_upto_region 4 with (fail)
 refine wnm fun W4 hW4 => ?_
 have B4 : Below w0.heap.size w0 W4 := by rw [hW4]; exact (hb1.setCell (p := ⟨w.heap.size, 0, none⟩) (by show w0.heap.size ≤ w.heap.size; omega) (.slice (some ⟨gn, 0, none⟩) (N + 1) cn))
 have hst := (RSt.setT (i := 0) (x := .slice (some ⟨gn, 0, none⟩) (N + 1) cn) hs1 kt1 (Nat.le_refl _) (by decide) (by decide) (by decide))
 rw [← hW4] at hst
 have kt : Bk W4 w.heap.size 39 #[.slice (some ⟨gn, 0, none⟩) (N + 1) cn, .slice ao D co] := by rw [hW4]; exact (kt1.set 0 (.slice (some ⟨gn, 0, none⟩) (N + 1) cn)).cast (by simp)
 have k_r : Bk W4 g_r 39 #[.slice none 0 0, .slice none 0 0] := by rw [hW4]; exact (kr1.other (a := ⟨w.heap.size, 0, none⟩) (by show ¬ g_r = w.heap.size; omega) (.slice (some ⟨gn, 0, none⟩) (N + 1) cn))
 clear hW4 hb1 hs1 kt1 kr1 q0 q1
 have ct := bwc2 kt
 have c_r := bwc2 k_r
 refine bws fun p4 => ?_
 have KB := zh (fun (Y : World) (hY : Below W4.heap.size W4 Y) => KBS.out Y ab cb ((hst.box _ List.mem_cons_self).below hY))
 go_upto_region 5 with (go_at_call 49; (with_reducible refine (KB.out _ (BW.h _)).mono ?_); rintro e w2 ⟨rfl, hb2⟩; obtain ⟨q, rfl⟩ := z04 hb2)
 clear KB KBS
 refine wnm fun W5 hW5 => ?_
 have B5 := bwA q hW5 B4
 have ls : g_r < q.w.heap.size := (k_r.below q.h).lt
 have os : w0.heap.size ≤ q.w.heap.size := (z00 B4 q).size
 have kt := bka hW5 (kt.below q.h)
 have k_r := bka hW5 (k_r.below q.h)
 have hst := rst_alloc hW5 (hst.below q.h)
 have ks := bkn hW5
 clear hW5
 clear B4
 clear ct c_r
 generalize q.w.heap.size = gs at *
 have ct := bwc2 kt
 have c_r := bwc2 k_r
 have cs := bwc4 ks
 refine bws fun p5 => ?_
 have KS := zh (fun (Y : World) (hY : Below W5.heap.size W5 Y) => KSD.out Y ab cb ((hst.box _ List.mem_cons_self).below hY))
 go_upto_region 10 with (go_at_call 50; (with_reducible refine (KS.out _ (BW.h _)).mono ?_); rintro e w2 ⟨gl, cl, gr, cr, rfl, hl, hr, hb2⟩; obtain ⟨q, rfl⟩ := z04 hb2)
 have hord := hst.ord
 have hsq := BW.h p5
 have hal : Apart2 (.slice (some ⟨gl, 0, none⟩) ml cl) (.slice ao D co) := fun j hj e => by
  have e1 := (World.ownsRow.lt hl j hj).1
  have e2 := (World.ownsRow.lt hord j e).2
  have e3 := hsq.size
  omega
 have har : Apart2 (.slice (some ⟨gr, 0, none⟩) mr cr) (.slice ao D co) := fun j hj e => by
  have e1 := (World.ownsRow.lt hr j hj).1
  have e2 := (World.ownsRow.lt hord j e).2
  have e3 := hsq.size
  omega
 have hl : Ints q.w w0.heap.size (.slice (some ⟨gl, 0, none⟩) ml cl) ll := z1f hl (z00 B5 p5).size
 have hr : Ints q.w w0.heap.size (.slice (some ⟨gr, 0, none⟩) mr cr) rl := z1f hr (z00 B5 p5).size
 clear KS KSD hord hsq
 obtain ⟨W6, hW6⟩ : ∃ W, W = q.w := ⟨_, rfl⟩
 have B6 : Below w0.heap.size w0 W6 := by rw [hW6]; exact (z00 B5 q)
 have kt := kt.below q.h
 rw [← hW6] at kt
 have k_r := k_r.below q.h
 rw [← hW6] at k_r
 have ks := ks.below q.h
 rw [← hW6] at ks
 have hst := hst.below q.h
 rw [← hW6] at hst
 rw [← hW6] at hl
 rw [← hW6] at hr
 rw [← hW6]
 clear hW6
 clear B5
 clear ct c_r cs
 have hst := (hst.addInt hl hal).addInt hr har
 clear hl hr hal har
 have KT1 := zh (fun (Y : World) (hY : Below W6.heap.size W6 Y) => KTL.out Y gl cl ((hst.int (.slice (some ⟨gw, 0, none⟩) m cw, wl) (by simp)).1.below hY) ((hst.int (.slice (some ⟨gl, 0, none⟩) ml cl, ll) (by simp)).1.below hY))
 clear KTL
 have ct := bwc2 kt
 have c_r := bwc2 k_r
 have cs := bwc4 ks
 refine bws fun p6 => ?_
 refine wp_region_floatW (fun V v => ∃ gx cx, v = .slice (some ⟨gx, 0, none⟩) ml cx ∧ Ints V w0.heap.size v tl ∧ Apart2 v (.slice ao D co)) 5 4 67 85 [65, 66] (by kernel_rfl) (by kernel_rfl) (by kernel_rfl) (by kernel_rfl) rfl rfl ?_
 apply Exists.intro
 refine ⟨?_, ?_, ?_, ?_⟩
 · intro wb' hwb'
   obtain ⟨dt0, dt1⟩ := bwc2 (kt.below hwb')
   obtain ⟨dr0, dr1⟩ := bwc2 (k_r.below hwb')
   obtain ⟨ds0, ds1, ds2, ds3⟩ := bwc4 (ks.below hwb')
   simp only [maskAt, List.take_succ_cons, List.take_zero]
   repeat (go_big_quiet_step (fail))
   refine wpQuiet_nil ?_
   exact rfl
 · intro ax qx hp
   have e65 := hp 65 (by decide)
   have e66 := hp 66 (by decide)
   clear hp
   simp only [Act.put, List.setIfInBounds_toArray, List.set_cons_zero, List.set_cons_succ, List.getElem?_toArray, List.getElem?_cons_succ, List.getElem?_cons_zero] at e65 e66
   refine ⟨by simp [Region.wanted, yielded, e65, e66], 51, #[.slice (some ⟨gw, 0, none⟩) m cw, .slice (some ⟨gl, 0, none⟩) ml cl], by simp [execOp, go_sem, Act.eval, e65, e66], (KT1.out _ qx.h).mono ?_⟩
   rintro e w' ⟨gx, cx, rfl, hx, hb⟩
   have hord := hst.ord
   have hsz := B6.size
   have hsq := qx.h.size
   refine ⟨_, rfl, hb, gx, cx, rfl, z1f hx (by omega), fun j hj e => ?_⟩
   have e1 := (World.ownsRow.lt hx j hj).1
   have e2 := (World.ownsRow.lt hord j e).2
   omega
 · rintro V V' v ⟨gx, cx, rfl, h1, h2⟩ hb
   exact ⟨gx, cx, rfl, h1.below hb, h2⟩
 rintro W7 v hW ⟨gx, cx, rfl, hx, hap⟩
 have B7 : Below w0.heap.size w0 W7 := B6.trans (hW.mono B6.size)
 have hst := hst.below hW
 have kt := kt.below hW
 have k_r := k_r.below hW
 have ks := ks.below hW
 clear hW KT1 B6
 clear ct c_r cs
 simp only [List.drop_succ_cons, List.drop_zero, Act.put, List.setIfInBounds_toArray, List.set_cons_zero, List.set_cons_succ]
 have KG1 := zh (KGL.out W7 gn cn gx cx B7 (by rw [← HN1.out]; exact hst.nod) hst.ord hx hap)
 clear KGL hx hap
 go_upto_region 11 with (go_at_call 25; (with_reducible refine KG1.out.mono ?_); rintro e w1 ⟨g2, c2, a3, c3, rfl, hc⟩; have kt1 := hst.callBk hc kt (by decide) (by decide); obtain ⟨q0, q1⟩ := rwc2 kt1; have q2 := kt1.frozen 0; have q3 := kt1.frozen 1)
 have hs1 := hst.call hc
 have kr1 := hst.callBk hc k_r (by decide) (by decide)
 have ks1 := hst.callBk hc ks (by decide) (by decide)
 have hb1 : Below w0.heap.size w0 w1 := hc.low B7 B7.size hst.nod hst.ord
 have hg2B : w0.heap.size ≤ g2 := (World.ownsRow.lt hc.nod g2 rfl).1
 clear KG1 hc hst kt k_r ks B7
 refine wnm fun W8 hW8 => ?_
 have B8 : Below w0.heap.size w0 W8 := by rw [hW8]; exact ((hb1.setCell (p := ⟨w.heap.size, 0, none⟩) (by show w0.heap.size ≤ w.heap.size; omega) (.slice (some ⟨g2, 0, none⟩) N2 c2)).setCell (p := ⟨w.heap.size, 1, none⟩) (by show w0.heap.size ≤ w.heap.size; omega) (.slice a3 D2 c3))
 have hst := (RSt.setT (i := 1) (x := .slice a3 D2 c3) (RSt.setT (i := 0) (x := .slice (some ⟨g2, 0, none⟩) N2 c2) hs1 kt1 (Nat.le_refl _) (by decide) (by decide) (by decide)) (kt1.set 0 (.slice (some ⟨g2, 0, none⟩) N2 c2)) (Nat.le_refl _) (by decide) (by decide) (by decide))
 rw [← hW8] at hst
 have kt : Bk W8 w.heap.size 39 #[.slice (some ⟨g2, 0, none⟩) N2 c2, .slice a3 D2 c3] := by rw [hW8]; exact ((kt1.set 0 (.slice (some ⟨g2, 0, none⟩) N2 c2)).set 1 (.slice a3 D2 c3)).cast (by simp)
 have k_r : Bk W8 g_r 39 #[.slice none 0 0, .slice none 0 0] := by rw [hW8]; exact ((kr1.other (a := ⟨w.heap.size, 0, none⟩) (by show ¬ g_r = w.heap.size; omega) (.slice (some ⟨g2, 0, none⟩) N2 c2)).other (a := ⟨w.heap.size, 1, none⟩) (by show ¬ g_r = w.heap.size; omega) (.slice a3 D2 c3))
 have ks : Bk W8 gs 90 #[s1, s2, s3, s4] := by rw [hW8]; exact ((ks1.other (a := ⟨w.heap.size, 0, none⟩) (by show ¬ gs = w.heap.size; omega) (.slice (some ⟨g2, 0, none⟩) N2 c2)).other (a := ⟨w.heap.size, 1, none⟩) (by show ¬ gs = w.heap.size; omega) (.slice a3 D2 c3))
 clear hW8 hb1 hs1 kt1 kr1 ks1 q0 q1 q2 q3
 have KA := zh (fun (Y : World) (hY : Below W8.heap.size W8 Y) => KAL.out Y ab cb ((hst.box _ List.mem_cons_self).below hY))
 have hl2 : n2.length = N2 := HN2.out.symm
 obtain ⟨d, hd⟩ : ∃ d, n2.getD N nd0 = d := ⟨_, rfl⟩
 obtain ⟨⟨⟨d1, d2, d3⟩, d4, d5, d6⟩, d7, d8, d9⟩ := d
 have HGD2 := zh hd
 clear hd
 have ct := bwc2 kt
 have c_r := bwc2 k_r
 have cs := bwc4 ks
 refine bws fun p8 => ?_
 have hnod : World.ownsRow W8 w0.heap.size 63 9 (.slice (some ⟨g2, 0, none⟩) (N2) c2) (N2) (n2.flatMap ncells) := by have h := hst.nod; unfold RNodRow at h; rw [hl2] at h; exact h
 have z0 : ∀ p : BW W8, p.w.frozen? ⟨g2, N * 9, none⟩ = false := fun p => World.ownsRow.frozenAt (z07 hnod p.h) _
 have cx0 : ∀ p : BW W8, p.w.cell? ⟨g2, N * 9, none⟩ = some (.int .i64 d1) := z01 (rn_at (q := 0) hst.nod hl2.symm (by omega) HGD2.out (by omega))
 have z1 : ∀ p : BW W8, p.w.frozen? ⟨g2, N * 9 + 1, none⟩ = false := fun p => World.ownsRow.frozenAt (z07 hnod p.h) _
 have cx1 : ∀ p : BW W8, p.w.cell? ⟨g2, N * 9 + 1, none⟩ = some (.int .i64 d2) := z01 (rn_at (q := 1) hst.nod hl2.symm (by omega) HGD2.out (by omega))
 have z2 : ∀ p : BW W8, p.w.frozen? ⟨g2, N * 9 + 2, none⟩ = false := fun p => World.ownsRow.frozenAt (z07 hnod p.h) _
 have cx2 : ∀ p : BW W8, p.w.cell? ⟨g2, N * 9 + 2, none⟩ = some (.int .i64 d3) := z01 (rn_at (q := 2) hst.nod hl2.symm (by omega) HGD2.out (by omega))
 have z3 : ∀ p : BW W8, p.w.frozen? ⟨g2, N * 9 + 3, none⟩ = false := fun p => World.ownsRow.frozenAt (z07 hnod p.h) _
 have cx3 : ∀ p : BW W8, p.w.cell? ⟨g2, N * 9 + 3, none⟩ = some (.int .i64 d4) := z01 (rn_at (q := 3) hst.nod hl2.symm (by omega) HGD2.out (by omega))
 have z4 : ∀ p : BW W8, p.w.frozen? ⟨g2, N * 9 + 4, none⟩ = false := fun p => World.ownsRow.frozenAt (z07 hnod p.h) _
 have cx4 : ∀ p : BW W8, p.w.cell? ⟨g2, N * 9 + 4, none⟩ = some (.int .i64 d5) := z01 (rn_at (q := 4) hst.nod hl2.symm (by omega) HGD2.out (by omega))
 have z5 : ∀ p : BW W8, p.w.frozen? ⟨g2, N * 9 + 5, none⟩ = false := fun p => World.ownsRow.frozenAt (z07 hnod p.h) _
 have cx5 : ∀ p : BW W8, p.w.cell? ⟨g2, N * 9 + 5, none⟩ = some (.int .i64 d6) := z01 (rn_at (q := 5) hst.nod hl2.symm (by omega) HGD2.out (by omega))
 have z6 : ∀ p : BW W8, p.w.frozen? ⟨g2, N * 9 + 6, none⟩ = false := fun p => World.ownsRow.frozenAt (z07 hnod p.h) _
 have cx6 : ∀ p : BW W8, p.w.cell? ⟨g2, N * 9 + 6, none⟩ = some (.int .i64 d7) := z01 (rn_at (q := 6) hst.nod hl2.symm (by omega) HGD2.out (by omega))
 have z7 : ∀ p : BW W8, p.w.frozen? ⟨g2, N * 9 + 7, none⟩ = false := fun p => World.ownsRow.frozenAt (z07 hnod p.h) _
 have cx7 : ∀ p : BW W8, p.w.cell? ⟨g2, N * 9 + 7, none⟩ = some (.int .i64 d8) := z01 (rn_at (q := 7) hst.nod hl2.symm (by omega) HGD2.out (by omega))
 have z8 : ∀ p : BW W8, p.w.frozen? ⟨g2, N * 9 + 8, none⟩ = false := fun p => World.ownsRow.frozenAt (z07 hnod p.h) _
 have cx8 : ∀ p : BW W8, p.w.cell? ⟨g2, N * 9 + 8, none⟩ = some (.int .i64 d9) := z01 (rn_at (q := 8) hst.nod hl2.symm (by omega) HGD2.out (by omega))
 refine z0h 10 (by kernel_rfl) (by kernel_rfl) (by kernel_rfl) ?_
 simp only [List.take_succ_cons, List.take_zero, List.drop_succ_cons, List.drop_zero]
 repeat (go_big_quiet_step ((go_at_call 39; (with_reducible exact (z0c KA.out (Below.refl _ _) _)))))
 refine wpQuiet_nil ?_
 intro _ hw'
 obtain ⟨q, rfl⟩ := hw'
 go_upto_region 12 with (fail)
 obtain ⟨W9, hW⟩ : ∃ W, W = ((((((((q.w.setCell ⟨g2, N * 9, none⟩ (.int .i64 v1)).setCell ⟨g2, N * 9 + 1, none⟩ (.int .i64 v2)).setCell ⟨g2, N * 9 + 2, none⟩ (.int .i64 v3)).setCell ⟨g2, N * 9 + 3, none⟩ (.int .i64 v4)).setCell ⟨g2, N * 9 + 4, none⟩ (.int .i64 v5)).setCell ⟨g2, N * 9 + 5, none⟩ (.int .i64 v6)).setCell ⟨g2, N * 9 + 6, none⟩ (.int .i64 0)).setCell ⟨g2, N * 9 + 7, none⟩ (.int .i64 0)).setCell ⟨g2, N * 9 + 8, none⟩ (.int .i64 (N2 : Int)) := ⟨_, rfl⟩
 rw [← hW]
 have hW2 : W9 = q.w.setCells g2 (N * 9) (ncells ((((v1, v2, v3), (v4, v5, v6)), 0, 0, (N2 : Int)) : Nd)) := by rw [hW]; rfl
 clear hW
 have hs0 := hst.below q.h
 rw [← hl2] at hs0
 obtain ⟨hs1, hgr⟩ := hs0.setNode ((((v1, v2, v3), (v4, v5, v6)), 0, 0, (N2 : Int)) : Nd) (k := N) (by omega)
 rw [hl2] at hs1
 rw [← hW2] at hs1 hgr
 have B9 : Below w0.heap.size w0 W9 := (z00 B8 q).grown hgr (z00 B8 q).size (fun j ej => by cases ej; exact hg2B)
 have k_t1 : Bk W9 w.heap.size 39 #[.slice (some ⟨g2, 0, none⟩) N2 c2, .slice a3 D2 c3] := Bk.grown (kt.below q.h) hgr (fun e => z0e hs0.nod (kt.below q.h) (by decide) e.symm)
 have k_r1 : Bk W9 g_r 39 #[.slice none 0 0, .slice none 0 0] := Bk.grown (k_r.below q.h) hgr (fun e => z0e hs0.nod (k_r.below q.h) (by decide) e.symm)
 have k_s1 : Bk W9 gs 90 #[s1, s2, s3, s4] := Bk.grown (ks.below q.h) hgr (fun e => z0e hs0.nod (ks.below q.h) (by decide) e.symm)
 clear hst hs0 hgr hW2 hnod KA kt k_r ks ct c_r cs z0 z1 z2 z3 z4 z5 z6 z7 z8 cx0 cx1 cx2 cx3 cx4 cx5 cx6 cx7 cx8 B8
 have hst := hs1
 clear hs1
 have kt := k_t1
 clear k_t1
 have k_r := k_r1
 clear k_r1
 have ks := k_s1
 clear k_s1
 have KT2 := zh (fun (Y : World) (hY : Below W9.heap.size W9 Y) => KTR.out Y gr cr ((hst.int (.slice (some ⟨gw, 0, none⟩) m cw, wl) (by simp)).1.below hY) ((hst.int (.slice (some ⟨gr, 0, none⟩) mr cr, rl) (by simp)).1.below hY))
 clear KTR
 have ct := bwc2 kt
 have c_r := bwc2 k_r
 have cs := bwc4 ks
 refine bws fun p9 => ?_
 refine wp_region_floatW (fun V v => ∃ gx cx, v = .slice (some ⟨gx, 0, none⟩) mr cx ∧ Ints V w0.heap.size v tr ∧ Apart2 v (.slice a3 D2 c3)) 5 4 83 85 [81, 82] (by kernel_rfl) (by kernel_rfl) (by kernel_rfl) (by kernel_rfl) rfl rfl ?_
 apply Exists.intro
 refine ⟨?_, ?_, ?_, ?_⟩
 · intro wb' hwb'
   obtain ⟨dt0, dt1⟩ := bwc2 (kt.below hwb')
   obtain ⟨dr0, dr1⟩ := bwc2 (k_r.below hwb')
   obtain ⟨ds0, ds1, ds2, ds3⟩ := bwc4 (ks.below hwb')
   simp only [maskAt, List.take_succ_cons, List.take_zero]
   repeat (go_big_quiet_step (fail))
   refine wpQuiet_nil ?_
   exact rfl
 · intro ax qx hp
   have e81 := hp 81 (by decide)
   have e82 := hp 82 (by decide)
   clear hp
   simp only [Act.put, List.setIfInBounds_toArray, List.set_cons_zero, List.set_cons_succ, List.getElem?_toArray, List.getElem?_cons_succ, List.getElem?_cons_zero] at e81 e82
   refine ⟨by simp [Region.wanted, yielded, e81, e82], 51, #[.slice (some ⟨gw, 0, none⟩) m cw, .slice (some ⟨gr, 0, none⟩) mr cr], by simp [execOp, go_sem, Act.eval, e81, e82], (KT2.out _ qx.h).mono ?_⟩
   rintro e w' ⟨gx, cx, rfl, hx, hb⟩
   have hord := hst.ord
   have hsz := B9.size
   have hsq := qx.h.size
   refine ⟨_, rfl, hb, gx, cx, rfl, z1f hx (by omega), fun j hj e => ?_⟩
   have e1 := (World.ownsRow.lt hx j hj).1
   have e2 := (World.ownsRow.lt hord j e).2
   omega
 · rintro V V' v ⟨gx, cx, rfl, h1, h2⟩ hb
   exact ⟨gx, cx, rfl, h1.below hb, h2⟩
 rintro W10 v hW ⟨gx, cx, rfl, hx, hap⟩
 have B10 : Below w0.heap.size w0 W10 := B9.trans (hW.mono B9.size)
 have hst := hst.below hW
 have kt := kt.below hW
 have k_r := k_r.below hW
 have ks := ks.below hW
 clear hW KT2 B9
 clear ct c_r cs
 simp only [List.drop_succ_cons, List.drop_zero, Act.put, List.setIfInBounds_toArray, List.set_cons_zero, List.set_cons_succ]
 have KG2 := zh (KGR.out W10 g2 c2 c3 gx cx a3 B10 hst.nod hst.ord hx hap)
 clear KGR hx hap
 go_wp2_with (go_at_call 25; (with_reducible refine KG2.out.mono ?_); rintro e w1 ⟨a4, c4, a5, c5, rfl, hc⟩; have kr1 := hst.callBk hc k_r (by decide) (by decide); obtain ⟨q0, q1⟩ := rwc2 kr1; have q2 := kr1.frozen 0; have q3 := kr1.frozen 1)
 have hs1 := hst.call hc
 have hq1 := hs1.setT (i := 0) (x := .slice a4 N4 c4) kr1 (by omega) (by decide) (by decide) (by decide)
 have hq2 := (hq1.setT (i := 1) (x := .slice a5 D4 c5) (kr1.set 0 _) (by omega) (by decide) (by decide) (by decide)).bare
 have kr := bkp2 kr1 (.slice a4 N4 c4) (.slice a5 D4 c5)
 have rc := rwc2 kr
 exact bodyPost_ret (v := .agg #[.slice a4 N4 c4, .slice a5 D4 c5]) (by simp [results, results25, go_sem, rc]) rfl ⟨_, _, rfl, hq2⟩
end
end Go.Proofs.YtbmpmjdlaahekaaGreat
