/- The contract of the statement's own 'line': a tree whose leaves stand  -/
import Derived.Test.YtbmpmjdlaahekaaGreatWs50
set_option maxRecDepth 100000
set_option maxHeartbeats 8000000
set_option linter.unusedVariables false
set_option linter.unusedSimpArgs false
open Go.Proofs.Tryz
namespace Go.Proofs.YtbmpmjdlaahekaaGreat
section
open Go.RowKit Go.Proofs.Sky
theorem law17_line (lp : Option Addr) (n lc r : Nat) (P : Nat → Pr) (w : World) (hs : Prims w (.slice lp n lc) n P) (h0 : 0 < n) (h8 : n ≤ 8) (hr : r ≤ 255) (hP : pAll P n = true) :
  Calls prog 17 #[.slice lp n lc, .int .i64 (r : Int)] w fun e w' => ∃ u v, e = .returned (.agg #[u, v]) ∧ RNodRow w' w.heap.size u (lnUp P (lnOrd n r) n n) ∧ OrdRow w' w.heap.size v (lnOrd n r) ∧ Below w.heap.size w w' := by
 have HS := zh hs
 have HP := zh hP
 obtain ⟨hsl, hI⟩ := hs
 obtain ⟨a', cap', ev, hm, hS⟩ := hsl
 cases ev
 obtain ⟨b, off, rfl, hb, hcell⟩ := hS.resolve_left (by omega)
 have HCL := zh hcell
 have HI := zh hI
 clear hS hcell hI hP hm
 obtain ⟨i1, hi1, hy0, hy1, hy2⟩ := info_parts z1i
 obtain ⟨i0, hi0, hz0, hz1, hz2⟩ := info_parts rnode_info16
 go_enter func17, ntmps17
 go_upto_region 2 with (fail)
 refine wst2 fun W1 k_r k_t B1 => ?_
 have l_t : w.heap.size < w.heap.size + 1 := by omega
 generalize w.heap.size + 1 = gt at *
 have hst : LSt w W1 gt (.slice none 0 0) (.slice none 0 0) [] [] := ⟨World.ownsRow_nil _ _ _ _, World.ownsRow_nil _ _ _ _, k_r, k_t, B1, l_t⟩
 clear k_r k_t B1
 go_wp2
 go_loopw [6] (fun i wr => ∃ (k : Nat) (uo : Value), k ≤ n ∧ i = .int .i64 (k : Int) ∧ LSt w wr gt (.slice none 0 0) uo [] ((lnOrd n r).take k)) (fun i _ => n - (intOf i).toNat)
 case atStart => exact ⟨0, _, Nat.zero_le _, rfl, hst⟩
 case round =>
  clear hst
  obtain ⟨k, uo, hk, rfl, hst⟩ := hrel
  by_cases hlt : k < n
  · have t1 : decide ((k : Int) < (n : Int)) = true := zt (by omega)
    have hl : ((lnOrd n r).take k).length = k := by rw [List.length_take, z15]; omega
    have HT : Hid ((lnOrd n r).take (k + 1) = (lnOrd n r).take k ++ [(((k + r) % n : Nat) : Int)]) := zh (by
     have hkl : k < (lnOrd n r).length := by rw [z15]; exact hlt
     rw [List.take_add_one, List.getElem?_eq_getElem hkl, ← z0g (z := 0) hkl, lnOrd_at hlt]; rfl)
    obtain ⟨L, hL⟩ := nmd ((lnOrd n r).take k)
    rw [← hL] at hst hl HT
    clear hL
    obtain ⟨ua, uc, hu0⟩ := z0d hst.ord
    rw [hl] at hu0
    subst hu0
    have HL := zh hl
    clear hl
    have k_t := hst.kt
    have B1 := hst.bel
    have ct := bwc2 k_t
    refine bws fun p1 => ?_
    go_upto_region 5 with (fail)
    have hmod : ((k : Int) + (r : Int)) % (n : Int) = (((k + r) % n : Nat) : Int) := by simp
    obtain ⟨z, hz⟩ := nmd ((k + r) % n)
    rw [← hz] at hmod HT
    have hzn : z < n := by rw [hz]; exact Nat.mod_lt _ h0
    have HM := zh hmod
    clear hz hmod
    refine z1d (t := 3) (zs := #[.int .i64 (((k : Int) + (r : Int)) % (n : Int))]) 9 8 25 96 [24] (fun g => .slice (some ⟨g, 0, none⟩) 1 1) (by kernel_rfl) (by kernel_rfl) (by kernel_rfl) (by kernel_rfl) rfl rfl ?_
    apply Exists.intro
    refine ⟨?_, ?_, ?_⟩
    · intro wb' hwb'
      obtain ⟨dt0, dt1⟩ := bwc2 (k_t.below hwb')
      simp only [maskAt, List.take_succ_cons, List.take_zero]
      repeat (go_big_quiet_step (fail))
      refine wpQuiet_nil ?_
      exact rfl
    · intro ax wx hp
      have e24 := hp 24 (by decide)
      clear hp
      simp only [Act.put, List.setIfInBounds_toArray, List.set_cons_zero, List.set_cons_succ, List.getElem?_toArray, List.getElem?_cons_succ, List.getElem?_cons_zero] at e24
      exact ⟨by simp [Region.wanted, yielded, e24], by simp [execOp, go_sem, Act.eval, e24]⟩
    intro W3 gnb hW hg knb
    rw [HM.out] at knb
    have hst3 := hst.below hW
    clear hW hg ct hst
    simp only [List.drop_succ_cons, List.drop_zero, Act.put, List.setIfInBounds_toArray, List.set_cons_zero, List.set_cons_succ]
    have hsz := hst3.bel.size
    go_wp2_with (at_builtin; refine z06 rfl _ _ 33 rfl w.heap.size 3 i1 (.int .i64 0) 1 8 Tryz.underlying33 hi1 hy0 hy1 hy2 rfl (by decide) _ k (L.map (Value.int .i64)) rfl (by have h := hst3.ord; unfold OrdRow at h; rw [HL.out] at h; exact h) ⟨gnb, 0, none⟩ 1 1 [.int .i64 (z : Int)] rfl rfl ?g1 ?g2 ?g3 ?g4 ?g5 ?_)
    case g1 => exact cells_at15 knb
    case g2 => intro u hu; simp only [List.mem_cons, List.not_mem_nil, or_false] at hu; subst hu; rfl
    case g3 => unfold maxLen; omega
    case g4 => omega
    case g5 => omega
    intro vo w1 hown hgrow hat
    obtain ⟨oa2, oc2, hv0⟩ := z0d hown
    subst hv0
    have hrow : OrdRow w1 w.heap.size (.slice oa2 (k + 1) oc2) (L ++ [(z : Int)]) := by unfold OrdRow; rw [List.length_append, HL.out, List.map_append]; exact hown
    have kt1 := z0q hst3.ord hst3.kt (by decide) hgrow
    have q0 := kt1.cell (i := 1) rfl
    have q1 := kt1.frozen 1
    have hst4 := hst3.putOrd hrow hgrow
    clear hst3
    go_wp2
    go_roundw
    case rel => exact ⟨k + 1, _, by omega, by go_num, by rw [HT.out]; exact hst4⟩
    case measure => simp [intOf]; omega
  · have t1 : decide ((k : Int) < (n : Int)) = false := zf (by omega)
    have hst : LSt w wr gt (.slice none 0 0) uo [] (lnOrd n r) := by
     have e : (lnOrd n r).take k = lnOrd n r := List.take_of_length_le (by rw [z15]; omega)
     rw [e] at hst; exact hst
    have HO1 := hst.ord
    unfold OrdRow at HO1
    rw [z15] at HO1
    obtain ⟨gq, oc, rfl, hgq, -, -⟩ := z1a HO1 h0
    clear HO1
    go_wp2
    clear t1
    go_loopw [7] (fun i wz => ∃ (j : Nat) (un : Value), j ≤ n ∧ i = .int .i64 (j : Int) ∧ LSt w wz gt un (.slice (some ⟨gq, 0, none⟩) n oc) (lnUp P (lnOrd n r) n j) (lnOrd n r)) (fun i _ => n - (intOf i).toNat)
    case atStart => exact ⟨0, _, Nat.zero_le _, rfl, hst⟩
    case round =>
     clear hst hlt hk
     rename World => wz
     obtain ⟨j, un, hj, rfl, hst⟩ := hrel
     by_cases hjn : j < n
     · have t3 : decide ((j : Int) < (n : Int)) = true := zt (by omega)
       go_wp2
       clear t3
       obtain ⟨i2, hi2, hx0, hx1, hx2⟩ := info_parts prim_info17
       go_loopw [8, 9] (fun sm ki wq => ∃ (d : Nat), j + d ≤ n ∧ ki = .int .i64 ((j + d : Nat) : Int) ∧ wq.ownsRow wz.heap.size 59 12 sm d (rowL (fun t => P ((j + t + r) % n)) d) ∧ Below wz.heap.size wz wq) (fun _ ki _ => n - (intOf ki).toNat)
       case atStart => exact ⟨0, by omega, rfl, World.ownsRow_nil _ _ _ _, Below.refl _ _⟩
       case round =>
        rename World => wq
        obtain ⟨d, hd, rfl, hown, BO⟩ := hrel
        have hq := hst.below BO
        by_cases hdn : j + d < n
        · have t4 : decide (((j + d : Nat) : Int) < (n : Int)) = true := zt (by omega)
          obtain ⟨z, hz⟩ := nmd ((j + d + r) % n)
          have hzn : z < n := by rw [hz]; exact Nat.mod_lt _ h0
          have y0 := hq.kt.cell (i := 1) rfl
          have y1 := ord_cell17 (by have h := hq.ord; unfold OrdRow at h; rw [z15] at h; exact h) (j := j + d) (x := (z : Int)) (by rw [hz, ← lnOrd_at (show j + d < n by omega), z0g (by rw [z15]; omega)]; exact List.getElem?_eq_getElem (by rw [z15]; omega))
          have hx := HCL.out z hzn
          have ey : rowL (fun t => P ((j + t + r) % n)) (d + 1) = rowL (fun t => P ((j + t + r) % n)) d ++ pcells (P z) := by rw [rowL_succ17, hz]
          have x0 : wq.cell? ⟨b, off + z * 12, none⟩ = some (.int .i64 (P z).k) := (hq.bel.cell (p := ⟨b, off + z * 12, none⟩) hb).trans (hx 0 (by omega))
          have x1 : wq.cell? ⟨b, off + z * 12 + 1, none⟩ = some (.int .i64 (P z).a.1) := (hq.bel.cell (p := ⟨b, off + z * 12 + 1, none⟩) hb).trans (hx 1 (by omega))
          have x2 : wq.cell? ⟨b, off + z * 12 + 2, none⟩ = some (.int .i64 (P z).a.2.1) := (hq.bel.cell (p := ⟨b, off + z * 12 + 2, none⟩) hb).trans (hx 2 (by omega))
          have x3 : wq.cell? ⟨b, off + z * 12 + 3, none⟩ = some (.int .i64 (P z).a.2.2) := (hq.bel.cell (p := ⟨b, off + z * 12 + 3, none⟩) hb).trans (hx 3 (by omega))
          have x4 : wq.cell? ⟨b, off + z * 12 + 4, none⟩ = some (.int .i64 (P z).b.1) := (hq.bel.cell (p := ⟨b, off + z * 12 + 4, none⟩) hb).trans (hx 4 (by omega))
          have x5 : wq.cell? ⟨b, off + z * 12 + 5, none⟩ = some (.int .i64 (P z).b.2.1) := (hq.bel.cell (p := ⟨b, off + z * 12 + 5, none⟩) hb).trans (hx 5 (by omega))
          have x6 : wq.cell? ⟨b, off + z * 12 + 6, none⟩ = some (.int .i64 (P z).b.2.2) := (hq.bel.cell (p := ⟨b, off + z * 12 + 6, none⟩) hb).trans (hx 6 (by omega))
          have x7 : wq.cell? ⟨b, off + z * 12 + 7, none⟩ = some (.int .i64 (P z).c.1) := (hq.bel.cell (p := ⟨b, off + z * 12 + 7, none⟩) hb).trans (hx 7 (by omega))
          have x8 : wq.cell? ⟨b, off + z * 12 + 8, none⟩ = some (.int .i64 (P z).c.2.1) := (hq.bel.cell (p := ⟨b, off + z * 12 + 8, none⟩) hb).trans (hx 8 (by omega))
          have x9 : wq.cell? ⟨b, off + z * 12 + 9, none⟩ = some (.int .i64 (P z).c.2.2) := (hq.bel.cell (p := ⟨b, off + z * 12 + 9, none⟩) hb).trans (hx 9 (by omega))
          have x10 : wq.cell? ⟨b, off + z * 12 + 10, none⟩ = some (.int .i64 (P z).r) := (hq.bel.cell (p := ⟨b, off + z * 12 + 10, none⟩) hb).trans (hx 10 (by omega))
          have x11 : wq.cell? ⟨b, off + z * 12 + 11, none⟩ = some (.int .i64 (P z).m) := (hq.bel.cell (p := ⟨b, off + z * 12 + 11, none⟩) hb).trans (hx 11 (by omega))
          have hzw := BO.size
          clear hz hx
          obtain ⟨pz, hpz⟩ := nmd (P z)
          rw [← hpz] at ey x0 x1 x2 x3 x4 x5 x6 x7 x8 x9 x10 x11
          clear hpz
          obtain ⟨kk, ⟨a1, a2, a3⟩, ⟨b1, b2, b3⟩, ⟨c1, c2, c3⟩, rr, mm⟩ := pz
          dsimp only at x0 x1 x2 x3 x4 x5 x6 x7 x8 x9 x10 x11
          have EY := zh ey
          clear ey
          have hq' := hq
          clear hq
          go_wp2_with (at_builtin; refine z06 rfl _ _ 22 rfl wz.heap.size 59 i2 _ 12 96 Tryz.underlying22 hi2 hx0 hx1 hx2 rfl (by decide) _ d (rowL (fun t => P ((j + t + r) % n)) d) rfl (z07 hown (z0s _ (Nat.le_refl _))) ⟨wq.heap.size, 0, none⟩ 1 1 (pcells ⟨kk, (a1, a2, a3), (b1, b2, b3), (c1, c2, c3), rr, mm⟩) rfl rfl ?h1 ?h2 ?h3 ?h4 ?h5 ?_)
          case h1 => exact cells_new15 _ _ _
          case h2 => intro u hu; simp only [pcells, List.mem_cons, List.not_mem_nil, or_false] at hu; rcases hu with rfl | rfl | rfl | rfl | rfl | rfl | rfl | rfl | rfl | rfl | rfl | rfl <;> rfl
          case h3 => unfold maxLen; omega
          case h4 => omega
          case h5 => simp; omega
          intro v' w1 hown' hgrow hne
          have hB1 : Below wz.heap.size wz w1 := (BO.alloc BO.size _).grown hgrow (by simp; omega) (fun i ei => by have := (World.ownsRow.lt hown i ei).1; omega)
          have HO : Hid (w1.ownsRow wz.heap.size 59 12 v' (d + 1) (rowL (fun t => P ((j + t + r) % n)) (d + 1))) := zh (by rw [EY.out]; exact hown')
          clear hown' hgrow hne hown
          go_wp2
          go_roundw
          case rel => exact ⟨d + 1, by omega, by go_num, HO.out, hB1⟩
          case measure => simp [intOf]; omega
        · have t4 : decide (((j + d : Nat) : Int) < (n : Int)) = false := zf (by omega)
          have hd0 : d = n - j := by omega
          have hIq : ∀ i, i < d → ((fun t => P ((j + t + r) % n)) i).I := fun i _ => HI.out _ (Nat.mod_lt _ h0)
          obtain ⟨sa, sc, rfl, hps⟩ := owns_prims17 hown hIq (by unfold maxLen; omega)
          have hPq : pAll (fun t => P ((j + t + r) % n)) d = true := by
           unfold pAll
           rw [List.all_eq_true]
           intro t _
           exact pAll_at HP.out (Nat.mod_lt _ h0)
          have hbx : bAll (fun k => pBox ((fun t => P ((j + t + r) % n)) k)) d = mAt P (lnOrd n r) j n := by
           rw [ln_box hjn, ← hd0]
           exact bAll_congr d (by omega) (fun t ht => by dsimp only; rw [lnOrd_at (show j + t < n by omega)]; rfl)
          obtain ⟨bx, hbx2⟩ := nmd (mAt P (lnOrd n r) j n)
          have HBX := zh hbx2
          rw [← hbx2] at hbx
          clear hbx2
          obtain ⟨⟨v1, v2, v3⟩, v4, v5, v6⟩ := bx
          have KB := zh (build_box17 sa d sc _ wq v1 v2 v3 v4 v5 v6 hps (by omega) (by omega) hPq hbx)
          have hf : ∀ (gb mb cb mo co : Nat) (ao : Option Addr) (w : World), (Instr.field 39 (.agg #[.slice (some ⟨gb, 0, none⟩) mb cb, .slice ao mo co]) 0).run prog w = .ok (.slice (some ⟨gb, 0, none⟩) mb cb) w := fun _ _ _ _ _ _ _ => by kernel_rfl
          clear hown hIq hps hPq hbx hd0
          go_upto_region 15 with (go_at_call 10; (with_reducible refine KB.out.mono ?_); rintro e w2 ⟨gb, mb, cb, mo, co, ao, rfl, hmb, ⟨s0, s1, s2, s3, s4, s5⟩, hb2⟩)
          refine wnm fun W3 hW3 => ?_
          have hq3 : LSt w W3 gt un (.slice (some ⟨gq, 0, none⟩) n oc) (lnUp P (lnOrd n r) n j) (lnOrd n r) := by rw [hW3]; exact (hq.below hb2).alloc _
          have ka := bkn hW3
          have la : gt < w2.heap.size := ((hq.below hb2).kt).lt
          clear hW3 hq hb2 BO KB s0 s1 s2 s3 s4 s5 hmb hst hf t4 hd hdn
          generalize w2.heap.size = ga at *
          have hlen : (lnUp P (lnOrd n r) n j).length = 2 * j := lnUp_len P (lnOrd n r) n j hjn
          obtain ⟨ua, uc, hu0⟩ := z0d hq3.nod
          rw [hlen] at hu0
          subst hu0
          by_cases hjj : j + 1 < n
          · have t5 : decide ((j : Int) + 1 < (n : Int)) = true := zt (by omega)
            have HN := hq3.nod
            unfold RNodRow at HN
            rw [hlen] at HN
            have y0 := hq3.kt.cell (i := 0) rfl
            have rx := rwc6 ka
            have hsz := hq3.bel.size
            go_wp2_with (at_builtin; refine z06 rfl _ _ 37 rfl w.heap.size 63 i0 _ 9 72 Tryz.underlying37 hi0 hz0 hz1 hz2 rfl (by decide) _ (2 * j) ((lnUp P (lnOrd n r) n j).flatMap ncells) rfl (z07 HN (z0s _ (Nat.le_refl _))) ⟨W3.heap.size, 0, none⟩ 1 1 (ncells (((v1, v2, v3), (v4, v5, v6)), 0, 0, 2 * (j : Int) + 2)) rfl rfl ?m1 ?m2 ?m3 ?m4 ?m5 ?_)
            case m1 => exact cells_new15 _ _ _
            case m2 => exact ncells_one _
            case m3 => unfold maxLen; omega
            case m4 => omega
            case m5 => simp; omega
            intro vn w3 hown hgrow hat
            obtain ⟨gn, cn, hvn⟩ := z0d hown
            subst hvn
            have hrow : RNodRow w3 w.heap.size (.slice gn (2 * j + 1) cn) (lnUp P (lnOrd n r) n j ++ [(((v1, v2, v3), (v4, v5, v6)), 0, 0, 2 * (j : Int) + 2)]) := by unfold RNodRow; rw [List.length_append, hlen, List.flatMap_append, List.flatMap_cons, List.flatMap_nil, List.append_nil]; exact hown
            have kt1 := z0q (hq3.alloc _).nod (hq3.alloc _).kt (by decide) hgrow
            have ka1 := z0q (hq3.alloc _).nod (ka.alloc _) (by decide) hgrow
            have hq5 := (hq3.alloc _).putNode hrow hgrow
            have q0 := kt1.cell (i := 0) rfl
            have q1 := kt1.frozen 0
            clear hown hgrow hat hrow HN y0 rx hsz
            go_upto_region 17 with (fail)
            obtain ⟨W4, hW4⟩ : ∃ W, W = w3.setCell ⟨gt, 0, none⟩ (.slice gn (2 * j + 1) cn) := ⟨_, rfl⟩
            have ka4 : Bk W4 ga 61 #[v1, v2, v3, v4, v5, v6] := by rw [hW4]; exact ka1.other (a := ⟨gt, 0, none⟩) (by show ¬ ga = gt; omega) _
            rw [← hW4] at hq5 ⊢
            clear hW4 kt1 ka1 q0 q1 hq3 ka
            obtain ⟨z, hz⟩ := nmd ((j + r) % n)
            have hzn : z < n := by rw [hz]; exact Nat.mod_lt _ h0
            have y0 := hq5.kt.cell (i := 1) rfl
            have y1 := ord_cell17 (by have h := hq5.ord; unfold OrdRow at h; rw [z15] at h; exact h) (j := j) (x := (z : Int)) (by rw [hz, ← lnOrd_at hjn, z0g (by rw [z15]; omega)]; exact List.getElem?_eq_getElem (by rw [z15]; omega))
            have hx := HCL.out z hzn
            have x0 : W4.cell? ⟨b, off + z * 12, none⟩ = some (.int .i64 (P z).k) := (hq5.bel.cell (p := ⟨b, off + z * 12, none⟩) hb).trans (hx 0 (by omega))
            have x1 : W4.cell? ⟨b, off + z * 12 + 1, none⟩ = some (.int .i64 (P z).a.1) := (hq5.bel.cell (p := ⟨b, off + z * 12 + 1, none⟩) hb).trans (hx 1 (by omega))
            have x2 : W4.cell? ⟨b, off + z * 12 + 2, none⟩ = some (.int .i64 (P z).a.2.1) := (hq5.bel.cell (p := ⟨b, off + z * 12 + 2, none⟩) hb).trans (hx 2 (by omega))
            have x3 : W4.cell? ⟨b, off + z * 12 + 3, none⟩ = some (.int .i64 (P z).a.2.2) := (hq5.bel.cell (p := ⟨b, off + z * 12 + 3, none⟩) hb).trans (hx 3 (by omega))
            have x4 : W4.cell? ⟨b, off + z * 12 + 4, none⟩ = some (.int .i64 (P z).b.1) := (hq5.bel.cell (p := ⟨b, off + z * 12 + 4, none⟩) hb).trans (hx 4 (by omega))
            have x5 : W4.cell? ⟨b, off + z * 12 + 5, none⟩ = some (.int .i64 (P z).b.2.1) := (hq5.bel.cell (p := ⟨b, off + z * 12 + 5, none⟩) hb).trans (hx 5 (by omega))
            have x6 : W4.cell? ⟨b, off + z * 12 + 6, none⟩ = some (.int .i64 (P z).b.2.2) := (hq5.bel.cell (p := ⟨b, off + z * 12 + 6, none⟩) hb).trans (hx 6 (by omega))
            have x7 : W4.cell? ⟨b, off + z * 12 + 7, none⟩ = some (.int .i64 (P z).c.1) := (hq5.bel.cell (p := ⟨b, off + z * 12 + 7, none⟩) hb).trans (hx 7 (by omega))
            have x8 : W4.cell? ⟨b, off + z * 12 + 8, none⟩ = some (.int .i64 (P z).c.2.1) := (hq5.bel.cell (p := ⟨b, off + z * 12 + 8, none⟩) hb).trans (hx 8 (by omega))
            have x9 : W4.cell? ⟨b, off + z * 12 + 9, none⟩ = some (.int .i64 (P z).c.2.2) := (hq5.bel.cell (p := ⟨b, off + z * 12 + 9, none⟩) hb).trans (hx 9 (by omega))
            have x10 : W4.cell? ⟨b, off + z * 12 + 10, none⟩ = some (.int .i64 (P z).r) := (hq5.bel.cell (p := ⟨b, off + z * 12 + 10, none⟩) hb).trans (hx 10 (by omega))
            have x11 : W4.cell? ⟨b, off + z * 12 + 11, none⟩ = some (.int .i64 (P z).m) := (hq5.bel.cell (p := ⟨b, off + z * 12 + 11, none⟩) hb).trans (hx 11 (by omega))
            have hpI := HI.out z hzn
            have hpR := pAll_at HP.out hzn
            have hb1 : bAll (fun _ => pBox (P z)) 1 = mAt P (lnOrd n r) j ((j : Int) + 1) := by rw [ln_box1, lnOrd_at hjn, hz]; rfl
            clear hz hx
            obtain ⟨bx, hbx2⟩ := nmd (mAt P (lnOrd n r) j ((j : Int) + 1))
            have HBE := zh hbx2
            rw [← hbx2] at hb1
            clear hbx2
            obtain ⟨⟨e1, e2, e3⟩, e4, e5, e6⟩ := bx
            obtain ⟨pz, hpz⟩ := nmd (P z)
            rw [← hpz] at hpI hpR hb1 x0 x1 x2 x3 x4 x5 x6 x7 x8 x9 x10 x11
            clear hpz
            obtain ⟨kk, ⟨a1, a2, a3⟩, ⟨b1, b2, b3⟩, ⟨c1, c2, c3⟩, rr, mm⟩ := pz
            have hp1 : pAll (fun _ => (⟨kk, (a1, a2, a3), (b1, b2, b3), (c1, c2, c3), rr, mm⟩ : Pr)) 1 = true := by unfold pAll; rw [List.all_eq_true]; intro t _; exact hpR
            have KB0 := build_box17 (some ⟨W4.heap.size, 0, none⟩) 1 1 _ (W4.alloc (.cells (pcells ⟨kk, (a1, a2, a3), (b1, b2, b3), (c1, c2, c3), rr, mm⟩).toArray 59)) e1 e2 e3 e4 e5 e6 (prims_one17 (Bk.new _ _ _) hpI (by omega)) (by omega) (by omega) hp1 hb1
            simp only [pcells] at KB0
            have KB := zh KB0
            dsimp only at x0 x1 x2 x3 x4 x5 x6 x7 x8 x9 x10 x11
            clear KB0 hpI hpR hb1 hp1
            have hf : ∀ (gb mb cb mo co : Nat) (ao : Option Addr) (w : World), (Instr.field 39 (.agg #[.slice (some ⟨gb, 0, none⟩) mb cb, .slice ao mo co]) 0).run prog w = .ok (.slice (some ⟨gb, 0, none⟩) mb cb) w := fun _ _ _ _ _ _ _ => by kernel_rfl
            have HQ5 := hq5
            clear hq5
            go_upto_region 18 with (go_at_call 10; (with_reducible refine KB.out.mono ?_); rintro e w5 ⟨gb, mb, cb, mo, co, ao, rfl, hmb, ⟨s0, s1, s2, s3, s4, s5⟩, hb5⟩; have kq := (ka4.alloc _).below hb5; have nx := rwc6 kq; have f0 := kq.frozen 0; have f1 := kq.frozen 1; have f2 := kq.frozen 2; have f3 := kq.frozen 3; have f4 := kq.frozen 4; have f5 := kq.frozen 5)
            have hq5 := ((HQ5.alloc _).below hb5).setA6 kq (by decide) (by decide) la (.int .i64 e1) (.int .i64 e2) (.int .i64 e3) (.int .i64 e4) (.int .i64 e5) (.int .i64 e6)
            have ka6 := bkp6 kq (.int .i64 e1) (.int .i64 e2) (.int .i64 e3) (.int .i64 e4) (.int .i64 e5) (.int .i64 e6)
            obtain ⟨W6, hW6⟩ : ∃ W, W = (((((w5.setCell ⟨ga, 0, none⟩ (.int .i64 e1)).setCell ⟨ga, 1, none⟩ (.int .i64 e2)).setCell ⟨ga, 2, none⟩ (.int .i64 e3)).setCell ⟨ga, 3, none⟩ (.int .i64 e4)).setCell ⟨ga, 4, none⟩ (.int .i64 e5)).setCell ⟨ga, 5, none⟩ (.int .i64 e6) := ⟨_, rfl⟩
            rw [← hW6] at hq5 ka6 ⊢
            clear hW6 kq nx f0 f1 f2 f3 f4 f5 s0 s1 s2 s3 s4 s5 hmb hb5 KB hf HQ5 ka4 y0 y1 x0 x1 x2 x3 x4 x5 x6 x7 x8 x9 x10 x11
            have hlen2 : (lnUp P (lnOrd n r) n j ++ [((((v1, v2, v3), (v4, v5, v6)), 0, 0, 2 * (j : Int) + 2) : Nd)]).length = 2 * j + 1 := by rw [List.length_append, hlen]; rfl
            have heq : lnUp P (lnOrd n r) n (j + 1) = (lnUp P (lnOrd n r) n j ++ [((((v1, v2, v3), (v4, v5, v6)), 0, 0, 2 * (j : Int) + 2) : Nd)]) ++ [((((e1, e2, e3), (e4, e5, e6)), (j : Int), 1, 0) : Nd)] := by
             rw [lnUp_succ, HBX.out, HBE.out]
             unfold lnNode
             rw [if_pos hjj, List.append_assoc]
            have HN := hq5.nod
            unfold RNodRow at HN
            rw [hlen2] at HN
            have y0 := hq5.kt.cell (i := 0) rfl
            have rx := rwc6 ka6
            have hsz := hq5.bel.size
            go_wp2_with (at_builtin; refine z06 rfl _ _ 37 rfl w.heap.size 63 i0 _ 9 72 Tryz.underlying37 hi0 hz0 hz1 hz2 rfl (by decide) _ (2 * j + 1) (((lnUp P (lnOrd n r) n j ++ [((((v1, v2, v3), (v4, v5, v6)), 0, 0, 2 * (j : Int) + 2) : Nd)])).flatMap ncells) rfl (z07 HN (z0s _ (Nat.le_refl _))) ⟨W6.heap.size, 0, none⟩ 1 1 (ncells (((e1, e2, e3), (e4, e5, e6)), (j : Int), 1, 0)) rfl rfl ?p1 ?p2 ?p3 ?p4 ?p5 ?_)
            case p1 => exact cells_new15 _ _ _
            case p2 => exact ncells_one _
            case p3 => unfold maxLen; omega
            case p4 => omega
            case p5 => simp; omega
            intro vn w7 hown hgrow hat
            obtain ⟨un2, cn2, hvn⟩ := z0d hown
            subst hvn
            have hrow : RNodRow w7 w.heap.size (.slice un2 (2 * j + 1 + 1) cn2) ((lnUp P (lnOrd n r) n j ++ [((((v1, v2, v3), (v4, v5, v6)), 0, 0, 2 * (j : Int) + 2) : Nd)]) ++ [(((e1, e2, e3), (e4, e5, e6)), (j : Int), 1, 0)]) := by unfold RNodRow; rw [List.length_append, hlen2]; simpa only [List.flatMap_append, List.flatMap_cons, List.flatMap_nil, List.append_nil, List.append_assoc, List.length_cons, List.length_nil, Nat.zero_add] using hown
            have kt7 := z0q (hq5.alloc _).nod (hq5.alloc _).kt (by decide) hgrow
            have hq8 := (hq5.alloc _).putNode hrow hgrow
            have q0 := kt7.cell (i := 0) rfl
            have q1 := kt7.frozen 0
            clear hown hgrow hat hrow HN y0 rx
            go_wp2
            go_roundw
            case rel => exact ⟨j + 1, _, by omega, by go_num, by rw [heq]; exact hq8⟩
            case measure => simp [intOf]; omega
          · have t5 : decide ((j : Int) + 1 < (n : Int)) = false := zf (by omega)
            have heq : lnUp P (lnOrd n r) n (j + 1) = lnUp P (lnOrd n r) n j ++ [((((v1, v2, v3), (v4, v5, v6)), (j : Int), 1, 0) : Nd)] := by
             rw [lnUp_succ, HBX.out, show (n : Int) = (j : Int) + 1 by omega]
             unfold lnNode
             rw [if_neg hjj, List.nil_append]
            have HN := hq3.nod
            unfold RNodRow at HN
            rw [hlen] at HN
            have y0 := hq3.kt.cell (i := 0) rfl
            have rx := rwc6 ka
            have hsz := hq3.bel.size
            go_wp2_with (at_builtin; refine z06 rfl _ _ 37 rfl w.heap.size 63 i0 _ 9 72 Tryz.underlying37 hi0 hz0 hz1 hz2 rfl (by decide) _ (2 * j) ((lnUp P (lnOrd n r) n j).flatMap ncells) rfl (z07 HN (z0s _ (Nat.le_refl _))) ⟨W3.heap.size, 0, none⟩ 1 1 (ncells (((v1, v2, v3), (v4, v5, v6)), (j : Int), 1, 0)) rfl rfl ?s1 ?s2 ?s3 ?s4 ?s5 ?_)
            case s1 => exact cells_new15 _ _ _
            case s2 => exact ncells_one _
            case s3 => unfold maxLen; omega
            case s4 => omega
            case s5 => simp; omega
            intro vn w7 hown hgrow hat
            obtain ⟨un2, cn2, hvn⟩ := z0d hown
            subst hvn
            have hrow : RNodRow w7 w.heap.size (.slice un2 (2 * j + 1) cn2) (lnUp P (lnOrd n r) n j ++ [(((v1, v2, v3), (v4, v5, v6)), (j : Int), 1, 0)]) := by unfold RNodRow; rw [List.length_append, hlen, List.flatMap_append, List.flatMap_cons, List.flatMap_nil, List.append_nil]; exact hown
            have kt7 := z0q (hq3.alloc _).nod (hq3.alloc _).kt (by decide) hgrow
            have hq8 := (hq3.alloc _).putNode hrow hgrow
            have q0 := kt7.cell (i := 0) rfl
            have q1 := kt7.frozen 0
            clear hown hgrow hat hrow HN y0 rx
            go_wp2
            go_roundw
            case rel => exact ⟨j + 1, _, by omega, by go_num, by rw [heq]; exact hq8⟩
            case measure => simp [intOf]; omega
     · have t2 : decide ((j : Int) < (n : Int)) = false := zf (by omega)
       have ej : j = n := by omega
       rw [ej] at hst
       obtain ⟨ua, uc, hu0⟩ := z0d hst.nod
       rw [lnAll_len h0] at hu0
       subst hu0
       have y0 := hst.kt.cell (i := 0) rfl
       have y1 := hst.kt.cell (i := 1) rfl
       have y2 := hst.kr.cell (i := 0) rfl
       have y3 := hst.kr.cell (i := 1) rfl
       have y4 := hst.kr.frozen 0
       have y5 := hst.kr.frozen 1
       have HST := hst
       clear hst ej
       go_wp2
       obtain ⟨hn1, ho1, hb1⟩ := HST.fin
       obtain ⟨rc0, rc1⟩ := rwc2 (bkp2 HST.kr (.slice ua (2 * n - 1) uc) (.slice (some ⟨gq, 0, none⟩) n oc))
       exact bodyPost_ret (v := .agg #[.slice ua (2 * n - 1) uc, .slice (some ⟨gq, 0, none⟩) n oc]) (by simp [results, results17, go_sem, rc0, rc1]) rfl ⟨_, _, rfl, hn1, ho1, hb1⟩
end
end Go.Proofs.YtbmpmjdlaahekaaGreat
