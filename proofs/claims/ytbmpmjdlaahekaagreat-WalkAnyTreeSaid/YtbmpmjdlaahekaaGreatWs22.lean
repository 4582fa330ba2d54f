/- Contracts of package tri, below: Place, places, surround, upright, tim -/
import Derived.Laws.Cover1
import Derived.Test.YtbmpmjdlaahekaaGreatWs19
set_option maxRecDepth 100000
set_option maxHeartbeats 8000000
set_option linter.unusedVariables false
set_option linter.unusedSimpArgs false
open Go.Proofs.Tryz
namespace Go.Proofs.YtbmpmjdlaahekaaGreat
section
open Go.RowKit Go.Proofs.Sky
theorem tri_Place_no (x y z : Int) (w : World) (mn : Int) (hmn : ∀ (w : World) (ts : Array TypeId) (t : TypeId), (Builtin.min_ ts t #[x, y, z]).run prog w = .ok (.int .i64 mn) w) (t1 : decide (-524288 ≤ mn) = false) :
  Rt prog 145 #[.agg #[x, y, z]] w (.bool false) := by
 go_enter func145, ntmps145
 go_upto_region 1 with (fail)
 refine wst1 fun W1 kv B1 => ?_
 have cv := bwc3 kv
 refine bws fun p1 => ?_
 go_wp2
 go_ret
 exact ⟨rfl, z00 B1 _⟩
theorem tri_Place_yes (x y z : Int) (w : World) (mn : Int) (hmn : ∀ (w : World) (ts : Array TypeId) (t : TypeId), (Builtin.min_ ts t #[x, y, z]).run prog w = .ok (.int .i64 mn) w) (t1 : decide (-524288 ≤ mn) = true) (mx : Int) (hmx : ∀ (w : World) (ts : Array TypeId) (t : TypeId), (Builtin.max_ ts t #[x, y, z]).run prog w = .ok (.int .i64 mx) w) :
  Rt prog 145 #[.agg #[x, y, z]] w (.bool (decide (mx ≤ 524288))) := by
 go_enter func145, ntmps145
 go_upto_region 1 with (fail)
 refine wst1 fun W1 kv B1 => ?_
 have cv := bwc3 kv
 refine bws fun p1 => ?_
 go_wp2
 go_ret
 exact ⟨rfl, z00 B1 _⟩
theorem tri_Place (x y z : Int) (w : World) :
  Rt prog 145 #[.agg #[x, y, z]] w (.bool (plc (x, y, z))) := by
 obtain ⟨mn, emn⟩ := nmd ((if z < (if y < x then y else x) then z else (if y < x then y else x)))
 obtain ⟨mx, emx⟩ := nmd ((if z > (if y > x then y else x) then z else (if y > x then y else x)))
 have hmn : ∀ (w : World) (ts : Array TypeId) (t : TypeId), (Builtin.min_ ts t #[x, y, z]).run prog w = .ok (.int .i64 mn) w := fun w ts t => by rw [emn]; exact run_min_int3 ..
 have hmx : ∀ (w : World) (ts : Array TypeId) (t : TypeId), (Builtin.max_ ts t #[x, y, z]).run prog w = .ok (.int .i64 mx) w := fun w ts t => by rw [emx]; exact run_max_int3 ..
 have e1 : mn ≤ x ∧ mn ≤ y ∧ mn ≤ z ∧ (mn = x ∨ mn = y ∨ mn = z) := by
  split at emn <;> split at emn <;> omega
 have e2 : x ≤ mx ∧ y ≤ mx ∧ z ≤ mx ∧ (mx = x ∨ mx = y ∨ mx = z) := by
  split at emx <;> split at emx <;> omega
 clear emn emx
 by_cases h : -524288 ≤ mn
 · have e : plc (x, y, z) = decide (mx ≤ 524288) := by
    rw [Bool.eq_iff_iff, z0a, decide_eq_true_iff]
    dsimp only
    omega
   rw [e]
   exact tri_Place_yes x y z w mn hmn (zt h) mx hmx
 · have e : plc (x, y, z) = false := by
    rw [Bool.eq_false_iff, Ne, z0a]
    dsimp only
    omega
   rw [e]
   exact tri_Place_no x y z w mn hmn (zf h)
theorem tri_places (b off cap n : Nat) (V : Nat → T3) (w : World) (hrow : VcRow w b off n V) (hb : b < w.heap.size) (hn : n ≤ 1048576) :
  Rt prog 141 #[.slice (some ⟨b, off, none⟩) n cap] w (.bool (allp V n)) := by
 have HR := zh hrow
 clear hrow
 go_enter func141, ntmps141
 go_wp2
 go_loopw [7] (fun i wr => ∃ k : Nat, k ≤ n ∧ i = .int .i64 k ∧ Hid (allp V k = true) ∧ Below w.heap.size w wr) (fun i _ => n - (intOf i).toNat)
 case atStart => exact ⟨0, by omega, rfl, zh rfl, Below.refl _ _⟩
 case round =>
  obtain ⟨k, hk, rfl, HA, B20⟩ := hrel
  by_cases hlt : k < n
  · obtain ⟨x0, x1, x2⟩ := HR.out k hlt
    have z0 : ∀ p : BW wr, p.w.cell? ⟨b, off + k * 3, none⟩ = some (.int .i64 (V k).1) := bwB B20 x0 hb
    have z1 : ∀ p : BW wr, p.w.cell? ⟨b, off + k * 3 + 1, none⟩ = some (.int .i64 (V k).2.1) := bwB B20 x1 hb
    have z2 : ∀ p : BW wr, p.w.cell? ⟨b, off + k * 3 + 2, none⟩ = some (.int .i64 (V k).2.2) := bwB B20 x2 hb
    have KP := zh (fun w => tri_Place (V k).1 (V k).2.1 (V k).2.2 w)
    obtain ⟨t, ht⟩ := nmd (plc (V k))
    rw [show ((V k).1, (V k).2.1, (V k).2.2) = V k from rfl, ← ht] at KP
    have HT : Hid (plc (V k) = t) := zh ht.symm
    clear x0 x1 x2 ht
    obtain ⟨v1, e1⟩ : ∃ v, (V k).1 = v := ⟨_, rfl⟩
    obtain ⟨v2, e2⟩ : ∃ v, (V k).2.1 = v := ⟨_, rfl⟩
    obtain ⟨v3, e3⟩ : ∃ v, (V k).2.2 = v := ⟨_, rfl⟩
    rw [e1] at KP z0
    rw [e2] at KP z1
    rw [e3] at KP z2
    clear e1 e2 e3
    refine bws fun p20 => ?_
    go_upto_region 4 with (fail)
    refine wnm fun W21 hW21 => ?_
    have B21 := bwA p20 hW21 B20
    have ov : w.heap.size ≤ p20.w.heap.size := (z00 B20 p20).size
    have kv := bkn hW21
    clear hW21
    clear B20
    generalize p20.w.heap.size = gv at *
    clear z0 z1 z2
    have cv := bwc3 kv
    refine bws fun p21 => ?_
    cases t with
    | false =>
     go_wp2_with ((go_at_call 145; (with_reducible refine (z02 KP.out _).mono ?_); rintro e w' ⟨rfl, q, rfl⟩))
     go_ret
     exact ⟨by rw [allp_no HT.out n hlt]; rfl, z00 B21 _⟩
    | true =>
     go_wp2_with ((go_at_call 145; (with_reducible refine (z02 KP.out _).mono ?_); rintro e w' ⟨rfl, q, rfl⟩))
     go_roundw
     case rel => exact ⟨k + 1, by omega, by go_num, zh (by unfold allp; rw [HA.out, HT.out]; rfl), z00 B21 _⟩
     case measure => simp [intOf]; omega
  · obtain rfl : k = n := by omega
    go_wp2
    go_ret
    exact ⟨by rw [HA.out]; rfl, B20⟩
theorem tri_places3 (cap : Nat) (a1 a2 a3 b1 b2 b3 c1 c2 c3 : Int) (wb w0 w : World) (hw : w = w0.alloc (.cells #[a1, a2, a3, b1, b2, b3, c1, c2, c3] 24)) (hB : Below wb.heap.size wb w0) :
  Calls prog 141 #[.slice (some ⟨w0.heap.size, 0, none⟩) 3 cap] w fun e w' => e = .returned (.bool (pl3 (a1, a2, a3) (b1, b2, b3) (c1, c2, c3))) ∧ Below wb.heap.size wb w' := by
 have kb : Bk w w0.heap.size 24 #[a1, a2, a3, b1, b2, b3, c1, c2, c3] := by rw [hw]; exact Bk.new _ _ _
 have B0 : Below wb.heap.size wb w := by rw [hw]; exact hB.alloc hB.size _
 clear hw
 rw [← allp3]
 refine (tri_places w0.heap.size 0 cap 3 (rw3 (a1, a2, a3) (b1, b2, b3) (c1, c2, c3)) w (fun k hk => ?_) kb.lt (by omega)).mono (fun e w' h => ⟨h.1, B0.trans (h.2.mono B0.size)⟩)
 match k, hk with
 | 0, _ => exact ⟨kb.cell rfl, kb.cell rfl, kb.cell rfl⟩
 | 1, _ => exact ⟨kb.cell rfl, kb.cell rfl, kb.cell rfl⟩
 | 2, _ => exact ⟨kb.cell rfl, kb.cell rfl, kb.cell rfl⟩
theorem tri_places4 (cap : Nat) (a1 a2 a3 b1 b2 b3 c1 c2 c3 o1 o2 o3 : Int) (wb w0 w : World) (hw : w = w0.alloc (.cells #[a1, a2, a3, b1, b2, b3, c1, c2, c3, o1, o2, o3] 24)) (hB : Below wb.heap.size wb w0) :
  Calls prog 141 #[.slice (some ⟨w0.heap.size, 0, none⟩) 4 cap] w fun e w' => e = .returned (.bool (pl3 (a1, a2, a3) (b1, b2, b3) (c1, c2, c3) && plc (o1, o2, o3))) ∧ Below wb.heap.size wb w' := by
 have kb : Bk w w0.heap.size 24 #[a1, a2, a3, b1, b2, b3, c1, c2, c3, o1, o2, o3] := by rw [hw]; exact Bk.new _ _ _
 have B0 : Below wb.heap.size wb w := by rw [hw]; exact hB.alloc hB.size _
 clear hw
 rw [← allp4]
 refine (tri_places w0.heap.size 0 cap 4 (rw4 (a1, a2, a3) (b1, b2, b3) (c1, c2, c3) (o1, o2, o3)) w (fun k hk => ?_) kb.lt (by omega)).mono (fun e w' h => ⟨h.1, B0.trans (h.2.mono B0.size)⟩)
 match k, hk with
 | 0, _ => exact ⟨kb.cell rfl, kb.cell rfl, kb.cell rfl⟩
 | 1, _ => exact ⟨kb.cell rfl, kb.cell rfl, kb.cell rfl⟩
 | 2, _ => exact ⟨kb.cell rfl, kb.cell rfl, kb.cell rfl⟩
 | 3, _ => exact ⟨kb.cell rfl, kb.cell rfl, kb.cell rfl⟩
theorem tri_surround (d1 d2 d3 a1 a2 a3 b1 b2 b3 c1 c2 c3 : Int) (w : World) (b cap : Nat) (kb : Bk w b 24 #[a1, a2, a3, b1, b2, b3, c1, c2, c3]) :
  Rt prog 143 #[.agg #[d1, d2, d3], .slice (some ⟨b, 0, none⟩) 3 cap] w (.bool (srd (vvol d1 d2 d3 a1 a2 a3 b1 b2 b3) (vvol d1 d2 d3 b1 b2 b3 c1 c2 c3) (vvol d1 d2 d3 c1 c2 c3 a1 a2 a3))) := by
 have KS0 := zh (fun w => z18 d1 d2 d3 a1 a2 a3 b1 b2 b3 w)
 have KS1 := zh (fun w => z18 d1 d2 d3 b1 b2 b3 c1 c2 c3 w)
 have KS2 := zh (fun w => z18 d1 d2 d3 c1 c2 c3 a1 a2 a3 w)
 generalize vvol d1 d2 d3 a1 a2 a3 b1 b2 b3 = s0 at *
 generalize vvol d1 d2 d3 b1 b2 b3 c1 c2 c3 = s1 at *
 generalize vvol d1 d2 d3 c1 c2 c3 a1 a2 a3 = s2 at *
 go_enter func143, ntmps143
 go_upto_region 1 with (fail)
 refine wst1 fun W1 kd B1 => ?_
 have hbl := kb.lt
 have ke := kb.below B1
 clear kb
 have ce := bwc9 ke
 have cd := bwc3 kd
 refine bws fun p1 => ?_
 go_upto_region 3 with (fail)
 go_loopw [5, 6, 13] (fun l r i wr => ∃ (k : Nat) (nl nr : Bool), k ≤ 3 ∧ i = .int .i64 k ∧ l = .bool nl ∧ r = .bool nr ∧ Hid ((k = 0 ∧ nl = (false) ∧ nr = (false)) ∨ (k = 1 ∧ nl = (decide (s0 < 0)) ∧ nr = (decide (0 < s0))) ∨ (k = 2 ∧ nl = (decide (s0 < 0) || decide (s1 < 0)) ∧ nr = (decide (0 < s0) || decide (0 < s1))) ∨ (k = 3 ∧ nl = ((decide (s0 < 0) || decide (s1 < 0)) || decide (s2 < 0)) ∧ nr = ((decide (0 < s0) || decide (0 < s1)) || decide (0 < s2)))) ∧ Bk wr b 24 #[a1, a2, a3, b1, b2, b3, c1, c2, c3] ∧ Bk wr w.heap.size 24 #[d1, d2, d3] ∧ Below w.heap.size w wr) (fun _ _ i _ => 3 - (intOf i).toNat)
 case atStart => exact ⟨0, false, false, by omega, rfl, rfl, rfl, zh (.inl ⟨rfl, rfl, rfl⟩), ke.below p1.h, kd.below p1.h, z00 B1 _⟩
 case round =>
  clear ke kd B1 ce cd
  obtain ⟨k, nl, nr, hk, rfl, rfl, rfl, HS, ke, kd, B20⟩ := hrel
  rcases HS.out with ⟨rfl, hl, hr⟩ | ⟨rfl, hl, hr⟩ | ⟨rfl, hl, hr⟩ | ⟨rfl, hl, hr⟩
  · subst hl
    subst hr
    clear HS
    have ce := bwc9 ke
    have cd := bwc3 kd
    refine bws fun p20 => ?_
    go_upto_region 5 with (fail)
    refine wnm fun W21 hW21 => ?_
    have B21 := bwA p20 hW21 B20
    have lx : w.heap.size < p20.w.heap.size := (kd.below p20.h).lt
    have ox : w.heap.size ≤ p20.w.heap.size := (z00 B20 p20).size
    have ke := bka hW21 (ke.below p20.h)
    have kd := bka hW21 (kd.below p20.h)
    have kx := bkn hW21
    clear hW21
    clear B20
    clear ce cd
    generalize p20.w.heap.size = gx at *
    have ce := bwc9 ke
    have cd := bwc3 kd
    have cx := bwc3 kx
    refine bws fun p21 => ?_
    go_upto_region 6 with (fail)
    refine wnm fun W22 hW22 => ?_
    have B22 := bwA p21 hW22 B21
    have ly : gx < p21.w.heap.size := (kx.below p21.h).lt
    have oy : w.heap.size ≤ p21.w.heap.size := (z00 B21 p21).size
    have ke := bka hW22 (ke.below p21.h)
    have kd := bka hW22 (kd.below p21.h)
    have kx := bka hW22 (kx.below p21.h)
    have ky := bkn hW22
    clear hW22
    clear B21
    clear ce cd cx
    generalize p21.w.heap.size = gy at *
    have ce := bwc9 ke
    have cd := bwc3 kd
    have cx := bwc3 kx
    have cy := bwc3 ky
    refine bws fun p22 => ?_
    go_wp2_with ((go_at_call 142; (with_reducible refine (z02 KS0.out _).mono ?_); rintro e w' ⟨rfl, q, rfl⟩))
    go_roundw
    case rel => exact ⟨1, _, _, by omega, rfl, rfl, rfl, zh (.inr (.inl ⟨rfl, rfl, rfl⟩)), ke.below q.h, kd.below q.h, z00 B22 _⟩
    case measure => simp [intOf]
  · have HL := zh hl
    have HR := zh hr
    clear hl hr HS
    rcases nl with _ | _ <;> rcases nr with _ | _
    all_goals
     have ce := bwc9 ke
     have cd := bwc3 kd
     refine bws fun p20 => ?_
     go_upto_region 5 with (fail)
     refine wnm fun W21 hW21 => ?_
     have B21 := bwA p20 hW21 B20
     have lx : w.heap.size < p20.w.heap.size := (kd.below p20.h).lt
     have ox : w.heap.size ≤ p20.w.heap.size := (z00 B20 p20).size
     have ke := bka hW21 (ke.below p20.h)
     have kd := bka hW21 (kd.below p20.h)
     have kx := bkn hW21
     clear hW21
     clear B20
     clear ce cd
     generalize p20.w.heap.size = gx at *
     have ce := bwc9 ke
     have cd := bwc3 kd
     have cx := bwc3 kx
     refine bws fun p21 => ?_
     go_upto_region 6 with (fail)
     refine wnm fun W22 hW22 => ?_
     have B22 := bwA p21 hW22 B21
     have ly : gx < p21.w.heap.size := (kx.below p21.h).lt
     have oy : w.heap.size ≤ p21.w.heap.size := (z00 B21 p21).size
     have ke := bka hW22 (ke.below p21.h)
     have kd := bka hW22 (kd.below p21.h)
     have kx := bka hW22 (kx.below p21.h)
     have ky := bkn hW22
     clear hW22
     clear B21
     clear ce cd cx
     generalize p21.w.heap.size = gy at *
     have ce := bwc9 ke
     have cd := bwc3 kd
     have cx := bwc3 kx
     have cy := bwc3 ky
     refine bws fun p22 => ?_
     go_wp2_with ((go_at_call 142; (with_reducible refine (z02 KS1.out _).mono ?_); rintro e w' ⟨rfl, q, rfl⟩))
     go_roundw
     case rel => exact ⟨2, _, _, by omega, rfl, rfl, rfl, zh (.inr (.inr (.inl ⟨rfl, by rw [← HL.out]; first | done | simp, by rw [← HR.out]; first | done | simp⟩))), ke.below q.h, kd.below q.h, z00 B22 _⟩
     case measure => simp [intOf]
  · have HL := zh hl
    have HR := zh hr
    clear hl hr HS
    rcases nl with _ | _ <;> rcases nr with _ | _
    all_goals
     have ce := bwc9 ke
     have cd := bwc3 kd
     refine bws fun p20 => ?_
     go_upto_region 5 with (fail)
     refine wnm fun W21 hW21 => ?_
     have B21 := bwA p20 hW21 B20
     have lx : w.heap.size < p20.w.heap.size := (kd.below p20.h).lt
     have ox : w.heap.size ≤ p20.w.heap.size := (z00 B20 p20).size
     have ke := bka hW21 (ke.below p20.h)
     have kd := bka hW21 (kd.below p20.h)
     have kx := bkn hW21
     clear hW21
     clear B20
     clear ce cd
     generalize p20.w.heap.size = gx at *
     have ce := bwc9 ke
     have cd := bwc3 kd
     have cx := bwc3 kx
     refine bws fun p21 => ?_
     go_upto_region 6 with (fail)
     refine wnm fun W22 hW22 => ?_
     have B22 := bwA p21 hW22 B21
     have ly : gx < p21.w.heap.size := (kx.below p21.h).lt
     have oy : w.heap.size ≤ p21.w.heap.size := (z00 B21 p21).size
     have ke := bka hW22 (ke.below p21.h)
     have kd := bka hW22 (kd.below p21.h)
     have kx := bka hW22 (kx.below p21.h)
     have ky := bkn hW22
     clear hW22
     clear B21
     clear ce cd cx
     generalize p21.w.heap.size = gy at *
     have ce := bwc9 ke
     have cd := bwc3 kd
     have cx := bwc3 kx
     have cy := bwc3 ky
     refine bws fun p22 => ?_
     go_wp2_with ((go_at_call 142; (with_reducible refine (z02 KS2.out _).mono ?_); rintro e w' ⟨rfl, q, rfl⟩))
     go_roundw
     case rel => exact ⟨3, _, _, by omega, rfl, rfl, rfl, zh (.inr (.inr (.inr ⟨rfl, by rw [← HL.out]; first | done | simp, by rw [← HR.out]; first | done | simp⟩))), ke.below q.h, kd.below q.h, z00 B22 _⟩
     case measure => simp [intOf]
  · have HL := zh hl
    have HR := zh hr
    clear hl hr HS
    rcases nl with _ | _ <;> rcases nr with _ | _
    all_goals
     go_wp2
     go_ret
     exact ⟨by unfold srd; rw [← HL.out, ← HR.out]; rfl, B20⟩
theorem tri_upright_no (a1 a2 a3 b1 b2 b3 c1 c2 c3 : Int) (w : World) (hp : pl3 (a1, a2, a3) (b1, b2, b3) (c1, c2, c3) = false) :
  Rt prog 181 #[.agg #[a1, a2, a3], .agg #[b1, b2, b3], .agg #[c1, c2, c3]] w (.agg #[.int .i64 0, .int .i64 0, .int .i64 0]) := by
 go_enter func181, ntmps181
 go_upto_region 1 with (fail)
 refine wst4 fun W1 ka kb kc k_r B1 => ?_
 have lb : w.heap.size < w.heap.size + 1 := by omega
 have lc : w.heap.size + 1 < w.heap.size + 1 + 1 := by omega
 have lr : w.heap.size + 1 + 1 < w.heap.size + 1 + 1 + 1 := by omega
 generalize w.heap.size + 1 + 1 + 1 = gr at *
 generalize w.heap.size + 1 + 1 = gc at *
 generalize w.heap.size + 1 = gb at *
 have c_a := bwc3 ka
 have cb := bwc3 kb
 have cc := bwc3 kc
 have cr := bwc3 k_r
 have fr := bwf3 k_r
 refine bws fun p1 => ?_
 have KC : ∀ p : BW W1, Calls prog 141 #[.slice (some ⟨p.w.heap.size, 0, none⟩) 3 3] (p.w.alloc (.cells #[a1, a2, a3, b1, b2, b3, c1, c2, c3] 24)) fun e w' => e = .returned (.bool false) ∧ ∃ q : BW W1, w' = q.w := fun p =>
  (tri_places3 3 a1 a2 a3 b1 b2 b3 c1 c2 c3 W1 p.w _ rfl p.h).mono fun e w' h => ⟨by rw [hp] at h; exact h.1, ⟨w', h.2⟩, rfl⟩
 clear hp
 go_wp2_with (go_at_call 141; (with_reducible refine (KC _).mono ?_); rintro e w' ⟨rfl, q, rfl⟩)
 have kr := bkp3 (k_r.below q.h) (.int .i64 0) (.int .i64 0) (.int .i64 0)
 have rc := rwc3 kr
 exact bodyPost_ret (v := .agg #[.int .i64 0, .int .i64 0, .int .i64 0]) (by simp [results, results181, go_sem, rc]) rfl ⟨rfl, blp3 (z00 B1 q) (by omega)⟩
theorem tri_upright_yes (a1 a2 a3 b1 b2 b3 c1 c2 c3 : Int) (w : World) (hp : pl3 (a1, a2, a3) (b1, b2, b3) (c1, c2, c3) = true) :
  Rt prog 181 #[.agg #[a1, a2, a3], .agg #[b1, b2, b3], .agg #[c1, c2, c3]] w (.agg #[(upsT (a1, a2, a3) (b1, b2, b3) (c1, c2, c3)).1, (upsT (a1, a2, a3) (b1, b2, b3) (c1, c2, c3)).2.1, (upsT (a1, a2, a3) (b1, b2, b3) (c1, c2, c3)).2.2]) := by
 obtain ⟨h1, h2, h3⟩ := pl3_iff.1 hp
 have q1 := z0a.1 h1
 dsimp only at q1
 have q2 := z0a.1 h2
 dsimp only at q2
 have q3 := z0a.1 h3
 dsimp only at q3
 have KB := zh (fun w => z0u b1 b2 b3 a1 a2 a3 w (by unfold I64; omega) (by unfold I64; omega) (by unfold I64; omega) (by unfold I64; omega) (by unfold I64; omega) (by unfold I64; omega))
 rw [z05 (x := b1) (a := a1) (by omega) (by omega), z05 (x := b2) (a := a2) (by omega) (by omega), z05 (x := b3) (a := a3) (by omega) (by omega)] at KB
 obtain ⟨u1, hu1⟩ := nmd (b1 - a1)
 obtain ⟨u2, hu2⟩ := nmd (b2 - a2)
 obtain ⟨u3, hu3⟩ := nmd (b3 - a3)
 rw [← hu1, ← hu2, ← hu3] at KB
 have KC2 := zh (fun w => z0u c1 c2 c3 a1 a2 a3 w (by unfold I64; omega) (by unfold I64; omega) (by unfold I64; omega) (by unfold I64; omega) (by unfold I64; omega) (by unfold I64; omega))
 rw [z05 (x := c1) (a := a1) (by omega) (by omega), z05 (x := c2) (a := a2) (by omega) (by omega), z05 (x := c3) (a := a3) (by omega) (by omega)] at KC2
 obtain ⟨v1, hv1⟩ := nmd (c1 - a1)
 obtain ⟨v2, hv2⟩ := nmd (c2 - a2)
 obtain ⟨v3, hv3⟩ := nmd (c3 - a3)
 rw [← hv1, ← hv2, ← hv3] at KC2
 have KX := zh (fun w => vec_Cross u1 u2 u3 v1 v2 v3 w)
 have hu : upsT (a1, a2, a3) (b1, b2, b3) (c1, c2, c3) = vcr u1 u2 u3 v1 v2 v3 := by
  have := vcr_X (nr_sb h2 h1) (nr_sb h3 h1)
  unfold upsT
  rw [← this]
  unfold sbT
  dsimp only
  rw [hu1, hu2, hu3, hv1, hv2, hv3]
 rw [hu]
 generalize vcr u1 u2 u3 v1 v2 v3 = X at *
 obtain ⟨r1, r2, r3⟩ := X
 dsimp only at KX ⊢
 clear hu h1 h2 h3 q1 q2 q3 hu1 hu2 hu3 hv1 hv2 hv3
 go_enter func181, ntmps181
 go_upto_region 1 with (fail)
 refine wst4 fun W1 ka kb kc k_r B1 => ?_
 have lb : w.heap.size < w.heap.size + 1 := by omega
 have lc : w.heap.size + 1 < w.heap.size + 1 + 1 := by omega
 have lr : w.heap.size + 1 + 1 < w.heap.size + 1 + 1 + 1 := by omega
 generalize w.heap.size + 1 + 1 + 1 = gr at *
 generalize w.heap.size + 1 + 1 = gc at *
 generalize w.heap.size + 1 = gb at *
 have c_a := bwc3 ka
 have cb := bwc3 kb
 have cc := bwc3 kc
 have cr := bwc3 k_r
 have fr := bwf3 k_r
 refine bws fun p1 => ?_
 have KC : ∀ p : BW W1, Calls prog 141 #[.slice (some ⟨p.w.heap.size, 0, none⟩) 3 3] (p.w.alloc (.cells #[a1, a2, a3, b1, b2, b3, c1, c2, c3] 24)) fun e w' => e = .returned (.bool true) ∧ ∃ q : BW W1, w' = q.w := fun p =>
  (tri_places3 3 a1 a2 a3 b1 b2 b3 c1 c2 c3 W1 p.w _ rfl p.h).mono fun e w' h => ⟨by rw [hp] at h; exact h.1, ⟨w', h.2⟩, rfl⟩
 clear hp
 go_upto_region 3 with (go_at_call 141; (with_reducible refine (KC _).mono ?_); rintro e w' ⟨rfl, q, rfl⟩)
 clear KC
 refine z0h 7 (by kernel_rfl) (by kernel_rfl) (by kernel_rfl) ?_
 simp only [List.take_succ_cons, List.take_zero, List.drop_succ_cons, List.drop_zero]
 repeat (go_big_quiet_step (first
  | (go_at_call 46; (first | (with_reducible exact z02 KB.out _) | (with_reducible exact z02 KC2.out _)))
  | (go_at_call 150; (with_reducible exact z02 KX.out _))))
 refine wpQuiet_nil ?_
 intro _ hw'
 obtain ⟨q, rfl⟩ := hw'
 go_wp2
 have kr := bkp3 (k_r.below q.h) (.int .i64 r1) (.int .i64 r2) (.int .i64 r3)
 have rc := rwc3 kr
 exact bodyPost_ret (v := .agg #[r1, r2, r3]) (by simp [results, results181, go_sem, rc]) rfl ⟨rfl, blp3 (z00 B1 q) (by omega)⟩
theorem tri_upright (a1 a2 a3 b1 b2 b3 c1 c2 c3 : Int) (w : World) :
  Rt prog 181 #[.agg #[a1, a2, a3], .agg #[b1, b2, b3], .agg #[c1, c2, c3]] w (.agg #[(uprT (a1, a2, a3) (b1, b2, b3) (c1, c2, c3)).1, (uprT (a1, a2, a3) (b1, b2, b3) (c1, c2, c3)).2.1, (uprT (a1, a2, a3) (b1, b2, b3) (c1, c2, c3)).2.2]) := by
 unfold uprT
 cases hp : pl3 (a1, a2, a3) (b1, b2, b3) (c1, c2, c3) with
 | false => rw [if_neg (by simp)]; exact tri_upright_no a1 a2 a3 b1 b2 b3 c1 c2 c3 w hp
 | true => rw [if_pos rfl]; exact tri_upright_yes a1 a2 a3 b1 b2 b3 c1 c2 c3 w hp
end
end Go.Proofs.YtbmpmjdlaahekaaGreat
