/- Contracts of the landed mesh: the cone's frame. -/
import Derived.Test.YtneacfhoinaeeaaMc39
import Derived.Test.YtneacfhoinaeeaaMc34
import Derived.Test.YtneacfhoinaeeaaMc15


namespace Go.Proofs.Ytneacfhoinaeeaa
section

open Go.RowKit Go.Proofs.Sky

set_option linter.unusedVariables false

set_option linter.unusedSimpArgs false

theorem ring_next (n k : Nat) : (List.range (k + 1)).map (ringV n) = (List.range k).map (ringV n) ++ [ringV n k] := by
  rw [List.range_succ, List.map_append]; rfl

theorem ring_cone (n : Nat) : (List.range n).map (ringV n) ++ [(0, 0, 0), (0, 0, 128)] = (List.range (n + 2)).map (coneV n) := by
  have e : (List.range n).map (coneV n) = (List.range n).map (ringV n) := by
    refine List.map_congr_left fun i hi => ?_
    unfold coneV
    rw [if_pos (List.mem_range.1 hi)]
  have e1 : coneV n n = (0, 0, 0) := by unfold coneV; rw [if_neg (Nat.lt_irrefl n), if_pos rfl]
  have e2 : coneV n (n + 1) = (0, 0, 128) := by unfold coneV; rw [if_neg (by omega), if_neg (by omega)]
  show _ = (List.range ((n + 1) + 1)).map (coneV n)
  rw [List.range_succ (n := n + 1), List.range_succ (n := n), List.map_append, List.map_append, List.append_assoc, e, List.map_cons, List.map_nil, List.map_cons, List.map_nil, e1, e2]
  rfl

theorem coneK_next (n k : Nat) : (List.range (k + 1)).flatMap (coneP n) = (List.range k).flatMap (coneP n) ++ coneP n k := by
  rw [List.range_succ, List.flatMap_append]; simp

theorem coneK_len (n k : Nat) : ((List.range k).flatMap (coneP n)).length = k * 2 := by
  rw [flat_len_const _ 2 _ (fun i _ => rfl), List.length_range]

/-- A row of the steps round. -/
def SRow (w : World) (B : Nat) (v : Value) (n : Nat) : Prop := w.ownsRow B 62 2 v n (stepCells (n : Int) n)

theorem SRow.below {w w' : World} {B : Nat} {v : Value} {n : Nat} (h : SRow w B v n) (hb : Below w.heap.size w w') : SRow w' B v n := owns_below h hb

theorem srow_alloc {w W : World} {B : Nat} {v : Value} {n : Nat} {o : Obj} (hW : W = w.alloc o) (h : SRow w B v n) : SRow W B v n := by
  subst hW; exact World.ownsRow.alloc h o

theorem steps_at {w : World} {B n : Nat} {a : Option Addr} {cap : Nat} (h : SRow w B (.slice a n cap) n) (hm : n ≤ 1000) {k : Nat} (hk : k < n) : ∃ g f, a = some ⟨g, f, none⟩ ∧ g < w.heap.size ∧ w.cell? ⟨g, f + k * 2, none⟩ = some (.int .i64 (cosI (turnI n k))) ∧ w.cell? ⟨g, f + k * 2 + 1, none⟩ = some (.int .i64 (sinI (turnI n k))) := by
  have hl : (List.range n).length = n := List.length_range
  obtain ⟨a', c', e, _, hS⟩ := owns_sll (f := stepAt (n : Int)) (l := List.range n) (fun _ => rfl) (by decide) hl.symm (by unfold maxLen; omega) h
  rw [hl] at e
  cases e
  rcases hS with h0 | ⟨b, off, rfl, hb, hc⟩
  · rw [hl] at h0; omega
  · have h1 := hc k (by rw [hl]; exact hk) 0 (by omega)
    have h2 := hc k (by rw [hl]; exact hk) 1 (by omega)
    rw [List.getElem_range] at h1 h2
    exact ⟨b, off, rfl, hb, h1, h2⟩

theorem cosI_small (h : Int) : -1000000 ≤ cosI h ∧ cosI h ≤ 1000000 := by
  have := cosI_range h
  omega

theorem sinI_small (h : Int) : -1000000 ≤ sinI h ∧ sinI h ≤ 1000000 := by
  have := sinI_range h
  omega

theorem mod_next (i n : Nat) (hi : i ≤ 1000) (h0 : 1 ≤ n) (hn : n ≤ 1000) (w : World) :
    Calls Try.prog 47 #[.int .i64 ((i : Int) + 1), .int .i64 (n : Int)] w fun e w' => e = .returned (.int .i64 (((i + 1) % n : Nat) : Int)) ∧ Below w.heap.size w w' := by
  have e : md ((i : Int) + 1) (n : Int) = (((i + 1) % n : Nat) : Int) := by
    unfold md
    rw [if_neg (by omega)]
    rfl
  rw [← e]
  exact below_of_same (fun w => num_Mod ((i : Int) + 1) (n : Int) w ⟨by omega, by omega⟩ ⟨by omega, by omega⟩) w

set_option maxRecDepth 100000 in
set_option maxHeartbeats 8000000 in
theorem mesh_cone (n : Nat) (h0 : 3 ≤ n) (hn : n ≤ 32) (w : World) :
    Calls Try.prog 29 #[.int .i64 (n : Int)] w fun e w' => ∃ uc ut, e = .returned (.agg #[uc, ut]) ∧ VRow w' w.heap.size uc ((List.range (n + 2)).map (coneV n)) ∧ TRow w' w.heap.size ut (coneT n) ∧ Below w.heap.size w w' := by
  obtain ⟨i0, hi0, hz0, hz1, hz2⟩ := info_parts vec_info19
  obtain ⟨i1, hi1, hy0, hy1, hy2⟩ := info_parts tri_info19
  have hst0 : stepN (n : Int) = n := by unfold stepN; rw [if_pos (by omega)]; omega
  have KS : Hid (∀ w, Calls Try.prog 45 #[.int .i64 (n : Int)] w fun e w' => ∃ a cap, e = .returned (.slice a n cap) ∧ SRow w' w.heap.size (.slice a n cap) n ∧ Below w.heap.size w w') := Lib.hid (fun w => (trig_Steps (n : Int) w ⟨by omega, by omega⟩).mono (by
    rintro e w' ⟨v, rfl, hv, _, hb⟩
    rw [hst0] at hv
    obtain ⟨a, cap, rfl⟩ := owns_val19 hv
    exact ⟨a, cap, rfl, hv, hb⟩))
  clear hst0
  go_enter Try.func29, Try.ntmps29
  go_upto_region 2 with (fail)
  obtain ⟨W1, hW1⟩ : ∃ W, W = (w.alloc (.cells #[.slice none 0 0, .slice none 0 0] 51)).alloc (.cells #[.slice none 0 0, .slice none 0 0] 51) := ⟨_, rfl⟩
  obtain ⟨k_r, k_f, B1⟩ := st2 hW1
  rw [← hW1]
  clear hW1
  have l_f : w.heap.size < w.heap.size + 1 := by omega
  generalize w.heap.size + 1 = g_f at *
  obtain ⟨c_r_0, c_r_1⟩ := bwc2 (k_r)
  obtain ⟨c_f_0, c_f_1⟩ := bwc2 (k_f)
  obtain ⟨p1, hp1⟩ : ∃ p : BW W1, p.w = W1 := ⟨BW.start W1, rfl⟩
  rw [← hp1]
  clear hp1
  go_wp2_with (go_at_call 45; (with_reducible refine (KS.out _).mono ?_); rintro e w2 ⟨sa, sc, rfl, hsr, hb2⟩; obtain ⟨q, rfl⟩ := bw_take hb2)
  have hsr : SRow q.w w.heap.size (.slice sa n sc) n := owns_mono hsr (bw_below B1 p1).size
  have k_r := k_r.below q.h
  have k_f := k_f.below q.h
  have B2 := bw_below B1 q
  clear c_r_0 c_r_1 c_f_0 c_f_1 KS hb2
  generalize q.w = wq at *
  go_loopw [13] (fun i wr => ∃ (k : Nat) (uc : Value), k ≤ n ∧ i = .int .i64 k ∧ VRow wr w.heap.size uc ((List.range k).map (ringV n)) ∧ SRow wr w.heap.size (.slice sa n sc) n ∧ Bk wr w.heap.size 51 #[.slice none 0 0, .slice none 0 0] ∧ Bk wr g_f 51 #[uc, .slice none 0 0] ∧ Below w.heap.size w wr) (fun i _ => n - (intOf i).toNat)
  case atStart => exact ⟨0, _, by omega, rfl, vrow_nil _ _, hsr, k_r, k_f, B2⟩
  case round =>
    clear hsr k_r k_f B2
    obtain ⟨k, uc, hk, rfl, hcor, hsr, k_r, k_f, BO⟩ := hrel
    have B1 := BO
    obtain ⟨au, cu, rfl⟩ := owns_val19 hcor
    have hlen : ((List.range k).map (ringV n)).length = k := by simp
    rw [hlen] at k_f hcor
    by_cases hlt : k < n
    · obtain ⟨gs, fs, rfl, hgs, x0, x1⟩ := steps_at hsr (by omega) hlt
      have HS := Lib.hid (ring_next n k)
      have hcs := cosI_small (turnI n k)
      have hsn := sinI_small (turnI n k)
      have K0 := Lib.hid (fun w => mesh_part (cosI (turnI n k)) hcs w)
      have K1 := Lib.hid (fun w => mesh_part (sinI (turnI n k)) hsn w)
      have HG : ringV n k = (partI (cosI (turnI n k)), partI (sinI (turnI n k)), 0) := rfl
      rw [HG] at HS
      clear HG hcs hsn
      generalize partI (cosI (turnI n k)) = v1 at *
      generalize partI (sinI (turnI n k)) = v2 at *
      generalize cosI (turnI n k) = cs at *
      generalize sinI (turnI n k) = sn at *
      obtain ⟨L, hL⟩ : ∃ L, L = (List.range k).map (ringV n) := ⟨_, rfl⟩
      rw [← hL] at hcor hlen HS
      clear hL
      have c_e0 : ∀ p : BW wr, p.w.cell? ⟨gs, fs + k * 2, none⟩ = some (.int .i64 cs) := bw_cell x0
      have c_e1 : ∀ p : BW wr, p.w.cell? ⟨gs, fs + k * 2 + 1, none⟩ = some (.int .i64 sn) := bw_cell x1
      clear x0 x1
      obtain ⟨c_r_0, c_r_1⟩ := bwc2 (k_r)
      obtain ⟨c_f_0, c_f_1⟩ := bwc2 (k_f)
      obtain ⟨p1, hp1⟩ : ∃ p : BW wr, p.w = wr := ⟨BW.start wr, rfl⟩
      rw [← hp1]
      clear hp1
      go_upto_region 5 with (fail)
      have hcor := hcor.below p1.h
      have hsr := hsr.below p1.h
      obtain ⟨W2, hW2⟩ : ∃ W, W = p1.w.alloc (.cells #[.int .i64 cs, .int .i64 sn] 62) := ⟨_, rfl⟩
      have B2 : Below w.heap.size w W2 := by rw [hW2]; exact (bw_below B1 p1).alloc (bw_below B1 p1).size _
      have l_d : g_f < p1.w.heap.size := (k_f.below p1.h).lt
      have o_d : w.heap.size ≤ p1.w.heap.size := (bw_below B1 p1).size
      have k_r := bka hW2 (k_r.below p1.h)
      have k_f := bka hW2 (k_f.below p1.h)
      have hcor := vrow_alloc hW2 hcor
      have hsr := srow_alloc hW2 hsr
      have k_d := bkn hW2
      rw [← hW2]
      clear hW2
      clear B1
      clear c_r_0 c_r_1 c_f_0 c_f_1 c_e0 c_e1
      generalize p1.w.heap.size = g_d at *
      obtain ⟨c_r_0, c_r_1⟩ := bwc2 (k_r)
      obtain ⟨c_f_0, c_f_1⟩ := bwc2 (k_f)
      obtain ⟨c_d_0, c_d_1⟩ := bwc2 (k_d)
      obtain ⟨p2, hp2⟩ : ∃ p : BW W2, p.w = W2 := ⟨BW.start W2, rfl⟩
      rw [← hp2]
      clear hp2
      refine wp_region_floatV (t := 23) (zs := #[.int .i64 v1, .int .i64 v2, .int .i64 0]) 10 9 26 63 [25] (fun g => .slice (some ⟨g, 0, none⟩) 1 1) (by kernel_rfl) (by kernel_rfl) (by kernel_rfl) (by kernel_rfl) rfl rfl ?_
      apply Exists.intro
      refine ⟨?_, ?_, ?_⟩
      · intro wb' hwb'
        obtain ⟨d_r_0, d_r_1⟩ := bwc2 (k_r.below hwb')
        obtain ⟨d_f_0, d_f_1⟩ := bwc2 (k_f.below hwb')
        obtain ⟨d_d_0, d_d_1⟩ := bwc2 (k_d.below hwb')
        simp only [maskAt, List.take_succ_cons, List.take_zero]
        repeat (go_big_quiet_step (first
          | (go_at_call 46; (first | (with_reducible exact bw_call K0.out _) | (with_reducible exact bw_call K1.out _)))))
        refine wpQuiet_nil ?_
        exact rfl
      · intro ax wx hp
        have e25 := hp 25 (by decide)
        clear hp
        simp only [Act.put, List.setIfInBounds_toArray, List.set_cons_zero, List.set_cons_succ, List.getElem?_toArray, List.getElem?_cons_succ, List.getElem?_cons_zero] at e25
        exact ⟨by simp [Region.wanted, yielded, e25], by simp [execOp, go_sem, Act.eval, e25]⟩
      intro W3 g_nb hW hg k_nb
      have B3 : Below w.heap.size w W3 := B2.trans (hW.mono B2.size)
      have o_nb : w.heap.size ≤ g_nb := Nat.le_trans B2.size hg
      have hcor := hcor.below hW
      have hsr := hsr.below hW
      have l_nb : g_d < g_nb := Nat.lt_of_lt_of_le k_d.lt hg
      have k_r := k_r.below hW
      have k_f := k_f.below hW
      have k_d := k_d.below hW
      clear hW hg B2
      clear c_r_0 c_r_1 c_f_0 c_f_1 c_d_0 c_d_1
      simp only [List.drop_succ_cons, List.drop_zero, Act.put, List.setIfInBounds_toArray, List.set_cons_zero, List.set_cons_succ]
      clear K0 K1
      go_wp2_with (at_builtin; refine wpList_append_at rfl _ _ 48 rfl w.heap.size 23 i0 _ 3 24 Try.underlying48 hi0 hz0 hz1 hz2 rfl (by decide) _ k (L.flatMap vcells) rfl (by have h := hcor; unfold VRow at h; rw [hlen] at h; exact h) ⟨g_nb, 0, none⟩ 1 1 (vcells (v1, v2, 0)) rfl rfl ?g1 ?g2 ?g3 ?g4 ?g5 ?_)
      case g1 => exact cells_at19 k_nb
      case g2 => exact vcells_one _
      case g3 => unfold maxLen; omega
      case g4 => omega
      case g5 => exact B3.size
      intro v' w1 hown hgrow hat
      have hb1 : Below w.heap.size w w1 := B3.grown hgrow B3.size (fun j ej => (World.ownsRow.lt hcor j ej).1)
      have k_r1 := bk_grown19 hcor k_r (by decide) hgrow
      have k_f1 := bk_grown19 hcor k_f (by decide) hgrow
      have q0 := k_f1.cell (i := 0) rfl
      have q1 := k_f1.frozen 0
      have hrow : VRow w1 w.heap.size v' (L ++ [(v1, v2, 0)]) := by unfold VRow; rw [List.length_append, hlen, List.flatMap_append, List.flatMap_cons, List.flatMap_nil, List.append_nil]; exact hown
      have hsr1 : SRow w1 w.heap.size (.slice (some ⟨gs, fs, none⟩) n sc) n := owns_grown hsr hgrow (fun j hj e => owns_types hcor hsr (by decide) j e hj)
      clear hgrow hat hcor hsr k_nb k_d k_r k_f
      obtain ⟨av, cv, rfl⟩ := owns_val19 hown
      clear hown
      go_wp2
      go_roundw
      case rel => exact ⟨k + 1, _, by omega, by go_num, (by rw [HS.out]; exact owns_set19 hrow k_f1 (by decide) 0 _), owns_set19 hsr1 k_f1 (by decide) 0 _, k_r1.other (a := ⟨g_f, 0, none⟩) (by show ¬ w.heap.size = g_f; omega) _, (k_f1.set 0 _).cast (by simp), hb1.setCell (p := ⟨g_f, 0, none⟩) (by show w.heap.size ≤ g_f; omega) _⟩
      case measure => simp [intOf]; omega
    · have hke : k = n := by omega
      rw [hke] at k_f hcor hlen
      clear hke hsr
      have hRC := ring_cone n
      obtain ⟨L, hL⟩ : ∃ L, L = (List.range n).map (ringV n) := ⟨_, rfl⟩
      rw [← hL] at hcor hlen hRC
      have HRC := Lib.hid hRC
      clear hL hRC
      obtain ⟨c_r_0, c_r_1⟩ := bwc2 (k_r)
      obtain ⟨c_f_0, c_f_1⟩ := bwc2 (k_f)
      obtain ⟨p1, hp1⟩ : ∃ p : BW wr, p.w = wr := ⟨BW.start wr, rfl⟩
      rw [← hp1]
      clear hp1
      have k_rq : ∀ q : BW wr, Bk q.w w.heap.size 51 #[.slice none 0 0, .slice none 0 0] := fun q => k_r.below q.h
      have k_fq : ∀ q : BW wr, Bk q.w g_f 51 #[.slice au n cu, .slice none 0 0] := fun q => k_f.below q.h
      go_wp2_with (at_builtin; refine wpList_append_at rfl _ _ 48 rfl w.heap.size 23 i0 _ 3 24 Try.underlying48 hi0 hz0 hz1 hz2 rfl (by decide) _ n (L.flatMap vcells) rfl (World.ownsRow.alloc (by have h := hcor.below p1.h; unfold VRow at h; rw [hlen] at h; exact h) _) ⟨_, 0, none⟩ 2 2 (vcells (0, 0, 0) ++ vcells (0, 0, 128)) rfl rfl ?g1 ?g2 ?g3 ?g4 ?g5 ?_)
      case g1 => exact cells_new _ #[.int .i64 0, .int .i64 0, .int .i64 0, .int .i64 0, .int .i64 0, .int .i64 128] _
      case g2 => intro u hu; rcases List.mem_append.1 hu with h | h <;> exact vcells_one _ u h
      case g3 => unfold maxLen; omega
      case g4 => omega
      case g5 => have := (bw_below B1 p1).size; simp; omega
      intro v' w1 hown hgrow hat
      have hca : World.ownsRow (p1.w.alloc (.cells #[.int .i64 0, .int .i64 0, .int .i64 0, .int .i64 0, .int .i64 0, .int .i64 128] 23)) w.heap.size 23 3 (.slice au n cu) n (L.flatMap vcells) := World.ownsRow.alloc (by have h := hcor.below p1.h; unfold VRow at h; rw [hlen] at h; exact h) _
      have hb1 : Below w.heap.size w w1 := ((bw_below B1 p1).alloc (bw_below B1 p1).size _).grown hgrow (by have := (bw_below B1 p1).size; simp; omega) (fun j ej => (World.ownsRow.lt hca j ej).1)
      have k_r1 := bk_grown19 hca ((k_r.below p1.h).alloc _) (by decide) hgrow
      have k_f1 := bk_grown19 hca ((k_f.below p1.h).alloc _) (by decide) hgrow
      have q0 := k_f1.cell (i := 0) rfl
      have q1 := k_f1.frozen 0
      have hrow : VRow w1 w.heap.size v' (L ++ [(0, 0, 0), (0, 0, 128)]) := by unfold VRow; rw [List.length_append, hlen, List.flatMap_append]; exact hown
      rw [HRC.out] at hrow
      clear hgrow hat hcor k_r k_f hca k_rq k_fq
      obtain ⟨av, cv, rfl⟩ := owns_val19 hown
      clear hown
      have hcor := owns_set19 hrow k_f1 (by decide) 0 (.slice av (n + 2) cv)
      have k_r : Bk (w1.setCell ⟨g_f, 0, none⟩ (.slice av (n + 2) cv)) w.heap.size 51 #[.slice none 0 0, .slice none 0 0] := k_r1.other (a := ⟨g_f, 0, none⟩) (by show ¬ w.heap.size = g_f; omega) _
      have k_f : Bk (w1.setCell ⟨g_f, 0, none⟩ (.slice av (n + 2) cv)) g_f 51 #[.slice av (n + 2) cv, .slice none 0 0] := (k_f1.set 0 _).cast (by simp)
      have B2 : Below w.heap.size w (w1.setCell ⟨g_f, 0, none⟩ (.slice av (n + 2) cv)) := hb1.setCell (p := ⟨g_f, 0, none⟩) (by show w.heap.size ≤ g_f; omega) _
      go_upto_region 10 with (fail)
      clear q0 q1 hb1 k_r1 k_f1 hrow
      generalize w1.setCell ⟨g_f, 0, none⟩ (.slice av (n + 2) cv) = wz at *
      have hcor : VRow wz w.heap.size (.slice av (n + 2) cv) ((List.range (n + 2)).map (coneV n)) := hcor
      have ht0 : TRow wz w.heap.size (.slice none 0 0) ((List.range 0).flatMap (coneP n)) := trow_nil _ _
      go_loopw [41] (fun i wr => ∃ (k : Nat) (ut : Value), k ≤ n ∧ i = .int .i64 k ∧ VRow wr w.heap.size (.slice av (n + 2) cv) ((List.range (n + 2)).map (coneV n)) ∧ TRow wr w.heap.size ut ((List.range k).flatMap (coneP n)) ∧ Bk wr w.heap.size 51 #[.slice none 0 0, .slice none 0 0] ∧ Bk wr g_f 51 #[.slice av (n + 2) cv, ut] ∧ Below w.heap.size w wr) (fun i _ => n - (intOf i).toNat)
      case atStart => exact ⟨0, _, by omega, rfl, hcor, ht0, k_r, k_f, B2⟩
      case round =>
        clear hcor ht0 k_r k_f B2 B1 BO
        obtain ⟨k2, ut, hk2, rfl, hcor, htri, k_r, k_f, BO⟩ := hrel
        have B1 := BO
        obtain ⟨at_, ct, rfl⟩ := owns_val19 htri
        have hlen2 := coneK_len n k2
        rw [hlen2] at k_f
        by_cases hlt2 : k2 < n
        · have KM := Lib.hid (fun w => mod_next k2 n (by omega) (by omega) (by omega) w)
          have hnx : (k2 + 1) % n < n := Nat.mod_lt _ (by omega)
          have HS := Lib.hid (show (List.range (k2 + 1)).flatMap (coneP n) = (List.range k2).flatMap (coneP n) ++ [(k2, (k2 + 1) % n, n + 1), ((k2 + 1) % n, k2, n)] from coneK_next n k2)
          generalize (k2 + 1) % n = nx at *
          obtain ⟨L, hL⟩ : ∃ L, L = (List.range k2).flatMap (coneP n) := ⟨_, rfl⟩
          rw [← hL] at htri hlen2 HS
          clear hL
          have htri : TRow wr w.heap.size (.slice at_ L.length ct) L := htri
          rw [hlen2] at htri
          obtain ⟨c_r_0, c_r_1⟩ := bwc2 (k_r)
          obtain ⟨c_f_0, c_f_1⟩ := bwc2 (k_f)
          obtain ⟨p1, hp1⟩ : ∃ p : BW wr, p.w = wr := ⟨BW.start wr, rfl⟩
          rw [← hp1]
          clear hp1
          go_upto_region 13 with (go_at_call 47; (with_reducible refine (bw_call KM.out _).mono ?_); rintro e w' ⟨rfl, q, rfl⟩)
          go_wp2_with (at_builtin; refine wpList_append_at rfl _ _ 49 rfl w.heap.size 74 i1 _ 3 24 Try.underlying49 hi1 hy0 hy1 hy2 rfl (by decide) _ (k2 * 2) (L.flatMap tcells) rfl (World.ownsRow.alloc (by have h := htri.below q.h; unfold TRow at h; rw [hlen2] at h; exact h) _) ⟨_, 0, none⟩ 2 2 (tcells (k2, nx, n + 1) ++ tcells (nx, k2, n)) rfl rfl ?g1 ?g2 ?g3 ?g4 ?g5 ?_)
          case g1 => exact cells_new _ #[.int .i64 (k2 : Int), .int .i64 (nx : Int), .int .i64 ((n : Int) + 1), .int .i64 (nx : Int), .int .i64 (k2 : Int), .int .i64 (n : Int)] _
          case g2 => intro u hu; rcases List.mem_append.1 hu with h | h <;> exact tcells_one _ u h
          case g3 => unfold maxLen; omega
          case g4 => omega
          case g5 => have := (bw_below B1 q).size; simp; omega
          intro v' w1 hown hgrow hat
          have hca : World.ownsRow (q.w.alloc (.cells #[.int .i64 (k2 : Int), .int .i64 (nx : Int), .int .i64 ((n : Int) + 1), .int .i64 (nx : Int), .int .i64 (k2 : Int), .int .i64 (n : Int)] 74)) w.heap.size 74 3 (.slice at_ (k2 * 2) ct) (k2 * 2) (L.flatMap tcells) := World.ownsRow.alloc (by have h := htri.below q.h; unfold TRow at h; rw [hlen2] at h; exact h) _
          have hcv : World.ownsRow (q.w.alloc (.cells #[.int .i64 (k2 : Int), .int .i64 (nx : Int), .int .i64 ((n : Int) + 1), .int .i64 (nx : Int), .int .i64 (k2 : Int), .int .i64 (n : Int)] 74)) w.heap.size 23 3 (.slice av (n + 2) cv) ((List.range (n + 2)).map (coneV n)).length (((List.range (n + 2)).map (coneV n)).flatMap vcells) := World.ownsRow.alloc (hcor.below q.h) _
          have hb1 : Below w.heap.size w w1 := ((bw_below B1 q).alloc (bw_below B1 q).size _).grown hgrow (by have := (bw_below B1 q).size; simp; omega) (fun j ej => (World.ownsRow.lt hca j ej).1)
          have k_r1 := bk_grown19 hca ((k_r.below q.h).alloc _) (by decide) hgrow
          have k_f1 := bk_grown19 hca ((k_f.below q.h).alloc _) (by decide) hgrow
          have hcor1 : VRow w1 w.heap.size (.slice av (n + 2) cv) ((List.range (n + 2)).map (coneV n)) := owns_grown hcv hgrow (fun j hj e => owns_types hca hcv (by decide) j e hj)
          have q0 := k_f1.cell (i := 1) rfl
          have q1 := k_f1.frozen 1
          have hrow : TRow w1 w.heap.size v' (L ++ [(k2, nx, n + 1), (nx, k2, n)]) := by unfold TRow; rw [List.length_append, hlen2, List.flatMap_append]; exact hown
          clear hgrow hat hcor htri k_r k_f hca hcv
          obtain ⟨aw, cw, rfl⟩ := owns_val19 hown
          clear hown
          go_wp2
          go_roundw
          case rel => exact ⟨k2 + 1, _, by omega, by go_num, owns_set19 hcor1 k_f1 (by decide) 1 _, (by rw [HS.out]; exact owns_set19 hrow k_f1 (by decide) 1 _), k_r1.other (a := ⟨g_f, 1, none⟩) (by show ¬ w.heap.size = g_f; omega) _, (k_f1.set 1 _).cast (by simp), hb1.setCell (p := ⟨g_f, 1, none⟩) (by show w.heap.size ≤ g_f; omega) _⟩
          case measure => simp [intOf]; omega
        · have hke2 : k2 = n := by omega
          rw [hke2] at htri hlen2 k_f
          clear hke2
          have htri : TRow wr w.heap.size (.slice at_ ((List.range n).flatMap (coneP n)).length ct) (coneT n) := htri
          rw [hlen2] at htri
          obtain ⟨c_r_0, c_r_1⟩ := bwc2 (k_r)
          obtain ⟨f_r_0, f_r_1⟩ := bwf2 (k_r)
          obtain ⟨c_f_0, c_f_1⟩ := bwc2 (k_f)
          obtain ⟨p1, hp1⟩ : ∃ p : BW wr, p.w = wr := ⟨BW.start wr, rfl⟩
          rw [← hp1]
          clear hp1
          go_wp2
          have kq := k_r.below p1.h
          have hq1 := (hcor.below p1.h)
          have hq2 := (htri.below p1.h)
          have kr := bkp2 kq (.slice av (n + 2) cv) (.slice at_ (n * 2) ct)
          obtain ⟨rc0, rc1⟩ := rwc2 kr
          have hv1 := owns_set19 hq1 kq (by decide) 0 (.slice av (n + 2) cv)
          have hv2 := owns_set19 hv1 (kq.set 0 (.slice av (n + 2) cv)) (by decide) 1 (.slice at_ (n * 2) ct)
          have hw1 := owns_set19 hq2 kq (by decide) 0 (.slice av (n + 2) cv)
          have hw2 := owns_set19 hw1 (kq.set 0 (.slice av (n + 2) cv)) (by decide) 1 (.slice at_ (n * 2) ct)
          exact bodyPost_ret (v := .agg #[.slice av (n + 2) cv, .slice at_ (n * 2) ct]) (by simp [results, Try.results29, go_sem, rc0, rc1]) rfl ⟨_, _, rfl, hv2, hw2, blp2 (bw_below B1 p1) (by omega)⟩

end
end Go.Proofs.Ytneacfhoinaeeaa
