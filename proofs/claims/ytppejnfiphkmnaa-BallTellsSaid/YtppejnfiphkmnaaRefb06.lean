/- Contracts of the document's own answers, layer 6: Even, Unit. -/
import Derived.Test.YtppejnfiphkmnaaRef06
import Derived.StillTailTactics
namespace Go.Proofs.Ytppejnfiphkmnaa
open Go.RowKit Go.Proofs.Sky
set_option linter.unusedVariables false

/-- A box of three numbers, another one, and nothing that lay in w turned. -/
structure Box3 (w W : World) (g0 g1 : Nat) (t : TypeId) (x y z : Int) : Prop where
  h : Below w.heap.size w W
  b0 : Bk W g0 t #[.int .i64 x, .int .i64 y, .int .i64 z]
  b1 : Bk W g1 t #[.int .i64 0, .int .i64 0, .int .i64 0]
theorem box3_next {w W : World} {g0 g1 : Nat} {t : TypeId} {x y z x' y' z' : Int} (q : BW W) (s : Box3 w W g0 g1 t x y z) (h0 : w.heap.size ≤ g0) (h1 : g0 < g1) :
    Box3 w (((q.w.setCell ⟨g0, 0, none⟩ (.int .i64 x')).setCell ⟨g0, 1, none⟩ (.int .i64 y')).setCell ⟨g0, 2, none⟩ (.int .i64 z')) g0 g1 t x' y' z' :=
  ⟨(((bw_below s.h q).setCell (p := ⟨g0, 0, none⟩) h0 _).setCell (p := ⟨g0, 1, none⟩) h0 _).setCell (p := ⟨g0, 2, none⟩) h0 _,
   (Bk.put3 (s.b0.below q.h) _ _ _).2.2.2,
   (((s.b1.below q.h).other (a := ⟨g0, 0, none⟩) (by show g1 ≠ g0; omega) _).other (a := ⟨g0, 1, none⟩) (by show g1 ≠ g0; omega) _).other (a := ⟨g0, 2, none⟩) (by show g1 ≠ g0; omega) _⟩
def sum3 (W : World) (b : Nat) : Nat := ((W.cell? ⟨b, 0, none⟩).map (fun v => (intOf v).natAbs)).getD 0 + ((W.cell? ⟨b, 1, none⟩).map (fun v => (intOf v).natAbs)).getD 0 + ((W.cell? ⟨b, 2, none⟩).map (fun v => (intOf v).natAbs)).getD 0
theorem sum3_of {W : World} {g : Nat} {t : TypeId} {x y z : Int} (h : Bk W g t #[.int .i64 x, .int .i64 y, .int .i64 z]) : sum3 W g = x.natAbs + y.natAbs + z.natAbs := by
  unfold sum3
  rw [h.cell (i := 0) rfl, h.cell (i := 1) rfl, h.cell (i := 2) rfl]
  rfl

set_option maxRecDepth 100000 in
theorem ref6_Even (x y z : Int) (w : World) (h : Evb x y z) :
    Calls Try.prog 58 #[.agg #[.int .i64 x, .int .i64 y, .int .i64 z]] w fun e w' => e = .returned (.agg #[.int .i64 (evn x y z).1, .int .i64 (evn x y z).2.1, .int .i64 (evn x y z).2.2]) ∧ Below w.heap.size w w' := by
  obtain ⟨E, hE⟩ : ∃ E, E = evn x y z := ⟨_, rfl⟩
  rw [← hE]
  obtain ⟨D, hD⟩ : ∃ D, D = dbl x y z := ⟨_, rfl⟩
  have hED : E = halN 44 D.1 D.2.1 D.2.2 := by rw [hE, hD]; rfl
  go_enter Try.func58, Try.ntmps58
  go_wp2
  have hs : Box3 w ((w.alloc (.cells #[.int .i64 x, .int .i64 y, .int .i64 z] 23)).alloc (.cells #[.int .i64 0, .int .i64 0, .int .i64 0] 23)) w.heap.size (w.heap.size + 1) 23 x y z :=
    ⟨((Below.refl _ _).alloc (Nat.le_refl _) _).alloc (by simp) _, (Bk.new w _ _).alloc _, Bk.new_at _ _ _ _ (by simp)⟩
  go_loopw [] (fun wr => ∃ k : Nat, ∃ x y z : Int, k ≤ 19 ∧ DblK (19 - k) x y z ∧ wi 4611686018427387904 x y z = true ∧ D = dblN (k + 1) x y z ∧ Box3 w wr w.heap.size (w.heap.size + 1) 23 x y z) (fun wr => 4194304 - sum3 wr w.heap.size)
  case atStart =>
    refine ⟨19, x, y, z, by omega, ?_, h.1, hD, hs⟩
    have := h.2
    rw [wi_no] at this
    unfold DblK
    simp
    omega
  case round =>
    clear hs h hE hD
    obtain ⟨k, x, y, z, hk, hd, hI, hD, hs⟩ := hrel
    have z1 : w.heap.size < w.heap.size + 1 := by omega
    have K1 := Lib.hid (fun w => ref6_within 524287 x y z w (by omega))
    obtain ⟨c0, c1, c2⟩ := bw_bk3 hs.b0
    obtain ⟨p0, hp0⟩ : ∃ p0 : BW wr, p0.w = wr := ⟨BW.start wr, rfl⟩
    rw [← hp0]
    clear hp0
    have f0 : ∀ p : BW wr, p.w.frozen? ⟨w.heap.size, 0, none⟩ = false := fun p => (hs.b0.below p.h).frozen 0
    have f1 : ∀ p : BW wr, p.w.frozen? ⟨w.heap.size, 1, none⟩ = false := fun p => (hs.b0.below p.h).frozen 1
    have f2 : ∀ p : BW wr, p.w.frozen? ⟨w.heap.size, 2, none⟩ = false := fun p => (hs.b0.below p.h).frozen 2
    by_cases hw : wi 524287 x y z = true
    · rw [hw] at K1
      have HS := Lib.hid hs
      have HW := Lib.hid hw
      have HD := Lib.hid hD
      have HK := Lib.hid hd
      rw [wi_iff] at hw
      have v1 : wrap64 (2 * x) = 2 * x := by unfold wrap64; omega
      have v2 : wrap64 (2 * y) = 2 * y := by unfold wrap64; omega
      have v3 : wrap64 (2 * z) = 2 * z := by unfold wrap64; omega
      obtain ⟨x', hx'⟩ : ∃ x', x' = 2 * x := ⟨_, rfl⟩
      obtain ⟨y', hy'⟩ : ∃ y', y' = 2 * y := ⟨_, rfl⟩
      obtain ⟨z', hz'⟩ : ∃ z', z' = 2 * z := ⟨_, rfl⟩
      have g1 : 2 * x = x' := hx'.symm
      have g2 : 2 * y = y' := hy'.symm
      have g3 : 2 * z = z' := hz'.symm
      rw [← hx'] at v1
      rw [← hy'] at v2
      rw [← hz'] at v3
      have HX : Hid (x' = 2 * x ∧ y' = 2 * y ∧ z' = 2 * z) := Lib.hid ⟨hx', hy', hz'⟩
      clear hx' hy' hz' hw hs hD hd hI
      go_wp2_with (go_at_call 57; (with_reducible refine (bw_call K1.out _).mono ?_); rintro e w' ⟨rfl, q, rfl⟩)
      go_roundw
      case rel =>
        obtain ⟨rfl, rfl, rfl⟩ := HX.out
        have hw := wi_iff.1 HW.out
        have hd := HK.out
        have hk1 : 1 ≤ k := by
          rcases Nat.eq_zero_or_pos k with rfl | hk
          · unfold DblK at hd; have : (2 : Nat) ^ (19 - 0) = 524288 := rfl; omega
          · exact hk
        obtain ⟨j, rfl⟩ : ∃ j, k = j + 1 := ⟨k - 1, by omega⟩
        refine ⟨j, 2 * x, 2 * y, 2 * z, by omega, ?_, ?_, ?_, box3_next q HS.out (Nat.le_refl _) z1⟩
        · unfold DblK at hd ⊢
          rw [show 19 - j = (19 - (j + 1)) + 1 by omega, Nat.pow_succ]
          omega
        · rw [wi_iff]; omega
        · rw [HD.out, dblN, if_pos HW.out]
      case measure =>
        obtain ⟨rfl, rfl, rfl⟩ := HX.out
        have hw := wi_iff.1 HW.out
        have hd := HK.out
        rw [sum3_of (HS.out.b0.below p0.h), sum3_of (box3_next q HS.out (Nat.le_refl _) z1).b0]
        have : 1 ≤ 2 ^ (19 - k) := Nat.two_pow_pos _
        unfold DblK at hd
        omega
    · rw [Bool.not_eq_true] at hw
      rw [hw] at K1
      rw [dblN_same _ _ _ _ hw] at hD
      subst hD
      have HS := Lib.hid hs
      have HE : Hid (∃ k, k ≤ 44 ∧ E = halN k x y z ∧ x.natAbs < 2 ^ (k + 20) ∧ y.natAbs < 2 ^ (k + 20) ∧ z.natAbs < 2 ^ (k + 20)) := Lib.hid ⟨44, by omega, hED, by
        rw [wi_iff] at hI
        have : (2 : Nat) ^ (44 + 20) = 18446744073709551616 := rfl
        omega⟩
      have HW := Lib.hid hw
      have HI := Lib.hid hI
      clear hw hs hd hI hED
      go_wp2_with (go_at_call 57; (with_reducible refine (bw_call K1.out _).mono ?_); rintro e w' ⟨rfl, q, rfl⟩)
      have hs : Box3 w q.w w.heap.size (w.heap.size + 1) 23 x y z := ⟨bw_below HS.out.h q, HS.out.b0.below q.h, HS.out.b1.below q.h⟩
      go_loopw [] (fun wr => ∃ k : Nat, ∃ x y z : Int, k ≤ 44 ∧ E = halN k x y z ∧ x.natAbs < 2 ^ (k + 20) ∧ y.natAbs < 2 ^ (k + 20) ∧ z.natAbs < 2 ^ (k + 20) ∧ wi 4611686018427387904 x y z = true ∧ Box3 w wr w.heap.size (w.heap.size + 1) 23 x y z) (fun wr => sum3 wr w.heap.size)
      case atStart =>
        obtain ⟨k, h1, h2, h3, h4, h5⟩ := HE.out
        exact ⟨k, x, y, z, h1, h2, h3, h4, h5, HI.out, hs⟩
      case round =>
        clear hs HS HE HW HI c0 c1 c2 f0 f1 f2 K1
        obtain ⟨k, x, y, z, hk, hE, n1, n2, n3, hI, hs⟩ := hrel
        have K1 := Lib.hid (fun w => ref6_within 1048575 x y z w (by omega))
        obtain ⟨c0, c1, c2⟩ := bw_bk3 hs.b0
        have f0 : ∀ p : BW wr, p.w.frozen? ⟨w.heap.size, 0, none⟩ = false := fun p => (hs.b0.below p.h).frozen 0
        have f1 : ∀ p : BW wr, p.w.frozen? ⟨w.heap.size, 1, none⟩ = false := fun p => (hs.b0.below p.h).frozen 1
        have f2 : ∀ p : BW wr, p.w.frozen? ⟨w.heap.size, 2, none⟩ = false := fun p => (hs.b0.below p.h).frozen 2
        obtain ⟨c3, c4, c5⟩ := bw_bk3 hs.b1
        have f3 : ∀ p : BW wr, p.w.frozen? ⟨w.heap.size + 1, 0, none⟩ = false := fun p => (hs.b1.below p.h).frozen 0
        have f4 : ∀ p : BW wr, p.w.frozen? ⟨w.heap.size + 1, 1, none⟩ = false := fun p => (hs.b1.below p.h).frozen 1
        have f5 : ∀ p : BW wr, p.w.frozen? ⟨w.heap.size + 1, 2, none⟩ = false := fun p => (hs.b1.below p.h).frozen 2
        obtain ⟨p1, hp1⟩ : ∃ p1 : BW wr, p1.w = wr := ⟨BW.start wr, rfl⟩
        rw [← hp1]
        clear hp1
        have HS := Lib.hid hs
        by_cases hw : wi 1048575 x y z = true
        · rw [hw] at K1
          rw [halN_same _ _ _ _ hw] at hE
          subst hE
          clear hw hs hI n1 n2 n3
          go_wp2_with (go_at_call 57; (with_reducible refine (bw_call K1.out _).mono ?_); rintro e w' ⟨rfl, q, rfl⟩)
          obtain ⟨k0, k1, k2, k3⟩ := (HS.out.b1.below q.h).put3 (.int .i64 x) (.int .i64 y) (.int .i64 z)
          exact bodyPost_ret (v := .agg #[.int .i64 x, .int .i64 y, .int .i64 z]) (by simp [results, Try.results58, go_sem, k0, k1, k2]) rfl
            ⟨rfl, (((bw_below HS.out.h q).setCell (p := ⟨w.heap.size + 1, 0, none⟩) (by show _ ≤ w.heap.size + 1; omega) _).setCell (p := ⟨w.heap.size + 1, 1, none⟩) (by show _ ≤ w.heap.size + 1; omega) _).setCell (p := ⟨w.heap.size + 1, 2, none⟩) (by show _ ≤ w.heap.size + 1; omega) _⟩
        · have HW := Lib.hid hw
          rw [Bool.not_eq_true] at hw
          rw [hw] at K1
          have hI' := wi_iff.1 hI
          have T1 := Lib.hid (fun w => ref6_toward x 2 w (by omega) (by omega))
          have T2 := Lib.hid (fun w => ref6_toward y 2 w (by omega) (by omega))
          have T3 := Lib.hid (fun w => ref6_toward z 2 w (by omega) (by omega))
          have HE := Lib.hid hE
          have HN := Lib.hid (show x.natAbs < 2 ^ (k + 20) ∧ y.natAbs < 2 ^ (k + 20) ∧ z.natAbs < 2 ^ (k + 20) from ⟨n1, n2, n3⟩)
          have HI := Lib.hid hI
          obtain ⟨x', hx'⟩ : ∃ x', x' = x.tdiv 2 := ⟨_, rfl⟩
          obtain ⟨y', hy'⟩ : ∃ y', y' = y.tdiv 2 := ⟨_, rfl⟩
          obtain ⟨z', hz'⟩ : ∃ z', z' = z.tdiv 2 := ⟨_, rfl⟩
          rw [← hx'] at T1
          rw [← hy'] at T2
          rw [← hz'] at T3
          have HX : Hid (x' = x.tdiv 2 ∧ y' = y.tdiv 2 ∧ z' = z.tdiv 2) := Lib.hid ⟨hx', hy', hz'⟩
          clear hx' hy' hz' hw hs hE hI hI' n1 n2 n3
          go_wp2_with (go_at_call 57; (with_reducible refine (bw_call K1.out _).mono ?_); rintro e w' ⟨rfl, q, rfl⟩)
          go_still_tail 10, (by kernel_rfl)
          still_call ((T1.out _).mono (fun e w' h => ⟨h.1, h.2.symm⟩))
          repeat still_step
          still_call ((T2.out _).mono (fun e w' h => ⟨h.1, h.2.symm⟩))
          repeat still_step
          still_call ((T3.out _).mono (fun e w' h => ⟨h.1, h.2.symm⟩))
          repeat still_step
          refine wpStill_nil ?_
          change wpList _ _ _ _ _ q.w.drew
          obtain ⟨q2, hq2⟩ : ∃ q2 : BW wr, q2.w = q.w.drew := bw_drew q
          rw [← hq2]
          clear hq2 q
          go_wp2
          go_roundw
          case rel =>
            obtain ⟨rfl, rfl, rfl⟩ := HX.out
            have hw := HW.out
            rw [wi_iff] at hw
            obtain ⟨n1, n2, n3⟩ := HN.out
            have t : ∀ v : Int, (v.tdiv 2).natAbs = v.natAbs / 2 := fun v => by rw [Int.natAbs_tdiv]; rfl
            have tx := t x; have ty := t y; have tz := t z
            have hk1 : 1 ≤ k := by
              rcases Nat.eq_zero_or_pos k with rfl | hk
              · rw [Nat.zero_add] at n1 n2 n3
                have : (2 : Nat) ^ 20 = 1048576 := rfl
                omega
              · exact hk
            obtain ⟨j, rfl⟩ : ∃ j, k = j + 1 := ⟨k - 1, by omega⟩
            rw [show j + 1 + 20 = (j + 20) + 1 by omega, Nat.pow_succ] at n1 n2 n3
            have hI := HI.out
            rw [wi_iff] at hI
            refine ⟨j, x.tdiv 2, y.tdiv 2, z.tdiv 2, by omega, ?_, by omega, by omega, by omega, ?_, box3_next q2 HS.out (Nat.le_refl _) z1⟩
            · rw [HE.out, halN, if_neg HW.out]
            · rw [wi_iff]; omega
          case measure =>
            obtain ⟨rfl, rfl, rfl⟩ := HX.out
            have hw := HW.out
            rw [wi_iff] at hw
            have t : ∀ v : Int, (v.tdiv 2).natAbs = v.natAbs / 2 := fun v => by rw [Int.natAbs_tdiv]; rfl
            have tx := t x; have ty := t y; have tz := t z
            rw [sum3_of (HS.out.b0.below p1.h), sum3_of (box3_next q2 HS.out (Nat.le_refl _) z1).b0]
            omega

set_option maxRecDepth 100000 in
theorem ref6_Unit_no (x y z : Int) (w : World) (h : vuOk x y z = false) :
    Calls Try.prog 32 #[.agg #[.int .i64 x, .int .i64 y, .int .i64 z]] w fun e w' => e = .returned (.tuple #[.agg #[.int .i64 0, .int .i64 0, .int .i64 0], .bool false]) ∧ Below w.heap.size w w' := by
  have K1 := Lib.hid (fun w => ref6_within 4611686018427387904 x y z w (by omega))
  have K2 := Lib.hid (fun w => ref6_within 0 x y z w (by omega))
  unfold vuOk at h
  generalize wi 4611686018427387904 x y z = n1 at *
  generalize wi 0 x y z = n2 at *
  cases n1 <;> cases n2
  case true.false => cases h
  all_goals
    clear h
    go_enter Try.func32, Try.ntmps32
    go_wp2_with (go_at_call 57; (first | (with_reducible refine (K1.out _).mono ?_) | (with_reducible refine (K2.out _).mono ?_)); rintro e w1 ⟨rfl, hb⟩; have kk : Bk w1 (w.heap.size + 1) 23 #[.int .i64 0, .int .i64 0, .int .i64 0] := (by first | exact kk.below hb | exact Bk.below (Bk.new_at _ _ _ _ (by simp)) hb); obtain ⟨hc, hf, y0, y1, y2, y3⟩ := below2 (w := w) w.heap.size (by go_grown) hb (by first | (simp; done) | (simp; omega) | omega))
    obtain ⟨k0, k1, k2, k3⟩ := kk.put3 (.int .i64 0) (.int .i64 0) (.int .i64 0)
    exact bodyPost_ret (v := .tuple #[.agg #[.int .i64 0, .int .i64 0, .int .i64 0], .bool false]) (by simp [results, Try.results32, go_sem, k0, k1, k2]) rfl ⟨rfl, by go_grown⟩

set_option maxRecDepth 100000 in
theorem ref6_Unit_yes (x y z : Int) (w : World) (h : vuOk x y z = true) :
    Calls Try.prog 32 #[.agg #[.int .i64 x, .int .i64 y, .int .i64 z]] w fun e w' => e = .returned (.tuple #[.agg #[.int .i64 (vun (evn x y z)).1, .int .i64 (vun (evn x y z)).2.1, .int .i64 (vun (evn x y z)).2.2], .bool true]) ∧ Below w.heap.size w w' := by
  have h' := vuOk_iff.1 h
  have K1 := Lib.hid (fun w => ref6_within 4611686018427387904 x y z w (by omega))
  have K2 := Lib.hid (fun w => ref6_within 0 x y z w (by omega))
  rw [h'.1] at K1
  rw [h'.2] at K2
  have E := Lib.hid (fun w => ref6_Even x y z w h')
  obtain ⟨s1, s2⟩ := evn_spec h'
  obtain ⟨L, hL, l1, l2, _, _⟩ := even_len s1 s2
  have N := Lib.hid (fun w => ref6_Len (evn x y z).1 (evn x y z).2.1 (evn x y z).2.2 w)
  rw [hL] at N
  unfold vun
  rw [hL]
  rw [wi_iff] at s2
  generalize evn x y z = e at *
  obtain ⟨a, b, c⟩ := e
  dsimp only at *
  have v1 : IntKind.i64.wrap (a * 16384) = a * 16384 := by rw [i64w]; omega
  have v2 : IntKind.i64.wrap (b * 16384) = b * 16384 := by rw [i64w]; omega
  have v3 : IntKind.i64.wrap (c * 16384) = c * 16384 := by rw [i64w]; omega
  have u1 : wrap64 (a * 16384) = a * 16384 := by unfold wrap64; omega
  have u2 : wrap64 (b * 16384) = b * 16384 := by unfold wrap64; omega
  have u3 : wrap64 (c * 16384) = c * 16384 := by unfold wrap64; omega
  have T1 := Lib.hid (fun w => ref6_toward (a * 16384) L w (by omega) (by omega))
  have T2 := Lib.hid (fun w => ref6_toward (b * 16384) L w (by omega) (by omega))
  have T3 := Lib.hid (fun w => ref6_toward (c * 16384) L w (by omega) (by omega))
  generalize (a * 16384).tdiv (L : Int) = r1 at *
  generalize (b * 16384).tdiv (L : Int) = r2 at *
  generalize (c * 16384).tdiv (L : Int) = r3 at *
  clear h h' s1 s2 hL l1 l2
  generalize (L : Int) = l at *
  obtain ⟨z1, z2, z3, z4, z5, z6⟩ := lt3 w.heap.size
  go_enter Try.func32, Try.ntmps32
  go_wp2_with (first
    | (go_at_call 57; (first | (with_reducible refine (K1.out _).mono ?_) | (with_reducible refine (K2.out _).mono ?_)); rintro e w1 ⟨rfl, hb⟩; have k0 : Bk w1 w.heap.size 23 #[.int .i64 x, .int .i64 y, .int .i64 z] := (by first | exact k0.below hb | exact Bk.below (Bk.alloc (Bk.new _ _ _) _) hb); have kk : Bk w1 (w.heap.size + 1) 23 #[.int .i64 0, .int .i64 0, .int .i64 0] := (by first | exact kk.below hb | exact Bk.below (Bk.new_at _ _ _ _ (by simp)) hb); obtain ⟨hc, hf, y0, y1, y2, y3⟩ := below2 (w := w) w.heap.size (by go_grown) hb (by first | (simp; done) | (simp; omega) | omega))
    | (go_at_call 58; (with_reducible refine (E.out _).mono ?_); rintro e w2 ⟨rfl, hb2⟩; have k0 := k0.below hb2; have kk := kk.below hb2; obtain ⟨hc, hf, y0, y1, y2, y3⟩ := below2 (w := w) w.heap.size (by go_grown) hb2 (by first | (simp; done) | (simp; omega) | omega)))
  obtain ⟨_, _, _, k3⟩ := k0.put3 (.int .i64 a) (.int .i64 b) (.int .i64 c)
  have k4 := (((kk.other (a := ⟨w.heap.size, 0, none⟩) (by show ¬ _ = w.heap.size; omega) (.int .i64 a)).other (a := ⟨w.heap.size, 1, none⟩) (by show ¬ _ = w.heap.size; omega) (.int .i64 b)).other (a := ⟨w.heap.size, 2, none⟩) (by show ¬ _ = w.heap.size; omega) (.int .i64 c))
  have hB : Below w.heap.size w (((w2.setCell ⟨w.heap.size, 0, none⟩ (.int .i64 a)).setCell ⟨w.heap.size, 1, none⟩ (.int .i64 b)).setCell ⟨w.heap.size, 2, none⟩ (.int .i64 c)) :=
    ((y0.setCell (p := ⟨w.heap.size, 0, none⟩) (Nat.le_refl _) _).setCell (p := ⟨w.heap.size, 1, none⟩) (Nat.le_refl _) _).setCell (p := ⟨w.heap.size, 2, none⟩) (Nat.le_refl _) _
  clear k0 kk hc hf y0 y1 y2 y3 hb2
  generalize (((w2.setCell ⟨w.heap.size, 0, none⟩ (.int .i64 a)).setCell ⟨w.heap.size, 1, none⟩ (.int .i64 b)).setCell ⟨w.heap.size, 2, none⟩ (.int .i64 c)) = W at *
  with_reducible refine (N.out _).mono ?_
  rintro e w3 ⟨rfl, hb3⟩
  have j0 := k3.below hb3
  have j1 := k4.below hb3
  have hB3 := hB.trans (hb3.mono hB.size)
  clear k3 k4 hB hb3
  obtain ⟨c0, c1, c2⟩ := bw_bk3 j0
  obtain ⟨c3, c4, c5⟩ := bw_bk3 j1
  have f3 : ∀ p : BW w3, p.w.frozen? ⟨w.heap.size + 1, 0, none⟩ = false := fun p => (j1.below p.h).frozen 0
  have f4 : ∀ p : BW w3, p.w.frozen? ⟨w.heap.size + 1, 1, none⟩ = false := fun p => (j1.below p.h).frozen 1
  have f5 : ∀ p : BW w3, p.w.frozen? ⟨w.heap.size + 1, 2, none⟩ = false := fun p => (j1.below p.h).frozen 2
  obtain ⟨q, hq⟩ : ∃ q : BW w3, q.w = w3 := ⟨BW.start w3, rfl⟩
  have HJ := Lib.hid j1
  have HB := Lib.hid hB3
  rw [← hq]
  clear hq j0 j1 hB3
  go_wp2
  go_still_tail 15, (by kernel_rfl)
  still_call ((T1.out _).mono (fun e w' h => ⟨h.1, h.2.symm⟩))
  repeat still_step
  still_call ((T2.out _).mono (fun e w' h => ⟨h.1, h.2.symm⟩))
  repeat still_step
  still_call ((T3.out _).mono (fun e w' h => ⟨h.1, h.2.symm⟩))
  repeat still_step
  refine wpStill_nil ?_
  change wpList _ _ _ _ _ q.w.drew
  obtain ⟨q2, hq2⟩ : ∃ q2 : BW w3, q2.w = q.w.drew := bw_drew q
  rw [← hq2]
  clear hq2 q
  go_wp2
  obtain ⟨k0, k1, k2, k3⟩ := (HJ.out.below q2.h).put3 (.int .i64 r1) (.int .i64 r2) (.int .i64 r3)
  exact bodyPost_ret (v := .tuple #[.agg #[.int .i64 r1, .int .i64 r2, .int .i64 r3], .bool true]) (by simp [results, Try.results32, go_sem, k0, k1, k2]) rfl
    ⟨rfl, (((bw_below HB.out q2).setCell (p := ⟨w.heap.size + 1, 0, none⟩) (by show _ ≤ w.heap.size + 1; omega) _).setCell (p := ⟨w.heap.size + 1, 1, none⟩) (by show _ ≤ w.heap.size + 1; omega) _).setCell (p := ⟨w.heap.size + 1, 2, none⟩) (by show _ ≤ w.heap.size + 1; omega) _⟩

theorem ref6_Unit (x y z : Int) (w : World) :
    Calls Try.prog 32 #[.agg #[.int .i64 x, .int .i64 y, .int .i64 z]] w fun e w' => e = .returned (.tuple #[.agg #[.int .i64 (vunit x y z).1, .int .i64 (vunit x y z).2.1, .int .i64 (vunit x y z).2.2], .bool (vuOk x y z)]) ∧ Below w.heap.size w w' := by
  unfold vunit
  by_cases h : vuOk x y z = true
  · rw [if_pos h, h]; exact ref6_Unit_yes x y z w h
  · rw [if_neg h]
    rw [Bool.not_eq_true] at h
    rw [h]; exact ref6_Unit_no x y z w h

end Go.Proofs.Ytppejnfiphkmnaa
