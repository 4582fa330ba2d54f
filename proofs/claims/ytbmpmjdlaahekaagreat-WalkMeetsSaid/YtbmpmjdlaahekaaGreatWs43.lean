/- The contract of the document's own box.Hit, where the box and the ray  -/
import Derived.Test.YtbmpmjdlaahekaaGreatWs42
set_option maxRecDepth 100000
set_option maxHeartbeats 8000000
set_option linter.unusedVariables false
set_option linter.unusedSimpArgs false
open Go.Proofs.Tryz
namespace Go.Proofs.YtbmpmjdlaahekaaGreat
section
open Go.RowKit Go.Proofs.Sky
theorem take_all17 (l : List Fq) (p : Fq → Bool) (k : Nat) (h : k < l.length) : (l.take (k + 1)).all p = ((l.take k).all p && p l[k]) := by
 rw [List.take_add_one, List.all_append, List.getElem?_eq_getElem h]
 simp
theorem all_one17 {H : List Fq} {p : Fq → Bool} {k : Nat} (h : k < H.length) (e : p H[k] = false) : H.all p = false := by
 rw [List.all_eq_false]
 exact ⟨H[k], List.getElem_mem h, by rw [e]; decide⟩
theorem all_no17 {L H : List Fq} {j : Nat} (h : j < L.length) (e : (H.all fun h => !fless h.1 h.2 L[j].1 L[j].2) = false) : apart L H = false := by
 unfold apart
 exact all_one17 (p := fun l => H.all fun h => !fless h.1 h.2 l.1 l.2) h e
theorem crd_in (v : T3) (h : nrT v = true) (i : Int) : -1048576 ≤ crd v i ∧ crd v i ≤ 1048576 := by
 rw [z0r] at h
 unfold crd
 split
 · omega
 · split <;> omega
theorem crd_near {b : Bx} {o d : T3} (hb : bRight b = true) (ho : vnear o.1 o.2.1 o.2.2 = true) (hd : vnear d.1 d.2.1 d.2.2 = true) (i : Int) :
  (-1048576 ≤ crd b.1 i ∧ crd b.1 i ≤ 1048576) ∧ (-1048576 ≤ crd b.2 i ∧ crd b.2 i ≤ 1048576) ∧ (-1048576 ≤ crd o i ∧ crd o i ≤ 1048576) ∧ (-1048576 ≤ crd d i ∧ crd d i ≤ 1048576) := by
 rw [z10] at hb
 exact ⟨crd_in _ hb.1 i, crd_in _ hb.2.1 i, crd_in _ ho i, crd_in _ hd i⟩
theorem ax_ints {lo hi o d : Int} (h : (-1048576 ≤ lo ∧ lo ≤ 1048576) ∧ (-1048576 ≤ hi ∧ hi ≤ 1048576) ∧ (-1048576 ≤ o ∧ o ≤ 1048576) ∧ (-1048576 ≤ d ∧ d ≤ 1048576)) : (∀ x ∈ axLow lo hi o d, I64 x.1 ∧ I64 x.2) ∧ ∀ x ∈ axHigh lo hi o d, I64 x.1 ∧ I64 x.2 := by
 unfold axLow axHigh
 constructor <;> intro x hx <;> split at hx
 · simp at hx
 · split at hx <;> (rw [List.mem_singleton] at hx; subst hx; unfold I64; dsimp only; omega)
 · simp at hx
 · split at hx <;> (rw [List.mem_singleton] at hx; subst hx; unfold I64; dsimp only; omega)
theorem frac_ints_low {b : Bx} {o d : T3} (hb : bRight b = true) (ho : vnear o.1 o.2.1 o.2.2 = true) (hd : vnear d.1 d.2.1 d.2.2 = true) {x : Fq} (hx : x ∈ rLow b o d 3) : I64 x.1 ∧ I64 x.2 := by
 unfold rLow at hx
 rcases List.mem_cons.1 hx with rfl | hx
 · unfold I64; dsimp only; omega
 · obtain ⟨i, _, h⟩ := List.mem_flatMap.1 hx
   exact (ax_ints (crd_near hb ho hd (i : Int))).1 x h
theorem frac_ints_high {b : Bx} {o d : T3} {n m : Int} (hb : bRight b = true) (ho : vnear o.1 o.2.1 o.2.2 = true) (hd : vnear d.1 d.2.1 d.2.2 = true) (hn : I64 n) (hm : I64 m) {x : Fq} (hx : x ∈ rHigh b o d n m 3) : I64 x.1 ∧ I64 x.2 := by
 unfold rHigh at hx
 rcases List.mem_append.1 hx with hx | hx
 · split at hx
   · rw [List.mem_singleton] at hx; subst hx; exact ⟨hn, hm⟩
   · simp at hx
 · obtain ⟨i, _, h⟩ := List.mem_flatMap.1 hx
   exact (ax_ints (crd_near hb ho hd (i : Int))).2 x h
theorem ax_len (lo hi o d : Int) : (axLow lo hi o d).length ≤ 1 ∧ (axHigh lo hi o d).length ≤ 1 := by
 unfold axLow axHigh
 constructor <;> split <;> (try split) <;> simp
theorem rows_len (b : Bx) (o d : T3) (n m : Int) : ∀ k : Nat, (rLow b o d k).length ≤ k + 1 ∧ (rHigh b o d n m k).length ≤ k + 1
 | 0 => by
  unfold rLow rHigh
  constructor
  · simp
  · simp only [List.range_zero, List.flatMap_nil, List.append_nil]; split <;> simp
 | k + 1 => by
  have := rows_len b o d n m k
  have h := ax_len (crd b.1 k) (crd b.2 k) (crd o k) (crd d k)
  rw [rLow_succ, rHigh_succ, List.length_append, List.length_append]
  omega
theorem ref10_Hit_m1 (a1 a2 a3 a4 a5 a6 o1 o2 o3 d1 d2 d3 fr n m : Int) (w : World) (h1 : bRight ((a1, a2, a3), (a4, a5, a6)) = true) (h2 : vnear o1 o2 o3 = true) (h3 : vnear d1 d2 d3 = true) (hn : I64 n) (hm : I64 m) (hd : decide (1 ≤ m) = true) :
  Rt prog 37 #[.agg #[a1, a2, a3, a4, a5, a6], .agg #[o1, o2, o3, d1, d2, d3, fr], .agg #[n, m]] w (.bool (bHit ((a1, a2, a3), (a4, a5, a6)) (o1, o2, o3) (d1, d2, d3) n m)) := by
 have KA := zh (fun w => z0p a1 a2 a3 a4 a5 a6 w)
 have KO := zh (fun w => z0b o1 o2 o3 w)
 have KD := zh (fun w => z0b d1 d2 d3 w)
 have KR := zh (fun w => ref3_Right n m w)
 rw [h1] at KA
 rw [h2] at KO
 rw [h3] at KD
 rw [hd] at KR
 have HEQ := zh (ref_hit_eq (b := ((a1, a2, a3), (a4, a5, a6))) (o := (o1, o2, o3)) (d := (d1, d2, d3)) (n := n) (m := m) h1 h2 h3)
 have HOUT := zh (fun i => ref_hit_out (b := ((a1, a2, a3), (a4, a5, a6))) (o := (o1, o2, o3)) (d := (d1, d2, d3)) (n := n) (m := m) (i := i))
 have HPL := zh (fun x hx => frac_ints_low (b := ((a1, a2, a3), (a4, a5, a6))) (o := (o1, o2, o3)) (d := (d1, d2, d3)) h1 h2 h3 (x := x) hx)
 have HPH := zh (fun x hx => frac_ints_high (b := ((a1, a2, a3), (a4, a5, a6))) (o := (o1, o2, o3)) (d := (d1, d2, d3)) (n := n) (m := m) h1 h2 h3 hn hm (x := x) hx)
 have HCR := zh (fun i : Int => crd_near (b := ((a1, a2, a3), (a4, a5, a6))) (o := (o1, o2, o3)) (d := (d1, d2, d3)) h1 h2 h3 i)
 have HLN := zh (fun k => rows_len ((a1, a2, a3), (a4, a5, a6)) (o1, o2, o3) (d1, d2, d3) n m k)
 obtain ⟨i0, hi0, hz0, hz1, hz2⟩ := info_parts frc_info17
 obtain ⟨res, hres⟩ := nmd (bHit ((a1, a2, a3), (a4, a5, a6)) (o1, o2, o3) (d1, d2, d3) n m)
 rw [← hres] at HEQ HOUT ⊢
 clear hres h1 h2 h3 hn hm
 go_enter func37, ntmps37
 go_upto_region 1 with (fail)
 refine wst3 fun W1 kb ky kf B1 => ?_
 have ly : w.heap.size < w.heap.size + 1 := by omega
 have lf : w.heap.size + 1 < w.heap.size + 1 + 1 := by omega
 generalize w.heap.size + 1 + 1 = gf at *
 generalize w.heap.size + 1 = gy at *
 have lB : gf < W1.heap.size := kf.lt
 have oB : w.heap.size ≤ W1.heap.size := B1.size
 have cb := bwc6 kb
 have cy := bwc7 ky
 have cf := bwc2 kf
 refine bws fun p1 => ?_
 go_upto_region 3 with (first | (go_at_call 65; (with_reducible refine (z02 KA.out _).mono ?_); rintro e w' ⟨rfl, q, rfl⟩) | (go_at_call 20; (first | (with_reducible refine (z02 KO.out _).mono ?_) | (with_reducible refine (z02 KD.out _).mono ?_)); rintro e w' ⟨rfl, q, rfl⟩))
 have hq0 := (z00 B1 q).size
 go_upto_region 5 with (fail)
 refine wnm fun W2 hW2 => ?_
 have hqs : W1.heap.size ≤ q.w.heap.size := q.h.size
 have hlo : FqRow W2 W1.heap.size (.slice (some ⟨q.w.heap.size, 0, none⟩) 1 1) (rLow ((a1, a2, a3), (a4, a5, a6)) (o1, o2, o3) (d1, d2, d3) 0) := ⟨rfl, .inr ⟨q.w.heap.size, 1, #[.int .i64 0, .int .i64 1], rfl, hqs, by rw [hW2]; exact Bk.new _ _ _, Nat.le_refl _, by unfold maxLen; omega, rfl, rfl⟩⟩
 have B2 : Below w.heap.size w W2 := by rw [hW2]; exact (z00 B1 q).alloc hq0 _
 have kb := bka hW2 (kb.below q.h)
 have ky := bka hW2 (ky.below q.h)
 have kf := bka hW2 (kf.below q.h)
 have hs2 : W1.heap.size ≤ W2.heap.size := by rw [hW2]; simp; omega
 clear hW2 B1 cb cy cf hqs hq0
 generalize q.w.heap.size = gl at *
 have cf := bwc2 kf
 refine bws fun p2 => ?_
 go_upto_region 6 with (go_at_call 34; (with_reducible refine (z02 KR.out _).mono ?_); rintro e w' ⟨rfl, q2, rfl⟩)
 have hs3 : W1.heap.size ≤ q2.w.heap.size := Nat.le_trans hs2 q2.h.size
 have hnil : FqRow q2.w W1.heap.size (.slice none 0 0) [] := ⟨rfl, .inl ⟨rfl, rfl⟩⟩
 have HZ0 := zh (show 0 = ([] : List Fq).length from rfl)
 obtain ⟨Z0, hZ0⟩ := nmd (([] : List Fq).length)
 go_wp2_with (at_builtin; refine z06 rfl _ _ 112 rfl W1.heap.size 28 i0 _ 2 16 Tryz.underlying112 hi0 hz0 hz1 hz2 rfl (by decide) _ 0 [] rfl (World.ownsRow.alloc hnil _) ⟨_, 0, none⟩ 1 1 [.int .i64 n, .int .i64 m] rfl rfl ?g1 ?g2 ?g3 ?g4 ?g5 ?_)
 case g1 => exact z1h _ #[n, m] _
 case g2 => first | exact ⟨rfl, rfl⟩ | (intro u hu; simp only [List.mem_cons, List.not_mem_nil, or_false] at hu; rcases hu with rfl | rfl <;> rfl)
 case g3 => unfold maxLen; omega
 case g4 => omega
 case g5 => first | omega | (simp; omega)
 intro v' w3 hown hgrow hat
 have B3 : Below w.heap.size w w3 := ((z00 B2 q2).alloc (z00 B2 q2).size _).grown hgrow (by simp; omega) (fun j ej => by cases ej)
 have kb3 := Bk.grown ((kb.below q2.h).alloc (.cells #[n, m] 28)) hgrow (fun e => by cases e)
 have ky3 := Bk.grown ((ky.below q2.h).alloc (.cells #[n, m] 28)) hgrow (fun e => by cases e)
 have hlo3 : FqRow w3 W1.heap.size (.slice (some ⟨gl, 0, none⟩) 1 1) (rLow ((a1, a2, a3), (a4, a5, a6)) (o1, o2, o3) (d1, d2, d3) 0) := z14 (World.ownsRow.alloc (hlo.below q2.h) _) hgrow (fun j ej => by intro h; cases h)
 have hhi3 : FqRow w3 W1.heap.size v' (rHigh ((a1, a2, a3), (a4, a5, a6)) (o1, o2, o3) (d1, d2, d3) n m 0) := by
  have e : rHigh ((a1, a2, a3), (a4, a5, a6)) (o1, o2, o3) (d1, d2, d3) n m 0 = [(n, m)] := by unfold rHigh; rw [if_pos (of_decide_eq_true hd)]; rfl
  rw [e]; exact hown
 have hap3 : Apart2 (.slice (some ⟨gl, 0, none⟩) 1 1) v' := fun j ej e => by
  cases ej
  have h1 := (World.ownsRow.lt hlo (gl) rfl).2
  have h2 := q2.h.size
  rcases hat with h | h
  · rw [h] at e; cases e
  · rw [h] at e
    have h3 := Option.some.inj e
    dsimp only at h3
    omega
 have hs4 : W1.heap.size ≤ w3.heap.size := by have := hgrow.size; simp at this; omega
 go_wp2
 clear hlo kb ky kf B2 cf hs2
 go_loopw [7, 8, 9] (fun u v i wr => ∃ (k : Nat), k ≤ 3 ∧ i = .int .i64 (k : Int) ∧ (FqRow wr W1.heap.size u (rLow ((a1, a2, a3), (a4, a5, a6)) (o1, o2, o3) (d1, d2, d3) k) ∧ FqRow wr W1.heap.size v (rHigh ((a1, a2, a3), (a4, a5, a6)) (o1, o2, o3) (d1, d2, d3) n m k) ∧ Apart2 u v) ∧ (Bk wr w.heap.size 61 #[a1, a2, a3, a4, a5, a6] ∧ Bk wr gy 26 #[o1, o2, o3, d1, d2, d3, fr]) ∧ Below w.heap.size w wr ∧ W1.heap.size ≤ wr.heap.size ∧ Hid (∀ i : Nat, i < k → axOut (crd (a1, a2, a3) (i : Int)) (crd (a4, a5, a6) (i : Int)) (crd (o1, o2, o3) (i : Int)) (crd (d1, d2, d3) (i : Int)) = false)) (fun _ _ i _ => 3 - (intOf i).toNat)
 case atStart => exact ⟨0, by omega, rfl, ⟨hlo3, hhi3, hap3⟩, ⟨kb3, ky3⟩, B3, hs4, zh (fun i h => by omega)⟩
 case round =>
  clear hlo3 hhi3 hap3 kb3 ky3 B3 hs4
  obtain ⟨k, hk, rfl, ⟨hlo, hhi, hap⟩, ⟨kb, ky⟩, B1, hsz, HAX⟩ := hrel
  by_cases hlt : k < 3
  · have t1 : decide ((k : Int) < 3) = true := zt (by omega)
    obtain ⟨b1, b2, b3, b4⟩ := HCR.out (k : Int)
    have HRL := zh (rLow_succ ((a1, a2, a3), (a4, a5, a6)) (o1, o2, o3) (d1, d2, d3) k)
    have HRH := zh (rHigh_succ ((a1, a2, a3), (a4, a5, a6)) (o1, o2, o3) (d1, d2, d3) n m k)
    have HON := HOUT.out k hlt
    have K1 := zh (fun w => z16 o1 o2 o3 (k : Int) w)
    have K2 := zh (fun w => z16 d1 d2 d3 (k : Int) w)
    have K3 := zh (fun w => z16 a1 a2 a3 (k : Int) w)
    have K4 := zh (fun w => z16 a4 a5 a6 (k : Int) w)
    obtain ⟨lc, hlc⟩ := nmd (crd (a1, a2, a3) (k : Int))
    obtain ⟨hc, hhc⟩ := nmd (crd (a4, a5, a6) (k : Int))
    obtain ⟨oc, hoc⟩ := nmd (crd (o1, o2, o3) (k : Int))
    obtain ⟨dc, hdc⟩ := nmd (crd (d1, d2, d3) (k : Int))
    dsimp only at b1 b2 b3 b4 HRL HRH HON
    rw [← hlc] at K3 HRL HRH HON b1
    rw [← hhc] at K4 HRL HRH HON b2
    rw [← hoc] at K1 HRL HRH HON b3
    rw [← hdc] at K2 HRL HRH HON b4
    have HAK : Hid (∀ v, axOut lc hc oc dc = v → axOut (crd (a1, a2, a3) (k : Int)) (crd (a4, a5, a6) (k : Int)) (crd (o1, o2, o3) (k : Int)) (crd (d1, d2, d3) (k : Int)) = v) := zh (fun v h => by rw [← hlc, ← hhc, ← hoc, ← hdc]; exact h)
    have HON2 := zh HON
    clear HON hlc hhc hoc hdc
    have hll := (HLN.out k).1
    have hlh := (HLN.out k).2
    obtain ⟨Ll, hLl⟩ := nmd (rLow ((a1, a2, a3), (a4, a5, a6)) (o1, o2, o3) (d1, d2, d3) k)
    obtain ⟨Lh, hLh⟩ := nmd (rHigh ((a1, a2, a3), (a4, a5, a6)) (o1, o2, o3) (d1, d2, d3) n m k)
    rw [← hLl] at hlo HRL hll
    rw [← hLh] at hhi HRH hlh
    have HLL := zh hLl
    have HLH := zh hLh
    clear hLl hLh
    obtain ⟨Nl, hNl⟩ := nmd (Ll.length)
    obtain ⟨Nh, hNh⟩ := nmd (Lh.length)
    rw [← hNl] at hll
    rw [← hNh] at hlh
    have HNl := zh hNl
    have HNh := zh hNh
    clear hNl hNh
    obtain ⟨ua, uc, hu0⟩ := z0d hlo
    obtain ⟨va, vc, hv0⟩ := z0d hhi
    subst hu0
    subst hv0
    rw [← HNl.out] at hap hlo ⊢
    rw [← HNh.out] at hap hhi ⊢
    have cb := bwc6 kb
    have cy := bwc7 ky
    refine bws fun p3 => ?_
    go_upto_region 10 with (fail)
    refine z03 (by kernel_rfl) (by kernel_rfl) ?_
    repeat (go_big_quiet_step ((go_at_call 66; (first | (with_reducible exact z02 K1.out _) | (with_reducible exact z02 K2.out _) | (with_reducible exact z02 K3.out _) | (with_reducible exact z02 K4.out _)))))
    refine wpQuiet_nil ?_
    intro _ hw'
    obtain ⟨q, rfl⟩ := hw'
    clear K1 K2 K3 K4 cb cy
    by_cases hd0 : dc = 0
    · subst hd0
      by_cases hout : oc < lc ∨ hc < oc
      · have hax : axOut lc hc oc 0 = true := by unfold axOut; rw [Bool.and_eq_true, Bool.or_eq_true, decide_eq_true_eq, decide_eq_true_eq, decide_eq_true_eq]; exact ⟨rfl, hout⟩
        have hres := HON2.out hax
        subst hres
        by_cases ho1 : oc < lc
        · have t2 : decide (oc < lc) = true := zt ho1
          go_wp2
          go_ret
          exact ⟨rfl, z00 B1 _⟩
        · have t2 : decide (oc < lc) = false := zf ho1
          have t3 : decide (hc < oc) = true := zt (by omega)
          go_wp2
          go_ret
          exact ⟨rfl, z00 B1 _⟩
      · have hax : axOut lc hc oc 0 = false := by unfold axOut; rw [zt rfl, Bool.true_and, Bool.or_eq_false_iff, decide_eq_false_iff_not, decide_eq_false_iff_not]; omega
        have t2 : decide (oc < lc) = false := zf (by omega)
        have t3 : decide (hc < oc) = false := zf (by omega)
        have HA2 := zh (HAK.out _ hax)
        clear hax hout
        go_wp2
        go_roundw
        case rel => exact ⟨k + 1, by omega, by go_num, ⟨by rw [HRL.out]; unfold axLow; rw [if_pos rfl, List.append_nil]; exact hlo.below q.h, by rw [HRH.out]; unfold axHigh; rw [if_pos rfl, List.append_nil]; exact hhi.below q.h, hap⟩, ⟨kb.below q.h, ky.below q.h⟩, z00 B1 q, Nat.le_trans hsz q.h.size, zh (fun i hi => by
         by_cases e : i < k
         · exact HAX.out i e
         · obtain rfl : i = k := by omega
           exact HA2.out)⟩
        case measure => simp [intOf]; omega
    · have t2 : (dc == 0) = false := by rw [beq_eq_false_iff_ne]; exact hd0
      have hax : axOut lc hc oc dc = false := by unfold axOut; rw [zf hd0, Bool.false_and]
      have HA2 := zh (HAK.out _ hax)
      clear hax
      by_cases hdn : dc < 0
      · have t3 : decide (dc < 0) = true := zt hdn
        have hlq := hlo.below q.h
        have hhq := hhi.below q.h
        have hqs : W1.heap.size ≤ q.w.heap.size := Nat.le_trans hsz q.h.size
        have BQ := z00 B1 q
        have kbq := kb.below q.h
        have kyq := ky.below q.h
        go_wp2_with (at_builtin; refine z06 rfl _ _ 112 rfl W1.heap.size 28 i0 _ 2 16 Tryz.underlying112 hi0 hz0 hz1 hz2 rfl (by decide) _ Nl (Ll.flatMap fqc) rfl (World.ownsRow.alloc (by have h := hlq; unfold FqRow at h; rw [← HNl.out] at h; exact h) _) ⟨_, 0, none⟩ 1 1 [.int .i64 (-hc + oc), .int .i64 (-dc)] rfl rfl ?g1 ?g2 ?g3 ?g4 ?g5 ?_)
        try (case g1 => exact z1h _ #[.int .i64 (-hc + oc), .int .i64 (-dc)] _)
        case g2 => first | exact ⟨rfl, rfl⟩ | (intro u hu; simp only [List.mem_cons, List.not_mem_nil, or_false] at hu; rcases hu with rfl | rfl <;> rfl)
        case g3 => unfold maxLen; omega
        case g4 => omega
        case g5 => first | omega | (simp; omega)
        intro u1 w4 hown4 hgrow4 hat4
        have hul := fun j ej => (World.ownsRow.lt hlq j ej).1
        have B4 : Below w.heap.size w w4 := (BQ.alloc BQ.size _).grown hgrow4 (by simp; omega) (fun j ej => by have := hul j ej; omega)
        have kb4 := Bk.grown (kbq.alloc (.cells #[.int .i64 (-hc + oc), .int .i64 (-dc)] 28)) hgrow4 (fun e => by have := hul _ e.symm; omega)
        have ky4 := Bk.grown (kyq.alloc (.cells #[.int .i64 (-hc + oc), .int .i64 (-dc)] 28)) hgrow4 (fun e => by have := hul _ e.symm; omega)
        obtain ⟨hl4, hh4, hap4⟩ := fqrow_put (l := Ll) (m := Lh) (x := -hc + oc) (y := -dc) (by rw [← HNl.out]; exact hown4) (World.ownsRow.alloc hhq (.cells #[.int .i64 (-hc + oc), .int .i64 (-dc)] 28)) hap hgrow4 (by rw [World.size_alloc]; exact hat4)
        have hs4 : W1.heap.size ≤ w4.heap.size := by have := hgrow4.size; simp at this; omega
        obtain ⟨ua2, uc2, hu1⟩ := z0d hown4
        subst hu1
        clear hown4 hgrow4 hat4 hul hlq hhq hlo hhi hap kb ky kbq kyq
        go_wp2_with (at_builtin; refine z06 rfl _ _ 112 rfl W1.heap.size 28 i0 _ 2 16 Tryz.underlying112 hi0 hz0 hz1 hz2 rfl (by decide) _ Nh (Lh.flatMap fqc) rfl (World.ownsRow.alloc (by have h := hh4; unfold FqRow at h; rw [← HNh.out] at h; exact h) _) ⟨_, 0, none⟩ 1 1 [.int .i64 (-lc + oc), .int .i64 (-dc)] rfl rfl ?e1 ?e2 ?e3 ?e4 ?e5 ?_)
        try (case e1 => exact z1h _ #[.int .i64 (-lc + oc), .int .i64 (-dc)] _)
        case e2 => first | exact ⟨rfl, rfl⟩ | (intro u hu; simp only [List.mem_cons, List.not_mem_nil, or_false] at hu; rcases hu with rfl | rfl <;> rfl)
        case e3 => unfold maxLen; omega
        case e4 => omega
        case e5 => first | omega | (simp; omega)
        intro v1 w5 hown5 hgrow5 hat5
        have hul := fun j ej => (World.ownsRow.lt hh4 j ej).1
        have B5 : Below w.heap.size w w5 := (B4.alloc B4.size _).grown hgrow5 (by simp; omega) (fun j ej => by have := hul j ej; omega)
        have kb5 := Bk.grown (kb4.alloc (.cells #[.int .i64 (-lc + oc), .int .i64 (-dc)] 28)) hgrow5 (fun e => by have := hul _ e.symm; omega)
        have ky5 := Bk.grown (ky4.alloc (.cells #[.int .i64 (-lc + oc), .int .i64 (-dc)] 28)) hgrow5 (fun e => by have := hul _ e.symm; omega)
        obtain ⟨hh5, hl5, hap5⟩ := fqrow_put (l := Lh) (x := -lc + oc) (y := -dc) (by rw [← HNh.out]; exact hown5) (World.ownsRow.alloc hl4 (.cells #[.int .i64 (-lc + oc), .int .i64 (-dc)] 28)) hap4.symm hgrow5 (by rw [World.size_alloc]; exact hat5)
        have hs5 : W1.heap.size ≤ w5.heap.size := by have := hgrow5.size; simp at this; omega
        go_wp2
        go_roundw
        case rel => exact ⟨k + 1, by omega, by go_num, ⟨by rw [HRL.out]; unfold axLow; rw [if_neg hd0, if_pos hdn, show -hc - -oc = -hc + oc by omega]; exact hl5, by rw [HRH.out]; unfold axHigh; rw [if_neg hd0, if_pos hdn, show -lc - -oc = -lc + oc by omega]; exact hh5, hap5.symm⟩, ⟨kb5, ky5⟩, B5, hs5, zh (fun i hi => by
         by_cases e : i < k
         · exact HAX.out i e
         · obtain rfl : i = k := by omega
           exact HA2.out)⟩
        case measure => simp [intOf]; omega
      · have t3 : decide (dc < 0) = false := zf hdn
        have hlq := hlo.below q.h
        have hhq := hhi.below q.h
        have hqs : W1.heap.size ≤ q.w.heap.size := Nat.le_trans hsz q.h.size
        have BQ := z00 B1 q
        have kbq := kb.below q.h
        have kyq := ky.below q.h
        go_wp2_with (at_builtin; refine z06 rfl _ _ 112 rfl W1.heap.size 28 i0 _ 2 16 Tryz.underlying112 hi0 hz0 hz1 hz2 rfl (by decide) _ Nl (Ll.flatMap fqc) rfl (World.ownsRow.alloc (by have h := hlq; unfold FqRow at h; rw [← HNl.out] at h; exact h) _) ⟨_, 0, none⟩ 1 1 [.int .i64 (lc - oc), .int .i64 (dc)] rfl rfl ?g1 ?g2 ?g3 ?g4 ?g5 ?_)
        try (case g1 => exact z1h _ #[.int .i64 (lc - oc), .int .i64 (dc)] _)
        case g2 => first | exact ⟨rfl, rfl⟩ | (intro u hu; simp only [List.mem_cons, List.not_mem_nil, or_false] at hu; rcases hu with rfl | rfl <;> rfl)
        case g3 => unfold maxLen; omega
        case g4 => omega
        case g5 => first | omega | (simp; omega)
        intro u1 w4 hown4 hgrow4 hat4
        have hul := fun j ej => (World.ownsRow.lt hlq j ej).1
        have B4 : Below w.heap.size w w4 := (BQ.alloc BQ.size _).grown hgrow4 (by simp; omega) (fun j ej => by have := hul j ej; omega)
        have kb4 := Bk.grown (kbq.alloc (.cells #[.int .i64 (lc - oc), .int .i64 (dc)] 28)) hgrow4 (fun e => by have := hul _ e.symm; omega)
        have ky4 := Bk.grown (kyq.alloc (.cells #[.int .i64 (lc - oc), .int .i64 (dc)] 28)) hgrow4 (fun e => by have := hul _ e.symm; omega)
        obtain ⟨hl4, hh4, hap4⟩ := fqrow_put (l := Ll) (m := Lh) (x := lc - oc) (y := dc) (by rw [← HNl.out]; exact hown4) (World.ownsRow.alloc hhq (.cells #[.int .i64 (lc - oc), .int .i64 (dc)] 28)) hap hgrow4 (by rw [World.size_alloc]; exact hat4)
        have hs4 : W1.heap.size ≤ w4.heap.size := by have := hgrow4.size; simp at this; omega
        obtain ⟨ua2, uc2, hu1⟩ := z0d hown4
        subst hu1
        clear hown4 hgrow4 hat4 hul hlq hhq hlo hhi hap kb ky kbq kyq
        go_wp2_with (at_builtin; refine z06 rfl _ _ 112 rfl W1.heap.size 28 i0 _ 2 16 Tryz.underlying112 hi0 hz0 hz1 hz2 rfl (by decide) _ Nh (Lh.flatMap fqc) rfl (World.ownsRow.alloc (by have h := hh4; unfold FqRow at h; rw [← HNh.out] at h; exact h) _) ⟨_, 0, none⟩ 1 1 [.int .i64 (hc - oc), .int .i64 (dc)] rfl rfl ?e1 ?e2 ?e3 ?e4 ?e5 ?_)
        try (case e1 => exact z1h _ #[.int .i64 (hc - oc), .int .i64 (dc)] _)
        case e2 => first | exact ⟨rfl, rfl⟩ | (intro u hu; simp only [List.mem_cons, List.not_mem_nil, or_false] at hu; rcases hu with rfl | rfl <;> rfl)
        case e3 => unfold maxLen; omega
        case e4 => omega
        case e5 => first | omega | (simp; omega)
        intro v1 w5 hown5 hgrow5 hat5
        have hul := fun j ej => (World.ownsRow.lt hh4 j ej).1
        have B5 : Below w.heap.size w w5 := (B4.alloc B4.size _).grown hgrow5 (by simp; omega) (fun j ej => by have := hul j ej; omega)
        have kb5 := Bk.grown (kb4.alloc (.cells #[.int .i64 (hc - oc), .int .i64 (dc)] 28)) hgrow5 (fun e => by have := hul _ e.symm; omega)
        have ky5 := Bk.grown (ky4.alloc (.cells #[.int .i64 (hc - oc), .int .i64 (dc)] 28)) hgrow5 (fun e => by have := hul _ e.symm; omega)
        obtain ⟨hh5, hl5, hap5⟩ := fqrow_put (l := Lh) (x := hc - oc) (y := dc) (by rw [← HNh.out]; exact hown5) (World.ownsRow.alloc hl4 (.cells #[.int .i64 (hc - oc), .int .i64 (dc)] 28)) hap4.symm hgrow5 (by rw [World.size_alloc]; exact hat5)
        have hs5 : W1.heap.size ≤ w5.heap.size := by have := hgrow5.size; simp at this; omega
        go_wp2
        go_roundw
        case rel => exact ⟨k + 1, by omega, by go_num, ⟨by rw [HRL.out]; unfold axLow; rw [if_neg hd0, if_neg (show ¬ dc < 0 by omega)]; exact hl5, by rw [HRH.out]; unfold axHigh; rw [if_neg hd0, if_neg (show ¬ dc < 0 by omega)]; exact hh5, hap5.symm⟩, ⟨kb5, ky5⟩, B5, hs5, zh (fun i hi => by
         by_cases e : i < k
         · exact HAX.out i e
         · obtain rfl : i = k := by omega
           exact HA2.out)⟩
        case measure => simp [intOf]; omega
  · obtain rfl : k = 3 := by omega
    have HR := zh (HEQ.out (fun i hi => HAX.out i hi))
    have hll := (HLN.out 3).1
    have hlh := (HLN.out 3).2
    obtain ⟨L, hL⟩ := nmd (rLow ((a1, a2, a3), (a4, a5, a6)) (o1, o2, o3) (d1, d2, d3) 3)
    obtain ⟨H, hH⟩ := nmd (rHigh ((a1, a2, a3), (a4, a5, a6)) (o1, o2, o3) (d1, d2, d3) n m 3)
    rw [← hL] at hlo HR HPL hll
    rw [← hH] at hhi HR HPH hlh
    clear hL hH HOUT HEQ HAX HLN HCR hap
    obtain ⟨ua, uc, hu0, hla⟩ := fqrow_at hlo
    obtain ⟨va, vc, hv0, hha⟩ := fqrow_at hhi
    subst hu0
    subst hv0
    have HLA := zh hla
    have HHA := zh hha
    obtain ⟨Nl, hNl⟩ := nmd (L.length)
    obtain ⟨Nh, hNh⟩ := nmd (H.length)
    rw [← hNl] at hll ⊢
    rw [← hNh] at hlh ⊢
    have HNl := zh hNl
    have HNh := zh hNh
    clear hla hha hlo hhi hNl hNh kb ky
    go_wp2
    go_loopw [14] (fun i w2 => ∃ (j : Nat) (q : BW wr), j ≤ Nl ∧ i = .int .i64 (j : Int) ∧ w2 = q.w ∧ Hid ((L.take j).all (fun l => H.all fun h => !fless h.1 h.2 l.1 l.2) = true)) (fun i _ => Nl - (intOf i).toNat)
    case atStart => exact ⟨0, BW.start wr, Nat.zero_le _, rfl, rfl, zh rfl⟩
    case round =>
     obtain ⟨j, p4, hj, rfl, rfl, HJ⟩ := hrel
     by_cases hjl : j < Nl
     · have hjl2 : j < L.length := by rw [← HNl.out]; exact hjl
       obtain ⟨g, hua, _, hg, y0, y1⟩ := HLA.out j hjl2
       subst hua
       have hIl := HPL.out _ (List.getElem_mem hjl2)
       have HTL := zh (take_all17 L (fun l => H.all fun h => !fless h.1 h.2 l.1 l.2) j hjl2)
       have HAL := zh (fun (e : (H.all fun h => !fless h.1 h.2 L[j].1 L[j].2) = false) => all_no17 (L := L) (H := H) hjl2 e)
       obtain ⟨x, hx⟩ := nmd (L[j])
       rw [← hx] at y0 y1 hIl HTL HAL
       clear hx hjl2
       obtain ⟨x1, x2⟩ := x
       dsimp only at y0 y1 hIl HTL HAL
       have cx0 : ∀ p : BW wr, p.w.cell? ⟨g, j * 2, none⟩ = some (.int .i64 x1) := z01 (by rw [Nat.zero_add] at y0; exact y0)
       have cx1 : ∀ p : BW wr, p.w.cell? ⟨g, j * 2 + 1, none⟩ = some (.int .i64 x2) := z01 (by rw [Nat.zero_add] at y1; exact y1)
       go_wp2
       go_loopw [15] (fun i w2 => ∃ (k : Nat) (q : BW wr), k ≤ Nh ∧ i = .int .i64 (k : Int) ∧ w2 = q.w ∧ Hid ((H.take k).all (fun h => !fless h.1 h.2 x1 x2) = true)) (fun i _ => Nh - (intOf i).toNat)
       case atStart => exact ⟨0, p4, Nat.zero_le _, rfl, rfl, zh rfl⟩
       case round =>
        obtain ⟨k, p5, hk2, rfl, rfl, HK⟩ := hrel
        by_cases hkl : k < Nh
        · have hkl2 : k < H.length := by rw [← HNh.out]; exact hkl
          obtain ⟨g2, hva, _, hg2, z0, z1⟩ := HHA.out k hkl2
          subst hva
          have hIh := HPH.out _ (List.getElem_mem hkl2)
          have HTH := zh (take_all17 H (fun h => !fless h.1 h.2 x1 x2) k hkl2)
          have HNO := zh (fun (e : (!fless H[k].1 H[k].2 x1 x2) = false) => all_one17 (H := H) (p := fun h => !fless h.1 h.2 x1 x2) hkl2 e)
          obtain ⟨y, hy⟩ := nmd (H[k])
          rw [← hy] at z0 z1 hIh HTH HNO
          clear hy hkl2
          obtain ⟨u1, u2⟩ := y
          dsimp only at z0 z1 hIh HTH HNO
          have cy0 : ∀ p : BW wr, p.w.cell? ⟨g2, k * 2, none⟩ = some (.int .i64 u1) := z01 (by rw [Nat.zero_add] at z0; exact z0)
          have cy1 : ∀ p : BW wr, p.w.cell? ⟨g2, k * 2 + 1, none⟩ = some (.int .i64 u2) := z01 (by rw [Nat.zero_add] at z1; exact z1)
          have KL := zh (fun w => ref3_Less u1 u2 x1 x2 w hIh.1 hIh.2 hIl.1 hIl.2)
          obtain ⟨e, he⟩ := nmd (fless u1 u2 x1 x2)
          rw [← he] at KL HTH HNO
          clear he hIh
          go_upto_region 24 with (fail)
          refine z03 (by kernel_rfl) (by kernel_rfl) ?_
          repeat (go_big_quiet_step (first
           | (go_at_call 35; (with_reducible exact z02 KL.out _))
           | fail))
          refine wpQuiet_nil ?_
          intro _ hw'
          obtain ⟨q, rfl⟩ := hw'
          cases e with
          | false =>
           go_wp2
           go_roundw
           case rel => exact ⟨k + 1, q, by omega, by go_num, rfl, zh (by rw [HTH.out, HK.out]; rfl)⟩
           case measure => simp [intOf]; omega
          | true =>
           have hres : res = false := by rw [HR.out]; exact HAL.out (HNO.out rfl)
           subst hres
           go_wp2
           go_ret
           exact ⟨rfl, z00 B1 _⟩
        · obtain rfl : k = Nh := by omega
          have hall : (H.all fun h => !fless h.1 h.2 x1 x2) = true := by have := HK.out; rw [HNh.out, List.take_length] at this; exact this
          have HALL := zh hall
          clear hall
          go_wp2
          go_roundw
          case rel => exact ⟨j + 1, p5, by omega, by go_num, rfl, zh (by rw [HTL.out, HJ.out, HALL.out]; rfl)⟩
          case measure => simp [intOf]; omega
     · obtain rfl : j = Nl := by omega
       have hres : res = true := by rw [HR.out]; unfold apart; have := HJ.out; rw [HNl.out, List.take_length] at this; exact this
       subst hres
       go_wp2
       go_ret
       exact ⟨rfl, z00 B1 _⟩
theorem ref10_Hit_m0 (a1 a2 a3 a4 a5 a6 o1 o2 o3 d1 d2 d3 fr n m : Int) (w : World) (h1 : bRight ((a1, a2, a3), (a4, a5, a6)) = true) (h2 : vnear o1 o2 o3 = true) (h3 : vnear d1 d2 d3 = true) (hn : I64 n) (hm : I64 m) (hd : decide (1 ≤ m) = false) :
  Rt prog 37 #[.agg #[a1, a2, a3, a4, a5, a6], .agg #[o1, o2, o3, d1, d2, d3, fr], .agg #[n, m]] w (.bool (bHit ((a1, a2, a3), (a4, a5, a6)) (o1, o2, o3) (d1, d2, d3) n m)) := by
 have KA := zh (fun w => z0p a1 a2 a3 a4 a5 a6 w)
 have KO := zh (fun w => z0b o1 o2 o3 w)
 have KD := zh (fun w => z0b d1 d2 d3 w)
 have KR := zh (fun w => ref3_Right n m w)
 rw [h1] at KA
 rw [h2] at KO
 rw [h3] at KD
 rw [hd] at KR
 have HEQ := zh (ref_hit_eq (b := ((a1, a2, a3), (a4, a5, a6))) (o := (o1, o2, o3)) (d := (d1, d2, d3)) (n := n) (m := m) h1 h2 h3)
 have HOUT := zh (fun i => ref_hit_out (b := ((a1, a2, a3), (a4, a5, a6))) (o := (o1, o2, o3)) (d := (d1, d2, d3)) (n := n) (m := m) (i := i))
 have HPL := zh (fun x hx => frac_ints_low (b := ((a1, a2, a3), (a4, a5, a6))) (o := (o1, o2, o3)) (d := (d1, d2, d3)) h1 h2 h3 (x := x) hx)
 have HPH := zh (fun x hx => frac_ints_high (b := ((a1, a2, a3), (a4, a5, a6))) (o := (o1, o2, o3)) (d := (d1, d2, d3)) (n := n) (m := m) h1 h2 h3 hn hm (x := x) hx)
 have HCR := zh (fun i : Int => crd_near (b := ((a1, a2, a3), (a4, a5, a6))) (o := (o1, o2, o3)) (d := (d1, d2, d3)) h1 h2 h3 i)
 have HLN := zh (fun k => rows_len ((a1, a2, a3), (a4, a5, a6)) (o1, o2, o3) (d1, d2, d3) n m k)
 obtain ⟨i0, hi0, hz0, hz1, hz2⟩ := info_parts frc_info17
 obtain ⟨res, hres⟩ := nmd (bHit ((a1, a2, a3), (a4, a5, a6)) (o1, o2, o3) (d1, d2, d3) n m)
 rw [← hres] at HEQ HOUT ⊢
 clear hres h1 h2 h3 hn hm
 go_enter func37, ntmps37
 go_upto_region 1 with (fail)
 refine wst3 fun W1 kb ky kf B1 => ?_
 have ly : w.heap.size < w.heap.size + 1 := by omega
 have lf : w.heap.size + 1 < w.heap.size + 1 + 1 := by omega
 generalize w.heap.size + 1 + 1 = gf at *
 generalize w.heap.size + 1 = gy at *
 have lB : gf < W1.heap.size := kf.lt
 have oB : w.heap.size ≤ W1.heap.size := B1.size
 have cb := bwc6 kb
 have cy := bwc7 ky
 have cf := bwc2 kf
 refine bws fun p1 => ?_
 go_upto_region 3 with (first | (go_at_call 65; (with_reducible refine (z02 KA.out _).mono ?_); rintro e w' ⟨rfl, q, rfl⟩) | (go_at_call 20; (first | (with_reducible refine (z02 KO.out _).mono ?_) | (with_reducible refine (z02 KD.out _).mono ?_)); rintro e w' ⟨rfl, q, rfl⟩))
 have hq0 := (z00 B1 q).size
 go_upto_region 5 with (fail)
 refine wnm fun W2 hW2 => ?_
 have hqs : W1.heap.size ≤ q.w.heap.size := q.h.size
 have hlo : FqRow W2 W1.heap.size (.slice (some ⟨q.w.heap.size, 0, none⟩) 1 1) (rLow ((a1, a2, a3), (a4, a5, a6)) (o1, o2, o3) (d1, d2, d3) 0) := ⟨rfl, .inr ⟨q.w.heap.size, 1, #[.int .i64 0, .int .i64 1], rfl, hqs, by rw [hW2]; exact Bk.new _ _ _, Nat.le_refl _, by unfold maxLen; omega, rfl, rfl⟩⟩
 have B2 : Below w.heap.size w W2 := by rw [hW2]; exact (z00 B1 q).alloc hq0 _
 have kb := bka hW2 (kb.below q.h)
 have ky := bka hW2 (ky.below q.h)
 have kf := bka hW2 (kf.below q.h)
 have hs2 : W1.heap.size ≤ W2.heap.size := by rw [hW2]; simp; omega
 clear hW2 B1 cb cy cf hqs hq0
 generalize q.w.heap.size = gl at *
 have cf := bwc2 kf
 refine bws fun p2 => ?_
 go_upto_region 7 with (go_at_call 34; (with_reducible refine (z02 KR.out _).mono ?_); rintro e w' ⟨rfl, q2, rfl⟩)
 have B3 : Below w.heap.size w q2.w := z00 B2 q2
 have kb3 := kb.below q2.h
 have ky3 := ky.below q2.h
 have hlo3 := hlo.below q2.h
 have hhi3 : FqRow q2.w W1.heap.size (.slice none 0 0) (rHigh ((a1, a2, a3), (a4, a5, a6)) (o1, o2, o3) (d1, d2, d3) n m 0) := by
  have e : rHigh ((a1, a2, a3), (a4, a5, a6)) (o1, o2, o3) (d1, d2, d3) n m 0 = [] := by unfold rHigh; rw [if_neg (of_decide_eq_false hd)]; rfl
  rw [e]; exact ⟨rfl, .inl ⟨rfl, rfl⟩⟩
 have hap3 : Apart2 (.slice (some ⟨gl, 0, none⟩) 1 1) (.slice none 0 0) := fun j ej e => by cases e
 have hs4 : W1.heap.size ≤ q2.w.heap.size := Nat.le_trans hs2 q2.h.size
 go_wp2
 clear hlo kb ky kf B2 cf hs2
 go_loopw [7, 8, 9] (fun u v i wr => ∃ (k : Nat), k ≤ 3 ∧ i = .int .i64 (k : Int) ∧ (FqRow wr W1.heap.size u (rLow ((a1, a2, a3), (a4, a5, a6)) (o1, o2, o3) (d1, d2, d3) k) ∧ FqRow wr W1.heap.size v (rHigh ((a1, a2, a3), (a4, a5, a6)) (o1, o2, o3) (d1, d2, d3) n m k) ∧ Apart2 u v) ∧ (Bk wr w.heap.size 61 #[a1, a2, a3, a4, a5, a6] ∧ Bk wr gy 26 #[o1, o2, o3, d1, d2, d3, fr]) ∧ Below w.heap.size w wr ∧ W1.heap.size ≤ wr.heap.size ∧ Hid (∀ i : Nat, i < k → axOut (crd (a1, a2, a3) (i : Int)) (crd (a4, a5, a6) (i : Int)) (crd (o1, o2, o3) (i : Int)) (crd (d1, d2, d3) (i : Int)) = false)) (fun _ _ i _ => 3 - (intOf i).toNat)
 case atStart => exact ⟨0, by omega, rfl, ⟨hlo3, hhi3, hap3⟩, ⟨kb3, ky3⟩, B3, hs4, zh (fun i h => by omega)⟩
 case round =>
  clear hlo3 hhi3 hap3 kb3 ky3 B3 hs4
  obtain ⟨k, hk, rfl, ⟨hlo, hhi, hap⟩, ⟨kb, ky⟩, B1, hsz, HAX⟩ := hrel
  by_cases hlt : k < 3
  · have t1 : decide ((k : Int) < 3) = true := zt (by omega)
    obtain ⟨b1, b2, b3, b4⟩ := HCR.out (k : Int)
    have HRL := zh (rLow_succ ((a1, a2, a3), (a4, a5, a6)) (o1, o2, o3) (d1, d2, d3) k)
    have HRH := zh (rHigh_succ ((a1, a2, a3), (a4, a5, a6)) (o1, o2, o3) (d1, d2, d3) n m k)
    have HON := HOUT.out k hlt
    have K1 := zh (fun w => z16 o1 o2 o3 (k : Int) w)
    have K2 := zh (fun w => z16 d1 d2 d3 (k : Int) w)
    have K3 := zh (fun w => z16 a1 a2 a3 (k : Int) w)
    have K4 := zh (fun w => z16 a4 a5 a6 (k : Int) w)
    obtain ⟨lc, hlc⟩ := nmd (crd (a1, a2, a3) (k : Int))
    obtain ⟨hc, hhc⟩ := nmd (crd (a4, a5, a6) (k : Int))
    obtain ⟨oc, hoc⟩ := nmd (crd (o1, o2, o3) (k : Int))
    obtain ⟨dc, hdc⟩ := nmd (crd (d1, d2, d3) (k : Int))
    dsimp only at b1 b2 b3 b4 HRL HRH HON
    rw [← hlc] at K3 HRL HRH HON b1
    rw [← hhc] at K4 HRL HRH HON b2
    rw [← hoc] at K1 HRL HRH HON b3
    rw [← hdc] at K2 HRL HRH HON b4
    have HAK : Hid (∀ v, axOut lc hc oc dc = v → axOut (crd (a1, a2, a3) (k : Int)) (crd (a4, a5, a6) (k : Int)) (crd (o1, o2, o3) (k : Int)) (crd (d1, d2, d3) (k : Int)) = v) := zh (fun v h => by rw [← hlc, ← hhc, ← hoc, ← hdc]; exact h)
    have HON2 := zh HON
    clear HON hlc hhc hoc hdc
    have hll := (HLN.out k).1
    have hlh := (HLN.out k).2
    obtain ⟨Ll, hLl⟩ := nmd (rLow ((a1, a2, a3), (a4, a5, a6)) (o1, o2, o3) (d1, d2, d3) k)
    obtain ⟨Lh, hLh⟩ := nmd (rHigh ((a1, a2, a3), (a4, a5, a6)) (o1, o2, o3) (d1, d2, d3) n m k)
    rw [← hLl] at hlo HRL hll
    rw [← hLh] at hhi HRH hlh
    have HLL := zh hLl
    have HLH := zh hLh
    clear hLl hLh
    obtain ⟨Nl, hNl⟩ := nmd (Ll.length)
    obtain ⟨Nh, hNh⟩ := nmd (Lh.length)
    rw [← hNl] at hll
    rw [← hNh] at hlh
    have HNl := zh hNl
    have HNh := zh hNh
    clear hNl hNh
    obtain ⟨ua, uc, hu0⟩ := z0d hlo
    obtain ⟨va, vc, hv0⟩ := z0d hhi
    subst hu0
    subst hv0
    rw [← HNl.out] at hap hlo ⊢
    rw [← HNh.out] at hap hhi ⊢
    have cb := bwc6 kb
    have cy := bwc7 ky
    refine bws fun p3 => ?_
    go_upto_region 10 with (fail)
    refine z03 (by kernel_rfl) (by kernel_rfl) ?_
    repeat (go_big_quiet_step ((go_at_call 66; (first | (with_reducible exact z02 K1.out _) | (with_reducible exact z02 K2.out _) | (with_reducible exact z02 K3.out _) | (with_reducible exact z02 K4.out _)))))
    refine wpQuiet_nil ?_
    intro _ hw'
    obtain ⟨q, rfl⟩ := hw'
    clear K1 K2 K3 K4 cb cy
    by_cases hd0 : dc = 0
    · subst hd0
      by_cases hout : oc < lc ∨ hc < oc
      · have hax : axOut lc hc oc 0 = true := by unfold axOut; rw [Bool.and_eq_true, Bool.or_eq_true, decide_eq_true_eq, decide_eq_true_eq, decide_eq_true_eq]; exact ⟨rfl, hout⟩
        have hres := HON2.out hax
        subst hres
        by_cases ho1 : oc < lc
        · have t2 : decide (oc < lc) = true := zt ho1
          go_wp2
          go_ret
          exact ⟨rfl, z00 B1 _⟩
        · have t2 : decide (oc < lc) = false := zf ho1
          have t3 : decide (hc < oc) = true := zt (by omega)
          go_wp2
          go_ret
          exact ⟨rfl, z00 B1 _⟩
      · have hax : axOut lc hc oc 0 = false := by unfold axOut; rw [zt rfl, Bool.true_and, Bool.or_eq_false_iff, decide_eq_false_iff_not, decide_eq_false_iff_not]; omega
        have t2 : decide (oc < lc) = false := zf (by omega)
        have t3 : decide (hc < oc) = false := zf (by omega)
        have HA2 := zh (HAK.out _ hax)
        clear hax hout
        go_wp2
        go_roundw
        case rel => exact ⟨k + 1, by omega, by go_num, ⟨by rw [HRL.out]; unfold axLow; rw [if_pos rfl, List.append_nil]; exact hlo.below q.h, by rw [HRH.out]; unfold axHigh; rw [if_pos rfl, List.append_nil]; exact hhi.below q.h, hap⟩, ⟨kb.below q.h, ky.below q.h⟩, z00 B1 q, Nat.le_trans hsz q.h.size, zh (fun i hi => by
         by_cases e : i < k
         · exact HAX.out i e
         · obtain rfl : i = k := by omega
           exact HA2.out)⟩
        case measure => simp [intOf]; omega
    · have t2 : (dc == 0) = false := by rw [beq_eq_false_iff_ne]; exact hd0
      have hax : axOut lc hc oc dc = false := by unfold axOut; rw [zf hd0, Bool.false_and]
      have HA2 := zh (HAK.out _ hax)
      clear hax
      by_cases hdn : dc < 0
      · have t3 : decide (dc < 0) = true := zt hdn
        have hlq := hlo.below q.h
        have hhq := hhi.below q.h
        have hqs : W1.heap.size ≤ q.w.heap.size := Nat.le_trans hsz q.h.size
        have BQ := z00 B1 q
        have kbq := kb.below q.h
        have kyq := ky.below q.h
        go_wp2_with (at_builtin; refine z06 rfl _ _ 112 rfl W1.heap.size 28 i0 _ 2 16 Tryz.underlying112 hi0 hz0 hz1 hz2 rfl (by decide) _ Nl (Ll.flatMap fqc) rfl (World.ownsRow.alloc (by have h := hlq; unfold FqRow at h; rw [← HNl.out] at h; exact h) _) ⟨_, 0, none⟩ 1 1 [.int .i64 (-hc + oc), .int .i64 (-dc)] rfl rfl ?g1 ?g2 ?g3 ?g4 ?g5 ?_)
        try (case g1 => exact z1h _ #[.int .i64 (-hc + oc), .int .i64 (-dc)] _)
        case g2 => first | exact ⟨rfl, rfl⟩ | (intro u hu; simp only [List.mem_cons, List.not_mem_nil, or_false] at hu; rcases hu with rfl | rfl <;> rfl)
        case g3 => unfold maxLen; omega
        case g4 => omega
        case g5 => first | omega | (simp; omega)
        intro u1 w4 hown4 hgrow4 hat4
        have hul := fun j ej => (World.ownsRow.lt hlq j ej).1
        have B4 : Below w.heap.size w w4 := (BQ.alloc BQ.size _).grown hgrow4 (by simp; omega) (fun j ej => by have := hul j ej; omega)
        have kb4 := Bk.grown (kbq.alloc (.cells #[.int .i64 (-hc + oc), .int .i64 (-dc)] 28)) hgrow4 (fun e => by have := hul _ e.symm; omega)
        have ky4 := Bk.grown (kyq.alloc (.cells #[.int .i64 (-hc + oc), .int .i64 (-dc)] 28)) hgrow4 (fun e => by have := hul _ e.symm; omega)
        obtain ⟨hl4, hh4, hap4⟩ := fqrow_put (l := Ll) (m := Lh) (x := -hc + oc) (y := -dc) (by rw [← HNl.out]; exact hown4) (World.ownsRow.alloc hhq (.cells #[.int .i64 (-hc + oc), .int .i64 (-dc)] 28)) hap hgrow4 (by rw [World.size_alloc]; exact hat4)
        have hs4 : W1.heap.size ≤ w4.heap.size := by have := hgrow4.size; simp at this; omega
        obtain ⟨ua2, uc2, hu1⟩ := z0d hown4
        subst hu1
        clear hown4 hgrow4 hat4 hul hlq hhq hlo hhi hap kb ky kbq kyq
        go_wp2_with (at_builtin; refine z06 rfl _ _ 112 rfl W1.heap.size 28 i0 _ 2 16 Tryz.underlying112 hi0 hz0 hz1 hz2 rfl (by decide) _ Nh (Lh.flatMap fqc) rfl (World.ownsRow.alloc (by have h := hh4; unfold FqRow at h; rw [← HNh.out] at h; exact h) _) ⟨_, 0, none⟩ 1 1 [.int .i64 (-lc + oc), .int .i64 (-dc)] rfl rfl ?e1 ?e2 ?e3 ?e4 ?e5 ?_)
        try (case e1 => exact z1h _ #[.int .i64 (-lc + oc), .int .i64 (-dc)] _)
        case e2 => first | exact ⟨rfl, rfl⟩ | (intro u hu; simp only [List.mem_cons, List.not_mem_nil, or_false] at hu; rcases hu with rfl | rfl <;> rfl)
        case e3 => unfold maxLen; omega
        case e4 => omega
        case e5 => first | omega | (simp; omega)
        intro v1 w5 hown5 hgrow5 hat5
        have hul := fun j ej => (World.ownsRow.lt hh4 j ej).1
        have B5 : Below w.heap.size w w5 := (B4.alloc B4.size _).grown hgrow5 (by simp; omega) (fun j ej => by have := hul j ej; omega)
        have kb5 := Bk.grown (kb4.alloc (.cells #[.int .i64 (-lc + oc), .int .i64 (-dc)] 28)) hgrow5 (fun e => by have := hul _ e.symm; omega)
        have ky5 := Bk.grown (ky4.alloc (.cells #[.int .i64 (-lc + oc), .int .i64 (-dc)] 28)) hgrow5 (fun e => by have := hul _ e.symm; omega)
        obtain ⟨hh5, hl5, hap5⟩ := fqrow_put (l := Lh) (x := -lc + oc) (y := -dc) (by rw [← HNh.out]; exact hown5) (World.ownsRow.alloc hl4 (.cells #[.int .i64 (-lc + oc), .int .i64 (-dc)] 28)) hap4.symm hgrow5 (by rw [World.size_alloc]; exact hat5)
        have hs5 : W1.heap.size ≤ w5.heap.size := by have := hgrow5.size; simp at this; omega
        go_wp2
        go_roundw
        case rel => exact ⟨k + 1, by omega, by go_num, ⟨by rw [HRL.out]; unfold axLow; rw [if_neg hd0, if_pos hdn, show -hc - -oc = -hc + oc by omega]; exact hl5, by rw [HRH.out]; unfold axHigh; rw [if_neg hd0, if_pos hdn, show -lc - -oc = -lc + oc by omega]; exact hh5, hap5.symm⟩, ⟨kb5, ky5⟩, B5, hs5, zh (fun i hi => by
         by_cases e : i < k
         · exact HAX.out i e
         · obtain rfl : i = k := by omega
           exact HA2.out)⟩
        case measure => simp [intOf]; omega
      · have t3 : decide (dc < 0) = false := zf hdn
        have hlq := hlo.below q.h
        have hhq := hhi.below q.h
        have hqs : W1.heap.size ≤ q.w.heap.size := Nat.le_trans hsz q.h.size
        have BQ := z00 B1 q
        have kbq := kb.below q.h
        have kyq := ky.below q.h
        go_wp2_with (at_builtin; refine z06 rfl _ _ 112 rfl W1.heap.size 28 i0 _ 2 16 Tryz.underlying112 hi0 hz0 hz1 hz2 rfl (by decide) _ Nl (Ll.flatMap fqc) rfl (World.ownsRow.alloc (by have h := hlq; unfold FqRow at h; rw [← HNl.out] at h; exact h) _) ⟨_, 0, none⟩ 1 1 [.int .i64 (lc - oc), .int .i64 (dc)] rfl rfl ?g1 ?g2 ?g3 ?g4 ?g5 ?_)
        try (case g1 => exact z1h _ #[.int .i64 (lc - oc), .int .i64 (dc)] _)
        case g2 => first | exact ⟨rfl, rfl⟩ | (intro u hu; simp only [List.mem_cons, List.not_mem_nil, or_false] at hu; rcases hu with rfl | rfl <;> rfl)
        case g3 => unfold maxLen; omega
        case g4 => omega
        case g5 => first | omega | (simp; omega)
        intro u1 w4 hown4 hgrow4 hat4
        have hul := fun j ej => (World.ownsRow.lt hlq j ej).1
        have B4 : Below w.heap.size w w4 := (BQ.alloc BQ.size _).grown hgrow4 (by simp; omega) (fun j ej => by have := hul j ej; omega)
        have kb4 := Bk.grown (kbq.alloc (.cells #[.int .i64 (lc - oc), .int .i64 (dc)] 28)) hgrow4 (fun e => by have := hul _ e.symm; omega)
        have ky4 := Bk.grown (kyq.alloc (.cells #[.int .i64 (lc - oc), .int .i64 (dc)] 28)) hgrow4 (fun e => by have := hul _ e.symm; omega)
        obtain ⟨hl4, hh4, hap4⟩ := fqrow_put (l := Ll) (m := Lh) (x := lc - oc) (y := dc) (by rw [← HNl.out]; exact hown4) (World.ownsRow.alloc hhq (.cells #[.int .i64 (lc - oc), .int .i64 (dc)] 28)) hap hgrow4 (by rw [World.size_alloc]; exact hat4)
        have hs4 : W1.heap.size ≤ w4.heap.size := by have := hgrow4.size; simp at this; omega
        obtain ⟨ua2, uc2, hu1⟩ := z0d hown4
        subst hu1
        clear hown4 hgrow4 hat4 hul hlq hhq hlo hhi hap kb ky kbq kyq
        go_wp2_with (at_builtin; refine z06 rfl _ _ 112 rfl W1.heap.size 28 i0 _ 2 16 Tryz.underlying112 hi0 hz0 hz1 hz2 rfl (by decide) _ Nh (Lh.flatMap fqc) rfl (World.ownsRow.alloc (by have h := hh4; unfold FqRow at h; rw [← HNh.out] at h; exact h) _) ⟨_, 0, none⟩ 1 1 [.int .i64 (hc - oc), .int .i64 (dc)] rfl rfl ?e1 ?e2 ?e3 ?e4 ?e5 ?_)
        try (case e1 => exact z1h _ #[.int .i64 (hc - oc), .int .i64 (dc)] _)
        case e2 => first | exact ⟨rfl, rfl⟩ | (intro u hu; simp only [List.mem_cons, List.not_mem_nil, or_false] at hu; rcases hu with rfl | rfl <;> rfl)
        case e3 => unfold maxLen; omega
        case e4 => omega
        case e5 => first | omega | (simp; omega)
        intro v1 w5 hown5 hgrow5 hat5
        have hul := fun j ej => (World.ownsRow.lt hh4 j ej).1
        have B5 : Below w.heap.size w w5 := (B4.alloc B4.size _).grown hgrow5 (by simp; omega) (fun j ej => by have := hul j ej; omega)
        have kb5 := Bk.grown (kb4.alloc (.cells #[.int .i64 (hc - oc), .int .i64 (dc)] 28)) hgrow5 (fun e => by have := hul _ e.symm; omega)
        have ky5 := Bk.grown (ky4.alloc (.cells #[.int .i64 (hc - oc), .int .i64 (dc)] 28)) hgrow5 (fun e => by have := hul _ e.symm; omega)
        obtain ⟨hh5, hl5, hap5⟩ := fqrow_put (l := Lh) (x := hc - oc) (y := dc) (by rw [← HNh.out]; exact hown5) (World.ownsRow.alloc hl4 (.cells #[.int .i64 (hc - oc), .int .i64 (dc)] 28)) hap4.symm hgrow5 (by rw [World.size_alloc]; exact hat5)
        have hs5 : W1.heap.size ≤ w5.heap.size := by have := hgrow5.size; simp at this; omega
        go_wp2
        go_roundw
        case rel => exact ⟨k + 1, by omega, by go_num, ⟨by rw [HRL.out]; unfold axLow; rw [if_neg hd0, if_neg (show ¬ dc < 0 by omega)]; exact hl5, by rw [HRH.out]; unfold axHigh; rw [if_neg hd0, if_neg (show ¬ dc < 0 by omega)]; exact hh5, hap5.symm⟩, ⟨kb5, ky5⟩, B5, hs5, zh (fun i hi => by
         by_cases e : i < k
         · exact HAX.out i e
         · obtain rfl : i = k := by omega
           exact HA2.out)⟩
        case measure => simp [intOf]; omega
  · obtain rfl : k = 3 := by omega
    have HR := zh (HEQ.out (fun i hi => HAX.out i hi))
    have hll := (HLN.out 3).1
    have hlh := (HLN.out 3).2
    obtain ⟨L, hL⟩ := nmd (rLow ((a1, a2, a3), (a4, a5, a6)) (o1, o2, o3) (d1, d2, d3) 3)
    obtain ⟨H, hH⟩ := nmd (rHigh ((a1, a2, a3), (a4, a5, a6)) (o1, o2, o3) (d1, d2, d3) n m 3)
    rw [← hL] at hlo HR HPL hll
    rw [← hH] at hhi HR HPH hlh
    clear hL hH HOUT HEQ HAX HLN HCR hap
    obtain ⟨ua, uc, hu0, hla⟩ := fqrow_at hlo
    obtain ⟨va, vc, hv0, hha⟩ := fqrow_at hhi
    subst hu0
    subst hv0
    have HLA := zh hla
    have HHA := zh hha
    obtain ⟨Nl, hNl⟩ := nmd (L.length)
    obtain ⟨Nh, hNh⟩ := nmd (H.length)
    rw [← hNl] at hll ⊢
    rw [← hNh] at hlh ⊢
    have HNl := zh hNl
    have HNh := zh hNh
    clear hla hha hlo hhi hNl hNh kb ky
    go_wp2
    go_loopw [14] (fun i w2 => ∃ (j : Nat) (q : BW wr), j ≤ Nl ∧ i = .int .i64 (j : Int) ∧ w2 = q.w ∧ Hid ((L.take j).all (fun l => H.all fun h => !fless h.1 h.2 l.1 l.2) = true)) (fun i _ => Nl - (intOf i).toNat)
    case atStart => exact ⟨0, BW.start wr, Nat.zero_le _, rfl, rfl, zh rfl⟩
    case round =>
     obtain ⟨j, p4, hj, rfl, rfl, HJ⟩ := hrel
     by_cases hjl : j < Nl
     · have hjl2 : j < L.length := by rw [← HNl.out]; exact hjl
       obtain ⟨g, hua, _, hg, y0, y1⟩ := HLA.out j hjl2
       subst hua
       have hIl := HPL.out _ (List.getElem_mem hjl2)
       have HTL := zh (take_all17 L (fun l => H.all fun h => !fless h.1 h.2 l.1 l.2) j hjl2)
       have HAL := zh (fun (e : (H.all fun h => !fless h.1 h.2 L[j].1 L[j].2) = false) => all_no17 (L := L) (H := H) hjl2 e)
       obtain ⟨x, hx⟩ := nmd (L[j])
       rw [← hx] at y0 y1 hIl HTL HAL
       clear hx hjl2
       obtain ⟨x1, x2⟩ := x
       dsimp only at y0 y1 hIl HTL HAL
       have cx0 : ∀ p : BW wr, p.w.cell? ⟨g, j * 2, none⟩ = some (.int .i64 x1) := z01 (by rw [Nat.zero_add] at y0; exact y0)
       have cx1 : ∀ p : BW wr, p.w.cell? ⟨g, j * 2 + 1, none⟩ = some (.int .i64 x2) := z01 (by rw [Nat.zero_add] at y1; exact y1)
       go_wp2
       go_loopw [15] (fun i w2 => ∃ (k : Nat) (q : BW wr), k ≤ Nh ∧ i = .int .i64 (k : Int) ∧ w2 = q.w ∧ Hid ((H.take k).all (fun h => !fless h.1 h.2 x1 x2) = true)) (fun i _ => Nh - (intOf i).toNat)
       case atStart => exact ⟨0, p4, Nat.zero_le _, rfl, rfl, zh rfl⟩
       case round =>
        obtain ⟨k, p5, hk2, rfl, rfl, HK⟩ := hrel
        by_cases hkl : k < Nh
        · have hkl2 : k < H.length := by rw [← HNh.out]; exact hkl
          obtain ⟨g2, hva, _, hg2, z0, z1⟩ := HHA.out k hkl2
          subst hva
          have hIh := HPH.out _ (List.getElem_mem hkl2)
          have HTH := zh (take_all17 H (fun h => !fless h.1 h.2 x1 x2) k hkl2)
          have HNO := zh (fun (e : (!fless H[k].1 H[k].2 x1 x2) = false) => all_one17 (H := H) (p := fun h => !fless h.1 h.2 x1 x2) hkl2 e)
          obtain ⟨y, hy⟩ := nmd (H[k])
          rw [← hy] at z0 z1 hIh HTH HNO
          clear hy hkl2
          obtain ⟨u1, u2⟩ := y
          dsimp only at z0 z1 hIh HTH HNO
          have cy0 : ∀ p : BW wr, p.w.cell? ⟨g2, k * 2, none⟩ = some (.int .i64 u1) := z01 (by rw [Nat.zero_add] at z0; exact z0)
          have cy1 : ∀ p : BW wr, p.w.cell? ⟨g2, k * 2 + 1, none⟩ = some (.int .i64 u2) := z01 (by rw [Nat.zero_add] at z1; exact z1)
          have KL := zh (fun w => ref3_Less u1 u2 x1 x2 w hIh.1 hIh.2 hIl.1 hIl.2)
          obtain ⟨e, he⟩ := nmd (fless u1 u2 x1 x2)
          rw [← he] at KL HTH HNO
          clear he hIh
          go_upto_region 24 with (fail)
          refine z03 (by kernel_rfl) (by kernel_rfl) ?_
          repeat (go_big_quiet_step (first
           | (go_at_call 35; (with_reducible exact z02 KL.out _))
           | fail))
          refine wpQuiet_nil ?_
          intro _ hw'
          obtain ⟨q, rfl⟩ := hw'
          cases e with
          | false =>
           go_wp2
           go_roundw
           case rel => exact ⟨k + 1, q, by omega, by go_num, rfl, zh (by rw [HTH.out, HK.out]; rfl)⟩
           case measure => simp [intOf]; omega
          | true =>
           have hres : res = false := by rw [HR.out]; exact HAL.out (HNO.out rfl)
           subst hres
           go_wp2
           go_ret
           exact ⟨rfl, z00 B1 _⟩
        · obtain rfl : k = Nh := by omega
          have hall : (H.all fun h => !fless h.1 h.2 x1 x2) = true := by have := HK.out; rw [HNh.out, List.take_length] at this; exact this
          have HALL := zh hall
          clear hall
          go_wp2
          go_roundw
          case rel => exact ⟨j + 1, p5, by omega, by go_num, rfl, zh (by rw [HTL.out, HJ.out, HALL.out]; rfl)⟩
          case measure => simp [intOf]; omega
     · obtain rfl : j = Nl := by omega
       have hres : res = true := by rw [HR.out]; unfold apart; have := HJ.out; rw [HNl.out, List.take_length] at this; exact this
       subst hres
       go_wp2
       go_ret
       exact ⟨rfl, z00 B1 _⟩
theorem ref10_Hit (a1 a2 a3 a4 a5 a6 o1 o2 o3 d1 d2 d3 fr n m : Int) (w : World) (hn : I64 n) (hm : I64 m) :
  Rt prog 37 #[.agg #[a1, a2, a3, a4, a5, a6], .agg #[o1, o2, o3, d1, d2, d3, fr], .agg #[n, m]] w (.bool (bHit ((a1, a2, a3), (a4, a5, a6)) (o1, o2, o3) (d1, d2, d3) n m)) := by
 cases h1 : bRight ((a1, a2, a3), (a4, a5, a6)) with
 | false =>
  rw [bHit_no (fun k => by rw [h1] at k; cases k.1)]
  exact ref10_Hit_no1 a1 a2 a3 a4 a5 a6 o1 o2 o3 d1 d2 d3 fr n m w h1
 | true =>
  cases h2 : vnear o1 o2 o3 with
  | false =>
   rw [bHit_no (fun k => by have := k.2.1; rw [show nrT (o1, o2, o3) = vnear o1 o2 o3 from rfl, h2] at this; cases this)]
   exact ref10_Hit_no2 a1 a2 a3 a4 a5 a6 o1 o2 o3 d1 d2 d3 fr n m w h1 h2
  | true =>
   cases h3 : vnear d1 d2 d3 with
   | false =>
    rw [bHit_no (fun k => by have := k.2.2; rw [show nrT (d1, d2, d3) = vnear d1 d2 d3 from rfl, h3] at this; cases this)]
    exact ref10_Hit_no3 a1 a2 a3 a4 a5 a6 o1 o2 o3 d1 d2 d3 fr n m w h1 h2 h3
   | true =>
    cases h4 : decide (1 ≤ m) with
    | true => exact ref10_Hit_m1 a1 a2 a3 a4 a5 a6 o1 o2 o3 d1 d2 d3 fr n m w h1 h2 h3 hn hm h4
    | false => exact ref10_Hit_m0 a1 a2 a3 a4 a5 a6 o1 o2 o3 d1 d2 d3 fr n m w h1 h2 h3 hn hm h4
end
end Go.Proofs.YtbmpmjdlaahekaaGreat
