/- Plain mathematics of layer 13: things, their boxes, and what rays meet -/
import Derived.Test.YtbmpmjdlaahekaaGreatWs8
set_option maxRecDepth 100000
set_option maxHeartbeats 8000000
set_option linter.unusedVariables false
set_option linter.unusedSimpArgs false
namespace Go.Proofs.Sky
section
open Go.RowKit
structure Pr where
 k : Int
 a : T3
 b : T3
 c : T3
 r : Int
 m : Int
def tri3 (a b c : T3) : Nat → T3 := fun i => if i = 0 then a else if i = 1 then b else c
def pRight (p : Pr) : Bool := decide (0 ≤ p.m ∧ p.m ≤ 63) && (if p.k = 1 then !tFlat p.a p.b p.c && decide (p.r = 0) else decide (p.k = 2) && (ballR p.a p.r && (isZ p.b && isZ p.c)))
def ballB (a : T3) (r : Int) : Bx := ((a.1 - r, a.2.1 - r, a.2.2 - r), (a.1 + r, a.2.1 + r, a.2.2 + r))
def pBox (p : Pr) : Bx := if pRight p = true then (if p.k = 1 then bOf (tri3 p.a p.b p.c) 3 else ballB p.a p.r) else ((0, 0, 0), (0, 0, 0))
def pHit (p : Pr) (ix : Int) (o d : T3) (fr : Int) : (Int × Int) × Bool :=
 if pRight p = true then (if p.k = 1 then (if fr = ix then ((0, 0), false) else tHit p.a p.b p.c o d) else if fr = ix then ballT p.a p.r o d else ballH p.a p.r o d) else ((0, 0), false)
def Pr.I (p : Pr) : Prop := I64 p.k ∧ I3 p.a ∧ I3 p.b ∧ I3 p.c ∧ I64 p.r ∧ I64 p.m
theorem pRight_tri {p : Pr} (h : pRight p = true) (hk : p.k = 1) : pl3 p.a p.b p.c = true ∧ isZ (upsT p.a p.b p.c) = false := by
 unfold pRight at h
 rw [if_pos hk] at h
 unfold tFlat at h
 simp only [Bool.and_eq_true, Bool.not_eq_true', Bool.or_eq_false_iff, Bool.not_eq_false'] at h
 exact h.2.1
theorem pRight_ball {p : Pr} (h : pRight p = true) (hk : ¬ p.k = 1) : p.k = 2 ∧ ballR p.a p.r = true := by
 unfold pRight at h
 rw [if_neg hk] at h
 simp only [Bool.and_eq_true, decide_eq_true_eq] at h
 exact ⟨h.2.1, h.2.2.1⟩
theorem plc_near {v : T3} (h : plc v = true) : nrT v = true := by
 rw [z0a] at h; rw [z0r]; omega
theorem tri_box {a b c : T3} (h : pl3 a b c = true) : bOf (tri3 a b c) 3 = ((min (min a.1 b.1) c.1, min (min a.2.1 b.2.1) c.2.1, min (min a.2.2 b.2.2) c.2.2), (max (max a.1 b.1) c.1, max (max a.2.1 b.2.1) c.2.1, max (max a.2.2 b.2.2) c.2.2)) := by
 obtain ⟨h1, h2, h3⟩ := pl3_iff.1 h
 have n1 := plc_near h1; have n2 := plc_near h2; have n3 := plc_near h3
 have hok : bOfOk (tri3 a b c) 3 = true := by
  unfold bOfOk
  simp [List.range_succ, tri3, n1, n2, n3]
 have pt : ∀ v : T3, nrT v = true → bRight (v, v) = true := fun v hv => z10.2 ⟨hv, hv, Int.le_refl _, Int.le_refl _, Int.le_refl _⟩
 have e0 : tri3 a b c 0 = a := rfl
 have e1 : tri3 a b c 1 = b := rfl
 have e2 : tri3 a b c 2 = c := rfl
 unfold bOf
 rw [if_pos hok]
 simp only [bHull, e0, e1, e2]
 simp only [if_true, if_false, Nat.succ_ne_zero]
 rw [bJoin_yes (bJoin_right (pt a n1) (pt b n2)) (pt c n3), bJoin_yes (pt a n1) (pt b n2)]
theorem box_right {p : Pr} (h : pRight p = true) : bRight (pBox p) = true := by
 unfold pBox
 rw [if_pos h]
 by_cases hk : p.k = 1
 · rw [if_pos hk]
   obtain ⟨hp, _⟩ := pRight_tri h hk
   rw [tri_box hp]
   obtain ⟨h1, h2, h3⟩ := pl3_iff.1 hp
   rw [z0a] at h1 h2 h3
   rw [z10, z0r, z0r]
   dsimp only
   omega
 · rw [if_neg hk]
   obtain ⟨_, hr⟩ := pRight_ball h hk
   unfold ballR at hr
   simp only [Bool.and_eq_true, decide_eq_true_eq] at hr
   obtain ⟨h1, h2⟩ := hr
   rw [z0a] at h1
   unfold ballB
   rw [z10, z0r, z0r]
   dsimp only
   omega
theorem mix_in {x y z a b c lo hi : Int} (hx : 0 ≤ x) (hy : 0 ≤ y) (hz : 0 ≤ z) (h1 : lo ≤ a ∧ a ≤ hi) (h2 : lo ≤ b ∧ b ≤ hi) (h3 : lo ≤ c ∧ c ≤ hi) :
  lo * (x + y + z) ≤ x * a + y * b + z * c ∧ x * a + y * b + z * c ≤ hi * (x + y + z) := by
 have a1 := Int.mul_le_mul_of_nonneg_left h1.1 hx; have a2 := Int.mul_le_mul_of_nonneg_left h1.2 hx
 have b1 := Int.mul_le_mul_of_nonneg_left h2.1 hy; have b2 := Int.mul_le_mul_of_nonneg_left h2.2 hy
 have c1 := Int.mul_le_mul_of_nonneg_left h3.1 hz; have c2 := Int.mul_le_mul_of_nonneg_left h3.2 hz
 rw [Int.mul_add, Int.mul_add, Int.mul_add, Int.mul_add, Int.mul_comm lo x, Int.mul_comm lo y, Int.mul_comm lo z, Int.mul_comm hi x, Int.mul_comm hi y, Int.mul_comm hi z]
 omega
theorem cramer (a b c d : T3) :
  vlX a b c * d.1 = vlX d b c * a.1 + vlX d c a * b.1 + vlX d a b * c.1 ∧ vlX a b c * d.2.1 = vlX d b c * a.2.1 + vlX d c a * b.2.1 + vlX d a b * c.2.1 ∧ vlX a b c * d.2.2 = vlX d b c * a.2.2 + vlX d c a * b.2.2 + vlX d a b * c.2.2 := by
 obtain ⟨a1, a2, a3⟩ := a
 obtain ⟨b1, b2, b3⟩ := b
 obtain ⟨c1, c2, c3⟩ := c
 obtain ⟨d1, d2, d3⟩ := d
 unfold vlX
 dsimp only
 refine ⟨?_, ?_, ?_⟩ <;> grind
theorem tG_ways {x y z n : Int} (h : (tG x y z n).2 = true) : ∃ u v w k : Int, 0 ≤ u ∧ 0 ≤ v ∧ 0 ≤ w ∧ 1 ≤ u + v + w ∧ 1 ≤ k ∧ (tG x y z n).1 = (k, u + v + w) ∧ ((u = x ∧ v = y ∧ w = z ∧ k = n) ∨ (u = -x ∧ v = -y ∧ w = -z ∧ k = -n)) := by
 have key : ∀ x y z n : Int, (tFin x y z n).2 = true → 0 ≤ x ∧ 0 ≤ y ∧ 0 ≤ z ∧ 1 ≤ x + y + z ∧ 1 ≤ n ∧ (tFin x y z n).1 = (n, x + y + z) := fun x y z n h => by
  unfold tFin at h ⊢
  split at h
  · cases h
  · rename_i g
    rw [if_neg g]
    exact ⟨by omega, by omega, by omega, by omega, by omega, rfl⟩
 unfold tG at h ⊢
 split at h
 · rename_i g
   rw [if_pos g]
   obtain ⟨h1, h2, h3, h4, h5, h6⟩ := key _ _ _ _ h
   exact ⟨-x, -y, -z, -n, h1, h2, h3, h4, h5, h6, .inr ⟨rfl, rfl, rfl, rfl⟩⟩
 · rename_i g
   rw [if_neg g]
   obtain ⟨h1, h2, h3, h4, h5, h6⟩ := key _ _ _ _ h
   exact ⟨x, y, z, n, h1, h2, h3, h4, h5, h6, .inl ⟨rfl, rfl, rfl, rfl⟩⟩
theorem onAx_mix {x y z n a b c o d lo hi : Int} (hx : 0 ≤ x) (hy : 0 ≤ y) (hz : 0 ≤ z) (e : n * d = x * (a - o) + y * (b - o) + z * (c - o)) (h1 : lo ≤ a ∧ a ≤ hi) (h2 : lo ≤ b ∧ b ≤ hi) (h3 : lo ≤ c ∧ c ≤ hi) : onAx lo hi o d n (x + y + z) := by
 have m := mix_in hx hy hz h1 h2 h3
 have e2 : o * (x + y + z) + d * n = x * a + y * b + z * c := by rw [Int.mul_comm d n, e]; grind
 unfold onAx
 omega
theorem tri_hits {a b c o d : T3} (h : (tHit a b c o d).2 = true) : 1 ≤ (tHit a b c o d).1.1 ∧ 1 ≤ (tHit a b c o d).1.2 ∧ bHit (bOf (tri3 a b c) 3) o d (tHit a b c o d).1.1 (tHit a b c o d).1.2 = true := by
 unfold tHit at h ⊢
 by_cases g : pl3 a b c = true ∧ plc o = true ∧ nrT d = true
 · rw [if_pos g] at h ⊢
   obtain ⟨g1, g2, g3⟩ := g
   obtain ⟨u, v, w, k, hu, hv, hw, hs, hk, e, ways⟩ := tG_ways h
   rw [e]
   dsimp only
   obtain ⟨c1, c2, c3⟩ := cramer (sbT a o) (sbT b o) (sbT c o) d
   generalize vlX d (sbT b o) (sbT c o) = x at *
   generalize vlX d (sbT c o) (sbT a o) = y at *
   generalize vlX d (sbT a o) (sbT b o) = z at *
   generalize vlX (sbT a o) (sbT b o) (sbT c o) = n at *
   have e1 : k * d.1 = u * (a.1 - o.1) + v * (b.1 - o.1) + w * (c.1 - o.1) := by
    unfold sbT at c1
    dsimp only at c1
    rcases ways with ⟨rfl, rfl, rfl, rfl⟩ | ⟨rfl, rfl, rfl, rfl⟩
    · exact c1
    · rw [Int.neg_mul, Int.neg_mul, Int.neg_mul, Int.neg_mul, c1]; omega
   have e2 : k * d.2.1 = u * (a.2.1 - o.2.1) + v * (b.2.1 - o.2.1) + w * (c.2.1 - o.2.1) := by
    unfold sbT at c2
    dsimp only at c2
    rcases ways with ⟨rfl, rfl, rfl, rfl⟩ | ⟨rfl, rfl, rfl, rfl⟩
    · exact c2
    · rw [Int.neg_mul, Int.neg_mul, Int.neg_mul, Int.neg_mul, c2]; omega
   have e3 : k * d.2.2 = u * (a.2.2 - o.2.2) + v * (b.2.2 - o.2.2) + w * (c.2.2 - o.2.2) := by
    unfold sbT at c3
    dsimp only at c3
    rcases ways with ⟨rfl, rfl, rfl, rfl⟩ | ⟨rfl, rfl, rfl, rfl⟩
    · exact c3
    · rw [Int.neg_mul, Int.neg_mul, Int.neg_mul, Int.neg_mul, c3]; omega
   refine ⟨hk, hs, ?_⟩
   rw [tri_box g1]
   obtain ⟨q1, q2, q3⟩ := pl3_iff.1 g1
   rw [bHit_iff]
   refine ⟨?_, plc_near g2, g3, k, u + v + w, hs, by omega, fun _ => Int.le_refl _, ?_, ?_, ?_⟩
   · rw [z0a] at q1 q2 q3
     rw [z10, z0r, z0r]
     dsimp only
     omega
   · exact onAx_mix hu hv hw e1 (by dsimp only; omega) (by dsimp only; omega) (by dsimp only; omega)
   · exact onAx_mix hu hv hw e2 (by dsimp only; omega) (by dsimp only; omega) (by dsimp only; omega)
   · exact onAx_mix hu hv hw e3 (by dsimp only; omega) (by dsimp only; omega) (by dsimp only; omega)
 · rw [if_neg g] at h
   cases h
theorem abs_of_sq {x m : Int} (hm : 0 ≤ m) (h : x * x ≤ m * m) : -m ≤ x ∧ x ≤ m := by
 constructor
 · by_cases g : -m ≤ x
   · exact g
   · have := Int.mul_self_le_mul_self (show 0 ≤ m + 1 by omega) (show m + 1 ≤ -x by omega)
     rw [Int.neg_mul_neg] at this
     have e : (m + 1) * (m + 1) = m * m + 2 * m + 1 := by grind
     omega
 · by_cases g : x ≤ m
   · exact g
   · have := Int.mul_self_le_mul_self (show 0 ≤ m + 1 by omega) (show m + 1 ≤ x by omega)
     have e : (m + 1) * (m + 1) = m * m + 2 * m + 1 := by grind
     omega
theorem ball_hits {c o d : T3} {r : Int} (h : (ballH c r o d).2 = true) : 1 ≤ (ballH c r o d).1.1 ∧ 1 ≤ (ballH c r o d).1.2 ∧ bHit (ballB c r) o d (ballH c r o d).1.1 (ballH c r o d).1.2 = true := by
 unfold ballH at h ⊢
 by_cases g : ballM c r o d = true ∧ 0 ≤ ballD c r o d
 · rw [if_pos g] at h ⊢
   obtain ⟨gm, gd⟩ := g
   unfold ballM at gm
   simp only [Bool.and_eq_true, Bool.not_eq_true'] at gm
   obtain ⟨g1, g2, g3, g4⟩ := gm
   unfold ballR at g1
   simp only [Bool.and_eq_true, decide_eq_true_eq] at g1
   obtain ⟨g5, g6⟩ := g1
   have hA := dtT_pos g4
   obtain ⟨r1, r2⟩ := isq_spec (ballD c r o d).toNat
   have e0 : ((ballD c r o d).toNat : Int) = ballD c r o d := Int.toNat_of_nonneg gd
   unfold ballS at h ⊢
   generalize isq (ballD c r o d).toNat = s at *
   have r1' : (s : Int) * s ≤ ballD c r o d := by rw [← e0]; exact_mod_cast r1
   have r2' : ballD c r o d < ((s : Int) + 1) * (s + 1) := by rw [← e0]; exact_mod_cast r2
   unfold ballD at r1' r2'
   obtain ⟨p1, p2, p3, _, _, _⟩ := ball_met hA (Int.natCast_nonneg s) r1' r2' h
   generalize ballF (dtT d d) (dtT (sbT o c) d) (ballQ c r o) (s : Int) = F at *
   obtain ⟨⟨n, e⟩, ok⟩ := F
   dsimp only at p1 p2 p3 ⊢
   subst p2
   refine ⟨p1, hA, ?_⟩
   have sq : ((o.1 - c.1) * dtT d d + n * d.1) * ((o.1 - c.1) * dtT d d + n * d.1) + ((o.2.1 - c.2.1) * dtT d d + n * d.2.1) * ((o.2.1 - c.2.1) * dtT d d + n * d.2.1) + ((o.2.2 - c.2.2) * dtT d d + n * d.2.2) * ((o.2.2 - c.2.2) * dtT d d + n * d.2.2) = ballV (dtT d d) (dtT (sbT o c) d) (ballQ c r o) n (dtT d d) + (r * dtT d d) * (r * dtT d d) := by
    have eA : d.1 * d.1 + d.2.1 * d.2.1 + d.2.2 * d.2.2 = dtT d d := rfl
    have eb : (o.1 - c.1) * d.1 + (o.2.1 - c.2.1) * d.2.1 + (o.2.2 - c.2.2) * d.2.2 = dtT (sbT o c) d := rfl
    have eq : (o.1 - c.1) * (o.1 - c.1) + (o.2.1 - c.2.1) * (o.2.1 - c.2.1) + (o.2.2 - c.2.2) * (o.2.2 - c.2.2) = ballQ c r o + r * r := by unfold ballQ dtT sbT; dsimp only; omega
    unfold ballV
    generalize dtT d d = A at *
    generalize dtT (sbT o c) d = b at *
    generalize ballQ c r o = q at *
    grind
   have s1 := z0i ((o.1 - c.1) * dtT d d + n * d.1)
   have s2 := z0i ((o.2.1 - c.2.1) * dtT d d + n * d.2.1)
   have s3 := z0i ((o.2.2 - c.2.2) * dtT d d + n * d.2.2)
   have hr : 0 ≤ r * dtT d d := Int.mul_nonneg (by omega) (by omega)
   have t1 := abs_of_sq hr (show ((o.1 - c.1) * dtT d d + n * d.1) * ((o.1 - c.1) * dtT d d + n * d.1) ≤ _ by omega)
   have t2 := abs_of_sq hr (show ((o.2.1 - c.2.1) * dtT d d + n * d.2.1) * ((o.2.1 - c.2.1) * dtT d d + n * d.2.1) ≤ _ by omega)
   have t3 := abs_of_sq hr (show ((o.2.2 - c.2.2) * dtT d d + n * d.2.2) * ((o.2.2 - c.2.2) * dtT d d + n * d.2.2) ≤ _ by omega)
   have ax : ∀ x y z : Int, (-(r * dtT d d) ≤ (x - y) * dtT d d + n * z ∧ (x - y) * dtT d d + n * z ≤ r * dtT d d) → onAx (y - r) (y + r) x z n (dtT d d) := fun x y z hx => by
    unfold onAx
    rw [Int.sub_mul, Int.add_mul, Int.mul_comm z n]
    rw [Int.sub_mul] at hx
    omega
   rw [bHit_iff]
   refine ⟨?_, plc_near g2, g3, n, dtT d d, hA, by omega, fun _ => Int.le_refl _, ax _ _ _ t1, ax _ _ _ t2, ax _ _ _ t3⟩
   rw [z0a] at g5
   unfold ballB
   rw [z10, z0r, z0r]
   dsimp only
   omega
 · rw [if_neg g] at h
   cases h
theorem prim_met {p : Pr} {o d : T3} {fr ix : Int} (hf : ¬ fr = ix) (h : (pHit p ix o d fr).2 = true) : 1 ≤ (pHit p ix o d fr).1.1 ∧ 1 ≤ (pHit p ix o d fr).1.2 ∧ bHit (pBox p) o d (pHit p ix o d fr).1.1 (pHit p ix o d fr).1.2 = true := by
 unfold pHit at h ⊢
 unfold pBox
 by_cases g : pRight p = true
 · rw [if_pos g] at h ⊢
   rw [if_pos g]
   by_cases hk : p.k = 1
   · rw [if_pos hk, if_neg hf] at h ⊢
     rw [if_pos hk]
     exact tri_hits h
   · rw [if_neg hk, if_neg hf] at h ⊢
     rw [if_neg hk]
     exact ball_hits h
 · rw [if_neg g] at h
   cases h
theorem dt_in {u v : T3} {N M : Nat} (hu : (-(N : Int) ≤ u.1 ∧ u.1 ≤ N) ∧ (-(N : Int) ≤ u.2.1 ∧ u.2.1 ≤ N) ∧ (-(N : Int) ≤ u.2.2 ∧ u.2.2 ≤ N)) (hv : (-(M : Int) ≤ v.1 ∧ v.1 ≤ M) ∧ (-(M : Int) ≤ v.2.1 ∧ v.2.1 ≤ M) ∧ (-(M : Int) ≤ v.2.2 ∧ v.2.2 ≤ M)) : -(3 * ((N * M : Nat) : Int)) ≤ dtT u v ∧ dtT u v ≤ 3 * ((N * M : Nat) : Int) := by
 have a := mul_in hu.1 hv.1
 have b := mul_in hu.2.1 hv.2.1
 have c := mul_in hu.2.2 hv.2.2
 unfold dtT
 omega
theorem vlX_in {u v w : T3} (hu : (-1048576 ≤ u.1 ∧ u.1 ≤ 1048576) ∧ (-1048576 ≤ u.2.1 ∧ u.2.1 ≤ 1048576) ∧ (-1048576 ≤ u.2.2 ∧ u.2.2 ≤ 1048576)) (hv : (-1048576 ≤ v.1 ∧ v.1 ≤ 1048576) ∧ (-1048576 ≤ v.2.1 ∧ v.2.1 ≤ 1048576) ∧ (-1048576 ≤ v.2.2 ∧ v.2.2 ≤ 1048576)) (hw : (-1048576 ≤ w.1 ∧ w.1 ≤ 1048576) ∧ (-1048576 ≤ w.2.1 ∧ w.2.1 ≤ 1048576) ∧ (-1048576 ≤ w.2.2 ∧ w.2.2 ≤ 1048576)) : -6917529027641081856 ≤ vlX u v w ∧ vlX u v w ≤ 6917529027641081856 := by
 have m : ∀ a b c d : Int, (-1048576 ≤ a ∧ a ≤ 1048576) → (-1048576 ≤ b ∧ b ≤ 1048576) → (-1048576 ≤ c ∧ c ≤ 1048576) → (-1048576 ≤ d ∧ d ≤ 1048576) → -2199023255552 ≤ a * b - c * d ∧ a * b - c * d ≤ 2199023255552 := fun a b c d ha hb hc hd => by
  have x := z0n ha hb
  have y := z0n hc hd
  omega
 have c1 := z0y hu.1 (m _ _ _ _ hv.2.1 hw.2.2 hv.2.2 hw.2.1)
 have c2 := z0y hu.2.1 (m _ _ _ _ hv.2.2 hw.1 hv.1 hw.2.2)
 have c3 := z0y hu.2.2 (m _ _ _ _ hv.1 hw.2.1 hv.2.1 hw.1)
 unfold vlX
 omega
theorem sb_in {u v : T3} (hu : plc u = true) (hv : plc v = true) : (-1048576 ≤ (sbT u v).1 ∧ (sbT u v).1 ≤ 1048576) ∧ (-1048576 ≤ (sbT u v).2.1 ∧ (sbT u v).2.1 ≤ 1048576) ∧ (-1048576 ≤ (sbT u v).2.2 ∧ (sbT u v).2.2 ≤ 1048576) := by
 rw [z0a] at hu hv
 unfold sbT
 dsimp only
 omega
theorem near_in {u : T3} (hu : nrT u = true) : (-1048576 ≤ u.1 ∧ u.1 ≤ 1048576) ∧ (-1048576 ≤ u.2.1 ∧ u.2.1 ≤ 1048576) ∧ (-1048576 ≤ u.2.2 ∧ u.2.2 ≤ 1048576) := by
 rw [z0r] at hu; omega
theorem tHit_I64 (a b c o d : T3) : I64 (tHit a b c o d).1.1 ∧ I64 (tHit a b c o d).1.2 := by
 unfold tHit
 by_cases g : pl3 a b c = true ∧ plc o = true ∧ nrT d = true
 · rw [if_pos g]
   obtain ⟨g1, g2, g3⟩ := g
   obtain ⟨q1, q2, q3⟩ := pl3_iff.1 g1
   have hn := vlX_in (sb_in q1 g2) (sb_in q2 g2) (sb_in q3 g2)
   have hs := vlX_in (near_in g3) (sb_in q2 q1) (sb_in q3 q1)
   rw [← vols_sum a b c o d] at hs
   generalize vlX d (sbT b o) (sbT c o) = x at *
   generalize vlX d (sbT c o) (sbT a o) = y at *
   generalize vlX d (sbT a o) (sbT b o) = z at *
   generalize vlX (sbT a o) (sbT b o) (sbT c o) = n at *
   unfold tG tFin I64
   split <;> split <;> dsimp only <;> omega
 · rw [if_neg g]
   unfold I64
   dsimp only
   omega
theorem isq_le {n m : Nat} (h : n < (m + 1) * (m + 1)) : isq n ≤ m := by
 obtain ⟨s1, _⟩ := isq_spec n
 rcases Nat.lt_or_ge m (isq n) with g | g
 · have := Nat.mul_le_mul (show m + 1 ≤ isq n by omega) (show m + 1 ≤ isq n by omega); omega
 · exact g
theorem ballH_I64 (c : T3) (r : Int) (o d : T3) : I64 (ballH c r o d).1.1 ∧ I64 (ballH c r o d).1.2 := by
 unfold ballH
 by_cases g : ballM c r o d = true ∧ 0 ≤ ballD c r o d
 · rw [if_pos g]
   obtain ⟨gm, gd⟩ := g
   unfold ballM at gm
   simp only [Bool.and_eq_true, Bool.not_eq_true'] at gm
   obtain ⟨g1, g2, g3, g4⟩ := gm
   unfold ballR at g1
   simp only [Bool.and_eq_true, decide_eq_true_eq] at g1
   obtain ⟨g5, g6⟩ := g1
   have a1 := dt_in (N := 1048576) (M := 1048576) (near_in g3) (near_in g3)
   have b1 := dt_in (N := 1048576) (M := 1048576) (sb_in g2 g5) (near_in g3)
   have q1 := dt_in (N := 1048576) (M := 1048576) (sb_in g2 g5) (sb_in g2 g5)
   have rr := mul_in (x := r) (a := r) (N := 262144) (M := 262144) (by omega) (by omega)
   have hs : ballS c r o d ≤ 6000000000000 := by
    unfold ballS
    have : isq (ballD c r o d).toNat ≤ 6000000000000 := isq_le (by
     unfold ballD ballQ
     have m1 := mul_in (x := dtT (sbT o c) d) (a := dtT (sbT o c) d) (N := 3298534883328) (M := 3298534883328) (by omega) (by omega)
     have m2 := mul_in (x := dtT d d) (a := dtT (sbT o c) (sbT o c) - r * r) (N := 3298534883328) (M := 3400000000000) (by omega) (by omega)
     omega)
    omega
   have hs0 : 0 ≤ ballS c r o d := Int.natCast_nonneg _
   generalize ballS c r o d = s at *
   generalize dtT d d = a at *
   generalize dtT (sbT o c) d = b at *
   generalize ballQ c r o = q at *
   unfold ballF I64
   split
   · dsimp only; omega
   · split <;> dsimp only <;> omega
 · rw [if_neg g]
   unfold I64
   dsimp only
   omega
theorem ballT_I64 (c : T3) (r : Int) (o d : T3) : I64 (ballT c r o d).1.1 ∧ I64 (ballT c r o d).1.2 := by
 unfold ballT
 by_cases g : ballM c r o d = true ∧ dtT (sbT o c) d < 0
 · rw [if_pos g]
   obtain ⟨gm, gd⟩ := g
   unfold ballM at gm
   simp only [Bool.and_eq_true, Bool.not_eq_true'] at gm
   obtain ⟨g1, g2, g3, g4⟩ := gm
   unfold ballR at g1
   simp only [Bool.and_eq_true, decide_eq_true_eq] at g1
   have a1 := dt_in (N := 1048576) (M := 1048576) (near_in g3) (near_in g3)
   have b1 := dt_in (N := 1048576) (M := 1048576) (sb_in g2 g1.1) (near_in g3)
   unfold I64
   dsimp only
   omega
 · rw [if_neg g]
   unfold I64
   dsimp only
   omega
theorem pHit_I64 (p : Pr) (ix : Int) (o d : T3) (fr : Int) : I64 (pHit p ix o d fr).1.1 ∧ I64 (pHit p ix o d fr).1.2 := by
 have z : I64 ((0, 0) : Int × Int).1 ∧ I64 ((0, 0) : Int × Int).2 := by unfold I64; dsimp only; omega
 unfold pHit
 by_cases g : pRight p = true
 · rw [if_pos g]
   by_cases hk : p.k = 1
   · rw [if_pos hk]
     by_cases hf : fr = ix
     · rw [if_pos hf]; exact z
     · rw [if_neg hf]; exact tHit_I64 _ _ _ _ _
   · rw [if_neg hk]
     by_cases hf : fr = ix
     · rw [if_pos hf]; exact ballT_I64 _ _ _ _
     · rw [if_neg hf]; exact ballH_I64 _ _ _ _
 · rw [if_neg g]; exact z
end
end Go.Proofs.Sky
