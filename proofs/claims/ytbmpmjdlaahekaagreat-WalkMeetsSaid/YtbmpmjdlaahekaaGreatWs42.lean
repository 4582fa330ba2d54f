/- Plain mathematics of layer 17, for the document's own box.Hit: times t -/
import Derived.Test.YtbmpmjdlaahekaaGreatWs32
set_option maxRecDepth 100000
set_option maxHeartbeats 8000000
set_option linter.unusedVariables false
set_option linter.unusedSimpArgs false
open Go.Proofs.Tryz
namespace Go.Proofs.Sky
section
open Go.RowKit
abbrev Fq := Int × Int
def axOut (lo hi o d : Int) : Bool := decide (d = 0) && (decide (o < lo) || decide (hi < o))
def axLow (lo hi o d : Int) : List Fq := if d = 0 then [] else if d < 0 then [(-hi - -o, -d)] else [(lo - o, d)]
def axHigh (lo hi o d : Int) : List Fq := if d = 0 then [] else if d < 0 then [(-lo - -o, -d)] else [(hi - o, d)]
def rLow (b : Bx) (o d : T3) (k : Nat) : List Fq := (0, 1) :: (List.range k).flatMap (fun i : Nat => axLow (crd b.1 i) (crd b.2 i) (crd o i) (crd d i))
def rHigh (b : Bx) (o d : T3) (n m : Int) (k : Nat) : List Fq := (if 1 ≤ m then [(n, m)] else []) ++ (List.range k).flatMap (fun i : Nat => axHigh (crd b.1 i) (crd b.2 i) (crd o i) (crd d i))
theorem rLow_succ (b : Bx) (o d : T3) (k : Nat) : rLow b o d (k + 1) = rLow b o d k ++ axLow (crd b.1 k) (crd b.2 k) (crd o k) (crd d k) := by
 unfold rLow; rw [List.range_succ, List.flatMap_append]; simp
theorem rHigh_succ (b : Bx) (o d : T3) (n m : Int) (k : Nat) : rHigh b o d n m (k + 1) = rHigh b o d n m k ++ axHigh (crd b.1 k) (crd b.2 k) (crd o k) (crd d k) := by
 unfold rHigh; rw [List.range_succ, List.flatMap_append]; simp
def apart (L H : List Fq) : Bool := L.all fun l => H.all fun h => !fless h.1 h.2 l.1 l.2
theorem has_most : ∀ L : List Fq, (∀ l ∈ L, 1 ≤ l.2) → L ≠ [] → ∃ x ∈ L, ∀ l ∈ L, l.1 * x.2 ≤ x.1 * l.2
 | [], _, h => absurd rfl h
 | a :: L, h1, _ => by
  by_cases hL : L = []
  · subst hL
    exact ⟨a, by simp, fun l hl => by
     have : l = a := by simpa using hl
     rw [this]; omega⟩
  · obtain ⟨x, hx, hm⟩ := has_most L (fun l hl => h1 l (by simp [hl])) hL
    by_cases g : a.1 * x.2 ≤ x.1 * a.2
    · exact ⟨x, by simp [hx], fun l hl => by
       rcases List.mem_cons.1 hl with rfl | hl
       · exact g
       · exact hm l hl⟩
    · exact ⟨a, by simp, fun l hl => by
       rcases List.mem_cons.1 hl with rfl | hl
       · omega
       · exact frac_trans (h1 l (by simp [hl])) (h1 x (by simp [hx])) (h1 a (by simp)) (hm l hl) (by omega)⟩
theorem apart_iff {L H : List Fq} (hL : ∀ l ∈ L, 1 ≤ l.2) (hne : L ≠ []) (hH : ∀ h ∈ H, 1 ≤ h.2) :
  apart L H = true ↔ ∃ p q : Int, 1 ≤ q ∧ (∀ l ∈ L, l.1 * q ≤ p * l.2) ∧ (∀ h ∈ H, p * h.2 ≤ h.1 * q) := by
 unfold apart
 rw [List.all_eq_true]
 constructor
 · intro h
   obtain ⟨x, hx, hm⟩ := has_most L hL hne
   refine ⟨x.1, x.2, hL x hx, hm, fun y hy => ?_⟩
   have h2 := h x hx
   rw [List.all_eq_true] at h2
   have h3 := h2 y hy
   have h4 : ¬ fless y.1 y.2 x.1 x.2 = true := by simpa using h3
   rw [z0z] at h4
   have := hL x hx
   have := hH y hy
   omega
 · rintro ⟨p, q, hq, h1, h2⟩ l hl
   rw [List.all_eq_true]
   intro y hy
   cases g : fless y.1 y.2 l.1 l.2 with
   | false => rfl
   | true =>
    rw [z0z] at g
    have := frac_trans (hL l hl) hq (hH y hy) (h1 l hl) (h2 y hy)
    omega
theorem axLow_pos {lo hi o d : Int} : ∀ x ∈ axLow lo hi o d, 1 ≤ x.2 := fun x hx => by
 unfold axLow at hx
 split at hx
 · simp at hx
 · split at hx <;> (rw [List.mem_singleton] at hx; subst hx; dsimp only; omega)
theorem axHigh_pos {lo hi o d : Int} : ∀ x ∈ axHigh lo hi o d, 1 ≤ x.2 := fun x hx => by
 unfold axHigh at hx
 split at hx
 · simp at hx
 · split at hx <;> (rw [List.mem_singleton] at hx; subst hx; dsimp only; omega)
theorem ax_on {lo hi o d p q : Int} (hq : 1 ≤ q) : onAx lo hi o d p q ↔ axOut lo hi o d = false ∧ (∀ l ∈ axLow lo hi o d, l.1 * q ≤ p * l.2) ∧ (∀ h ∈ axHigh lo hi o d, p * h.2 ≤ h.1 * q) := by
 by_cases h0 : d = 0
 · subst h0
   unfold axOut axLow axHigh onAx
   simp only [decide_true, Bool.true_and, if_true, List.not_mem_nil, false_implies, implies_true, and_true]
   rw [Bool.or_eq_false_iff, decide_eq_false_iff_not, decide_eq_false_iff_not, Int.zero_mul, Int.add_zero]
   constructor
   · rintro ⟨h1, h2⟩
     have := Int.le_of_mul_le_mul_right h1 (show 0 < q by omega)
     have := Int.le_of_mul_le_mul_right h2 (show 0 < q by omega)
     omega
   · rintro ⟨h1, h2⟩
     exact ⟨Int.mul_le_mul_of_nonneg_right (by omega) (by omega), Int.mul_le_mul_of_nonneg_right (by omega) (by omega)⟩
 · unfold axOut axLow axHigh onAx
   rw [zf h0, if_neg h0, if_neg h0]
   by_cases hd : d < 0
   · rw [if_pos hd, if_pos hd]
     simp only [Bool.false_and, List.mem_singleton, forall_eq, true_and]
     have e1 : (-hi - -o) * q = o * q - hi * q := by grind
     have e2 : p * -d = -(d * p) := by grind
     have e3 : (-lo - -o) * q = o * q - lo * q := by grind
     rw [e1, e2, e3]
     omega
   · rw [if_neg hd, if_neg hd]
     simp only [Bool.false_and, List.mem_singleton, forall_eq, true_and]
     have e1 : (lo - o) * q = lo * q - o * q := by grind
     have e2 : p * d = d * p := by grind
     have e3 : (hi - o) * q = hi * q - o * q := by grind
     rw [e1, e2, e3]
     omega
theorem rLow_pos {b : Bx} {o d : T3} {k : Nat} : ∀ l ∈ rLow b o d k, 1 ≤ l.2 := fun l hl => by
 unfold rLow at hl
 rcases List.mem_cons.1 hl with rfl | hl
 · dsimp only; omega
 · obtain ⟨i, _, h⟩ := List.mem_flatMap.1 hl
   exact axLow_pos l h
theorem rHigh_pos {b : Bx} {o d : T3} {n m : Int} {k : Nat} : ∀ l ∈ rHigh b o d n m k, 1 ≤ l.2 := fun l hl => by
 unfold rHigh at hl
 rcases List.mem_append.1 hl with hl | hl
 · split at hl
   · have : l = (n, m) := by simpa using hl
     rw [this]; assumption
   · simp at hl
 · obtain ⟨i, _, h⟩ := List.mem_flatMap.1 hl
   exact axHigh_pos l h
theorem ref_hit {b : Bx} {o d : T3} {n m : Int} (hb : bRight b = true) (ho : nrT o = true) (hd : nrT d = true) :
  bHit b o d n m = true ↔ (∀ i : Nat, i < 3 → axOut (crd b.1 i) (crd b.2 i) (crd o i) (crd d i) = false) ∧ apart (rLow b o d 3) (rHigh b o d n m 3) = true := by
 rw [bHit_iff, apart_iff rLow_pos (by unfold rLow; simp) rHigh_pos]
 have three : ∀ (p q : Int), 1 ≤ q → ((onAx b.1.1 b.2.1 o.1 d.1 p q ∧ onAx b.1.2.1 b.2.2.1 o.2.1 d.2.1 p q ∧ onAx b.1.2.2 b.2.2.2 o.2.2 d.2.2 p q) ↔ ∀ i : Nat, i < 3 → onAx (crd b.1 i) (crd b.2 i) (crd o i) (crd d i) p q) := fun p q hq => by
  constructor
  · rintro ⟨a, b, c⟩ i hi
    rcases (by omega : i = 0 ∨ i = 1 ∨ i = 2) with rfl | rfl | rfl <;> assumption
  · intro h
    exact ⟨h 0 (by omega), h 1 (by omega), h 2 (by omega)⟩
 constructor
 · rintro ⟨_, _, _, p, q, hq, hp, hm, h⟩
   rw [three p q hq] at h
   refine ⟨fun i hi => ((ax_on hq).1 (h i hi)).1, p, q, hq, fun l hl => ?_, fun l hl => ?_⟩
   · unfold rLow at hl
     rcases List.mem_cons.1 hl with rfl | hl
     · dsimp only; omega
     · obtain ⟨i, hi, k⟩ := List.mem_flatMap.1 hl
       exact ((ax_on hq).1 (h i (List.mem_range.1 hi))).2.1 l k
   · unfold rHigh at hl
     rcases List.mem_append.1 hl with hl | hl
     · split at hl
       · have : l = (n, m) := by simpa using hl
         rw [this]; exact hm (by assumption)
       · simp at hl
     · obtain ⟨i, hi, k⟩ := List.mem_flatMap.1 hl
       exact ((ax_on hq).1 (h i (List.mem_range.1 hi))).2.2 l k
 · rintro ⟨hout, p, q, hq, h1, h2⟩
   refine ⟨hb, ho, hd, p, q, hq, ?_, fun hm => ?_, ?_⟩
   · have := h1 (0, 1) (by unfold rLow; simp)
     dsimp only at this; omega
   · have := h2 (n, m) (by unfold rHigh; rw [if_pos hm]; simp)
     exact this
   · rw [three p q hq]
     intro i hi
     rw [ax_on hq]
     exact ⟨hout i hi, fun l hl => h1 l (by unfold rLow; exact List.mem_cons_of_mem _ (List.mem_flatMap.2 ⟨i, List.mem_range.2 hi, hl⟩)), fun l hl => h2 l (by unfold rHigh; exact List.mem_append_right _ (List.mem_flatMap.2 ⟨i, List.mem_range.2 hi, hl⟩))⟩
theorem ref_hit_out {b : Bx} {o d : T3} {n m : Int} {i : Nat} (hi : i < 3) (h : axOut (crd b.1 i) (crd b.2 i) (crd o i) (crd d i) = true) : bHit b o d n m = false := by
 cases g : bHit b o d n m with
 | false => rfl
 | true =>
  have k := bHit_iff.1 g
  have := ((ref_hit k.1 k.2.1 k.2.2.1).1 g).1 i hi
  rw [h] at this; cases this
theorem ref_hit_eq {b : Bx} {o d : T3} {n m : Int} (hb : bRight b = true) (ho : nrT o = true) (hd : nrT d = true) (h : ∀ i : Nat, i < 3 → axOut (crd b.1 i) (crd b.2 i) (crd o i) (crd d i) = false) : bHit b o d n m = apart (rLow b o d 3) (rHigh b o d n m 3) := by
 rw [Bool.eq_iff_iff, ref_hit hb ho hd]
 exact ⟨fun k => k.2, fun k => ⟨h, k⟩⟩
end
end Go.Proofs.Sky
namespace Go.Proofs.YtbmpmjdlaahekaaGreat
section
open Go.RowKit Go.Proofs.Sky
theorem ref10_Hit_no1 (a1 a2 a3 a4 a5 a6 o1 o2 o3 d1 d2 d3 fr n m : Int) (w : World) (h1 : bRight ((a1, a2, a3), (a4, a5, a6)) = false) :
  Rt prog 37 #[.agg #[a1, a2, a3, a4, a5, a6], .agg #[o1, o2, o3, d1, d2, d3, fr], .agg #[n, m]] w (.bool false) := by
 have KA := zh (fun w => z0p a1 a2 a3 a4 a5 a6 w)
 have KO := zh (fun w => z0b o1 o2 o3 w)
 have KD := zh (fun w => z0b d1 d2 d3 w)
 rw [h1] at KA
 clear h1
 generalize vnear o1 o2 o3 = z1 at *
 generalize vnear d1 d2 d3 = z2 at *
 go_enter func37, ntmps37
 go_upto_region 1 with (fail)
 refine wst3 fun W1 kb ky kf B1 => ?_
 have ly : w.heap.size < w.heap.size + 1 := by omega
 have lf : w.heap.size + 1 < w.heap.size + 1 + 1 := by omega
 generalize w.heap.size + 1 + 1 = gf at *
 generalize w.heap.size + 1 = gy at *
 have cb := bwc6 kb
 have cy := bwc7 ky
 have cf := bwc2 kf
 refine bws fun p1 => ?_
 go_wp2_with (first | (go_at_call 65; (with_reducible refine (z02 KA.out _).mono ?_); rintro e w' ⟨rfl, q, rfl⟩) | (go_at_call 20; (first | (with_reducible refine (z02 KO.out _).mono ?_) | (with_reducible refine (z02 KD.out _).mono ?_)); rintro e w' ⟨rfl, q, rfl⟩))
 go_ret
 exact ⟨rfl, z00 B1 _⟩
theorem ref10_Hit_no2 (a1 a2 a3 a4 a5 a6 o1 o2 o3 d1 d2 d3 fr n m : Int) (w : World) (h1 : bRight ((a1, a2, a3), (a4, a5, a6)) = true) (h2 : vnear o1 o2 o3 = false) :
  Rt prog 37 #[.agg #[a1, a2, a3, a4, a5, a6], .agg #[o1, o2, o3, d1, d2, d3, fr], .agg #[n, m]] w (.bool false) := by
 have KA := zh (fun w => z0p a1 a2 a3 a4 a5 a6 w)
 have KO := zh (fun w => z0b o1 o2 o3 w)
 have KD := zh (fun w => z0b d1 d2 d3 w)
 rw [h1] at KA
 rw [h2] at KO
 clear h1 h2
 generalize vnear d1 d2 d3 = z2 at *
 go_enter func37, ntmps37
 go_upto_region 1 with (fail)
 refine wst3 fun W1 kb ky kf B1 => ?_
 have ly : w.heap.size < w.heap.size + 1 := by omega
 have lf : w.heap.size + 1 < w.heap.size + 1 + 1 := by omega
 generalize w.heap.size + 1 + 1 = gf at *
 generalize w.heap.size + 1 = gy at *
 have cb := bwc6 kb
 have cy := bwc7 ky
 have cf := bwc2 kf
 refine bws fun p1 => ?_
 go_wp2_with (first | (go_at_call 65; (with_reducible refine (z02 KA.out _).mono ?_); rintro e w' ⟨rfl, q, rfl⟩) | (go_at_call 20; (first | (with_reducible refine (z02 KO.out _).mono ?_) | (with_reducible refine (z02 KD.out _).mono ?_)); rintro e w' ⟨rfl, q, rfl⟩))
 go_ret
 exact ⟨rfl, z00 B1 _⟩
theorem ref10_Hit_no3 (a1 a2 a3 a4 a5 a6 o1 o2 o3 d1 d2 d3 fr n m : Int) (w : World) (h1 : bRight ((a1, a2, a3), (a4, a5, a6)) = true) (h2 : vnear o1 o2 o3 = true) (h3 : vnear d1 d2 d3 = false) :
  Rt prog 37 #[.agg #[a1, a2, a3, a4, a5, a6], .agg #[o1, o2, o3, d1, d2, d3, fr], .agg #[n, m]] w (.bool false) := by
 have KA := zh (fun w => z0p a1 a2 a3 a4 a5 a6 w)
 have KO := zh (fun w => z0b o1 o2 o3 w)
 have KD := zh (fun w => z0b d1 d2 d3 w)
 rw [h1] at KA
 rw [h2] at KO
 rw [h3] at KD
 clear h1 h2 h3
 go_enter func37, ntmps37
 go_upto_region 1 with (fail)
 refine wst3 fun W1 kb ky kf B1 => ?_
 have ly : w.heap.size < w.heap.size + 1 := by omega
 have lf : w.heap.size + 1 < w.heap.size + 1 + 1 := by omega
 generalize w.heap.size + 1 + 1 = gf at *
 generalize w.heap.size + 1 = gy at *
 have cb := bwc6 kb
 have cy := bwc7 ky
 have cf := bwc2 kf
 refine bws fun p1 => ?_
 go_wp2_with (first | (go_at_call 65; (with_reducible refine (z02 KA.out _).mono ?_); rintro e w' ⟨rfl, q, rfl⟩) | (go_at_call 20; (first | (with_reducible refine (z02 KO.out _).mono ?_) | (with_reducible refine (z02 KD.out _).mono ?_)); rintro e w' ⟨rfl, q, rfl⟩))
 go_ret
 exact ⟨rfl, z00 B1 _⟩
def fqc (x : Fq) : List Value := [.int .i64 x.1, .int .i64 x.2]
def FqRow (w : World) (B : Nat) (v : Value) (l : List Fq) : Prop := w.ownsRow B 28 2 v l.length (l.flatMap fqc)
theorem frc_info17 : (Tryz.prog.info? 28).map (fun i => (i.zero, i.size, i.bytes)) = some (some (.agg #[.int .i64 0, .int .i64 0]), 2, 16) := by kernel_rfl
theorem FqRow.below {w w' : World} {B : Nat} {v : Value} {l : List Fq} (h : FqRow w B v l) (hb : Below w.heap.size w w') : FqRow w' B v l := z07 h hb
theorem fqrow_put {w w' : World} {B : Nat} {u u' v : Value} {l m : List Fq} {x y : Int} (hu' : w'.ownsRow B 28 2 u' (l.length + 1) (l.flatMap fqc ++ [.int .i64 x, .int .i64 y])) (hv : FqRow w B v m) (hap : Apart2 u v) (hg : w.grownBy w' u.ownBlock) (hb : u'.ownBlock = u.ownBlock ∨ u'.ownBlock = some w.heap.size) :
  FqRow w' B u' (l ++ [(x, y)]) ∧ FqRow w' B v m ∧ Apart2 u' v := by
 refine ⟨?_, z14 hv hg (fun j hj e => hap j e hj), fun j hj e => ?_⟩
 · unfold FqRow
   rw [List.length_append, List.flatMap_append]
   exact hu'
 · rcases hb with hb | hb
   · rw [hb] at hj; exact hap j hj e
   · rw [hb] at hj
     cases hj
     have := (World.ownsRow.lt hv _ e).2
     omega
theorem fqrow_at {w : World} {B : Nat} {v : Value} {l : List Fq} (h : FqRow w B v l) : ∃ a cap, v = .slice a l.length cap ∧ ∀ k (hk : k < l.length), ∃ g, a = some ⟨g, 0, none⟩ ∧ B ≤ g ∧ g < w.heap.size ∧ w.cell? ⟨g, 0 + k * 2, none⟩ = some (.int .i64 l[k].1) ∧ w.cell? ⟨g, 0 + k * 2 + 1, none⟩ = some (.int .i64 l[k].2) := by
 obtain ⟨a, cap, rfl⟩ := z0d h
 refine ⟨a, cap, rfl, fun k hk => ?_⟩
 obtain ⟨g, cap', e, hB, hg, _⟩ := z1a h (by omega)
 cases e
 refine ⟨g, rfl, hB, hg, ?_, ?_⟩
 · have := owns_at (f := fqc) (fun _ => rfl) h hk (show 0 < 2 by omega)
   rw [Nat.zero_add]; exact this
 · have := owns_at (f := fqc) (fun _ => rfl) h hk (show 1 < 2 by omega)
   rw [Nat.zero_add]; exact this
end
end Go.Proofs.YtbmpmjdlaahekaaGreat
