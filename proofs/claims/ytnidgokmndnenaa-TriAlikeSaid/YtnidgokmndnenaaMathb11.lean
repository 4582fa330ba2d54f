/- Plain mathematics of layer 11, for the triangles as they landed: cross products of sides, sides of a line, hits by a fraction of two volumes. Imports nothing of the translation. -/
import Derived.Test.YtnidgokmndnenaaMath11
namespace Go.Proofs.Sky
open Go.RowKit
set_option linter.unusedVariables false

theorem vsub_pl {x a : Int} (hx : -524288 ≤ x ∧ x ≤ 524288) (ha : -524288 ≤ a ∧ a ≤ 524288) : vsub x a = x - a := by
  unfold vsub sat
  rw [if_neg (by omega), if_neg (by omega), if_neg (by omega), if_neg (by omega)]
  omega
/-- The cross product of the sides from a; zero if a corner is no place. -/
def uprT (a b c : T3) : T3 := if pl3 a b c = true then upsT a b c else (0, 0, 0)
theorem nr_sb {a b : T3} (ha : plc a = true) (hb : plc b = true) : nrT (sbT a b) = true := by
  have q1 := plc_iff.1 ha
  have q2 := plc_iff.1 hb
  unfold nrT sbT
  rw [vnear_iff]
  dsimp only
  omega
theorem vcr_X {u v : T3} (hu : nrT u = true) (hv : nrT v = true) : vcr u.1 u.2.1 u.2.2 v.1 v.2.1 v.2.2 = crX u v := by
  unfold vcr crX
  unfold nrT at hu hv
  rw [if_pos ⟨hu, hv⟩]
theorem vvol_X {u v w : T3} (hu : nrT u = true) (hv : nrT v = true) (hw : nrT w = true) : vvol u.1 u.2.1 u.2.2 v.1 v.2.1 v.2.2 w.1 w.2.1 w.2.2 = vlX u v w := by
  unfold vvol vlX
  unfold nrT at hu hv hw
  rw [if_pos ⟨hu, hv, hw⟩]
theorem flat_upr (a b c : T3) : tFlat a b c = isZ (uprT a b c) := by
  unfold tFlat uprT
  cases pl3 a b c <;> rfl
theorem isZ_eq {u : T3} (h : isZ u = true) : u = (0, 0, 0) := by
  unfold isZ at h
  have h := of_decide_eq_true h
  obtain ⟨x, y, z⟩ := u
  obtain ⟨rfl, rfl, rfl⟩ := h
  rfl
theorem flat_zero {a b c : T3} (h : tFlat a b c = true) : uprT a b c = (0, 0, 0) := isZ_eq (by rw [← flat_upr]; exact h)
theorem flat_not {a b c : T3} (h : tFlat a b c = false) : uprT a b c = upsT a b c := by
  unfold tFlat at h
  unfold uprT
  cases hp : pl3 a b c with
  | true => rfl
  | false => rw [hp] at h; cases h
theorem norm_upr (a b c : T3) : tNorm a b c = (unT (uprT a b c), okT (uprT a b c)) := by
  unfold tNorm
  cases h : tFlat a b c with
  | true => rw [flat_zero h, if_pos rfl]; decide
  | false => rw [flat_not h, if_neg (by simp)]
theorem area_upr (a b c : T3) : tArea a b c = (isq (dtT (uprT a b c) (uprT a b c)).toNat : Int) := by
  unfold tArea
  cases h : tFlat a b c with
  | true => rw [flat_zero h, if_pos rfl]; decide
  | false => rw [flat_not h, if_neg (by simp)]
theorem crX_small {u v : T3} (hu : nrT u = true) (hv : nrT v = true) : (-2199023255552 ≤ (crX u v).1 ∧ (crX u v).1 ≤ 2199023255552) ∧ (-2199023255552 ≤ (crX u v).2.1 ∧ (crX u v).2.1 ≤ 2199023255552) ∧ (-2199023255552 ≤ (crX u v).2.2 ∧ (crX u v).2.2 ≤ 2199023255552) := by
  unfold nrT at hu hv
  rw [vnear_iff] at hu hv
  unfold crX
  have p1 := near_mul (x := u.2.1) (a := v.2.2) (by omega) (by omega)
  have p2 := near_mul (x := u.2.2) (a := v.2.1) (by omega) (by omega)
  have p3 := near_mul (x := u.2.2) (a := v.1) (by omega) (by omega)
  have p4 := near_mul (x := u.1) (a := v.2.2) (by omega) (by omega)
  have p5 := near_mul (x := u.1) (a := v.2.1) (by omega) (by omega)
  have p6 := near_mul (x := u.2.1) (a := v.1) (by omega) (by omega)
  dsimp only
  omega
theorem uprT_small (a b c : T3) : (-2199023255552 ≤ (uprT a b c).1 ∧ (uprT a b c).1 ≤ 2199023255552) ∧ (-2199023255552 ≤ (uprT a b c).2.1 ∧ (uprT a b c).2.1 ≤ 2199023255552) ∧ (-2199023255552 ≤ (uprT a b c).2.2 ∧ (uprT a b c).2.2 ≤ 2199023255552) := by
  unfold uprT
  split
  · rename_i h
    obtain ⟨h1, h2, h3⟩ := pl3_iff.1 h
    exact crX_small (nr_sb h2 h1) (nr_sb h3 h1)
  · dsimp only; omega
theorem sq_sml {x : Int} (h : -2199023255552 ≤ x ∧ x ≤ 2199023255552) : 0 ≤ x * x ∧ x * x ≤ 4835703278458516698824704 :=
  ⟨sq_nonneg x, (mul_in (N := 2199023255552) (M := 2199023255552) h h).2⟩

/-- All on one side, or passed through. -/
def srd (x y z : Int) : Bool := !((decide (x < 0) || decide (y < 0)) || decide (z < 0)) || !((decide (0 < x) || decide (0 < y)) || decide (0 < z))
theorem srd_iff {x y z : Int} : srd x y z = true ↔ (0 ≤ x ∧ 0 ≤ y ∧ 0 ≤ z) ∨ (x ≤ 0 ∧ y ≤ 0 ∧ z ≤ 0) := by
  unfold srd
  simp only [Bool.or_eq_true, Bool.not_eq_true', Bool.or_eq_false_iff, decide_eq_false_iff_not]
  omega
/-- A hit, out of the three sides and the volume. -/
def tMk (x y z n s : Int) : (Int × Int) × Bool := if fmakeOk n s = true ∧ 0 < (fmake n s).1 ∧ srd x y z = true then (fmake n s, true) else ((0, 0), false)
theorem tG_mk {x y z n : Int} (hn : -6917529027641081856 ≤ n ∧ n ≤ 6917529027641081856) (hs : -6917529027641081856 ≤ x + y + z ∧ x + y + z ≤ 6917529027641081856) : tG x y z n = tMk x y z n (x + y + z) := by
  have hsr := @srd_iff x y z
  by_cases h0 : x + y + z = 0
  · have hk : fmakeOk n (x + y + z) = false := decide_eq_false (by omega)
    have e2 : tMk x y z n (x + y + z) = ((0, 0), false) := by unfold tMk; rw [if_neg (fun e => by rw [hk] at e; cases e.1)]
    rw [e2]
    unfold tG tFin
    by_cases ha : x ≤ 0 ∧ y ≤ 0 ∧ z ≤ 0
    · rw [if_pos ha, if_pos (by omega)]
    · rw [if_neg ha, if_pos (by omega)]
  · have hk : fmakeOk n (x + y + z) = true := decide_eq_true (by omega)
    have hf : fmake n (x + y + z) = if x + y + z < 0 then (-n, -(x + y + z)) else (n, x + y + z) := by unfold fmake; rw [if_pos hk]
    by_cases hneg : x + y + z < 0
    · rw [if_pos hneg] at hf
      by_cases ha : x ≤ 0 ∧ y ≤ 0 ∧ z ≤ 0
      · by_cases hm : 0 < -n
        · have e2 : tMk x y z n (x + y + z) = ((-n, -(x + y + z)), true) := by unfold tMk; rw [hf, if_pos ⟨hk, hm, hsr.2 (.inr ha)⟩]
          rw [e2]
          unfold tG tFin
          rw [if_pos ha, if_neg (by omega), show -x + -y + -z = -(x + y + z) by omega]
        · have e2 : tMk x y z n (x + y + z) = ((0, 0), false) := by unfold tMk; rw [hf, if_neg (fun e => hm e.2.1)]
          rw [e2]
          unfold tG tFin
          rw [if_pos ha, if_pos (by omega)]
      · have e2 : tMk x y z n (x + y + z) = ((0, 0), false) := by
          unfold tMk
          rw [if_neg]
          intro e
          have := hsr.1 e.2.2
          omega
        rw [e2]
        unfold tG tFin
        rw [if_neg ha, if_pos (by omega)]
    · rw [if_neg hneg] at hf
      have ha : ¬ (x ≤ 0 ∧ y ≤ 0 ∧ z ≤ 0) := by omega
      by_cases hb : 0 ≤ x ∧ 0 ≤ y ∧ 0 ≤ z
      · by_cases hm : 0 < n
        · have e2 : tMk x y z n (x + y + z) = ((n, x + y + z), true) := by unfold tMk; rw [hf, if_pos ⟨hk, hm, hsr.2 (.inl hb)⟩]
          rw [e2]
          unfold tG tFin
          rw [if_neg ha, if_neg (by omega)]
        · have e2 : tMk x y z n (x + y + z) = ((0, 0), false) := by unfold tMk; rw [hf, if_neg (fun e => hm e.2.1)]
          rw [e2]
          unfold tG tFin
          rw [if_neg ha, if_pos (by omega)]
      · have e2 : tMk x y z n (x + y + z) = ((0, 0), false) := by
          unfold tMk
          rw [if_neg]
          intro e
          have := hsr.1 e.2.2
          omega
        rw [e2]
        unfold tG tFin
        rw [if_neg ha, if_pos (by omega)]
theorem vlX_61 {u v w : T3} (hu : nrT u = true) (hv : nrT v = true) (hw : nrT w = true) : -6917529027641081856 ≤ vlX u v w ∧ vlX u v w ≤ 6917529027641081856 := by
  obtain ⟨h1, h2, h3⟩ := crX_small hv hw
  unfold nrT at hu
  rw [vnear_iff] at hu
  unfold crX at h1 h2 h3
  dsimp only at h1 h2 h3
  unfold vlX
  have p1 := near_mul3 (x := u.1) (by omega) h1
  have p2 := near_mul3 (x := u.2.1) (by omega) h2
  have p3 := near_mul3 (x := u.2.2) (by omega) h3
  omega
theorem vvol_61 (x y z a b c d e f : Int) : -6917529027641081856 ≤ vvol x y z a b c d e f ∧ vvol x y z a b c d e f ≤ 6917529027641081856 := by
  by_cases h : vnear x y z = true ∧ vnear a b c = true ∧ vnear d e f = true
  · have := vlX_61 (u := (x, y, z)) (v := (a, b, c)) (w := (d, e, f)) h.1 h.2.1 h.2.2
    rw [← vvol_X (u := (x, y, z)) (v := (a, b, c)) (w := (d, e, f)) h.1 h.2.1 h.2.2] at this
    exact this
  · unfold vvol
    rw [if_neg h]
    omega
/-- The volume that the ray is divided by. -/
theorem vols_den (a b c o d : T3) : vlX (sbT b a) (sbT c a) d = vlX d (sbT a o) (sbT b o) + vlX d (sbT b o) (sbT c o) + vlX d (sbT c o) (sbT a o) := by
  unfold vlX sbT
  dsimp only
  grind
theorem vols_num (a b c o : T3) : vlX (sbT b a) (sbT c a) (sbT a o) = vlX (sbT a o) (sbT b o) (sbT c o) := by
  unfold vlX sbT
  dsimp only
  grind
theorem tHit_mk {a b c o d : T3} (h : pl3 a b c = true) (ho : plc o = true) (hd : nrT d = true) :
    tHit a b c o d = tMk (vlX d (sbT a o) (sbT b o)) (vlX d (sbT b o) (sbT c o)) (vlX d (sbT c o) (sbT a o)) (vlX (sbT b a) (sbT c a) (sbT a o)) (vlX (sbT b a) (sbT c a) d) := by
  obtain ⟨h1, h2, h3⟩ := pl3_iff.1 h
  unfold tHit
  rw [if_pos ⟨h, ho, hd⟩, vols_num, vols_den a b c o d, ← tG_mk (vlX_61 (nr_sb h1 ho) (nr_sb h2 ho) (nr_sb h3 ho)) (by rw [← vols_den]; exact vlX_61 (nr_sb h2 h1) (nr_sb h3 h1) hd)]
  exact tG_rot _ _ _ _
theorem tHit_far {a b c o d : T3} (hd : nrT d = false) : tHit a b c o d = ((0, 0), false) := by
  unfold tHit
  rw [if_neg (by rw [hd]; simp)]
theorem tHit_no {a b c o d : T3} (h : (pl3 a b c && plc o) = false) : tHit a b c o d = ((0, 0), false) := by
  unfold tHit
  rw [if_neg]
  rintro ⟨h1, h2, h3⟩
  rw [h1, h2] at h
  cases h

/-- All of the first n are places. -/
def allp (V : Nat → T3) : Nat → Bool
  | 0 => true
  | k + 1 => allp V k && plc (V k)
theorem allp_no {V : Nat → T3} {k : Nat} (h : plc (V k) = false) : ∀ n, k < n → allp V n = false
  | 0, hk => absurd hk (by omega)
  | n + 1, hk => by
    unfold allp
    by_cases e : k = n
    · subst e; rw [h, Bool.and_false]
    · rw [allp_no h n (by omega), Bool.false_and]
def rw3 (u v t : T3) : Nat → T3 | 0 => u | 1 => v | _ => t
def rw4 (u v t s : T3) : Nat → T3 | 0 => u | 1 => v | 2 => t | _ => s
theorem allp3 (u v t : T3) : allp (rw3 u v t) 3 = pl3 u v t := by
  show (((true && plc u) && plc v) && plc t) = _
  unfold pl3
  cases plc u <;> cases plc v <;> cases plc t <;> rfl
theorem allp4 (u v t s : T3) : allp (rw4 u v t s) 4 = (pl3 u v t && plc s) := by
  show ((((true && plc u) && plc v) && plc t) && plc s) = _
  unfold pl3
  cases plc u <;> cases plc v <;> cases plc t <;> cases plc s <;> rfl

theorem fat_one {x u : Int} (hx : -1048576 ≤ x ∧ x ≤ 1048576) (hu : 0 ≤ u ∧ u ≤ 65536) : fat x u 1 = x * u ∧ -68719476736 ≤ x * u ∧ x * u ≤ 68719476736 := by
  have m := mul_in (x := x) (a := u) (N := 1048576) (M := 65536) (by omega) (by omega)
  refine ⟨?_, by omega, by omega⟩
  unfold fat sat
  rw [if_neg (by omega), Int.ediv_one, if_neg (by omega), if_neg (by omega)]
theorem fat_part {s : Int} (hs : -137438953472 ≤ s ∧ s ≤ 137438953472) : fat s 1 65536 = s / 65536 ∧ -2097152 ≤ s / 65536 ∧ s / 65536 ≤ 2097152 := by
  refine ⟨?_, by omega, by omega⟩
  unfold fat sat
  rw [if_neg (by omega), Int.mul_one, if_neg (by omega), if_neg (by omega)]
theorem sat_mid {x : Int} (h : -1099511627776 ≤ x ∧ x ≤ 1099511627776) : sat x = x := by
  unfold sat
  rw [if_neg (by omega), if_neg (by omega)]

end Go.Proofs.Sky
