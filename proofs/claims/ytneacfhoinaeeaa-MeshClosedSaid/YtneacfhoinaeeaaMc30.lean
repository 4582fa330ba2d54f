/- Plain mathematics of layer 19: cubes and cones are closed, grids whose corners stay apart are not, a closed mesh without one triangle is not. Imports nothing of the translation. -/
import Derived.Test.YtneacfhoinaeeaaMc29


namespace Go.Proofs.Sky
section

open Go.RowKit

set_option linter.unusedVariables false

theorem placed_ways (U : Nat → T3) (N : Nat) (tr : List Tg) (m : Int) : mPlaced U N tr m = ([], 5) ∨ mPlaced U N tr m = ([], 7) ∨ (mPlaced U N tr m = (tr.map (mTri m U), 0) ∧ (∀ i, i < N → plc (U i) = true) ∧ ∀ t ∈ tr, tUp U t = true) := by
  unfold mPlaced
  by_cases h1 : (List.range N).all (fun i => plc (U i)) = true
  · rw [if_pos h1]
    by_cases h2 : tr.all (tUp U) = true
    · rw [if_pos h2]
      refine .inr (.inr ⟨rfl, fun i hi => ?_, fun t ht => List.all_eq_true.1 h2 t ht⟩)
      exact List.all_eq_true.1 h1 i (List.mem_range.2 hi)
    · rw [if_neg h2]; exact .inr (.inl rfl)
  · rw [if_neg h1]; exact .inl rfl

def mGood (p : Pr) : Prop := pRight p = true ∧ p.k = 1 ∧ p.m = 3

theorem good_tri {U : Nat → T3} {t : Tg} (h : tUp U t = true) : mGood (mTri 3 U t) := by
  refine ⟨?_, rfl, rfl⟩
  unfold tUp at h
  unfold pRight mTri
  dsimp only
  rw [if_pos rfl, h]
  rfl

/-- The sides of triangles, by places. -/
def sides (t : Tg) : List (Nat × Nat) := [(t.1, t.2.1), (t.2.1, t.2.2), (t.2.2, t.1)]

def allSides (tr : List Tg) : List (Nat × Nat) := tr.flatMap sides

def swp (e : Nat × Nat) : Nat × Nat := (e.2, e.1)

def sE (U : Nat → T3) (y : Ed) : List (Nat × Nat) → Int
  | [] => 0
  | e :: r => one (y = (U e.1, U e.2)) + sE U y r

theorem sE_append (U : Nat → T3) (y : Ed) : ∀ a b, sE U y (a ++ b) = sE U y a + sE U y b
  | [], b => by simp [sE]
  | e :: r, b => by
    rw [List.cons_append]
    show _ + sE U y (r ++ b) = _ + sE U y r + _
    rw [sE_append U y r b]; omega

theorem sE_perm (U : Nat → T3) (y : Ed) {a b : List (Nat × Nat)} (h : a.Perm b) : sE U y a = sE U y b := by
  induction h with
  | nil => rfl
  | cons x _ ih => show _ + _ = _ + _; rw [ih]
  | swap x z l => show _ + (_ + _) = _ + (_ + _); omega
  | trans _ _ h1 h2 => rw [h1, h2]

theorem one_rv {y : Ed} {a b : T3} : one (rv y = (a, b)) = one (y = (b, a)) := by
  by_cases h : y = (b, a)
  · rw [one_pos h, one_pos (by rw [h]; rfl)]
  · rw [one_neg h, one_neg (fun e => h (by rw [← rv_rv y, e]; rfl))]

theorem sE_rv (U : Nat → T3) (y : Ed) : ∀ l, sE U (rv y) l = sE U y (l.map swp)
  | [] => rfl
  | e :: r => by
    show one (rv y = (U e.1, U e.2)) + sE U (rv y) r = one (y = (U e.2, U e.1)) + sE U y (r.map swp)
    rw [sE_rv U y r, one_rv]

theorem tot_sides (m : Int) (U : Nat → T3) (y : Ed) : ∀ tr, tot (tr.map (mTri m U)) y = sE U y (allSides tr) - sE U (rv y) (allSides tr)
  | [] => rfl
  | t :: r => by
    rw [List.map_cons]
    show cnt (mTri m U t) y - cnt (mTri m U t) (rv y) + tot (r.map (mTri m U)) y = sE U y (sides t ++ allSides r) - sE U (rv y) (sides t ++ allSides r)
    rw [tot_sides m U y r, sE_append, sE_append]
    have c : ∀ z, cnt (mTri m U t) z = sE U z (sides t) := fun z => by
      unfold cnt mTri sides sE sE sE sE
      dsimp only
      omega
    rw [c y, c (rv y)]
    omega

def evenB (tr : List Tg) : Bool := (allSides tr).isPerm ((allSides tr).map swp)

theorem cube_even : evenB cubeT = true := by decide +kernel

theorem cone_even : ∀ n, n ≤ 12 → 3 ≤ n → evenB (coneT n) = true := by decide +kernel

theorem map_kind (m : Int) (U : Nat → T3) (tr : List Tg) : ∀ p ∈ tr.map (mTri m U), p.k = 1 := by
  intro p hp
  obtain ⟨t, _, rfl⟩ := List.mem_map.1 hp
  rfl

theorem even_tot {tr : List Tg} (h : evenB tr = true) (m : Int) (U : Nat → T3) (y : Ed) : tot (tr.map (mTri m U)) y = 0 := by
  unfold evenB at h
  rw [tot_sides, sE_rv, sE_perm U y (List.isPerm_iff.1 h)]
  have : sE U y ((allSides tr).map swp) = sE U y ((allSides tr).map swp) := rfl
  omega

theorem even_closed {tr : List Tg} (h : evenB tr = true) (m : Int) (U : Nat → T3) : mClosed (tr.map (mTri m U)) = true :=
  (closed_net (map_kind m U tr)).2 (fun y => by rw [net_tot]; exact even_tot h m U y)

theorem tot_append : ∀ (a b : List Pr) (y : Ed), tot (a ++ b) y = tot a y + tot b y
  | [], b, y => by simp [tot]
  | p :: r, b, y => by
    rw [List.cons_append]
    show _ + tot (r ++ b) y = _ + tot r y + _
    rw [tot_append r b y]; omega

theorem flat_ab (a c : T3) : tFlat a a c = true := by
  unfold tFlat
  have : isZ (upsT a a c) = true := by
    unfold isZ upsT crX sbT
    simp
  rw [this, Bool.or_true]

theorem flat_ac (a b : T3) : tFlat a b a = true := by
  unfold tFlat
  have : isZ (upsT a b a) = true := by
    unfold isZ upsT crX sbT
    simp
  rw [this, Bool.or_true]

theorem flat_bc (a b : T3) : tFlat a b b = true := by
  unfold tFlat
  have : isZ (upsT a b b) = true := by
    unfold isZ upsT crX sbT
    simp [Int.mul_comm]
  rw [this, Bool.or_true]

/-- A closed mesh without one triangle that isn't flat is open. -/
theorem less_open {l : List Pr} (hk : ∀ p ∈ l, p.k = 1) (ht : ∀ y, tot l y = 0) {k : Nat} (h : k < l.length) (hf : tFlat l[k].a l[k].b l[k].c = false) : mClosed (l.take k ++ l.drop (k + 1)) = false := by
  rw [Bool.eq_false_iff]
  intro hc
  have hk' : ∀ p ∈ l.take k ++ l.drop (k + 1), p.k = 1 := fun p hp => by
    rcases List.mem_append.1 hp with h1 | h1
    · exact hk p (List.mem_of_mem_take h1)
    · exact hk p (List.mem_of_mem_drop h1)
  have hn := (closed_net hk').1 hc
  have hs : l = l.take k ++ (l[k] :: l.drop (k + 1)) := by rw [← List.drop_eq_getElem_cons h, List.take_append_drop]
  have hz : ∀ y, cnt l[k] y = cnt l[k] (rv y) := fun y => by
    have h1 := ht y
    rw [hs, tot_append] at h1
    have h2 := hn y
    rw [net_tot, tot_append] at h2
    have h3 : tot (l[k] :: l.drop (k + 1)) y = cnt l[k] y - cnt l[k] (rv y) + tot (l.drop (k + 1)) y := rfl
    omega
  generalize l[k] = pk at hf hz
  obtain ⟨kk, A, B, D, r, m⟩ := pk
  dsimp only at hf
  have n1 : A ≠ B := fun e => by rw [e, flat_ab] at hf; cases hf
  have n2 : A ≠ D := fun e => by rw [e, flat_ac] at hf; cases hf
  have n3 : B ≠ D := fun e => by rw [e, flat_bc] at hf; cases hf
  have h0 := hz (A, B)
  have c1 : one ((A, B) = (A, B)) = 1 := one_pos rfl
  have c2 : one ((A, B) = (B, D)) = 0 := one_neg (fun e => n1 (Prod.mk.inj e).1)
  have c3 : one ((A, B) = (D, A)) = 0 := one_neg (fun e => n2 (Prod.mk.inj e).1)
  have c4 : one ((B, A) = (A, B)) = 0 := one_neg (fun e => n1 (Prod.mk.inj e).2)
  have c5 : one ((B, A) = (B, D)) = 0 := one_neg (fun e => n2 (Prod.mk.inj e).2)
  have c6 : one ((B, A) = (D, A)) = 0 := one_neg (fun e => n3 (Prod.mk.inj e).1)
  change one ((A, B) = (A, B)) + one ((A, B) = (B, D)) + one ((A, B) = (D, A)) = one ((B, A) = (A, B)) + one ((B, A) = (B, D)) + one ((B, A) = (D, A)) at h0
  rw [c1, c2, c3, c4, c5, c6] at h0
  omega

/-- The unlike corners of triangles, in the order in which they are met. -/
def addM (L : List T3) (v : T3) : List T3 := if v ∈ L then L else L ++ [v]

def mMet (l : List Pr) : List T3 := l.foldl (fun L p => addM (addM (addM L p.a) p.b) p.c) []

theorem addM_nodup {L : List T3} (v : T3) (h : L.Nodup) : (addM L v).Nodup := by
  unfold addM
  split
  · exact h
  · rename_i hv
    rw [List.nodup_append]
    exact ⟨h, by simp, fun a ha b hb e => hv (by rw [List.mem_singleton] at hb; rw [← hb, ← e]; exact ha)⟩

theorem addM_sub {L : List T3} {v : T3} {P : T3 → Prop} (h : ∀ x ∈ L, P x) (hv : P v) : ∀ x ∈ addM L v, P x := by
  unfold addM
  split
  · exact h
  · intro x hx
    rcases List.mem_append.1 hx with h1 | h1
    · exact h x h1
    · rw [List.mem_singleton] at h1; rw [h1]; exact hv

theorem met_all (P : T3 → Prop) : ∀ (l : List Pr) (L : List T3), L.Nodup → (∀ x ∈ L, P x) → (∀ p ∈ l, P p.a ∧ P p.b ∧ P p.c) → (l.foldl (fun L p => addM (addM (addM L p.a) p.b) p.c) L).Nodup ∧ ∀ x ∈ l.foldl (fun L p => addM (addM (addM L p.a) p.b) p.c) L, P x
  | [], L, h1, h2, _ => ⟨h1, h2⟩
  | p :: r, L, h1, h2, h3 => by
    obtain ⟨q1, q2, q3⟩ := h3 p List.mem_cons_self
    rw [List.foldl_cons]
    exact met_all P r _ (addM_nodup _ (addM_nodup _ (addM_nodup _ h1))) (addM_sub (addM_sub (addM_sub h2 q1) q2) q3) (fun x hx => h3 x (List.mem_cons_of_mem _ hx))

theorem sub_len : ∀ (L M : List T3), L.Nodup → (∀ x ∈ L, x ∈ M) → L.length ≤ M.length
  | [], M, _, _ => by simp
  | x :: r, M, h, hs => by
    have hx : x ∈ M := hs x List.mem_cons_self
    rw [List.nodup_cons] at h
    have ih := sub_len r (M.erase x) h.2 (fun y hy => by
      have hne : y ≠ x := fun e => h.1 (by rw [← e]; exact hy)
      exact (List.mem_erase_of_ne hne).2 (hs y (List.mem_cons_of_mem _ hy)))
    rw [List.length_erase_of_mem hx] at ih
    have : 0 < M.length := List.length_pos_of_mem hx
    rw [List.length_cons]
    omega

theorem met_apart {tr : List Tg} {N : Nat} (hu : ∀ t ∈ tr, t.1 < N ∧ t.2.1 < N ∧ t.2.2 < N) (m : Int) (U : Nat → T3) (hl : (mMet (tr.map (mTri m U))).length = N) : ∀ i j, i < N → j < N → U i = U j → i = j := by
  obtain ⟨h1, h2⟩ := met_all (fun x => ∃ i, i < N ∧ x = U i) (tr.map (mTri m U)) [] (by simp) (by simp) (fun p hp => by
    obtain ⟨t, ht, rfl⟩ := List.mem_map.1 hp
    obtain ⟨a, b, c⟩ := hu t ht
    exact ⟨⟨_, a, rfl⟩, ⟨_, b, rfl⟩, ⟨_, c, rfl⟩⟩)
  change (mMet (tr.map (mTri m U))).Nodup at h1
  change ∀ x ∈ mMet (tr.map (mTri m U)), _ at h2
  have key : ∀ i j, i < j → j < N → U i = U j → False := fun i j hij hj e => by
    have hs := sub_len _ (((List.range N).erase j).map U) h1 (fun x hx => by
      obtain ⟨k, hk, rfl⟩ := h2 x hx
      by_cases hkj : k = j
      · rw [hkj, ← e]
        exact List.mem_map.2 ⟨i, (List.mem_erase_of_ne (by omega)).2 (List.mem_range.2 (by omega)), rfl⟩
      · exact List.mem_map.2 ⟨k, (List.mem_erase_of_ne hkj).2 (List.mem_range.2 hk), rfl⟩)
    rw [List.length_map, List.length_erase_of_mem (List.mem_range.2 hj), List.length_range, hl] at hs
    omega
  intro i j hi hj e
  by_cases h : i < j
  · exact (key i j h hj e).elim
  · by_cases h' : j < i
    · exact (key j i h' hi e.symm).elim
    · omega

def cE (a b : Nat) : List (Nat × Nat) → Int
  | [] => 0
  | e :: r => (if e.1 = a ∧ e.2 = b then 1 else 0) + cE a b r

theorem sE_apart {U : Nat → T3} {N a b : Nat} (hi : ∀ i j, i < N → j < N → U i = U j → i = j) (ha : a < N) (hb : b < N) : ∀ l : List (Nat × Nat), (∀ e ∈ l, e.1 < N ∧ e.2 < N) → sE U (U a, U b) l = cE a b l
  | [], _ => rfl
  | e :: r, h => by
    obtain ⟨h1, h2⟩ := h e List.mem_cons_self
    show one ((U a, U b) = (U e.1, U e.2)) + sE U (U a, U b) r = (if e.1 = a ∧ e.2 = b then 1 else 0) + cE a b r
    rw [sE_apart hi ha hb r (fun x hx => h x (List.mem_cons_of_mem _ hx))]
    by_cases he : e.1 = a ∧ e.2 = b
    · rw [if_pos he, one_pos (by rw [he.1, he.2])]
    · rw [if_neg he, one_neg (fun q => he ?_)]
      have q1 := Prod.mk.inj q
      exact ⟨(hi _ _ ha h1 q1.1).symm, (hi _ _ hb h2 q1.2).symm⟩

def oddB (n : Nat) : Bool := decide (cE 0 1 (allSides (gridT n)) ≠ cE 1 0 (allSides (gridT n)))

theorem grid_odd : ∀ n, n ≤ 4 → 1 ≤ n → oddB n = true := by decide +kernel

theorem use_in' {N : Nat} {tr : List Tg} (h : useB N tr = true) : ∀ t ∈ tr, t.1 < N ∧ t.2.1 < N ∧ t.2.2 < N := by
  intro t ht
  unfold useB at h
  rw [Bool.and_eq_true, List.all_eq_true] at h
  have := h.1 t ht
  simpa only [Bool.and_eq_true, decide_eq_true_eq] using this

theorem grid_open {n : Nat} (h1 : 1 ≤ n) (h4 : n ≤ 4) (m : Int) (U : Nat → T3) (hl : (mMet ((gridT n).map (mTri m U))).length = (n + 1) * (n + 1)) : mClosed ((gridT n).map (mTri m U)) = false := by
  rw [Bool.eq_false_iff]
  intro hc
  have hu := use_in' (grid_use n (by omega) h1)
  have hin := met_apart hu m U hl
  have hN : 2 ≤ (n + 1) * (n + 1) := Nat.le_trans (show 2 ≤ 2 * 2 by omega) (Nat.mul_le_mul (by omega) (by omega))
  have hs : ∀ e ∈ allSides (gridT n), e.1 < (n + 1) * (n + 1) ∧ e.2 < (n + 1) * (n + 1) := fun e he => by
    obtain ⟨t, ht, h2⟩ := List.mem_flatMap.1 he
    obtain ⟨a, b, c⟩ := hu t ht
    unfold sides at h2
    simp only [List.mem_cons, List.not_mem_nil, or_false] at h2
    rcases h2 with rfl | rfl | rfl
    · exact ⟨a, b⟩
    · exact ⟨b, c⟩
    · exact ⟨c, a⟩
  have h0 := (closed_net (map_kind m U _)).1 hc (U 0, U 1)
  rw [net_tot, tot_sides] at h0
  have e1 := sE_apart hin (show 0 < _ by omega) (show 1 < _ by omega) _ hs
  have e2 := sE_apart hin (show 1 < _ by omega) (show 0 < _ by omega) _ hs
  change sE U (U 0, U 1) (allSides (gridT n)) - sE U (U 1, U 0) (allSides (gridT n)) = 0 at h0
  rw [e1, e2] at h0
  have ho := grid_odd n h4 h1
  unfold oddB at ho
  rw [decide_eq_true_eq] at ho
  omega

theorem fit_of {p : P4} (h : qRight p = true) : mFit p 3 = true := by
  unfold mFit; rw [h]; rfl

theorem mesh_ways (V : Nat → T3) (N : Nat) (tr : List Tg) {p : P4} (h : qRight p = true) : mMesh p 3 V N tr = ([], 5) ∨ mMesh p 3 V N tr = ([], 7) ∨ ∃ U : Nat → T3, mMesh p 3 V N tr = (tr.map (mTri 3 U), 0) ∧ ∀ t ∈ tr, tUp U t = true := by
  unfold mMesh
  rw [if_pos (fit_of h)]
  rcases placed_ways (fun i => pPut p (V i)) N tr 3 with e | e | ⟨e, _, h2⟩
  · exact .inl e
  · exact .inr (.inl e)
  · exact .inr (.inr ⟨_, e, h2⟩)

theorem cube_less {U : Nat → T3} (h : ∀ t ∈ cubeT, tUp U t = true) {k : Nat} (hk : k < 12) : mClosed ((cubeT.map (mTri 3 U)).take k ++ (cubeT.map (mTri 3 U)).drop (k + 1)) = false := by
  have hl : k < (cubeT.map (mTri 3 U)).length := by rw [List.length_map]; exact hk
  refine less_open (map_kind 3 U _) (fun y => even_tot cube_even 3 U y) hl ?_
  rw [List.getElem_map]
  have := h _ (List.getElem_mem (l := cubeT) (n := k) hk)
  unfold tUp at this
  rw [Bool.not_eq_true'] at this
  exact this

end
end Go.Proofs.Sky
