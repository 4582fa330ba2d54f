/- Contracts of the document's own answers, layer 19: Cube, Grid, Cone. -/
import Derived.Test.YtneacfhoinaeeaaMa38
import Derived.Test.YtneacfhoinaeeaaMa34
import Derived.Test.YtneacfhoinaeeaaMa35
import Derived.Test.YtneacfhoinaeeaaMa20
import Derived.Test.YtneacfhoinaeeaaMa15


namespace Go.Proofs.Ytneacfhoinaeeaa
section

open Go.RowKit Go.Proofs.Sky

set_option linter.unusedVariables false

set_option linter.unusedSimpArgs false

def cubeA : Array Value := #[.int .i64 0, .int .i64 2, .int .i64 3, .int .i64 1, .int .i64 4, .int .i64 5, .int .i64 7, .int .i64 6, .int .i64 0, .int .i64 1, .int .i64 5, .int .i64 4, .int .i64 2, .int .i64 6, .int .i64 7, .int .i64 3, .int .i64 0, .int .i64 4, .int .i64 6, .int .i64 2, .int .i64 1, .int .i64 3, .int .i64 7, .int .i64 5]

def fcor (f : Nat × Nat × Nat × Nat) : List T3 := faceL (cubeV f.1) (cubeV f.2.1) (cubeV f.2.2.1) (cubeV f.2.2.2)

theorem fcor_len (l : List (Nat × Nat × Nat × Nat)) : (l.flatMap fcor).length = l.length * 6 := flat_len_const _ 6 _ (fun _ _ => rfl)

theorem flatMap_congr19 {α β : Type} {f g : α → List β} : ∀ {l : List α}, (∀ x ∈ l, f x = g x) → l.flatMap f = l.flatMap g
  | [], _ => rfl
  | x :: l, h => by rw [List.flatMap_cons, List.flatMap_cons, h x List.mem_cons_self, flatMap_congr19 (fun y hy => h y (List.mem_cons_of_mem _ hy))]

def gface (n k i : Nat) : List T3 := faceL (lineI i n, lineI k n, 0) (lineI (i + 1) n, lineI k n, 0) (lineI (i + 1) n, lineI (k + 1) n, 0) (lineI i n, lineI (k + 1) n, 0)

def gfaces (n k : Nat) : List T3 := (List.range n).flatMap (gface n k)

theorem gface_cor (n k i : Nat) (hi : i < n) : gface n k i = (halvesT (gridF n k i)).flatMap (cor3 (gridV n)) := by
  have e1 := grid_at n k i (by omega)
  have e2 := grid_at n k (i + 1) (by omega)
  have e3 := grid_at n (k + 1) i (by omega)
  have e4 := grid_at n (k + 1) (i + 1) (by omega)
  have f2 : k * (n + 1) + i + 1 = k * (n + 1) + (i + 1) := by omega
  have f3 : k * (n + 1) + i + (n + 1) = (k + 1) * (n + 1) + i := by rw [Nat.succ_mul]; omega
  have f4 : k * (n + 1) + i + (n + 1) + 1 = (k + 1) * (n + 1) + (i + 1) := by rw [Nat.succ_mul]; omega
  simp only [halvesT, gridF, List.flatMap_cons, List.flatMap_nil, cor3, List.append_nil, List.cons_append, List.nil_append]
  rw [f4, f3, f2, e1, e2, e3, e4]
  rfl

theorem gfaces_cor (n k : Nat) : gfaces n k = (gridR n k).flatMap (cor3 (gridV n)) := by
  unfold gfaces gridR
  rw [List.flatMap_assoc]
  refine flatMap_congr19 fun i hi => ?_
  exact gface_cor n k i (List.mem_range.1 hi)

theorem gall_cor (n : Nat) : (List.range n).flatMap (gfaces n) = (gridT n).flatMap (cor3 (gridV n)) := by
  show _ = ((List.range n).flatMap (gridR n)).flatMap (cor3 (gridV n))
  rw [List.flatMap_assoc]
  exact flatMap_congr19 fun k _ => gfaces_cor n k

theorem gfaces_len (n k : Nat) : (gfaces n k).length = n * 6 := by
  unfold gfaces
  rw [flat_len_const _ 6 _ (fun _ _ => rfl), List.length_range]

def cpair (n i : Nat) : List T3 := [ringV n i, ringV n ((i + 1) % n), (0, 0, 128), ringV n ((i + 1) % n), ringV n i, (0, 0, 0)]

theorem cpair_cor (n i : Nat) (hi : i < n) : cpair n i = (coneP n i).flatMap (cor3 (coneV n)) := by
  have h1 : (i + 1) % n < n := Nat.mod_lt _ (by omega)
  have e1 : coneV n i = ringV n i := by unfold coneV; rw [if_pos hi]
  have e2 : coneV n ((i + 1) % n) = ringV n ((i + 1) % n) := by unfold coneV; rw [if_pos h1]
  have e3 : coneV n n = (0, 0, 0) := by unfold coneV; rw [if_neg (Nat.lt_irrefl n), if_pos rfl]
  have e4 : coneV n (n + 1) = (0, 0, 128) := by unfold coneV; rw [if_neg (by omega), if_neg (by omega)]
  simp only [coneP, List.flatMap_cons, List.flatMap_nil, cor3, List.append_nil, List.cons_append, List.nil_append, e1, e2, e3, e4]
  rfl

theorem call_cor (n : Nat) : (List.range n).flatMap (cpair n) = (coneT n).flatMap (cor3 (coneV n)) := by
  unfold coneT
  rw [List.flatMap_assoc]
  exact flatMap_congr19 fun k hk => cpair_cor n k (List.mem_range.1 hk)

set_option maxRecDepth 100000 in
set_option maxHeartbeats 8000000 in
theorem ref19_Cube_no (a1 a2 a3 a4 a5 a6 a7 a8 a9 a10 a11 a12 m : Int) (w : World) (KF : Hid (∀ w, Calls Try.prog 23 #[.agg #[.int .i64 a1, .int .i64 a2, .int .i64 a3, .int .i64 a4, .int .i64 a5, .int .i64 a6, .int .i64 a7, .int .i64 a8, .int .i64 a9, .int .i64 a10, .int .i64 a11, .int .i64 a12], .int .i64 m] w fun en w' => en = .returned (.bool false) ∧ Below w.heap.size w w')) (hR : mCube ((a1, a2, a3), (a4, a5, a6), (a7, a8, a9), (a10, a11, a12)) m = ([], 1)) :
    Calls Try.prog 8 #[.agg #[.int .i64 a1, .int .i64 a2, .int .i64 a3, .int .i64 a4, .int .i64 a5, .int .i64 a6, .int .i64 a7, .int .i64 a8, .int .i64 a9, .int .i64 a10, .int .i64 a11, .int .i64 a12], .int .i64 m] w fun e w' => ∃ v, e = .returned (.tuple #[v, .int .i64 (mCube ((a1, a2, a3), (a4, a5, a6), (a7, a8, a9), (a10, a11, a12)) m).2]) ∧ PRow w' w.heap.size v (mCube ((a1, a2, a3), (a4, a5, a6), (a7, a8, a9), (a10, a11, a12)) m).1 ∧ Below w.heap.size w w' := by
  have HR := Lib.hid hR
  clear hR
  generalize mCube ((a1, a2, a3), (a4, a5, a6), (a7, a8, a9), (a10, a11, a12)) m = R at *
  go_enter Try.func8, Try.ntmps8
  go_upto_region 1 with (fail)
  obtain ⟨W1, hW1⟩ : ∃ W, W = w.alloc (.cells #[.int .i64 a1, .int .i64 a2, .int .i64 a3, .int .i64 a4, .int .i64 a5, .int .i64 a6, .int .i64 a7, .int .i64 a8, .int .i64 a9, .int .i64 a10, .int .i64 a11, .int .i64 a12] 25) := ⟨_, rfl⟩
  obtain ⟨k_p, B1⟩ := st1 hW1
  rw [← hW1]
  clear hW1
  obtain ⟨c_p_0, c_p_1, c_p_2, c_p_3, c_p_4, c_p_5, c_p_6, c_p_7, c_p_8, c_p_9, c_p_10, c_p_11⟩ := bwc12 (k_p)
  obtain ⟨p1, hp1⟩ : ∃ p : BW W1, p.w = W1 := ⟨BW.start W1, rfl⟩
  rw [← hp1]
  clear hp1
  go_wp2_with (first
    | (go_at_call 23; (first | (with_reducible refine (bw_call KF.out _).mono ?_)); rintro e w' ⟨rfl, q, rfl⟩))
  exact bodyPost_ret (v := .tuple #[.slice none 0 0, .int .i64 1]) (by simp [results, Try.results8, go_sem]) rfl ⟨_, by rw [HR.out], by rw [HR.out]; exact prow_nil _ _, bw_below B1 q⟩

set_option maxRecDepth 100000 in
set_option maxHeartbeats 8000000 in
theorem ref19_Cube_yes (a1 a2 a3 a4 a5 a6 a7 a8 a9 a10 a11 a12 m : Int) (w : World) (hm : I64 m) (hfit : mFit ((a1, a2, a3), (a4, a5, a6), (a7, a8, a9), (a10, a11, a12)) m = true) (hR : mCube ((a1, a2, a3), (a4, a5, a6), (a7, a8, a9), (a10, a11, a12)) m = mPut (fun i => pPut ((a1, a2, a3), (a4, a5, a6), (a7, a8, a9), (a10, a11, a12)) (cubeV i)) cubeT m) :
    Calls Try.prog 8 #[.agg #[.int .i64 a1, .int .i64 a2, .int .i64 a3, .int .i64 a4, .int .i64 a5, .int .i64 a6, .int .i64 a7, .int .i64 a8, .int .i64 a9, .int .i64 a10, .int .i64 a11, .int .i64 a12], .int .i64 m] w fun e w' => ∃ v, e = .returned (.tuple #[v, .int .i64 (mCube ((a1, a2, a3), (a4, a5, a6), (a7, a8, a9), (a10, a11, a12)) m).2]) ∧ PRow w' w.heap.size v (mCube ((a1, a2, a3), (a4, a5, a6), (a7, a8, a9), (a10, a11, a12)) m).1 ∧ Below w.heap.size w w' := by
  obtain ⟨i0, hi0, hz0, hz1, hz2⟩ := info_parts vec_info19
  have KF := Lib.hid (fun w => ref19_may a1 a2 a3 a4 a5 a6 a7 a8 a9 a10 a11 a12 m w hm)
  rw [hfit] at KF
  have KP := Lib.hid (fun B ul X hl => ref19_put a1 a2 a3 a4 a5 a6 a7 a8 a9 a10 a11 a12 m B (cubeV) (cubeT) ul X hl (by decide))
  rw [hR]
  clear hR hfit hm
  generalize mPut (fun i => pPut ((a1, a2, a3), (a4, a5, a6), (a7, a8, a9), (a10, a11, a12)) ((cubeV) i)) (cubeT) m = R at *
  go_enter Try.func8, Try.ntmps8
  go_upto_region 1 with (fail)
  obtain ⟨W1, hW1⟩ : ∃ W, W = w.alloc (.cells #[.int .i64 a1, .int .i64 a2, .int .i64 a3, .int .i64 a4, .int .i64 a5, .int .i64 a6, .int .i64 a7, .int .i64 a8, .int .i64 a9, .int .i64 a10, .int .i64 a11, .int .i64 a12] 25) := ⟨_, rfl⟩
  obtain ⟨k_p, B1⟩ := st1 hW1
  rw [← hW1]
  clear hW1
  obtain ⟨c_p_0, c_p_1, c_p_2, c_p_3, c_p_4, c_p_5, c_p_6, c_p_7, c_p_8, c_p_9, c_p_10, c_p_11⟩ := bwc12 (k_p)
  obtain ⟨p1, hp1⟩ : ∃ p : BW W1, p.w = W1 := ⟨BW.start W1, rfl⟩
  rw [← hp1]
  clear hp1
  go_upto_region 3 with (go_at_call 23; (with_reducible refine (bw_call KF.out _).mono ?_); rintro e w' ⟨rfl, q, rfl⟩)
  clear KF c_p_0 c_p_1 c_p_2 c_p_3 c_p_4 c_p_5 c_p_6 c_p_7 c_p_8 c_p_9 c_p_10 c_p_11
  go_upto_region 6 with (fail)
  obtain ⟨W2, hW2⟩ : ∃ W, W = q.w.alloc (.cells #[.int .i64 0, .int .i64 2, .int .i64 3, .int .i64 1, .int .i64 4, .int .i64 5, .int .i64 7, .int .i64 6, .int .i64 0, .int .i64 1, .int .i64 5, .int .i64 4, .int .i64 2, .int .i64 6, .int .i64 7, .int .i64 3, .int .i64 0, .int .i64 4, .int .i64 6, .int .i64 2, .int .i64 1, .int .i64 3, .int .i64 7, .int .i64 5] 3) := ⟨_, rfl⟩
  have B2 : Below w.heap.size w W2 := by rw [hW2]; exact (bw_below B1 q).alloc (bw_below B1 q).size _
  have l_s : w.heap.size < q.w.heap.size := (k_p.below q.h).lt
  have o_s : w.heap.size ≤ q.w.heap.size := (bw_below B1 q).size
  have k_p := bka hW2 (k_p.below q.h)
  have k_s := bkn hW2
  rw [← hW2]
  clear hW2
  clear B1
  generalize q.w.heap.size = g_s at *
  have k_s : Bk W2 g_s 3 cubeA := k_s
  go_loopw [7, 8] (fun u i wr => ∃ (j : Nat), j ≤ 6 ∧ i = .int .i64 ((j * 4 : Nat) : Int) ∧ VRow wr w.heap.size u ((cubeF.take j).flatMap fcor) ∧ Bk wr w.heap.size 25 #[.int .i64 a1, .int .i64 a2, .int .i64 a3, .int .i64 a4, .int .i64 a5, .int .i64 a6, .int .i64 a7, .int .i64 a8, .int .i64 a9, .int .i64 a10, .int .i64 a11, .int .i64 a12] ∧ Bk wr g_s 3 cubeA ∧ Below w.heap.size w wr) (fun _ i _ => 24 - (intOf i).toNat)
  case atStart => exact ⟨0, by omega, rfl, vrow_nil _ _, k_p, k_s, B2⟩
  case round =>
    clear k_p k_s B2
    obtain ⟨j, hj, rfl, hcor, k_p, k_s, BO⟩ := hrel
    have B1 := BO
    have hlen : ((cubeF.take j).flatMap fcor).length = j * 6 := by rw [fcor_len, List.length_take]; show min j 6 * 6 = _; omega
    by_cases hlt : j < 6
    · obtain ⟨f1, f2, f3, f4, hf1, hf2, hf3, hf4, hsum, l0, l1, l2, l3⟩ : ∃ f1 f2 f3 f4 : Nat, f1 < 8 ∧ f2 < 8 ∧ f3 < 8 ∧ f4 < 8 ∧ Hid ((cubeF.take (j + 1)).flatMap fcor = (cubeF.take j).flatMap fcor ++ faceL (cubeV f1) (cubeV f2) (cubeV f3) (cubeV f4)) ∧ cubeA[j * 4]? = some (.int .i64 (f1 : Int)) ∧ cubeA[j * 4 + 1]? = some (.int .i64 (f2 : Int)) ∧ cubeA[j * 4 + 2]? = some (.int .i64 (f3 : Int)) ∧ cubeA[j * 4 + 3]? = some (.int .i64 (f4 : Int)) := by
        obtain rfl | rfl | rfl | rfl | rfl | rfl : j = 0 ∨ j = 1 ∨ j = 2 ∨ j = 3 ∨ j = 4 ∨ j = 5 := by omega
        · exact ⟨0, 2, 3, 1, by decide, by decide, by decide, by decide, Lib.hid rfl, rfl, rfl, rfl, rfl⟩
        · exact ⟨4, 5, 7, 6, by decide, by decide, by decide, by decide, Lib.hid rfl, rfl, rfl, rfl, rfl⟩
        · exact ⟨0, 1, 5, 4, by decide, by decide, by decide, by decide, Lib.hid rfl, rfl, rfl, rfl, rfl⟩
        · exact ⟨2, 6, 7, 3, by decide, by decide, by decide, by decide, Lib.hid rfl, rfl, rfl, rfl, rfl⟩
        · exact ⟨0, 4, 6, 2, by decide, by decide, by decide, by decide, Lib.hid rfl, rfl, rfl, rfl, rfl⟩
        · exact ⟨1, 3, 7, 5, by decide, by decide, by decide, by decide, Lib.hid rfl, rfl, rfl, rfl, rfl⟩
      have K1 := Lib.hid (fun w => ref19_corner f1 hf1 w)
      have K2 := Lib.hid (fun w => ref19_corner f2 hf2 w)
      have K3 := Lib.hid (fun w => ref19_corner f3 hf3 w)
      have K4 := Lib.hid (fun w => ref19_corner f4 hf4 w)
      have e0 := k_s.cell l0
      have e1 := k_s.cell l1
      have e2 := k_s.cell l2
      have e3 := k_s.cell l3
      obtain ⟨L, hL⟩ : ∃ L, L = (cubeF.take j).flatMap fcor := ⟨_, rfl⟩
      rw [← hL] at hcor hlen hsum
      clear hL l0 l1 l2 l3
      generalize cubeV f1 = va at *
      generalize cubeV f2 = vb at *
      generalize cubeV f3 = vc at *
      generalize cubeV f4 = vd at *
      obtain ⟨a1', a2', a3'⟩ := va
      obtain ⟨b1, b2, b3⟩ := vb
      obtain ⟨c1, c2, c3⟩ := vc
      obtain ⟨d1, d2, d3⟩ := vd
      dsimp only at K1 K2 K3 K4
      have KH := Lib.hid (fun w => ref19_face a1' a2' a3' b1 b2 b3 c1 c2 c3 d1 d2 d3 w)
      obtain ⟨al, cl, rfl⟩ := owns_val19 hcor
      rw [hlen]
      have hcor : VRow wr w.heap.size (.slice al (j * 6) cl) L := by rw [hlen] at hcor; exact hcor
      obtain ⟨M, hM⟩ : ∃ M, M = j * 4 := ⟨_, rfl⟩
      rw [← hM] at e0 e1 e2 e3 ⊢
      have hMl : M ≤ 20 := by omega
      have hM4 : Hid (M + 4 = (j + 1) * 4) := Lib.hid (by omega)
      clear hM
      have c_e0 : ∀ p : BW wr, p.w.cell? ⟨g_s, M, none⟩ = some (.int .i64 (f1 : Int)) := bw_cell e0
      have c_e1 : ∀ p : BW wr, p.w.cell? ⟨g_s, M + 1, none⟩ = some (.int .i64 (f2 : Int)) := bw_cell e1
      have c_e2 : ∀ p : BW wr, p.w.cell? ⟨g_s, M + 2, none⟩ = some (.int .i64 (f3 : Int)) := bw_cell e2
      have c_e3 : ∀ p : BW wr, p.w.cell? ⟨g_s, M + 3, none⟩ = some (.int .i64 (f4 : Int)) := bw_cell e3
      have t2 : decide ((M : Int) < 24) = true := decide_eq_true (by omega)
      obtain ⟨n1, n2, n3, n4, n5, n6⟩ : (0 : Int) ≤ (M : Int) + 1 ∧ (0 : Int) ≤ (M : Int) + 2 ∧ (0 : Int) ≤ (M : Int) + 3 ∧ ((M : Int) + 1).toNat = M + 1 ∧ ((M : Int) + 2).toNat = M + 2 ∧ ((M : Int) + 3).toNat = M + 3 := ⟨by omega, by omega, by omega, by omega, by omega, by omega⟩
      have HWW : Hid (IntKind.i64.wrap ((M : Int) + 1) = (M : Int) + 1 ∧ IntKind.i64.wrap ((M : Int) + 2) = (M : Int) + 2 ∧ IntKind.i64.wrap ((M : Int) + 3) = (M : Int) + 3) := Lib.hid ⟨IntWalk.i64_in _ (by omega), IntWalk.i64_in _ (by omega), IntWalk.i64_in _ (by omega)⟩
      obtain ⟨c_p_0, c_p_1, c_p_2, c_p_3, c_p_4, c_p_5, c_p_6, c_p_7, c_p_8, c_p_9, c_p_10, c_p_11⟩ := bwc12 (k_p)
      obtain ⟨p1, hp1⟩ : ∃ p : BW wr, p.w = wr := ⟨BW.start wr, rfl⟩
      rw [← hp1]
      clear hp1
      go_upto_region 8 with (fail)
      obtain ⟨w1, w2, w3⟩ := HWW.out
      have k_s0 := k_s
      refine wp_region_floatW (fun V v => ∃ gh, v = .slice (some ⟨gh, 0, none⟩) 6 6 ∧ w.heap.size ≤ gh ∧ Bk V gh 23 ((faceL (a1', a2', a3') (b1, b2, b3) (c1, c2, c3) (d1, d2, d3)).flatMap vcells).toArray) 25 24 44 52 [25, 31, 37, 43] (by kernel_rfl) (by kernel_rfl) (by kernel_rfl) (by kernel_rfl) rfl rfl ?_
      apply Exists.intro
      refine ⟨?_, ?_, ?_, ?_⟩
      · intro wb' hwb'
        obtain ⟨d_p_0, d_p_1, d_p_2, d_p_3, d_p_4, d_p_5, d_p_6, d_p_7, d_p_8, d_p_9, d_p_10, d_p_11⟩ := bwc12 (k_p.below hwb')
        have f_e0 : ∀ p : BW wb', p.w.cell? ⟨g_s, M, none⟩ = some (.int .i64 (f1 : Int)) := fun p => c_e0 ⟨p.w, hwb'.trans (p.h.mono hwb'.size)⟩
        have f_e1 : ∀ p : BW wb', p.w.cell? ⟨g_s, M + 1, none⟩ = some (.int .i64 (f2 : Int)) := fun p => c_e1 ⟨p.w, hwb'.trans (p.h.mono hwb'.size)⟩
        have f_e2 : ∀ p : BW wb', p.w.cell? ⟨g_s, M + 2, none⟩ = some (.int .i64 (f3 : Int)) := fun p => c_e2 ⟨p.w, hwb'.trans (p.h.mono hwb'.size)⟩
        have f_e3 : ∀ p : BW wb', p.w.cell? ⟨g_s, M + 3, none⟩ = some (.int .i64 (f4 : Int)) := fun p => c_e3 ⟨p.w, hwb'.trans (p.h.mono hwb'.size)⟩
        simp only [maskAt, List.take_succ_cons, List.take_zero]
        repeat (go_big_quiet_step (first
          | (go_at_call 25; (first | (with_reducible exact bw_call K1.out _) | (with_reducible exact bw_call K2.out _) | (with_reducible exact bw_call K3.out _) | (with_reducible exact bw_call K4.out _)))))
        refine wpQuiet_nil ?_
        exact rfl
      · intro ax qx hp
        have e25 := hp 25 (by decide)
        have e31 := hp 31 (by decide)
        have e37 := hp 37 (by decide)
        have e43 := hp 43 (by decide)
        clear hp
        simp only [Act.put, List.setIfInBounds_toArray, List.set_cons_zero, List.set_cons_succ, List.getElem?_toArray, List.getElem?_cons_succ, List.getElem?_cons_zero] at e25 e31 e37 e43
        refine ⟨by simp [Region.wanted, yielded, e25, e31, e37, e43], 24, #[.agg #[.int .i64 a1', .int .i64 a2', .int .i64 a3'], .agg #[.int .i64 b1, .int .i64 b2, .int .i64 b3], .agg #[.int .i64 c1, .int .i64 c2, .int .i64 c3], .agg #[.int .i64 d1, .int .i64 d2, .int .i64 d3]], by simp [execOp, go_sem, Act.eval, e25, e31, e37, e43], (KH.out qx.w).mono ?_⟩
        rintro e w' ⟨gh, rfl, hgl, hbk, hb⟩
        have hsq := (bw_below B1 qx).size
        exact ⟨_, rfl, hb, gh, rfl, by omega, hbk⟩
      · rintro V V' v ⟨gh, rfl, h1, h2⟩ hb
        exact ⟨gh, rfl, h1, h2.below hb⟩
      rintro W2 v hW ⟨gh, rfl, hgl, k_gh⟩
      have B2 : Below w.heap.size w W2 := B1.trans (hW.mono B1.size)
      have hcor := hcor.below hW
      have k_p := k_p.below hW
      clear c_p_0 c_p_1 c_p_2 c_p_3 c_p_4 c_p_5 c_p_6 c_p_7 c_p_8 c_p_9 c_p_10 c_p_11 c_e0 c_e1 c_e2 c_e3
      have k_s := k_s.below hW
      clear hW KH B1 k_s0 K1 K2 K3 K4 w1 w2 w3 n1 n2 n3 n4 n5 n6 e0 e1 e2 e3
      simp only [List.drop_succ_cons, List.drop_zero, Act.put, List.setIfInBounds_toArray, List.set_cons_zero, List.set_cons_succ]
      have hsz := B2.size
      go_wp2_with (at_builtin; refine wpList_append_at rfl _ _ 48 rfl w.heap.size 23 i0 _ 3 24 Try.underlying48 hi0 hz0 hz1 hz2 rfl (by decide) _ (j * 6) (L.flatMap vcells) rfl (by have h := hcor; unfold VRow at h; rw [hlen] at h; exact h) ⟨gh, 0, none⟩ 6 6 ((faceL (a1', a2', a3') (b1, b2, b3) (c1, c2, c3) (d1, d2, d3)).flatMap vcells) rfl rfl ?g1 ?g2 ?g3 ?g4 ?g5 ?_)
      case g1 => exact cells_at19 k_gh
      case g2 => exact flat_one19 vcells_one _
      case g3 => unfold maxLen; omega
      case g4 => omega
      case g5 => exact hsz
      intro v' w1 hown hgrow hat
      have hb1 : Below w.heap.size w w1 := B2.grown hgrow hsz (fun j ej => (World.ownsRow.lt hcor j ej).1)
      have hrow : VRow w1 w.heap.size v' (L ++ (faceL (a1', a2', a3') (b1, b2, b3) (c1, c2, c3) (d1, d2, d3))) := by unfold VRow; rw [List.length_append, hlen, List.flatMap_append]; exact hown
      have k_p1 := bk_grown19 hcor k_p (by decide) hgrow
      have k_s1 := bk_grown19 hcor k_s (by decide) hgrow
      clear hgrow hat hown hcor
      go_wp2
      go_roundw
      case rel => exact ⟨j + 1, by omega, (by rw [← hM4.out]; go_num), (by rw [hsum.out]; exact hrow), k_p1, k_s1, hb1⟩
      case measure => simp [intOf]; omega
    · have hje : j = 6 := by omega
      rw [hje] at hcor hlen
      have t2 : decide (((j * 4 : Nat) : Int) < 24) = false := decide_eq_false (by omega)
      obtain ⟨al, cl, rfl⟩ := owns_val19 hcor
      have hcor : VRow wr w.heap.size (.slice al 36 cl) (cubeT.flatMap (cor3 cubeV)) := hcor
      rw [hlen]
      clear hje hlen
      obtain ⟨c_p_0, c_p_1, c_p_2, c_p_3, c_p_4, c_p_5, c_p_6, c_p_7, c_p_8, c_p_9, c_p_10, c_p_11⟩ := bwc12 (k_p)
      obtain ⟨p1, hp1⟩ : ∃ p : BW wr, p.w = wr := ⟨BW.start wr, rfl⟩
      rw [← hp1]
      clear hp1
      skip
      have KP1 : Hid (∀ q : BW wr, Calls Try.prog 26 #[.slice al 36 cl, .agg #[.int .i64 a1, .int .i64 a2, .int .i64 a3, .int .i64 a4, .int .i64 a5, .int .i64 a6, .int .i64 a7, .int .i64 a8, .int .i64 a9, .int .i64 a10, .int .i64 a11, .int .i64 a12], .int .i64 m] q.w fun e w' => ∃ v, e = .returned (.tuple #[v, .int .i64 R.2]) ∧ PRow w' w.heap.size v R.1 ∧ Below w.heap.size w w') := Lib.hid (fun q => (KP.out w.heap.size (.slice al 36 cl) q.w (hcor.below q.h)).mono (by
        rintro e w' ⟨v, rfl, hv, hb⟩
        exact ⟨v, rfl, owns_mono hv (bw_below B1 q).size, (bw_below B1 q).trans (hb.mono (bw_below B1 q).size)⟩))
      go_wp2_with (go_at_call 26; (with_reducible refine (KP1.out _).mono ?_); rintro e w2 ⟨v, rfl, hv, hb2⟩)
      exact bodyPost_ret (v := .tuple #[v, .int .i64 R.2]) (by simp [results, Try.results8, go_sem]) rfl ⟨_, rfl, hv, hb2⟩

theorem ref19_Cube (a1 a2 a3 a4 a5 a6 a7 a8 a9 a10 a11 a12 m : Int) (w : World) (hm : I64 m) :
    Calls Try.prog 8 #[.agg #[.int .i64 a1, .int .i64 a2, .int .i64 a3, .int .i64 a4, .int .i64 a5, .int .i64 a6, .int .i64 a7, .int .i64 a8, .int .i64 a9, .int .i64 a10, .int .i64 a11, .int .i64 a12], .int .i64 m] w fun e w' => ∃ v, e = .returned (.tuple #[v, .int .i64 (mCube ((a1, a2, a3), (a4, a5, a6), (a7, a8, a9), (a10, a11, a12)) m).2]) ∧ PRow w' w.heap.size v (mCube ((a1, a2, a3), (a4, a5, a6), (a7, a8, a9), (a10, a11, a12)) m).1 ∧ Below w.heap.size w w' := by
  cases h : mFit ((a1, a2, a3), (a4, a5, a6), (a7, a8, a9), (a10, a11, a12)) m with
  | false => exact ref19_Cube_no a1 a2 a3 a4 a5 a6 a7 a8 a9 a10 a11 a12 m w (Lib.hid fun w => by rw [← h]; exact ref19_may a1 a2 a3 a4 a5 a6 a7 a8 a9 a10 a11 a12 m w hm) (by unfold mCube mMesh; rw [h]; rfl)
  | true => exact ref19_Cube_yes a1 a2 a3 a4 a5 a6 a7 a8 a9 a10 a11 a12 m w hm h (by rw [put_placed cube_use]; unfold mCube mMesh; rw [h]; rfl)

end
end Go.Proofs.Ytneacfhoinaeeaa
