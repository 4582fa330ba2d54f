/- The contract of the landed tree's Build. -/
import Derived.Test.YtomlcglnkdfemaaGreatTb37
import Derived.Test.YtomlcglnkdfemaaGreatTb21
import Derived.Test.YtomlcglnkdfemaaGreatTb33
import Derived.WalkMore


namespace Go.Proofs.YtomlcglnkdfemaaGreat
section

open Go.RowKit Go.Proofs.Sky

set_option linter.unusedVariables false

set_option linter.unusedSimpArgs false

set_option maxRecDepth 100000 in
set_option maxHeartbeats 8000000 in
theorem build_zero (a : Option Addr) (n cap : Nat) (w : World) (h : n = 0) :
    Calls Tryz.prog 6 #[.slice a n cap] w fun en w' => en = .returned (.agg #[.slice none 0 0, .slice none 0 0]) ∧ Below w.heap.size w w' := by
  subst h
  go_enter Tryz.func6, Tryz.ntmps6
  go_upto_region 1 with (fail)
  obtain ⟨W1, hW1⟩ : ∃ W, W = w.alloc (.cells #[.slice none 0 0, .slice none 0 0] 28) := ⟨_, rfl⟩
  obtain ⟨k_r, B1⟩ := st1 hW1
  rw [← hW1]
  clear hW1
  obtain ⟨c_r_0, c_r_1⟩ := bwc2 (k_r)
  obtain ⟨f_r_0, f_r_1⟩ := bwf2 (k_r)
  obtain ⟨p1, hp1⟩ : ∃ p : BW W1, p.w = W1 := ⟨BW.start W1, rfl⟩
  rw [← hp1]
  clear hp1
  go_step3
  go_wp2
  try rw [Exit.noGoto_ret]
  have kr := bkp2 (k_r.below p1.h) (.slice none 0 0) (.slice none 0 0)
  obtain ⟨rc0, rc1⟩ := rwc2 kr
  exact bodyPost_ret (v := .agg #[.slice none 0 0, .slice none 0 0]) (by simp [results, Tryz.results6, go_sem, rc0, rc1]) rfl ⟨rfl, blp2 (bw_below B1 p1) (by omega)⟩

set_option maxRecDepth 100000 in
set_option maxHeartbeats 8000000 in
theorem build_many (a : Option Addr) (n cap : Nat) (w : World) (h : 1024 < n) :
    Calls Tryz.prog 6 #[.slice a n cap] w fun en w' => en = .returned (.agg #[.slice none 0 0, .slice none 0 0]) ∧ Below w.heap.size w w' := by
  have t1 : ((n : Int) == 0) = false := by rw [beq_eq_false_iff_ne]; omega
  have t2 : decide (1024 < (n : Int)) = true := decide_eq_true (by omega)
  clear h
  go_enter Tryz.func6, Tryz.ntmps6
  go_upto_region 1 with (fail)
  obtain ⟨W1, hW1⟩ : ∃ W, W = w.alloc (.cells #[.slice none 0 0, .slice none 0 0] 28) := ⟨_, rfl⟩
  obtain ⟨k_r, B1⟩ := st1 hW1
  rw [← hW1]
  clear hW1
  obtain ⟨c_r_0, c_r_1⟩ := bwc2 (k_r)
  obtain ⟨f_r_0, f_r_1⟩ := bwf2 (k_r)
  obtain ⟨p1, hp1⟩ : ∃ p : BW W1, p.w = W1 := ⟨BW.start W1, rfl⟩
  rw [← hp1]
  clear hp1
  go_step3
  go_wp2
  try rw [Exit.noGoto_ret]
  have kr := bkp2 (k_r.below p1.h) (.slice none 0 0) (.slice none 0 0)
  obtain ⟨rc0, rc1⟩ := rwc2 kr
  exact bodyPost_ret (v := .agg #[.slice none 0 0, .slice none 0 0]) (by simp [results, Tryz.results6, go_sem, rc0, rc1]) rfl ⟨rfl, blp2 (bw_below B1 p1) (by omega)⟩

set_option maxRecDepth 100000 in
set_option maxHeartbeats 8000000 in
theorem build_bad (a : Option Addr) (n cap : Nat) (w : World) (h1 : ¬ n = 0) (h2 : ¬ 1024 < n) (KB : Hid (∀ X, Below w.heap.size w X → Calls Tryz.prog 13 #[.slice a n cap] X fun e w' => ∃ u, e = .returned (.tuple #[u, .bool false]) ∧ Below X.heap.size X w')) :
    Calls Tryz.prog 6 #[.slice a n cap] w fun en w' => en = .returned (.agg #[.slice none 0 0, .slice none 0 0]) ∧ Below w.heap.size w w' := by
  have t1 : ((n : Int) == 0) = false := by rw [beq_eq_false_iff_ne]; omega
  have t2 : decide (1024 < (n : Int)) = false := decide_eq_false (by omega)
  clear h1 h2
  go_enter Tryz.func6, Tryz.ntmps6
  go_upto_region 1 with (fail)
  obtain ⟨W1, hW1⟩ : ∃ W, W = w.alloc (.cells #[.slice none 0 0, .slice none 0 0] 28) := ⟨_, rfl⟩
  obtain ⟨k_r, B1⟩ := st1 hW1
  rw [← hW1]
  clear hW1
  obtain ⟨c_r_0, c_r_1⟩ := bwc2 (k_r)
  obtain ⟨f_r_0, f_r_1⟩ := bwf2 (k_r)
  obtain ⟨p1, hp1⟩ : ∃ p : BW W1, p.w = W1 := ⟨BW.start W1, rfl⟩
  rw [← hp1]
  clear hp1
  go_step3
  go_upto_region 5 with (go_at_call 13; (with_reducible refine (KB.out _ (bw_below B1 _)).mono ?_); rintro e w2 ⟨u, rfl, hb2⟩; obtain ⟨q, rfl⟩ := bw_take hb2)
  go_wp2
  try rw [Exit.noGoto_ret]
  have kr := bkp2 (k_r.below q.h) (.slice none 0 0) (.slice none 0 0)
  obtain ⟨rc0, rc1⟩ := rwc2 kr
  exact bodyPost_ret (v := .agg #[.slice none 0 0, .slice none 0 0]) (by simp [results, Tryz.results6, go_sem, rc0, rc1]) rfl ⟨rfl, blp2 (bw_below B1 q) (by omega)⟩

set_option maxRecDepth 100000 in
set_option maxHeartbeats 8000000 in
theorem build_some (a : Option Addr) (n cap : Nat) (P : Nat → Pr) (w : World) (h0 : 0 < n) (h1 : n ≤ 1024) (hall : pAll P n = true)
    (KB : Hid (∀ X, Below w.heap.size w X → Calls Tryz.prog 13 #[.slice a n cap] X fun e w' => ∃ u, e = .returned (.tuple #[u, .bool true]) ∧ BoxRow w' w.heap.size u (bls (fun k => pBox (P k)) n) ∧ Below X.heap.size X w')) :
    Calls Tryz.prog 6 #[.slice a n cap] w fun e w' => ∃ u v, e = .returned (.agg #[u, v]) ∧ NodRow w' w.heap.size u (mBuild P n).1 ∧ Ints w' w.heap.size v (mBuild P n).2 ∧ Below w.heap.size w w' := by
  have t1 : ((n : Int) == 0) = false := by rw [beq_eq_false_iff_ne]; omega
  have t2 : decide (1024 < (n : Int)) = false := decide_eq_false (by omega)
  obtain ⟨i0, hi0, hz0, hz1, hz2⟩ := info_parts node_info
  obtain ⟨i1, hi1, hy0, hy1, hy2⟩ := info_parts int_info15
  obtain ⟨i2, hi2, hw0, hw1, hw2⟩ := info_parts part_info
  have HR0 := Lib.hid (mBuild_run (P := P) ⟨h0, h1, hall⟩)
  obtain ⟨M, hM⟩ : ∃ M, M = mBuild P n := ⟨_, rfl⟩
  rw [← hM] at HR0 ⊢
  clear hM
  have KI := Lib.hid (fun (X : World) => tree_indices n X h1)
  obtain ⟨bx, hbx⟩ : ∃ bx, bx = bls (fun k => pBox (P k)) n := ⟨_, rfl⟩
  rw [← hbx] at KB
  have HBX := Lib.hid hbx
  clear hbx
  go_enter Tryz.func6, Tryz.ntmps6
  go_upto_region 1 with (fail)
  obtain ⟨W1, hW1⟩ : ∃ W, W = w.alloc (.cells #[.slice none 0 0, .slice none 0 0] 28) := ⟨_, rfl⟩
  obtain ⟨k_r, B1⟩ := st1 hW1
  rw [← hW1]
  clear hW1
  obtain ⟨c_r_0, c_r_1⟩ := bwc2 (k_r)
  obtain ⟨p1, hp1⟩ : ∃ p : BW W1, p.w = W1 := ⟨BW.start W1, rfl⟩
  rw [← hp1]
  clear hp1
  go_step3
  go_upto_region 6 with (go_at_call 13; (with_reducible refine (KB.out _ (bw_below B1 _)).mono ?_); rintro e w2 ⟨ub, rfl, hub, hb2⟩; obtain ⟨q, rfl⟩ := bw_take hb2)
  obtain ⟨W2, hW2⟩ : ∃ W, W = q.w := ⟨_, rfl⟩
  have B2 : Below w.heap.size w W2 := by rw [hW2]; exact (bw_below B1 q)
  have k_r := k_r.below q.h
  rw [← hW2] at k_r
  rw [← hW2] at hub
  rw [← hW2]
  clear hW2
  clear B1
  clear c_r_0 c_r_1
  obtain ⟨c_r_0, c_r_1⟩ := bwc2 (k_r)
  obtain ⟨p2, hp2⟩ : ∃ p : BW W2, p.w = W2 := ⟨BW.start W2, rfl⟩
  rw [← hp2]
  clear hp2
  go_upto_region 7 with (fail)
  obtain ⟨W3, hW3⟩ : ∃ W, W = p2.w.alloc (.cells #[.slice none 0 0, .slice none 0 0] 28) := ⟨_, rfl⟩
  have B3 : Below w.heap.size w W3 := by rw [hW3]; exact (bw_below B2 p2).alloc (bw_below B2 p2).size _
  have l_t : w.heap.size < p2.w.heap.size := (k_r.below p2.h).lt
  have o_t : w.heap.size ≤ p2.w.heap.size := (bw_below B2 p2).size
  have k_r := bka hW3 (k_r.below p2.h)
  have hub := boxrow_alloc hW3 (hub.below p2.h)
  have k_t := bkn hW3
  rw [← hW3]
  clear hW3
  clear B2
  clear c_r_0 c_r_1
  generalize p2.w.heap.size = g_t at *
  obtain ⟨c_r_0, c_r_1⟩ := bwc2 (k_r)
  obtain ⟨c_t_0, c_t_1⟩ := bwc2 (k_t)
  obtain ⟨p3, hp3⟩ : ∃ p : BW W3, p.w = W3 := ⟨BW.start W3, rfl⟩
  rw [← hp3]
  clear hp3
  go_wp2_with (go_at_call 14; (with_reducible refine (KI.out _).mono ?_); rintro e w2 ⟨ui, rfl, hx, hb2⟩; obtain ⟨q, rfl⟩ := bw_take hb2; obtain ⟨oi, ci, hui⟩ := owns_val hx; rw [List.length_range] at hui; subst hui)
  have hx := hx.mono (bw_below B3 _).size
  obtain ⟨W4, hW4⟩ : ∃ W, W = q.w.alloc (.cells #[.slice oi n ci, .int .i64 (-1)] 52) := ⟨_, rfl⟩
  have B4 : Below w.heap.size w W4 := by rw [hW4]; exact (bw_below B3 q).alloc (bw_below B3 q).size _
  have l_k : g_t < q.w.heap.size := (k_t.below q.h).lt
  have o_k : w.heap.size ≤ q.w.heap.size := (bw_below B3 q).size
  have k_r := bka hW4 (k_r.below q.h)
  have k_t := bka hW4 (k_t.below q.h)
  have hub := boxrow_alloc hW4 (hub.below q.h)
  have hx := ints_alloc hW4 hx
  have k_k := bkn hW4
  rw [← hW4]
  clear hW4
  clear B3
  clear c_r_0 c_r_1 c_t_0 c_t_1
  generalize q.w.heap.size = g_k at *
  have hst : BSt W4 w.heap.size ub (.slice none 0 0) (.slice none 0 0) (.slice (some ⟨g_k, 0, none⟩) 1 1) bx [] [] [(.slice oi n ci, List.range n, none)] :=
    ⟨hub, World.ownsRow_nil _ _ _ _, World.ownsRow_nil _ _ _ _, prtrow_one k_k (by omega), fun x hm => by rw [List.mem_singleton] at hm; subst hm; exact ⟨hx, fun j hj e => by cases e⟩⟩
  go_step3
  go_wp2
  go_loopw [6] (fun us wr => ∃ (X : List Pc) (un uo : Value) (ns : List Nd) (od : List Nat), BSt wr w.heap.size ub un uo us bx ns od X ∧ Bk wr w.heap.size 28 #[.slice none 0 0, .slice none 0 0] ∧ Bk wr g_t 28 #[un, uo] ∧ Below w.heap.size w wr ∧ Hid (mRun P (X.map (·.2)) (ns, od) = M) ∧ (od.length + mMass (X.map (·.2)) = n ∧ ns.length + 2 * mMass (X.map (·.2)) + 1 ≤ 2 * n + X.length) ∧ Hid (∀ x ∈ X, 0 < x.2.1.length ∧ (∀ j ∈ x.2.1, j < n) ∧ ∀ i, x.2.2 = some i → i < ns.length)) (fun _ wr => 2 * n - cellL wr g_t 0)
  case atStart => exact ⟨[(.slice oi n ci, List.range n, none)], _, _, [], [], hst, k_r, k_t, B4, HR0, (by simp [mMass]), Lib.hid (by intro x hm; rw [List.mem_singleton] at hm; subst hm; exact ⟨by simpa using h0, fun j hj => List.mem_range.1 hj, fun i hi => by cases hi⟩)⟩
  case round =>
    clear hst hx hub k_r k_t k_k B4 HR0 KB KI
    obtain ⟨X, un, uo, ns, od, hst, k_r, k_t, BO, HM, ⟨hm1, hm2⟩, HX⟩ := hrel
    have B1 := BO
    obtain ⟨au, cu, rfl⟩ := owns_val hst.nod
    obtain ⟨ao, co, rfl⟩ := owns_val hst.ord
    cases X with
    | nil =>
      obtain ⟨av, cv, hu0⟩ := owns_val hst.stk
      simp only [List.length_nil] at hu0
      subst hu0
      have hM := HM.out
      simp only [List.map_nil, mRun] at hM
      have HM1 := Lib.hid hM
      clear HM hM
      obtain ⟨c_r_0, c_r_1⟩ := bwc2 (k_r)
      obtain ⟨f_r_0, f_r_1⟩ := bwf2 (k_r)
      obtain ⟨c_t_0, c_t_1⟩ := bwc2 (k_t)
      obtain ⟨p1, hp1⟩ : ∃ p : BW wr, p.w = wr := ⟨BW.start wr, rfl⟩
      rw [← hp1]
      clear hp1
      go_wp2
      try rw [Exit.noGoto_ret]
      have hq := hst.below p1.h
      have kq := k_r.below p1.h
      have hq1 := hq.setT (i := 0) (x := .slice au ns.length cu) kq
      have hq2 := hq1.setT (i := 1) (x := .slice ao od.length co) (kq.set 0 _)
      have kr := bkp2 kq (.slice au ns.length cu) (.slice ao od.length co)
      obtain ⟨rc0, rc1⟩ := rwc2 kr
      exact bodyPost_ret (v := .agg #[.slice au ns.length cu, .slice ao od.length co]) (by simp [results, Tryz.results6, go_sem, rc0, rc1]) rfl ⟨_, _, rfl, by rw [← HM1.out]; exact hq2.nod, by rw [← HM1.out]; exact hq2.ord, blp2 (bw_below B1 p1) (by omega)⟩
    | cons x X =>
      obtain ⟨v, th, ro⟩ := x
      obtain ⟨hxI, hxA⟩ := hst.prt (v, th, ro) List.mem_cons_self
      obtain ⟨hth0, hthn, hro⟩ := HX.out (v, th, ro) List.mem_cons_self
      have HXX := Lib.hid (fun x hx => HX.out x (List.mem_cons_of_mem _ hx))
      have hmass := mMass_le (X.map (·.2)) (fun x hx => by obtain ⟨y, hy, rfl⟩ := List.mem_map.1 hx; exact (HXX.out y hy).1)
      rw [List.length_map] at hmass
      simp only [List.map_cons, mMass, List.length_cons] at hm1 hm2
      obtain ⟨gs, cs, rfl, hgsB, hgslt, hcap, hp, hd, hpop⟩ := hst.pop
      clear hst
      have hst := hpop
      clear hpop
      dsimp only at hth0 hthn hro hxI hxA hp hd
      obtain ⟨ov, cv, rfl⟩ := owns_val hxI
      have HTH := Lib.hid hthn
      have HM := Lib.hid (show mRun P ((th, ro) :: X.map (·.2)) (ns, od) = M from HM.out)
      clear HX hthn
      obtain ⟨ms, hms⟩ : ∃ ms, ms = mMass (X.map (·.2)) := ⟨_, rfl⟩
      rw [← hms] at hm1 hm2 hmass
      have HMS := Lib.hid hms
      clear hms
      obtain ⟨m, hmm⟩ : ∃ m, m = th.length := ⟨_, rfl⟩
      obtain ⟨L, hL⟩ : ∃ L, L = X.length := ⟨_, rfl⟩
      obtain ⟨N, hN⟩ : ∃ N, N = ns.length := ⟨_, rfl⟩
      obtain ⟨D, hD⟩ : ∃ D, D = od.length := ⟨_, rfl⟩
      rw [← hmm] at hp hm1 hm2 hth0 hxI hxA
      rw [← hL] at hp hd hcap hst hm2 hmass ⊢
      rw [← hN] at k_t hst hm2
      rw [← hD] at k_t hst hm1 hxA
      obtain ⟨ρ, hρ⟩ : ∃ ρ, ρ = pint ro := ⟨_, rfl⟩
      rw [← hρ] at hd
      have HRO := Lib.hid hρ
      clear hρ
      have HL := Lib.hid hL
      have HMM := Lib.hid hmm
      have HNN := Lib.hid hN
      have HDD := Lib.hid hD
      clear hL hmm hN hD
      have c_sp : ∀ q : BW wr, q.w.cell? ⟨gs, L * 2, none⟩ = some (.slice ov m cv) := bw_cell hp
      have c_sd : ∀ q : BW wr, q.w.cell? ⟨gs, L * 2 + 1, none⟩ = some (.int .i64 ρ) := bw_cell hd
      clear hp hd
      obtain ⟨c_r_0, c_r_1⟩ := bwc2 (k_r)
      obtain ⟨c_t_0, c_t_1⟩ := bwc2 (k_t)
      obtain ⟨p1, hp1⟩ : ∃ p : BW wr, p.w = wr := ⟨BW.start wr, rfl⟩
      rw [← hp1]
      clear hp1
      have HK0 := Lib.hid (fun p : BW wr => cellL_of (c_t_0 p))
      go_upto_region 11 with (fail)
      obtain ⟨W2, hW2⟩ : ∃ W, W = p1.w.alloc (.cells #[.slice ov m cv, .int .i64 ρ] 52) := ⟨_, rfl⟩
      have B2 : Below w.heap.size w W2 := by rw [hW2]; exact (bw_below B1 p1).alloc (bw_below B1 p1).size _
      have l_x : g_t < p1.w.heap.size := (k_t.below p1.h).lt
      have o_x : w.heap.size ≤ p1.w.heap.size := (bw_below B1 p1).size
      have k_r := bka hW2 (k_r.below p1.h)
      have k_t := bka hW2 (k_t.below p1.h)
      have hst := bst_alloc hW2 (hst.below p1.h)
      have hxI := ints_alloc hW2 (hxI.below p1.h)
      have k_x := bkn hW2
      rw [← hW2]
      clear hW2
      clear B1
      clear c_r_0 c_r_1 c_t_0 c_t_1
      generalize p1.w.heap.size = g_x at *
      clear c_sp c_sd
      obtain ⟨c_r_0, c_r_1⟩ := bwc2 (k_r)
      obtain ⟨c_t_0, c_t_1⟩ := bwc2 (k_t)
      obtain ⟨c_x_0, c_x_1⟩ := bwc2 (k_x)
      obtain ⟨p2, hp2⟩ : ∃ p : BW W2, p.w = W2 := ⟨BW.start W2, rfl⟩
      rw [← hp2]
      clear hp2
      cases ro with
      | none =>
        obtain rfl : ρ = -1 := HRO.out
        obtain ⟨n1, hn1⟩ : ∃ n1, n1 = setR ns none N := ⟨_, rfl⟩
        have hst : BSt W2 w.heap.size ub (.slice au N cu) (.slice ao D co) (.slice (some ⟨gs, 0, none⟩) L cs) bx n1 od X := by rw [hn1]; exact hst
        have hl1 : n1.length = N := by rw [hn1, setR_len, ← HNN.out]
        have HN1 := Lib.hid hn1
        clear hn1
        have HM : Hid (mRun P ((th, none) :: X.map (·.2)) (ns, od) = M) := HM
        go_upto_region 15 with (fail)
        obtain ⟨hbxs, ab, cb, rfl⟩ := boxrow_boxes (by rw [← HBX.out]; exact hst.box) (show n ≤ 1048576 by omega)
        have hmn : m ≤ 1024 := by omega
        obtain ⟨ov1, cv1, hv1, sth⟩ := hxI.slice (fun k hk => by have := HTH.out k hk; omega)
        rw [← HMM.out] at hv1 sth
        cases hv1
        have KC : Hid (∀ Y, Below W2.heap.size W2 Y → Calls Tryz.prog 15 #[.slice ab n cb, .slice ov m cv] Y fun e w' => ∃ u, e = .returned u ∧ BoxRow w' Y.heap.size u (bls (wBox P th) m) ∧ Below Y.heap.size Y w') :=
          Lib.hid (fun Y hY => tree_chosen_box ab ov n cb m cv (fun k => pBox (P k)) (fun i => ((th.getD i 0 : Nat) : Int)) Y (hbxs.below hY (Nat.le_refl _)) (intslice_down15 sth hY) (fun k hk => ⟨by omega, by
            have hk2 : k < th.length := by rw [← HMM.out]; exact hk
            have := HTH.out (th.getD k 0) (by rw [getD_at hk2]; exact List.getElem_mem _)
            omega⟩) hmn)
        go_upto_region 16 with (go_at_call 15; (with_reducible refine (KC.out _ (BW.h _)).mono ?_); rintro e w2 ⟨ui, rfl, hin, hb2⟩; obtain ⟨q, rfl⟩ := bw_take hb2)
        clear KC hbxs
        obtain ⟨W3, hW3⟩ : ∃ W, W = q.w := ⟨_, rfl⟩
        have B3 : Below w.heap.size w W3 := by rw [hW3]; exact (bw_below B2 q)
        have k_r := k_r.below q.h
        rw [← hW3] at k_r
        have k_t := k_t.below q.h
        rw [← hW3] at k_t
        have k_x := k_x.below q.h
        rw [← hW3] at k_x
        have hst := hst.below q.h
        rw [← hW3] at hst
        have hxI := hxI.below q.h
        rw [← hW3] at hxI
        rw [← hW3] at hin
        rw [← hW3]
        clear hW3
        clear B2
        clear c_r_0 c_r_1 c_t_0 c_t_1 c_x_0 c_x_1
        obtain ⟨hib, ai, ci, rfl⟩ := boxrow_boxes hin (show m ≤ 1048576 by omega)
        obtain ⟨ov2, cv2, hv2, sth2⟩ := hxI.slice (fun k hk => by have := HTH.out k hk; omega)
        rw [← HMM.out] at hv2
        cases hv2
        have KH : Hid (∀ Y, Below W3.heap.size W3 Y → Calls Tryz.prog 16 #[.slice ov m cv, .slice ai m ci] Y fun e w' => ∃ u v, e = .returned (.tuple #[u, v, .bool (!wEnds P th)]) ∧ ((!wEnds P th) = true → Ints w' Y.heap.size u (wAt th (wLeft P th)) ∧ Ints w' Y.heap.size v (wAt th (wRight P th))) ∧ Below Y.heap.size Y w') := by
          refine Lib.hid (fun Y hY => ?_)
          have h := tree_halves ov ai cv ci th (wBox P th) Y (intslice_down15 sth2 hY) (by rw [← HMM.out]; exact hib.below hY (Nat.le_refl _)) (by rw [← HMM.out]; exact hmn)
          rw [wEnds_not] at h
          rw [HMM.out]
          exact h
        have KA : Hid (∀ Y, Below W3.heap.size W3 Y → Calls Tryz.prog 17 #[.slice ai m ci] Y fun e w' => e = .returned (.agg #[.int .i64 (bAll (wBox P th) m).1.1, .int .i64 (bAll (wBox P th) m).1.2.1, .int .i64 (bAll (wBox P th) m).1.2.2, .int .i64 (bAll (wBox P th) m).2.1, .int .i64 (bAll (wBox P th) m).2.2.1, .int .i64 (bAll (wBox P th) m).2.2.2]) ∧ Below Y.heap.size Y w') :=
          Lib.hid (fun Y hY => tree_around ai m ci (wBox P th) Y (hib.below hY (Nat.le_refl _)) hth0 (by omega))
        have HLF := Lib.hid (fun he => mRun_leaf (P := P) (th := th) (r := none) (rest := X.map (·.2)) (ns := ns) (od := od) (by rw [← HMM.out]; exact hth0) he)
        have HND := Lib.hid (fun he => mRun_node (P := P) (th := th) (r := none) (rest := X.map (·.2)) (ns := ns) (od := od) he)
        have HSL := Lib.hid (fun he => wSplit_less (P := P) (which := th) he)
        rw [← HNN.out, ← HN1.out, ← HMM.out] at HLF HND
        rw [← HDD.out] at HLF
        rw [← HMM.out] at HSL
        obtain ⟨bb, hbb⟩ : ∃ bb, bb = bAll (wBox P th) m := ⟨_, rfl⟩
        rw [← hbb] at KA HLF HND
        clear hbb sth sth2 hib hin
        obtain ⟨⟨v1, v2, v3⟩, v4, v5, v6⟩ := bb
        dsimp only at KA
        cases he : wEnds P th with
        | true =>
          have HM2 := Lib.hid ((HLF.out he).symm.trans HM.out)
          have KH1 : Hid (∀ Y, Below W3.heap.size W3 Y → Calls Tryz.prog 16 #[.slice ov m cv, .slice ai m ci] Y fun e w' => ∃ u v, e = .returned (.tuple #[u, v, .bool false]) ∧ Below Y.heap.size Y w') :=
            Lib.hid (fun Y hY => (KH.out Y hY).mono fun e w' ⟨u, v, h1, _, h3⟩ => ⟨u, v, by rw [h1, he]; rfl, h3⟩)
          clear HLF HND HM he HSL KH
          obtain ⟨c_r_0, c_r_1⟩ := bwc2 (k_r)
          obtain ⟨c_t_0, c_t_1⟩ := bwc2 (k_t)
          obtain ⟨c_x_0, c_x_1⟩ := bwc2 (k_x)
          obtain ⟨p3, hp3⟩ : ∃ p : BW W3, p.w = W3 := ⟨BW.start W3, rfl⟩
          rw [← hp3]
          clear hp3
          go_upto_region 18 with (go_at_call 16; (with_reducible refine (KH1.out _ (BW.h _)).mono ?_); rintro e w2 ⟨ul, ur, rfl, hb2⟩; obtain ⟨q, rfl⟩ := bw_take hb2)
          have KA := Lib.hid (fun Y (hY : Below q.w.heap.size q.w Y) => KA.out Y (q.h.trans (hY.mono q.h.size)))
          clear KH1
          obtain ⟨W4, hW4⟩ : ∃ W, W = q.w := ⟨_, rfl⟩
          have B4 : Below w.heap.size w W4 := by rw [hW4]; exact (bw_below B3 q)
          have k_r := k_r.below q.h
          rw [← hW4] at k_r
          have k_t := k_t.below q.h
          rw [← hW4] at k_t
          have k_x := k_x.below q.h
          rw [← hW4] at k_x
          have hst := hst.below q.h
          rw [← hW4] at hst
          have hxI := hxI.below q.h
          rw [← hW4] at hxI
          rw [← hW4] at KA
          rw [← hW4]
          clear hW4
          clear B3
          clear c_r_0 c_r_1 c_t_0 c_t_1 c_x_0 c_x_1
          obtain ⟨c_r_0, c_r_1⟩ := bwc2 (k_r)
          obtain ⟨c_t_0, c_t_1⟩ := bwc2 (k_t)
          obtain ⟨c_x_0, c_x_1⟩ := bwc2 (k_x)
          obtain ⟨p4, hp4⟩ : ∃ p : BW W4, p.w = W4 := ⟨BW.start W4, rfl⟩
          rw [← hp4]
          clear hp4
          refine wp_region_floatV (t := 43) (zs := #[.int .i64 v1, .int .i64 v2, .int .i64 v3, .int .i64 v4, .int .i64 v5, .int .i64 v6, .int .i64 (D : Int), .int .i64 (m : Int), .int .i64 0]) 12 11 88 114 [87] (fun g => .slice (some ⟨g, 0, none⟩) 1 1) (by kernel_rfl) (by kernel_rfl) (by kernel_rfl) (by kernel_rfl) rfl rfl ?_
          apply Exists.intro
          refine ⟨?_, ?_, ?_⟩
          · intro wb' hwb'
            obtain ⟨d_r_0, d_r_1⟩ := bwc2 (k_r.below hwb')
            obtain ⟨d_t_0, d_t_1⟩ := bwc2 (k_t.below hwb')
            obtain ⟨d_x_0, d_x_1⟩ := bwc2 (k_x.below hwb')
            simp only [maskAt, List.take_succ_cons, List.take_zero]
            repeat (go_big_quiet_step (first
              | (go_at_call 17; (with_reducible exact (bw_callB KA.out hwb') _))))
            refine wpQuiet_nil ?_
            exact rfl
          · intro ax wx hp
            have e87 := hp 87 (by decide)
            clear hp
            simp only [Act.put, List.setIfInBounds_toArray, List.set_cons_zero, List.set_cons_succ, List.getElem?_toArray, List.getElem?_cons_succ, List.getElem?_cons_zero] at e87
            exact ⟨by simp [Region.wanted, yielded, e87], by simp [execOp, go_sem, Act.eval, e87]⟩
          intro W5 g_nb hW hg k_nb
          have B5 : Below w.heap.size w W5 := B4.trans (hW.mono B4.size)
          have o_nb : w.heap.size ≤ g_nb := Nat.le_trans B4.size hg
          have hst := hst.below hW
          have hxI := hxI.below hW
          have l_nb : g_x < g_nb := Nat.lt_of_lt_of_le k_x.lt hg
          have k_r := k_r.below hW
          have k_t := k_t.below hW
          have k_x := k_x.below hW
          clear hW hg B4
          clear c_r_0 c_r_1 c_t_0 c_t_1 c_x_0 c_x_1
          simp only [List.drop_succ_cons, List.drop_zero, Act.put, List.setIfInBounds_toArray, List.set_cons_zero, List.set_cons_succ]
          have hsz := B5.size
          go_wp2_with (at_builtin; refine wpList_append_at rfl _ _ 25 rfl w.heap.size 43 i0 _ 9 72 Tryz.underlying25 hi0 hz0 hz1 hz2 rfl (by decide) _ N (n1.flatMap ncells) rfl (by have h := hst.nod; unfold NodRow at h; rw [hl1] at h; exact h) ⟨g_nb, 0, none⟩ 1 1 (ncells (((v1, v2, v3), v4, v5, v6), (D : Int), (m : Int), 0)) rfl rfl ?g1 ?g2 ?g3 ?g4 ?g5 ?_)
          case g1 => exact cells_at15 k_nb
          case g2 => exact ncells_one _
          case g3 => unfold maxLen; omega
          case g4 => omega
          case g5 => omega
          intro vn w1 hown hgrow hat
          obtain ⟨an, cn2, rfl⟩ := owns_val hown
          have hrow : NodRow w1 w.heap.size (.slice an (N + 1) cn2) (n1 ++ [(((v1, v2, v3), v4, v5, v6), (D : Int), (m : Int), 0)]) := by unfold NodRow; rw [List.length_append, hl1, List.flatMap_append, List.flatMap_cons, List.flatMap_nil, List.append_nil]; exact hown
          have hs1 := hst.putNode hrow hgrow
          have hb1 : Below w.heap.size w w1 := B5.grown hgrow hsz (fun j ej => (World.ownsRow.lt hst.nod j ej).1)
          have kr1 := grown_bk hst.nod k_r (by decide) hgrow
          have kt1 := grown_bk hst.nod k_t (by decide) hgrow
          have hx1 := owns_grown hxI hgrow (apart_row (owns_types hst.nod hxI (by decide)))
          have kx1 := grown_bk hst.nod k_x (by decide) hgrow
          clear hown hgrow hat hrow hst hxI k_r k_t k_x k_nb
          have q0 := kt1.cell (i := 0) rfl
          have q1 := kt1.frozen 0
          go_upto_region 19 with (fail)
          obtain ⟨W6, hW6⟩ : ∃ W, W = w1.setCell ⟨g_t, 0, none⟩ (.slice an (N + 1) cn2) := ⟨_, rfl⟩
          have B6 : Below w.heap.size w W6 := by rw [hW6]; exact hb1.setCell (p := ⟨g_t, 0, none⟩) (by show w.heap.size ≤ g_t; omega) _
          have k_r : Bk W6 w.heap.size 28 #[.slice none 0 0, .slice none 0 0] := by rw [hW6]; exact kr1.other (a := ⟨g_t, 0, none⟩) (by show ¬ w.heap.size = g_t; omega) _
          have k_t : Bk W6 g_t 28 #[.slice an (N + 1) cn2, .slice ao D co] := by rw [hW6]; exact (kt1.set 0 _).cast (by simp)
          have hst := hs1.setT (i := 0) (x := .slice an (N + 1) cn2) kt1
          rw [← hW6] at hst
          have hxI : Ints W6 w.heap.size (.slice ov m cv) th := by rw [hW6]; exact owns_setbk hx1 (a := ⟨g_t, 0, none⟩) (owns_bk hx1 kt1 (by decide)) _
          have k_x : Bk W6 g_x 52 #[.slice ov m cv, .int .i64 (-1)] := by rw [hW6]; exact kx1.other (a := ⟨g_t, 0, none⟩) (by show ¬ g_x = g_t; omega) _
          rw [← hW6]
          clear hW6 hb1 kr1 kt1 hs1 q0 q1 kx1 hx1
          obtain ⟨c_r_0, c_r_1⟩ := bwc2 (k_r)
          obtain ⟨c_t_0, c_t_1⟩ := bwc2 (k_t)
          obtain ⟨c_x_0, c_x_1⟩ := bwc2 (k_x)
          obtain ⟨p6, hp6⟩ : ∃ p : BW W6, p.w = W6 := ⟨BW.start W6, rfl⟩
          rw [← hp6]
          clear hp6
          obtain ⟨gv, cv3, hv3, hgvB, hgvl, hgvc⟩ := owns_some hxI (by rw [← HMM.out]; exact hth0)
          rw [← HMM.out] at hv3
          cases hv3
          go_wp2_with (at_builtin; refine wpList_append_at rfl _ _ 26 rfl w.heap.size 3 i1 (.int .i64 0) 1 8 Tryz.underlying26 hi1 hy0 hy1 hy2 rfl (by decide) _ D (od.map (fun k : Nat => Value.int .i64 (k : Int))) rfl (by have h := (hst.below (BW.h p6)).ord; unfold Ints at h; rw [← HDD.out] at h; exact h) ⟨gv, 0, none⟩ m cv (th.map (fun k : Nat => Value.int .i64 (k : Int))) rfl (by rw [List.length_map, Nat.mul_one, ← HMM.out]) ?g1 ?g2 ?g3 ?g4 ?g5 ?_)
          case g1 => exact World.ownsRow.cells (hxI.below (BW.h p6)) rfl
          case g2 => intro u hu; obtain ⟨k, _, rfl⟩ := List.mem_map.1 hu; rfl
          case g3 => unfold maxLen; omega
          case g4 => omega
          case g5 => exact (bw_below B6 p6).size
          intro vo w1 hown hgrow hat
          obtain ⟨ao2, co2, rfl⟩ := owns_val hown
          have hst0 := hst.below p6.h
          have hrow : Ints w1 w.heap.size (.slice ao2 (D + m) co2) (od ++ th) := by unfold Ints; rw [List.length_append, ← HDD.out, ← HMM.out, List.map_append]; exact hown
          have hs1 := hst0.putOrd hrow hgrow (by simpa using hat)
          have hb1 : Below w.heap.size w w1 := (bw_below B6 p6).grown hgrow (bw_below B6 p6).size (fun j ej => (World.ownsRow.lt hst0.ord j ej).1)
          have kr1 := grown_bk hst0.ord (k_r.below p6.h) (by decide) hgrow
          have kt1 := grown_bk hst0.ord (k_t.below p6.h) (by decide) hgrow
          have q2 := kt1.cell (i := 1) rfl
          have q3 := kt1.frozen 1
          go_wp2
          have hst := hs1.setT (i := 1) (x := .slice ao2 (D + m) co2) kt1
          have kt2 := (kt1.set 1 (.slice ao2 (D + m) co2)).cast (ds := #[.slice an (N + 1) cn2, .slice ao2 (D + m) co2]) (by simp)
          have hcell1 := cellL_of (kt2.cell (i := 0) rfl)
          have hlen : (n1 ++ [(((v1, v2, v3), v4, v5, v6), (D : Int), (m : Int), 0)]).length = N + 1 := by rw [List.length_append, hl1]; rfl
          have hlo : (od ++ th).length = D + m := by rw [List.length_append, ← HDD.out, ← HMM.out]
          go_roundw
          case rel => exact ⟨X, _, _, n1 ++ [(((v1, v2, v3), v4, v5, v6), (D : Int), (m : Int), 0)], od ++ th, hst, kr1.other (a := ⟨g_t, 1, none⟩) (by show ¬ w.heap.size = g_t; omega) _, kt2, hb1.setCell (p := ⟨g_t, 1, none⟩) (by show w.heap.size ≤ g_t; omega) _, HM2, ⟨by rw [hlo, ← HMS.out]; omega, by rw [hlen, ← HMS.out, ← HL.out]; omega⟩, Lib.hid (fun x hx => by obtain ⟨q1, q2, q3⟩ := HXX.out x hx; exact ⟨q1, q2, fun i hi => by have := q3 i hi; rw [hlen, HNN.out]; omega⟩)⟩
          case measure => rw [hcell1, HK0.out p1]; omega
        | false =>
          have HM2 := Lib.hid ((HND.out he).symm.trans HM.out)
          obtain ⟨hs1, hs2, hs3⟩ := HSL.out he
          rw [← wAt_len th] at hs1 hs2 hs3
          rw [← wAt_len th (wRight P th)] at hs3
          have HTL := Lib.hid (fun j (hj : j ∈ wAt th (wLeft P th)) => HTH.out j (wAt_mem (fun i hi => ix_lt hi) hj))
          have HTR := Lib.hid (fun j (hj : j ∈ wAt th (wRight P th)) => HTH.out j (wAt_mem (fun i hi => ix_lt hi) hj))
          have KH1 : Hid (∀ Y, Below W3.heap.size W3 Y → Calls Tryz.prog 16 #[.slice ov m cv, .slice ai m ci] Y fun e w' => ∃ u v, e = .returned (.tuple #[u, v, .bool true]) ∧ Ints w' Y.heap.size u (wAt th (wLeft P th)) ∧ Ints w' Y.heap.size v (wAt th (wRight P th)) ∧ Below Y.heap.size Y w') :=
            Lib.hid (fun Y hY => (KH.out Y hY).mono fun e w' ⟨u, v, h1, h2, h3⟩ => ⟨u, v, by rw [h1, he]; rfl, (h2 (by rw [he]; rfl)).1, (h2 (by rw [he]; rfl)).2, h3⟩)
          clear HLF HND HM he HSL KH
          generalize wAt th (wLeft P th) = tl at *
          generalize wAt th (wRight P th) = tr at *
          obtain ⟨c_r_0, c_r_1⟩ := bwc2 (k_r)
          obtain ⟨c_t_0, c_t_1⟩ := bwc2 (k_t)
          obtain ⟨c_x_0, c_x_1⟩ := bwc2 (k_x)
          obtain ⟨p3, hp3⟩ : ∃ p : BW W3, p.w = W3 := ⟨BW.start W3, rfl⟩
          rw [← hp3]
          clear hp3
          go_upto_region 20 with (go_at_call 16; (with_reducible refine (KH1.out _ (BW.h _)).mono ?_); rintro e w2 ⟨ul, ur, rfl, hl, hr, hb2⟩; obtain ⟨q, rfl⟩ := bw_take hb2)
          have hal : Apart2 ul (.slice ao D co) := fun j hj e => by
            have e1 := (World.ownsRow.lt hl j hj).1
            have e2 := (World.ownsRow.lt hst.ord j e).2
            have e3 := p3.h.size
            omega
          have har : Apart2 ur (.slice ao D co) := fun j hj e => by
            have e1 := (World.ownsRow.lt hr j hj).1
            have e2 := (World.ownsRow.lt hst.ord j e).2
            have e3 := p3.h.size
            omega
          have hl := hl.mono (bw_below B3 p3).size
          have hr := hr.mono (bw_below B3 p3).size
          obtain ⟨ol, cl, rfl⟩ := owns_val hl
          obtain ⟨orr, crr, rfl⟩ := owns_val hr
          obtain ⟨ml, hml⟩ : ∃ ml, ml = tl.length := ⟨_, rfl⟩
          obtain ⟨mr, hmr⟩ : ∃ mr, mr = tr.length := ⟨_, rfl⟩
          rw [← hml] at hl hal hs1 hs3 ⊢
          rw [← hmr] at hr har hs2 hs3 ⊢
          have HML := Lib.hid hml
          have HMR := Lib.hid hmr
          clear hml hmr
          have KA := Lib.hid (fun Y (hY : Below q.w.heap.size q.w Y) => KA.out Y (q.h.trans (hY.mono q.h.size)))
          clear KH1
          obtain ⟨W4, hW4⟩ : ∃ W, W = q.w := ⟨_, rfl⟩
          have B4 : Below w.heap.size w W4 := by rw [hW4]; exact (bw_below B3 q)
          have k_r := k_r.below q.h
          rw [← hW4] at k_r
          have k_t := k_t.below q.h
          rw [← hW4] at k_t
          have k_x := k_x.below q.h
          rw [← hW4] at k_x
          have hst := hst.below q.h
          rw [← hW4] at hst
          have hxI := hxI.below q.h
          rw [← hW4] at hxI
          rw [← hW4] at KA
          rw [← hW4] at hl
          rw [← hW4] at hr
          rw [← hW4]
          clear hW4
          clear B3
          clear c_r_0 c_r_1 c_t_0 c_t_1 c_x_0 c_x_1
          obtain ⟨c_r_0, c_r_1⟩ := bwc2 (k_r)
          obtain ⟨c_t_0, c_t_1⟩ := bwc2 (k_t)
          obtain ⟨c_x_0, c_x_1⟩ := bwc2 (k_x)
          obtain ⟨p4, hp4⟩ : ∃ p : BW W4, p.w = W4 := ⟨BW.start W4, rfl⟩
          rw [← hp4]
          clear hp4
          refine wp_region_floatV (t := 43) (zs := #[.int .i64 v1, .int .i64 v2, .int .i64 v3, .int .i64 v4, .int .i64 v5, .int .i64 v6, .int .i64 0, .int .i64 0, .int .i64 0]) 6 5 102 114 [101] (fun g => .slice (some ⟨g, 0, none⟩) 1 1) (by kernel_rfl) (by kernel_rfl) (by kernel_rfl) (by kernel_rfl) rfl rfl ?_
          apply Exists.intro
          refine ⟨?_, ?_, ?_⟩
          · intro wb' hwb'
            obtain ⟨d_r_0, d_r_1⟩ := bwc2 (k_r.below hwb')
            obtain ⟨d_t_0, d_t_1⟩ := bwc2 (k_t.below hwb')
            obtain ⟨d_x_0, d_x_1⟩ := bwc2 (k_x.below hwb')
            simp only [maskAt, List.take_succ_cons, List.take_zero]
            repeat (go_big_quiet_step (first
              | (go_at_call 17; (with_reducible exact (bw_callB KA.out hwb') _))))
            refine wpQuiet_nil ?_
            exact rfl
          · intro ax wx hp
            have e101 := hp 101 (by decide)
            clear hp
            simp only [Act.put, List.setIfInBounds_toArray, List.set_cons_zero, List.set_cons_succ, List.getElem?_toArray, List.getElem?_cons_succ, List.getElem?_cons_zero] at e101
            exact ⟨by simp [Region.wanted, yielded, e101], by simp [execOp, go_sem, Act.eval, e101]⟩
          intro W5 g_nb hW hg k_nb
          have B5 : Below w.heap.size w W5 := B4.trans (hW.mono B4.size)
          have o_nb : w.heap.size ≤ g_nb := Nat.le_trans B4.size hg
          have hst := hst.below hW
          have hxI := hxI.below hW
          have hl := hl.below hW
          have hr := hr.below hW
          have l_nb : g_x < g_nb := Nat.lt_of_lt_of_le k_x.lt hg
          have k_r := k_r.below hW
          have k_t := k_t.below hW
          have k_x := k_x.below hW
          clear hW hg B4
          clear c_r_0 c_r_1 c_t_0 c_t_1 c_x_0 c_x_1
          simp only [List.drop_succ_cons, List.drop_zero, Act.put, List.setIfInBounds_toArray, List.set_cons_zero, List.set_cons_succ]
          have hsz := B5.size
          go_wp2_with (at_builtin; refine wpList_append_at rfl _ _ 25 rfl w.heap.size 43 i0 _ 9 72 Tryz.underlying25 hi0 hz0 hz1 hz2 rfl (by decide) _ N (n1.flatMap ncells) rfl (by have h := hst.nod; unfold NodRow at h; rw [hl1] at h; exact h) ⟨g_nb, 0, none⟩ 1 1 (ncells (((v1, v2, v3), v4, v5, v6), 0, 0, 0)) rfl rfl ?g1 ?g2 ?g3 ?g4 ?g5 ?_)
          case g1 => exact cells_at15 k_nb
          case g2 => exact ncells_one _
          case g3 => unfold maxLen; omega
          case g4 => omega
          case g5 => omega
          intro vn w1 hown hgrow hat
          obtain ⟨an, cn2, rfl⟩ := owns_val hown
          have hrow : NodRow w1 w.heap.size (.slice an (N + 1) cn2) (n1 ++ [(((v1, v2, v3), v4, v5, v6), 0, 0, 0)]) := by unfold NodRow; rw [List.length_append, hl1, List.flatMap_append, List.flatMap_cons, List.flatMap_nil, List.append_nil]; exact hown
          have hs1 := hst.putNode hrow hgrow
          have hb1 : Below w.heap.size w w1 := B5.grown hgrow hsz (fun j ej => (World.ownsRow.lt hst.nod j ej).1)
          have kr1 := grown_bk hst.nod k_r (by decide) hgrow
          have kt1 := grown_bk hst.nod k_t (by decide) hgrow
          have hx1 := owns_grown hxI hgrow (apart_row (owns_types hst.nod hxI (by decide)))
          have kx1 := grown_bk hst.nod k_x (by decide) hgrow
          have hl_1 := owns_grown hl hgrow (apart_row (owns_types hst.nod hl (by decide)))
          have hr_1 := owns_grown hr hgrow (apart_row (owns_types hst.nod hr (by decide)))
          clear hown hgrow hat hrow hst hxI k_r k_t k_x k_nb
          have q0 := kt1.cell (i := 0) rfl
          have q1 := kt1.frozen 0
          go_upto_region 21 with (fail)
          obtain ⟨W6, hW6⟩ : ∃ W, W = w1.setCell ⟨g_t, 0, none⟩ (.slice an (N + 1) cn2) := ⟨_, rfl⟩
          have B6 : Below w.heap.size w W6 := by rw [hW6]; exact hb1.setCell (p := ⟨g_t, 0, none⟩) (by show w.heap.size ≤ g_t; omega) _
          have k_r : Bk W6 w.heap.size 28 #[.slice none 0 0, .slice none 0 0] := by rw [hW6]; exact kr1.other (a := ⟨g_t, 0, none⟩) (by show ¬ w.heap.size = g_t; omega) _
          have k_t : Bk W6 g_t 28 #[.slice an (N + 1) cn2, .slice ao D co] := by rw [hW6]; exact (kt1.set 0 _).cast (by simp)
          have hst := hs1.setT (i := 0) (x := .slice an (N + 1) cn2) kt1
          rw [← hW6] at hst
          have hxI : Ints W6 w.heap.size (.slice ov m cv) th := by rw [hW6]; exact owns_setbk hx1 (a := ⟨g_t, 0, none⟩) (owns_bk hx1 kt1 (by decide)) _
          have k_x : Bk W6 g_x 52 #[.slice ov m cv, .int .i64 (-1)] := by rw [hW6]; exact kx1.other (a := ⟨g_t, 0, none⟩) (by show ¬ g_x = g_t; omega) _
          have hl : Ints W6 w.heap.size (.slice ol ml cl) tl := by rw [hW6]; exact owns_setbk hl_1 (a := ⟨g_t, 0, none⟩) (owns_bk hl_1 kt1 (by decide)) _
          have hr : Ints W6 w.heap.size (.slice orr mr crr) tr := by rw [hW6]; exact owns_setbk hr_1 (a := ⟨g_t, 0, none⟩) (owns_bk hr_1 kt1 (by decide)) _
          rw [← hW6]
          clear hW6 hb1 kr1 kt1 hs1 q0 q1 kx1 hx1
          obtain ⟨c_r_0, c_r_1⟩ := bwc2 (k_r)
          obtain ⟨c_t_0, c_t_1⟩ := bwc2 (k_t)
          obtain ⟨c_x_0, c_x_1⟩ := bwc2 (k_x)
          obtain ⟨p6, hp6⟩ : ∃ p : BW W6, p.w = W6 := ⟨BW.start W6, rfl⟩
          rw [← hp6]
          clear hp6
          go_wp2_with (at_builtin; refine wpList_append_at rfl _ _ 53 rfl w.heap.size 52 i2 _ 2 32 Tryz.underlying53 hi2 hw0 hw1 hw2 rfl (by decide) _ L (X.reverse.flatMap pcell2) rfl (World.ownsRow.alloc (by have h := (hst.below (BW.h p6)).stk; unfold PrtRow at h; rw [← HL.out] at h; exact h) _) ⟨_, 0, none⟩ 2 2 [.slice orr mr crr, .int .i64 (N : Int), .slice ol ml cl, .int .i64 (-1)] rfl rfl ?g1 ?g2 ?g3 ?g4 ?g5 ?_)
          case g1 => exact cells_new _ #[.slice orr mr crr, .int .i64 (N : Int), .slice ol ml cl, .int .i64 (-1)] _
          case g2 => intro u hu; simp only [List.mem_cons, List.not_mem_nil, or_false] at hu; rcases hu with rfl | rfl | rfl | rfl <;> rfl
          case g3 => unfold maxLen; omega
          case g4 => omega
          case g5 => have := (bw_below B6 p6).size; simp; omega
          intro vs w1 hown hgrow hat
          have hst0 := bst_alloc (o := .cells #[.slice orr mr crr, .int .i64 (N : Int), .slice ol ml cl, .int .i64 (-1)] 52) rfl (hst.below p6.h)
          have hl0 := ints_alloc (o := .cells #[.slice orr mr crr, .int .i64 (N : Int), .slice ol ml cl, .int .i64 (-1)] 52) rfl (hl.below p6.h)
          have hr0 := ints_alloc (o := .cells #[.slice orr mr crr, .int .i64 (N : Int), .slice ol ml cl, .int .i64 (-1)] 52) rfl (hr.below p6.h)
          have hrow : PrtRow w1 w.heap.size vs ((.slice ol ml cl, tl, none) :: (.slice orr mr crr, tr, some N) :: X) := by
            unfold PrtRow
            rw [List.reverse_cons, List.reverse_cons, List.append_assoc, List.flatMap_append, List.length_cons, List.length_cons, ← HL.out]
            exact hown
          have hst1 := hst0.putStk hrow hgrow (fun x hx => by
            rcases List.mem_cons.1 hx with rfl | hx
            · exact ⟨hl0, hal⟩
            · rcases List.mem_cons.1 hx with rfl | hx
              · exact ⟨hr0, har⟩
              · exact hst0.prt x hx)
          have hsz := (bw_below B6 p6).size
          have hb1 : Below w.heap.size w w1 := ((bw_below B6 p6).alloc hsz _).grown hgrow (by simp; omega) (fun j ej => (World.ownsRow.lt hst0.stk j ej).1)
          have kr1 := grown_bk hst0.stk ((k_r.below p6.h).alloc (.cells #[.slice orr mr crr, .int .i64 (N : Int), .slice ol ml cl, .int .i64 (-1)] 52)) (by decide) hgrow
          have kt1 := grown_bk hst0.stk ((k_t.below p6.h).alloc (.cells #[.slice orr mr crr, .int .i64 (N : Int), .slice ol ml cl, .int .i64 (-1)] 52)) (by decide) hgrow
          go_wp2
          have hcell1 := cellL_of (kt1.cell (i := 0) rfl)
          have hlen : (n1 ++ [(((v1, v2, v3), v4, v5, v6), 0, 0, 0)]).length = N + 1 := by rw [List.length_append, hl1]; rfl
          go_roundw
          case rel => exact ⟨(.slice ol ml cl, tl, none) :: (.slice orr mr crr, tr, some N) :: X, _, _, n1 ++ [(((v1, v2, v3), v4, v5, v6), 0, 0, 0)], od, hst1, kr1, kt1, hb1, HM2, ⟨by simp only [List.map_cons, mMass]; rw [← HDD.out, ← HML.out, ← HMR.out, ← HMS.out]; omega, by simp only [List.map_cons, mMass, List.length_cons]; rw [hlen, ← HML.out, ← HMR.out, ← HMS.out, ← HL.out]; omega⟩, Lib.hid (fun x hx => by
            rcases List.mem_cons.1 hx with rfl | hx
            · exact ⟨by dsimp only; rw [← HML.out]; exact hs1, HTL.out, fun i hi => by cases hi⟩
            · rcases List.mem_cons.1 hx with rfl | hx
              · exact ⟨by dsimp only; rw [← HMR.out]; exact hs2, HTR.out, fun i hi => by cases hi; rw [hlen]; omega⟩
              · obtain ⟨e1, e2, e3⟩ := HXX.out x hx
                exact ⟨e1, e2, fun i hi => by have := e3 i hi; rw [hlen, HNN.out]; omega⟩)⟩
          case measure => rw [hcell1, HK0.out p1]; omega
      | some i =>
        obtain rfl : ρ = (i : Int) := HRO.out
        have hi : i < N := by rw [HNN.out]; exact hro i rfl
        have t1 : ((i : Int) == -1) = false := by rw [beq_eq_false_iff_ne]; omega
        obtain ⟨gn, cn, hua, hgnB, hgnlt, hgnc⟩ := owns_some hst.nod (by rw [← HNN.out]; omega)
        rw [← HNN.out] at hua
        cases hua
        have hii : i < ns.length := by rw [← HNN.out]; exact hi
        have z8 : ∀ p : BW W2, p.w.cell? ⟨gn, i * 9 + 8, none⟩ = some (.int .i64 ns[i].2.2.2) := bw_cell (by
          have h := hst.nod
          unfold NodRow at h
          rw [← HNN.out] at h
          exact owns_at ncells_len h hii (by omega : 8 < 9))
        have z9 : ∀ p : BW W2, p.w.frozen? ⟨gn, i * 9 + 8, none⟩ = false := fun p => World.ownsRow.frozenAt (by have h := (hst.below p.h).nod; unfold NodRow at h; rw [← HNN.out] at h; exact h) _
        go_upto_region 15 with (fail)
        obtain ⟨W3, hW3⟩ : ∃ W, W = p2.w.setCell ⟨gn, i * 9 + 8, none⟩ (.int .i64 (N : Int)) := ⟨_, rfl⟩
        have B3 : Below w.heap.size w W3 := by rw [hW3]; exact (bw_below B2 p2).setCell (p := ⟨gn, i * 9 + 8, none⟩) hgnB _
        have k_r : Bk W3 w.heap.size 28 #[.slice none 0 0, .slice none 0 0] := by rw [hW3]; exact (k_r.below p2.h).other (a := ⟨gn, i * 9 + 8, none⟩) (fun e => owns_bk (hst.below p2.h).nod (k_r.below p2.h) (by decide) (by show some gn = _; rw [e])) _
        have k_t : Bk W3 g_t 28 #[.slice (some ⟨gn, 0, none⟩) N cu, .slice ao D co] := by rw [hW3]; exact (k_t.below p2.h).other (a := ⟨gn, i * 9 + 8, none⟩) (fun e => owns_bk (hst.below p2.h).nod (k_t.below p2.h) (by decide) (by show some gn = _; rw [e])) _
        have k_x : Bk W3 g_x 52 #[.slice ov m cv, .int .i64 (i : Int)] := by rw [hW3]; exact (k_x.below p2.h).other (a := ⟨gn, i * 9 + 8, none⟩) (fun e => owns_bk (hst.below p2.h).nod (k_x.below p2.h) (by decide) (by show some gn = _; rw [e])) _
        have hs0 := hst.below p2.h
        have hx0 := hxI.below p2.h
        have hxI : Ints W3 w.heap.size (.slice ov m cv) th := by rw [hW3]; exact owns_setbk hx0 (a := ⟨gn, i * 9 + 8, none⟩) (fun e => owns_types hs0.nod hx0 (by decide) gn rfl e) _
        have hs1 : BSt W3 w.heap.size ub (.slice (some ⟨gn, 0, none⟩) N cu) (.slice ao D co) (.slice (some ⟨gs, 0, none⟩) L cs) bx (setR ns (some i) N) od X := by
          rw [HNN.out] at hs0
          have h := (BSt.setRgt (k := N) hs0 hii).1
          rw [← HNN.out] at h
          rw [hW3]
          exact h
        clear hst hs0 hx0 z8 z9
        obtain ⟨n1, hn1⟩ : ∃ n1, n1 = setR ns (some i) N := ⟨_, rfl⟩
        rw [← hn1] at hs1
        have hl1 : n1.length = N := by rw [hn1, setR_len, ← HNN.out]
        have HN1 := Lib.hid hn1
        have hst := hs1
        clear hn1 hs1
        rw [← hW3]
        clear hW3 B2
        clear c_r_0 c_r_1 c_t_0 c_t_1 c_x_0 c_x_1
        obtain ⟨c_r_0, c_r_1⟩ := bwc2 (k_r)
        obtain ⟨c_t_0, c_t_1⟩ := bwc2 (k_t)
        obtain ⟨c_x_0, c_x_1⟩ := bwc2 (k_x)
        obtain ⟨p3, hp3⟩ : ∃ p : BW W3, p.w = W3 := ⟨BW.start W3, rfl⟩
        rw [← hp3]
        clear hp3
        obtain ⟨hbxs, ab, cb, rfl⟩ := boxrow_boxes (by rw [← HBX.out]; exact hst.box) (show n ≤ 1048576 by omega)
        have hmn : m ≤ 1024 := by omega
        obtain ⟨ov1, cv1, hv1, sth⟩ := hxI.slice (fun k hk => by have := HTH.out k hk; omega)
        rw [← HMM.out] at hv1 sth
        cases hv1
        have KC : Hid (∀ Y, Below W3.heap.size W3 Y → Calls Tryz.prog 15 #[.slice ab n cb, .slice ov m cv] Y fun e w' => ∃ u, e = .returned u ∧ BoxRow w' Y.heap.size u (bls (wBox P th) m) ∧ Below Y.heap.size Y w') :=
          Lib.hid (fun Y hY => tree_chosen_box ab ov n cb m cv (fun k => pBox (P k)) (fun i => ((th.getD i 0 : Nat) : Int)) Y (hbxs.below hY (Nat.le_refl _)) (intslice_down15 sth hY) (fun k hk => ⟨by omega, by
            have hk2 : k < th.length := by rw [← HMM.out]; exact hk
            have := HTH.out (th.getD k 0) (by rw [getD_at hk2]; exact List.getElem_mem _)
            omega⟩) hmn)
        go_upto_region 16 with (go_at_call 15; (with_reducible refine (KC.out _ (BW.h _)).mono ?_); rintro e w2 ⟨ui, rfl, hin, hb2⟩; obtain ⟨q, rfl⟩ := bw_take hb2)
        clear KC hbxs
        obtain ⟨W4, hW4⟩ : ∃ W, W = q.w := ⟨_, rfl⟩
        have B4 : Below w.heap.size w W4 := by rw [hW4]; exact (bw_below B3 q)
        have k_r := k_r.below q.h
        rw [← hW4] at k_r
        have k_t := k_t.below q.h
        rw [← hW4] at k_t
        have k_x := k_x.below q.h
        rw [← hW4] at k_x
        have hst := hst.below q.h
        rw [← hW4] at hst
        have hxI := hxI.below q.h
        rw [← hW4] at hxI
        rw [← hW4] at hin
        rw [← hW4]
        clear hW4
        clear B3
        clear c_r_0 c_r_1 c_t_0 c_t_1 c_x_0 c_x_1
        obtain ⟨hib, ai, ci, rfl⟩ := boxrow_boxes hin (show m ≤ 1048576 by omega)
        obtain ⟨ov2, cv2, hv2, sth2⟩ := hxI.slice (fun k hk => by have := HTH.out k hk; omega)
        rw [← HMM.out] at hv2
        cases hv2
        have KH : Hid (∀ Y, Below W4.heap.size W4 Y → Calls Tryz.prog 16 #[.slice ov m cv, .slice ai m ci] Y fun e w' => ∃ u v, e = .returned (.tuple #[u, v, .bool (!wEnds P th)]) ∧ ((!wEnds P th) = true → Ints w' Y.heap.size u (wAt th (wLeft P th)) ∧ Ints w' Y.heap.size v (wAt th (wRight P th))) ∧ Below Y.heap.size Y w') := by
          refine Lib.hid (fun Y hY => ?_)
          have h := tree_halves ov ai cv ci th (wBox P th) Y (intslice_down15 sth2 hY) (by rw [← HMM.out]; exact hib.below hY (Nat.le_refl _)) (by rw [← HMM.out]; exact hmn)
          rw [wEnds_not] at h
          rw [HMM.out]
          exact h
        have KA : Hid (∀ Y, Below W4.heap.size W4 Y → Calls Tryz.prog 17 #[.slice ai m ci] Y fun e w' => e = .returned (.agg #[.int .i64 (bAll (wBox P th) m).1.1, .int .i64 (bAll (wBox P th) m).1.2.1, .int .i64 (bAll (wBox P th) m).1.2.2, .int .i64 (bAll (wBox P th) m).2.1, .int .i64 (bAll (wBox P th) m).2.2.1, .int .i64 (bAll (wBox P th) m).2.2.2]) ∧ Below Y.heap.size Y w') :=
          Lib.hid (fun Y hY => tree_around ai m ci (wBox P th) Y (hib.below hY (Nat.le_refl _)) hth0 (by omega))
        have HLF := Lib.hid (fun he => mRun_leaf (P := P) (th := th) (r := (some i)) (rest := X.map (·.2)) (ns := ns) (od := od) (by rw [← HMM.out]; exact hth0) he)
        have HND := Lib.hid (fun he => mRun_node (P := P) (th := th) (r := (some i)) (rest := X.map (·.2)) (ns := ns) (od := od) he)
        have HSL := Lib.hid (fun he => wSplit_less (P := P) (which := th) he)
        rw [← HNN.out, ← HN1.out, ← HMM.out] at HLF HND
        rw [← HDD.out] at HLF
        rw [← HMM.out] at HSL
        obtain ⟨bb, hbb⟩ : ∃ bb, bb = bAll (wBox P th) m := ⟨_, rfl⟩
        rw [← hbb] at KA HLF HND
        clear hbb sth sth2 hib hin
        obtain ⟨⟨v1, v2, v3⟩, v4, v5, v6⟩ := bb
        dsimp only at KA
        cases he : wEnds P th with
        | true =>
          have HM2 := Lib.hid ((HLF.out he).symm.trans HM.out)
          have KH1 : Hid (∀ Y, Below W4.heap.size W4 Y → Calls Tryz.prog 16 #[.slice ov m cv, .slice ai m ci] Y fun e w' => ∃ u v, e = .returned (.tuple #[u, v, .bool false]) ∧ Below Y.heap.size Y w') :=
            Lib.hid (fun Y hY => (KH.out Y hY).mono fun e w' ⟨u, v, h1, _, h3⟩ => ⟨u, v, by rw [h1, he]; rfl, h3⟩)
          clear HLF HND HM he HSL KH
          obtain ⟨c_r_0, c_r_1⟩ := bwc2 (k_r)
          obtain ⟨c_t_0, c_t_1⟩ := bwc2 (k_t)
          obtain ⟨c_x_0, c_x_1⟩ := bwc2 (k_x)
          obtain ⟨p4, hp4⟩ : ∃ p : BW W4, p.w = W4 := ⟨BW.start W4, rfl⟩
          rw [← hp4]
          clear hp4
          go_upto_region 18 with (go_at_call 16; (with_reducible refine (KH1.out _ (BW.h _)).mono ?_); rintro e w2 ⟨ul, ur, rfl, hb2⟩; obtain ⟨q, rfl⟩ := bw_take hb2)
          have KA := Lib.hid (fun Y (hY : Below q.w.heap.size q.w Y) => KA.out Y (q.h.trans (hY.mono q.h.size)))
          clear KH1
          obtain ⟨W5, hW5⟩ : ∃ W, W = q.w := ⟨_, rfl⟩
          have B5 : Below w.heap.size w W5 := by rw [hW5]; exact (bw_below B4 q)
          have k_r := k_r.below q.h
          rw [← hW5] at k_r
          have k_t := k_t.below q.h
          rw [← hW5] at k_t
          have k_x := k_x.below q.h
          rw [← hW5] at k_x
          have hst := hst.below q.h
          rw [← hW5] at hst
          have hxI := hxI.below q.h
          rw [← hW5] at hxI
          rw [← hW5] at KA
          rw [← hW5]
          clear hW5
          clear B4
          clear c_r_0 c_r_1 c_t_0 c_t_1 c_x_0 c_x_1
          obtain ⟨c_r_0, c_r_1⟩ := bwc2 (k_r)
          obtain ⟨c_t_0, c_t_1⟩ := bwc2 (k_t)
          obtain ⟨c_x_0, c_x_1⟩ := bwc2 (k_x)
          obtain ⟨p5, hp5⟩ : ∃ p : BW W5, p.w = W5 := ⟨BW.start W5, rfl⟩
          rw [← hp5]
          clear hp5
          refine wp_region_floatV (t := 43) (zs := #[.int .i64 v1, .int .i64 v2, .int .i64 v3, .int .i64 v4, .int .i64 v5, .int .i64 v6, .int .i64 (D : Int), .int .i64 (m : Int), .int .i64 0]) 12 11 88 114 [87] (fun g => .slice (some ⟨g, 0, none⟩) 1 1) (by kernel_rfl) (by kernel_rfl) (by kernel_rfl) (by kernel_rfl) rfl rfl ?_
          apply Exists.intro
          refine ⟨?_, ?_, ?_⟩
          · intro wb' hwb'
            obtain ⟨d_r_0, d_r_1⟩ := bwc2 (k_r.below hwb')
            obtain ⟨d_t_0, d_t_1⟩ := bwc2 (k_t.below hwb')
            obtain ⟨d_x_0, d_x_1⟩ := bwc2 (k_x.below hwb')
            simp only [maskAt, List.take_succ_cons, List.take_zero]
            repeat (go_big_quiet_step (first
              | (go_at_call 17; (with_reducible exact (bw_callB KA.out hwb') _))))
            refine wpQuiet_nil ?_
            exact rfl
          · intro ax wx hp
            have e87 := hp 87 (by decide)
            clear hp
            simp only [Act.put, List.setIfInBounds_toArray, List.set_cons_zero, List.set_cons_succ, List.getElem?_toArray, List.getElem?_cons_succ, List.getElem?_cons_zero] at e87
            exact ⟨by simp [Region.wanted, yielded, e87], by simp [execOp, go_sem, Act.eval, e87]⟩
          intro W6 g_nb hW hg k_nb
          have B6 : Below w.heap.size w W6 := B5.trans (hW.mono B5.size)
          have o_nb : w.heap.size ≤ g_nb := Nat.le_trans B5.size hg
          have hst := hst.below hW
          have hxI := hxI.below hW
          have l_nb : g_x < g_nb := Nat.lt_of_lt_of_le k_x.lt hg
          have k_r := k_r.below hW
          have k_t := k_t.below hW
          have k_x := k_x.below hW
          clear hW hg B5
          clear c_r_0 c_r_1 c_t_0 c_t_1 c_x_0 c_x_1
          simp only [List.drop_succ_cons, List.drop_zero, Act.put, List.setIfInBounds_toArray, List.set_cons_zero, List.set_cons_succ]
          have hsz := B6.size
          go_wp2_with (at_builtin; refine wpList_append_at rfl _ _ 25 rfl w.heap.size 43 i0 _ 9 72 Tryz.underlying25 hi0 hz0 hz1 hz2 rfl (by decide) _ N (n1.flatMap ncells) rfl (by have h := hst.nod; unfold NodRow at h; rw [hl1] at h; exact h) ⟨g_nb, 0, none⟩ 1 1 (ncells (((v1, v2, v3), v4, v5, v6), (D : Int), (m : Int), 0)) rfl rfl ?g1 ?g2 ?g3 ?g4 ?g5 ?_)
          case g1 => exact cells_at15 k_nb
          case g2 => exact ncells_one _
          case g3 => unfold maxLen; omega
          case g4 => omega
          case g5 => omega
          intro vn w1 hown hgrow hat
          obtain ⟨an, cn2, rfl⟩ := owns_val hown
          have hrow : NodRow w1 w.heap.size (.slice an (N + 1) cn2) (n1 ++ [(((v1, v2, v3), v4, v5, v6), (D : Int), (m : Int), 0)]) := by unfold NodRow; rw [List.length_append, hl1, List.flatMap_append, List.flatMap_cons, List.flatMap_nil, List.append_nil]; exact hown
          have hs1 := hst.putNode hrow hgrow
          have hb1 : Below w.heap.size w w1 := B6.grown hgrow hsz (fun j ej => (World.ownsRow.lt hst.nod j ej).1)
          have kr1 := grown_bk hst.nod k_r (by decide) hgrow
          have kt1 := grown_bk hst.nod k_t (by decide) hgrow
          have hx1 := owns_grown hxI hgrow (apart_row (owns_types hst.nod hxI (by decide)))
          have kx1 := grown_bk hst.nod k_x (by decide) hgrow
          clear hown hgrow hat hrow hst hxI k_r k_t k_x k_nb
          have q0 := kt1.cell (i := 0) rfl
          have q1 := kt1.frozen 0
          go_upto_region 19 with (fail)
          obtain ⟨W7, hW7⟩ : ∃ W, W = w1.setCell ⟨g_t, 0, none⟩ (.slice an (N + 1) cn2) := ⟨_, rfl⟩
          have B7 : Below w.heap.size w W7 := by rw [hW7]; exact hb1.setCell (p := ⟨g_t, 0, none⟩) (by show w.heap.size ≤ g_t; omega) _
          have k_r : Bk W7 w.heap.size 28 #[.slice none 0 0, .slice none 0 0] := by rw [hW7]; exact kr1.other (a := ⟨g_t, 0, none⟩) (by show ¬ w.heap.size = g_t; omega) _
          have k_t : Bk W7 g_t 28 #[.slice an (N + 1) cn2, .slice ao D co] := by rw [hW7]; exact (kt1.set 0 _).cast (by simp)
          have hst := hs1.setT (i := 0) (x := .slice an (N + 1) cn2) kt1
          rw [← hW7] at hst
          have hxI : Ints W7 w.heap.size (.slice ov m cv) th := by rw [hW7]; exact owns_setbk hx1 (a := ⟨g_t, 0, none⟩) (owns_bk hx1 kt1 (by decide)) _
          have k_x : Bk W7 g_x 52 #[.slice ov m cv, .int .i64 (i : Int)] := by rw [hW7]; exact kx1.other (a := ⟨g_t, 0, none⟩) (by show ¬ g_x = g_t; omega) _
          rw [← hW7]
          clear hW7 hb1 kr1 kt1 hs1 q0 q1 kx1 hx1
          obtain ⟨c_r_0, c_r_1⟩ := bwc2 (k_r)
          obtain ⟨c_t_0, c_t_1⟩ := bwc2 (k_t)
          obtain ⟨c_x_0, c_x_1⟩ := bwc2 (k_x)
          obtain ⟨p7, hp7⟩ : ∃ p : BW W7, p.w = W7 := ⟨BW.start W7, rfl⟩
          rw [← hp7]
          clear hp7
          obtain ⟨gv, cv3, hv3, hgvB, hgvl, hgvc⟩ := owns_some hxI (by rw [← HMM.out]; exact hth0)
          rw [← HMM.out] at hv3
          cases hv3
          go_wp2_with (at_builtin; refine wpList_append_at rfl _ _ 26 rfl w.heap.size 3 i1 (.int .i64 0) 1 8 Tryz.underlying26 hi1 hy0 hy1 hy2 rfl (by decide) _ D (od.map (fun k : Nat => Value.int .i64 (k : Int))) rfl (by have h := (hst.below (BW.h p7)).ord; unfold Ints at h; rw [← HDD.out] at h; exact h) ⟨gv, 0, none⟩ m cv (th.map (fun k : Nat => Value.int .i64 (k : Int))) rfl (by rw [List.length_map, Nat.mul_one, ← HMM.out]) ?g1 ?g2 ?g3 ?g4 ?g5 ?_)
          case g1 => exact World.ownsRow.cells (hxI.below (BW.h p7)) rfl
          case g2 => intro u hu; obtain ⟨k, _, rfl⟩ := List.mem_map.1 hu; rfl
          case g3 => unfold maxLen; omega
          case g4 => omega
          case g5 => exact (bw_below B7 p7).size
          intro vo w1 hown hgrow hat
          obtain ⟨ao2, co2, rfl⟩ := owns_val hown
          have hst0 := hst.below p7.h
          have hrow : Ints w1 w.heap.size (.slice ao2 (D + m) co2) (od ++ th) := by unfold Ints; rw [List.length_append, ← HDD.out, ← HMM.out, List.map_append]; exact hown
          have hs1 := hst0.putOrd hrow hgrow (by simpa using hat)
          have hb1 : Below w.heap.size w w1 := (bw_below B7 p7).grown hgrow (bw_below B7 p7).size (fun j ej => (World.ownsRow.lt hst0.ord j ej).1)
          have kr1 := grown_bk hst0.ord (k_r.below p7.h) (by decide) hgrow
          have kt1 := grown_bk hst0.ord (k_t.below p7.h) (by decide) hgrow
          have q2 := kt1.cell (i := 1) rfl
          have q3 := kt1.frozen 1
          go_wp2
          have hst := hs1.setT (i := 1) (x := .slice ao2 (D + m) co2) kt1
          have kt2 := (kt1.set 1 (.slice ao2 (D + m) co2)).cast (ds := #[.slice an (N + 1) cn2, .slice ao2 (D + m) co2]) (by simp)
          have hcell1 := cellL_of (kt2.cell (i := 0) rfl)
          have hlen : (n1 ++ [(((v1, v2, v3), v4, v5, v6), (D : Int), (m : Int), 0)]).length = N + 1 := by rw [List.length_append, hl1]; rfl
          have hlo : (od ++ th).length = D + m := by rw [List.length_append, ← HDD.out, ← HMM.out]
          go_roundw
          case rel => exact ⟨X, _, _, n1 ++ [(((v1, v2, v3), v4, v5, v6), (D : Int), (m : Int), 0)], od ++ th, hst, kr1.other (a := ⟨g_t, 1, none⟩) (by show ¬ w.heap.size = g_t; omega) _, kt2, hb1.setCell (p := ⟨g_t, 1, none⟩) (by show w.heap.size ≤ g_t; omega) _, HM2, ⟨by rw [hlo, ← HMS.out]; omega, by rw [hlen, ← HMS.out, ← HL.out]; omega⟩, Lib.hid (fun x hx => by obtain ⟨q1, q2, q3⟩ := HXX.out x hx; exact ⟨q1, q2, fun i hi => by have := q3 i hi; rw [hlen, HNN.out]; omega⟩)⟩
          case measure => rw [hcell1, HK0.out p1]; omega
        | false =>
          have HM2 := Lib.hid ((HND.out he).symm.trans HM.out)
          obtain ⟨hs1, hs2, hs3⟩ := HSL.out he
          rw [← wAt_len th] at hs1 hs2 hs3
          rw [← wAt_len th (wRight P th)] at hs3
          have HTL := Lib.hid (fun j (hj : j ∈ wAt th (wLeft P th)) => HTH.out j (wAt_mem (fun i hi => ix_lt hi) hj))
          have HTR := Lib.hid (fun j (hj : j ∈ wAt th (wRight P th)) => HTH.out j (wAt_mem (fun i hi => ix_lt hi) hj))
          have KH1 : Hid (∀ Y, Below W4.heap.size W4 Y → Calls Tryz.prog 16 #[.slice ov m cv, .slice ai m ci] Y fun e w' => ∃ u v, e = .returned (.tuple #[u, v, .bool true]) ∧ Ints w' Y.heap.size u (wAt th (wLeft P th)) ∧ Ints w' Y.heap.size v (wAt th (wRight P th)) ∧ Below Y.heap.size Y w') :=
            Lib.hid (fun Y hY => (KH.out Y hY).mono fun e w' ⟨u, v, h1, h2, h3⟩ => ⟨u, v, by rw [h1, he]; rfl, (h2 (by rw [he]; rfl)).1, (h2 (by rw [he]; rfl)).2, h3⟩)
          clear HLF HND HM he HSL KH
          generalize wAt th (wLeft P th) = tl at *
          generalize wAt th (wRight P th) = tr at *
          obtain ⟨c_r_0, c_r_1⟩ := bwc2 (k_r)
          obtain ⟨c_t_0, c_t_1⟩ := bwc2 (k_t)
          obtain ⟨c_x_0, c_x_1⟩ := bwc2 (k_x)
          obtain ⟨p4, hp4⟩ : ∃ p : BW W4, p.w = W4 := ⟨BW.start W4, rfl⟩
          rw [← hp4]
          clear hp4
          go_upto_region 20 with (go_at_call 16; (with_reducible refine (KH1.out _ (BW.h _)).mono ?_); rintro e w2 ⟨ul, ur, rfl, hl, hr, hb2⟩; obtain ⟨q, rfl⟩ := bw_take hb2)
          have hal : Apart2 ul (.slice ao D co) := fun j hj e => by
            have e1 := (World.ownsRow.lt hl j hj).1
            have e2 := (World.ownsRow.lt hst.ord j e).2
            have e3 := p4.h.size
            omega
          have har : Apart2 ur (.slice ao D co) := fun j hj e => by
            have e1 := (World.ownsRow.lt hr j hj).1
            have e2 := (World.ownsRow.lt hst.ord j e).2
            have e3 := p4.h.size
            omega
          have hl := hl.mono (bw_below B4 p4).size
          have hr := hr.mono (bw_below B4 p4).size
          obtain ⟨ol, cl, rfl⟩ := owns_val hl
          obtain ⟨orr, crr, rfl⟩ := owns_val hr
          obtain ⟨ml, hml⟩ : ∃ ml, ml = tl.length := ⟨_, rfl⟩
          obtain ⟨mr, hmr⟩ : ∃ mr, mr = tr.length := ⟨_, rfl⟩
          rw [← hml] at hl hal hs1 hs3 ⊢
          rw [← hmr] at hr har hs2 hs3 ⊢
          have HML := Lib.hid hml
          have HMR := Lib.hid hmr
          clear hml hmr
          have KA := Lib.hid (fun Y (hY : Below q.w.heap.size q.w Y) => KA.out Y (q.h.trans (hY.mono q.h.size)))
          clear KH1
          obtain ⟨W5, hW5⟩ : ∃ W, W = q.w := ⟨_, rfl⟩
          have B5 : Below w.heap.size w W5 := by rw [hW5]; exact (bw_below B4 q)
          have k_r := k_r.below q.h
          rw [← hW5] at k_r
          have k_t := k_t.below q.h
          rw [← hW5] at k_t
          have k_x := k_x.below q.h
          rw [← hW5] at k_x
          have hst := hst.below q.h
          rw [← hW5] at hst
          have hxI := hxI.below q.h
          rw [← hW5] at hxI
          rw [← hW5] at KA
          rw [← hW5] at hl
          rw [← hW5] at hr
          rw [← hW5]
          clear hW5
          clear B4
          clear c_r_0 c_r_1 c_t_0 c_t_1 c_x_0 c_x_1
          obtain ⟨c_r_0, c_r_1⟩ := bwc2 (k_r)
          obtain ⟨c_t_0, c_t_1⟩ := bwc2 (k_t)
          obtain ⟨c_x_0, c_x_1⟩ := bwc2 (k_x)
          obtain ⟨p5, hp5⟩ : ∃ p : BW W5, p.w = W5 := ⟨BW.start W5, rfl⟩
          rw [← hp5]
          clear hp5
          refine wp_region_floatV (t := 43) (zs := #[.int .i64 v1, .int .i64 v2, .int .i64 v3, .int .i64 v4, .int .i64 v5, .int .i64 v6, .int .i64 0, .int .i64 0, .int .i64 0]) 6 5 102 114 [101] (fun g => .slice (some ⟨g, 0, none⟩) 1 1) (by kernel_rfl) (by kernel_rfl) (by kernel_rfl) (by kernel_rfl) rfl rfl ?_
          apply Exists.intro
          refine ⟨?_, ?_, ?_⟩
          · intro wb' hwb'
            obtain ⟨d_r_0, d_r_1⟩ := bwc2 (k_r.below hwb')
            obtain ⟨d_t_0, d_t_1⟩ := bwc2 (k_t.below hwb')
            obtain ⟨d_x_0, d_x_1⟩ := bwc2 (k_x.below hwb')
            simp only [maskAt, List.take_succ_cons, List.take_zero]
            repeat (go_big_quiet_step (first
              | (go_at_call 17; (with_reducible exact (bw_callB KA.out hwb') _))))
            refine wpQuiet_nil ?_
            exact rfl
          · intro ax wx hp
            have e101 := hp 101 (by decide)
            clear hp
            simp only [Act.put, List.setIfInBounds_toArray, List.set_cons_zero, List.set_cons_succ, List.getElem?_toArray, List.getElem?_cons_succ, List.getElem?_cons_zero] at e101
            exact ⟨by simp [Region.wanted, yielded, e101], by simp [execOp, go_sem, Act.eval, e101]⟩
          intro W6 g_nb hW hg k_nb
          have B6 : Below w.heap.size w W6 := B5.trans (hW.mono B5.size)
          have o_nb : w.heap.size ≤ g_nb := Nat.le_trans B5.size hg
          have hst := hst.below hW
          have hxI := hxI.below hW
          have hl := hl.below hW
          have hr := hr.below hW
          have l_nb : g_x < g_nb := Nat.lt_of_lt_of_le k_x.lt hg
          have k_r := k_r.below hW
          have k_t := k_t.below hW
          have k_x := k_x.below hW
          clear hW hg B5
          clear c_r_0 c_r_1 c_t_0 c_t_1 c_x_0 c_x_1
          simp only [List.drop_succ_cons, List.drop_zero, Act.put, List.setIfInBounds_toArray, List.set_cons_zero, List.set_cons_succ]
          have hsz := B6.size
          go_wp2_with (at_builtin; refine wpList_append_at rfl _ _ 25 rfl w.heap.size 43 i0 _ 9 72 Tryz.underlying25 hi0 hz0 hz1 hz2 rfl (by decide) _ N (n1.flatMap ncells) rfl (by have h := hst.nod; unfold NodRow at h; rw [hl1] at h; exact h) ⟨g_nb, 0, none⟩ 1 1 (ncells (((v1, v2, v3), v4, v5, v6), 0, 0, 0)) rfl rfl ?g1 ?g2 ?g3 ?g4 ?g5 ?_)
          case g1 => exact cells_at15 k_nb
          case g2 => exact ncells_one _
          case g3 => unfold maxLen; omega
          case g4 => omega
          case g5 => omega
          intro vn w1 hown hgrow hat
          obtain ⟨an, cn2, rfl⟩ := owns_val hown
          have hrow : NodRow w1 w.heap.size (.slice an (N + 1) cn2) (n1 ++ [(((v1, v2, v3), v4, v5, v6), 0, 0, 0)]) := by unfold NodRow; rw [List.length_append, hl1, List.flatMap_append, List.flatMap_cons, List.flatMap_nil, List.append_nil]; exact hown
          have hs1 := hst.putNode hrow hgrow
          have hb1 : Below w.heap.size w w1 := B6.grown hgrow hsz (fun j ej => (World.ownsRow.lt hst.nod j ej).1)
          have kr1 := grown_bk hst.nod k_r (by decide) hgrow
          have kt1 := grown_bk hst.nod k_t (by decide) hgrow
          have hx1 := owns_grown hxI hgrow (apart_row (owns_types hst.nod hxI (by decide)))
          have kx1 := grown_bk hst.nod k_x (by decide) hgrow
          have hl_1 := owns_grown hl hgrow (apart_row (owns_types hst.nod hl (by decide)))
          have hr_1 := owns_grown hr hgrow (apart_row (owns_types hst.nod hr (by decide)))
          clear hown hgrow hat hrow hst hxI k_r k_t k_x k_nb
          have q0 := kt1.cell (i := 0) rfl
          have q1 := kt1.frozen 0
          go_upto_region 21 with (fail)
          obtain ⟨W7, hW7⟩ : ∃ W, W = w1.setCell ⟨g_t, 0, none⟩ (.slice an (N + 1) cn2) := ⟨_, rfl⟩
          have B7 : Below w.heap.size w W7 := by rw [hW7]; exact hb1.setCell (p := ⟨g_t, 0, none⟩) (by show w.heap.size ≤ g_t; omega) _
          have k_r : Bk W7 w.heap.size 28 #[.slice none 0 0, .slice none 0 0] := by rw [hW7]; exact kr1.other (a := ⟨g_t, 0, none⟩) (by show ¬ w.heap.size = g_t; omega) _
          have k_t : Bk W7 g_t 28 #[.slice an (N + 1) cn2, .slice ao D co] := by rw [hW7]; exact (kt1.set 0 _).cast (by simp)
          have hst := hs1.setT (i := 0) (x := .slice an (N + 1) cn2) kt1
          rw [← hW7] at hst
          have hxI : Ints W7 w.heap.size (.slice ov m cv) th := by rw [hW7]; exact owns_setbk hx1 (a := ⟨g_t, 0, none⟩) (owns_bk hx1 kt1 (by decide)) _
          have k_x : Bk W7 g_x 52 #[.slice ov m cv, .int .i64 (i : Int)] := by rw [hW7]; exact kx1.other (a := ⟨g_t, 0, none⟩) (by show ¬ g_x = g_t; omega) _
          have hl : Ints W7 w.heap.size (.slice ol ml cl) tl := by rw [hW7]; exact owns_setbk hl_1 (a := ⟨g_t, 0, none⟩) (owns_bk hl_1 kt1 (by decide)) _
          have hr : Ints W7 w.heap.size (.slice orr mr crr) tr := by rw [hW7]; exact owns_setbk hr_1 (a := ⟨g_t, 0, none⟩) (owns_bk hr_1 kt1 (by decide)) _
          rw [← hW7]
          clear hW7 hb1 kr1 kt1 hs1 q0 q1 kx1 hx1
          obtain ⟨c_r_0, c_r_1⟩ := bwc2 (k_r)
          obtain ⟨c_t_0, c_t_1⟩ := bwc2 (k_t)
          obtain ⟨c_x_0, c_x_1⟩ := bwc2 (k_x)
          obtain ⟨p7, hp7⟩ : ∃ p : BW W7, p.w = W7 := ⟨BW.start W7, rfl⟩
          rw [← hp7]
          clear hp7
          go_wp2_with (at_builtin; refine wpList_append_at rfl _ _ 53 rfl w.heap.size 52 i2 _ 2 32 Tryz.underlying53 hi2 hw0 hw1 hw2 rfl (by decide) _ L (X.reverse.flatMap pcell2) rfl (World.ownsRow.alloc (by have h := (hst.below (BW.h p7)).stk; unfold PrtRow at h; rw [← HL.out] at h; exact h) _) ⟨_, 0, none⟩ 2 2 [.slice orr mr crr, .int .i64 (N : Int), .slice ol ml cl, .int .i64 (-1)] rfl rfl ?g1 ?g2 ?g3 ?g4 ?g5 ?_)
          case g1 => exact cells_new _ #[.slice orr mr crr, .int .i64 (N : Int), .slice ol ml cl, .int .i64 (-1)] _
          case g2 => intro u hu; simp only [List.mem_cons, List.not_mem_nil, or_false] at hu; rcases hu with rfl | rfl | rfl | rfl <;> rfl
          case g3 => unfold maxLen; omega
          case g4 => omega
          case g5 => have := (bw_below B7 p7).size; simp; omega
          intro vs w1 hown hgrow hat
          have hst0 := bst_alloc (o := .cells #[.slice orr mr crr, .int .i64 (N : Int), .slice ol ml cl, .int .i64 (-1)] 52) rfl (hst.below p7.h)
          have hl0 := ints_alloc (o := .cells #[.slice orr mr crr, .int .i64 (N : Int), .slice ol ml cl, .int .i64 (-1)] 52) rfl (hl.below p7.h)
          have hr0 := ints_alloc (o := .cells #[.slice orr mr crr, .int .i64 (N : Int), .slice ol ml cl, .int .i64 (-1)] 52) rfl (hr.below p7.h)
          have hrow : PrtRow w1 w.heap.size vs ((.slice ol ml cl, tl, none) :: (.slice orr mr crr, tr, some N) :: X) := by
            unfold PrtRow
            rw [List.reverse_cons, List.reverse_cons, List.append_assoc, List.flatMap_append, List.length_cons, List.length_cons, ← HL.out]
            exact hown
          have hst1 := hst0.putStk hrow hgrow (fun x hx => by
            rcases List.mem_cons.1 hx with rfl | hx
            · exact ⟨hl0, hal⟩
            · rcases List.mem_cons.1 hx with rfl | hx
              · exact ⟨hr0, har⟩
              · exact hst0.prt x hx)
          have hsz := (bw_below B7 p7).size
          have hb1 : Below w.heap.size w w1 := ((bw_below B7 p7).alloc hsz _).grown hgrow (by simp; omega) (fun j ej => (World.ownsRow.lt hst0.stk j ej).1)
          have kr1 := grown_bk hst0.stk ((k_r.below p7.h).alloc (.cells #[.slice orr mr crr, .int .i64 (N : Int), .slice ol ml cl, .int .i64 (-1)] 52)) (by decide) hgrow
          have kt1 := grown_bk hst0.stk ((k_t.below p7.h).alloc (.cells #[.slice orr mr crr, .int .i64 (N : Int), .slice ol ml cl, .int .i64 (-1)] 52)) (by decide) hgrow
          go_wp2
          have hcell1 := cellL_of (kt1.cell (i := 0) rfl)
          have hlen : (n1 ++ [(((v1, v2, v3), v4, v5, v6), 0, 0, 0)]).length = N + 1 := by rw [List.length_append, hl1]; rfl
          go_roundw
          case rel => exact ⟨(.slice ol ml cl, tl, none) :: (.slice orr mr crr, tr, some N) :: X, _, _, n1 ++ [(((v1, v2, v3), v4, v5, v6), 0, 0, 0)], od, hst1, kr1, kt1, hb1, HM2, ⟨by simp only [List.map_cons, mMass]; rw [← HDD.out, ← HML.out, ← HMR.out, ← HMS.out]; omega, by simp only [List.map_cons, mMass, List.length_cons]; rw [hlen, ← HML.out, ← HMR.out, ← HMS.out, ← HL.out]; omega⟩, Lib.hid (fun x hx => by
            rcases List.mem_cons.1 hx with rfl | hx
            · exact ⟨by dsimp only; rw [← HML.out]; exact hs1, HTL.out, fun i hi => by cases hi⟩
            · rcases List.mem_cons.1 hx with rfl | hx
              · exact ⟨by dsimp only; rw [← HMR.out]; exact hs2, HTR.out, fun i hi => by cases hi; rw [hlen]; omega⟩
              · obtain ⟨e1, e2, e3⟩ := HXX.out x hx
                exact ⟨e1, e2, fun i hi => by have := e3 i hi; rw [hlen, HNN.out]; omega⟩)⟩
          case measure => rw [hcell1, HK0.out p1]; omega

theorem tree_Build (a : Option Addr) (n cap : Nat) (P : Nat → Pr) (w : World) (hs : Prims w (.slice a n cap) n P) (hn : n ≤ 1048576) :
    Calls Tryz.prog 6 #[.slice a n cap] w fun e w' => ∃ u v, e = .returned (.agg #[u, v]) ∧ NodRow w' w.heap.size u (mBuild P n).1 ∧ Ints w' w.heap.size v (mBuild P n).2 ∧ Below w.heap.size w w' := by
  by_cases h : 0 < n ∧ n ≤ 1024 ∧ pAll P n = true
  · refine build_some a n cap P w h.1 h.2.1 h.2.2 (Lib.hid fun X hX => (tree_boxed a n cap P X (hs.below hX (Nat.le_refl _)) hn).mono fun e w' ⟨u, h1, h2, h3, _⟩ => ⟨u, by rw [h1, h.2.2], owns_mono (h2 h.2.2) hX.size, h3⟩)
  · have e : mBuild P n = ([], []) := by unfold mBuild; rw [if_neg h]
    rw [e]
    have fin : ∀ (en : Ending) (w' : World), (en = .returned (.agg #[.slice none 0 0, .slice none 0 0]) ∧ Below w.heap.size w w') → ∃ u v, en = .returned (.agg #[u, v]) ∧ NodRow w' w.heap.size u [] ∧ Ints w' w.heap.size v [] ∧ Below w.heap.size w w' :=
      fun en w' ⟨h1, h2⟩ => ⟨_, _, h1, World.ownsRow_nil _ _ _ _, World.ownsRow_nil _ _ _ _, h2⟩
    by_cases h0 : n = 0
    · exact (build_zero a n cap w h0).mono fin
    · by_cases h1 : 1024 < n
      · exact (build_many a n cap w h1).mono fin
      · have hp : pAll P n = false := by
          cases e : pAll P n with
          | false => rfl
          | true => exact absurd ⟨by omega, by omega, e⟩ h
        refine (build_bad a n cap w h0 h1 (Lib.hid fun X hX => (tree_boxed a n cap P X (hs.below hX (Nat.le_refl _)) hn).mono fun e w' ⟨u, h1, _, h3, _⟩ => ⟨u, by rw [h1, hp], h3⟩)).mono fin

end
end Go.Proofs.YtomlcglnkdfemaaGreat
