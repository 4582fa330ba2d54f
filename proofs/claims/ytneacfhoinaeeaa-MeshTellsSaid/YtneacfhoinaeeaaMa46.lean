/- Contracts of the document's own answers, layer 19: Closed. -/
import Derived.Test.YtneacfhoinaeeaaMa45
import Derived.Test.YtneacfhoinaeeaaMa23


namespace Go.Proofs.Ytneacfhoinaeeaa
section

open Go.RowKit Go.Proofs.Sky

set_option linter.unusedVariables false

set_option linter.unusedSimpArgs false

theorem closed_next {l : List Pr} {k : Nat} (h : k < l.length) (h1 : ∀ p ∈ l.take k, closedP l p = true) (h2 : closedP l l[k] = true) : ∀ p ∈ l.take (k + 1), closedP l p = true := by
  intro p hp
  rw [List.take_add_one, List.getElem?_eq_getElem h] at hp
  rcases List.mem_append.1 hp with h3 | h3
  · exact h1 p h3
  · have : p = l[k] := by simpa using h3
    rw [this]; exact h2

theorem closed_no {l : List Pr} {k : Nat} (h : k < l.length) (h2 : closedP l l[k] = false) : mClosed l = false := by
  rw [Bool.eq_false_iff]
  intro e
  unfold mClosed at e
  rw [List.all_eq_true] at e
  rw [e _ (List.getElem_mem h)] at h2
  cases h2

set_option maxRecDepth 100000 in
set_option maxHeartbeats 8000000 in
theorem ref19_Closed (v : Value) (l : List Pr) (w : World) (hs : Sll w v 12 pcells l) (hn : l.length ≤ 1000000) :
    Calls Try.prog 15 #[v] w fun en w' => en = .returned (.bool (mClosed l)) ∧ Below w.heap.size w w' := by
  have HSL := Lib.hid hs
  obtain ⟨a, cap, rfl, hmx, hS⟩ := hs
  obtain ⟨n, hnn⟩ : ∃ n, n = l.length := ⟨_, rfl⟩
  have HNN := Lib.hid hnn
  rw [← hnn] at hn HSL ⊢
  have HS := Lib.hid hS
  have KW0 := Lib.hid (fun (u1 u2 u3 v1 v2 v3 : Int) X (hX : Below w.heap.size w X) => ref19_ways (.slice a n cap) l u1 u2 u3 v1 v2 v3 X (HSL.out.below hX (Nat.le_refl _)) (by rw [← HNN.out]; exact hn))
  clear hS hnn hmx HSL
  go_enter Try.func15, Try.ntmps15
  go_wp2
  go_loopw [3] (fun i wr => ∃ (k : Nat) (q : BW w), k ≤ n ∧ i = .int .i64 k ∧ wr = q.w ∧ Hid (∀ p ∈ l.take k, closedP l p = true)) (fun i _ => n - (intOf i).toNat)
  case atStart => exact ⟨0, BW.start w, by omega, rfl, rfl, Lib.hid (fun p hp => by simp at hp)⟩
  case round =>
    obtain ⟨k, q0, hk, rfl, rfl, hall⟩ := hrel
    by_cases hlt : k < n
    · have hkl : k < l.length := by rw [← HNN.out]; exact hlt
      obtain ⟨gb, off, rfl, hb, hcell⟩ := HS.out.resolve_left (by omega)
      have hx := hcell k hkl
      have B10 : Below w.heap.size w q0.w := q0.h
      have x0 : w.cell? ⟨gb, off + k * 12, none⟩ = some (.int .i64 (l[k]).k) := hx 0 (by omega)
      have x1 : w.cell? ⟨gb, off + k * 12 + 1, none⟩ = some (.int .i64 (l[k]).a.1) := hx 1 (by omega)
      have x2 : w.cell? ⟨gb, off + k * 12 + 2, none⟩ = some (.int .i64 (l[k]).a.2.1) := hx 2 (by omega)
      have x3 : w.cell? ⟨gb, off + k * 12 + 3, none⟩ = some (.int .i64 (l[k]).a.2.2) := hx 3 (by omega)
      have x4 : w.cell? ⟨gb, off + k * 12 + 4, none⟩ = some (.int .i64 (l[k]).b.1) := hx 4 (by omega)
      have x5 : w.cell? ⟨gb, off + k * 12 + 5, none⟩ = some (.int .i64 (l[k]).b.2.1) := hx 5 (by omega)
      have x6 : w.cell? ⟨gb, off + k * 12 + 6, none⟩ = some (.int .i64 (l[k]).b.2.2) := hx 6 (by omega)
      have x7 : w.cell? ⟨gb, off + k * 12 + 7, none⟩ = some (.int .i64 (l[k]).c.1) := hx 7 (by omega)
      have x8 : w.cell? ⟨gb, off + k * 12 + 8, none⟩ = some (.int .i64 (l[k]).c.2.1) := hx 8 (by omega)
      have x9 : w.cell? ⟨gb, off + k * 12 + 9, none⟩ = some (.int .i64 (l[k]).c.2.2) := hx 9 (by omega)
      have x10 : w.cell? ⟨gb, off + k * 12 + 10, none⟩ = some (.int .i64 (l[k]).r) := hx 10 (by omega)
      have x11 : w.cell? ⟨gb, off + k * 12 + 11, none⟩ = some (.int .i64 (l[k]).m) := hx 11 (by omega)
      have HNEXT := Lib.hid (closed_next hkl hall.out)
      have HNO := Lib.hid (closed_no hkl)
      have hcp : closedP l l[k] = (decide ((l[k]).k = 1) && (decide (wys l (l[k]).a (l[k]).b = wys l (l[k]).b (l[k]).a) && (decide (wys l (l[k]).b (l[k]).c = wys l (l[k]).c (l[k]).b) && decide (wys l (l[k]).c (l[k]).a = wys l (l[k]).a (l[k]).c)))) := rfl
      clear hx hcell
      obtain ⟨PP, hPP⟩ : ∃ PP, PP = closedP l l[k] := ⟨_, rfl⟩
      rw [← hPP] at HNEXT HNO hcp
      clear hPP
      generalize l[k] = pk at *
      obtain ⟨kk, ⟨a1, a2, a3⟩, ⟨b1, b2, b3⟩, ⟨c1, c2, c3⟩, r, m⟩ := pk
      dsimp only at x0 x1 x2 x3 x4 x5 x6 x7 x8 x9 x10 x11 hcp
      have K1 := Lib.hid (fun X hX => KW0.out a1 a2 a3 b1 b2 b3 X hX)
      have K2 := Lib.hid (fun X hX => KW0.out b1 b2 b3 a1 a2 a3 X hX)
      have K3 := Lib.hid (fun X hX => KW0.out b1 b2 b3 c1 c2 c3 X hX)
      have K4 := Lib.hid (fun X hX => KW0.out c1 c2 c3 b1 b2 b3 X hX)
      have K5 := Lib.hid (fun X hX => KW0.out c1 c2 c3 a1 a2 a3 X hX)
      have K6 := Lib.hid (fun X hX => KW0.out a1 a2 a3 c1 c2 c3 X hX)
      generalize wys l (a1, a2, a3) (b1, b2, b3) = n1 at *
      generalize wys l (b1, b2, b3) (a1, a2, a3) = n2 at *
      generalize wys l (b1, b2, b3) (c1, c2, c3) = n3 at *
      generalize wys l (c1, c2, c3) (b1, b2, b3) = n4 at *
      generalize wys l (c1, c2, c3) (a1, a2, a3) = n5 at *
      generalize wys l (a1, a2, a3) (c1, c2, c3) = n6 at *
      have HCP := Lib.hid hcp
      clear hcp KW0
      obtain ⟨W9, hW9⟩ : ∃ W, W = q0.w := ⟨_, rfl⟩
      have hq0 := q0.h
      rw [← hW9] at B10 hq0 ⊢
      clear hW9
      have c_x0 : ∀ p : BW W9, p.w.cell? ⟨gb, off + k * 12, none⟩ = some (.int .i64 kk) := bw_cell ((B10.cell (p := ⟨gb, off + k * 12, none⟩) hb).trans x0)
      have c_x1 : ∀ p : BW W9, p.w.cell? ⟨gb, off + k * 12 + 1, none⟩ = some (.int .i64 a1) := bw_cell ((B10.cell (p := ⟨gb, off + k * 12 + 1, none⟩) hb).trans x1)
      have c_x2 : ∀ p : BW W9, p.w.cell? ⟨gb, off + k * 12 + 2, none⟩ = some (.int .i64 a2) := bw_cell ((B10.cell (p := ⟨gb, off + k * 12 + 2, none⟩) hb).trans x2)
      have c_x3 : ∀ p : BW W9, p.w.cell? ⟨gb, off + k * 12 + 3, none⟩ = some (.int .i64 a3) := bw_cell ((B10.cell (p := ⟨gb, off + k * 12 + 3, none⟩) hb).trans x3)
      have c_x4 : ∀ p : BW W9, p.w.cell? ⟨gb, off + k * 12 + 4, none⟩ = some (.int .i64 b1) := bw_cell ((B10.cell (p := ⟨gb, off + k * 12 + 4, none⟩) hb).trans x4)
      have c_x5 : ∀ p : BW W9, p.w.cell? ⟨gb, off + k * 12 + 5, none⟩ = some (.int .i64 b2) := bw_cell ((B10.cell (p := ⟨gb, off + k * 12 + 5, none⟩) hb).trans x5)
      have c_x6 : ∀ p : BW W9, p.w.cell? ⟨gb, off + k * 12 + 6, none⟩ = some (.int .i64 b3) := bw_cell ((B10.cell (p := ⟨gb, off + k * 12 + 6, none⟩) hb).trans x6)
      have c_x7 : ∀ p : BW W9, p.w.cell? ⟨gb, off + k * 12 + 7, none⟩ = some (.int .i64 c1) := bw_cell ((B10.cell (p := ⟨gb, off + k * 12 + 7, none⟩) hb).trans x7)
      have c_x8 : ∀ p : BW W9, p.w.cell? ⟨gb, off + k * 12 + 8, none⟩ = some (.int .i64 c2) := bw_cell ((B10.cell (p := ⟨gb, off + k * 12 + 8, none⟩) hb).trans x8)
      have c_x9 : ∀ p : BW W9, p.w.cell? ⟨gb, off + k * 12 + 9, none⟩ = some (.int .i64 c3) := bw_cell ((B10.cell (p := ⟨gb, off + k * 12 + 9, none⟩) hb).trans x9)
      have c_x10 : ∀ p : BW W9, p.w.cell? ⟨gb, off + k * 12 + 10, none⟩ = some (.int .i64 r) := bw_cell ((B10.cell (p := ⟨gb, off + k * 12 + 10, none⟩) hb).trans x10)
      have c_x11 : ∀ p : BW W9, p.w.cell? ⟨gb, off + k * 12 + 11, none⟩ = some (.int .i64 m) := bw_cell ((B10.cell (p := ⟨gb, off + k * 12 + 11, none⟩) hb).trans x11)
      obtain ⟨p10, hp10⟩ : ∃ p : BW W9, p.w = W9 := ⟨BW.start W9, rfl⟩
      rw [← hp10]
      clear hp10
      go_upto_region 5 with (fail)
      obtain ⟨W11, hW11⟩ : ∃ W, W = p10.w.alloc (.cells #[.int .i64 kk, .int .i64 a1, .int .i64 a2, .int .i64 a3, .int .i64 b1, .int .i64 b2, .int .i64 b3, .int .i64 c1, .int .i64 c2, .int .i64 c3, .int .i64 r, .int .i64 m] 45) := ⟨_, rfl⟩
      have B11 : Below w.heap.size w W11 := by rw [hW11]; exact (bw_below B10 p10).alloc (bw_below B10 p10).size _
      have o_x : w.heap.size ≤ p10.w.heap.size := (bw_below B10 p10).size
      have k_x := bkn hW11
      rw [← hW11]
      clear hW11
      clear B10
      clear c_x0 c_x1 c_x2 c_x3 c_x4 c_x5 c_x6 c_x7 c_x8 c_x9 c_x10 c_x11
      generalize p10.w.heap.size = g_x at *
      obtain ⟨c_x_0, c_x_1, c_x_2, c_x_3, c_x_4, c_x_5, c_x_6, c_x_7, c_x_8, c_x_9, c_x_10, c_x_11⟩ := bwc12 (k_x)
      obtain ⟨p11, hp11⟩ : ∃ p : BW W11, p.w = W11 := ⟨BW.start W11, rfl⟩
      rw [← hp11]
      clear hp11
      clear x0 x1 x2 x3 x4 x5 x6 x7 x8 x9 x10 x11
      by_cases e0 : kk = 1
      · subst e0
        by_cases e1 : n1 = n2
        · by_cases e2 : n3 = n4
          · by_cases e3 : n5 = n6
            · have f1 := e1
              have f2 := e2
              have f3 := e3
              have ts1 : ((n1 : Int) != (n2 : Int)) = false := by rw [bne_eq_false_iff_eq]; omega
              have ts2 : ((n3 : Int) != (n4 : Int)) = false := by rw [bne_eq_false_iff_eq]; omega
              have ts3 : ((n5 : Int) != (n6 : Int)) = false := by rw [bne_eq_false_iff_eq]; omega
              clear e1 e2 e3
              have HR : Hid (PP = true) := Lib.hid (by rw [HCP.out]; simp [f1, f2, f3])
              clear f1 f2 f3
              refine wp_region_bw (by kernel_rfl) (by kernel_rfl) ?_
              repeat (go_big_quiet_step (first
                | (go_at_call 32; (with_reducible first | exact (bw_callB K1.out B11 _) | exact (bw_callB K2.out B11 _) | exact (bw_callB K3.out B11 _) | exact (bw_callB K4.out B11 _) | exact (bw_callB K5.out B11 _) | exact (bw_callB K6.out B11 _)))))
              refine wpQuiet_nil ?_
              intro _ hw'
              obtain ⟨q, rfl⟩ := hw'
              go_wp2
              go_roundw
              case rel => exact ⟨k + 1, ⟨q.w, bw_below B11 q⟩, by omega, by go_num, rfl, Lib.hid (HNEXT.out HR.out)⟩
              case measure => simp [intOf]; omega
            · have f1 := e1
              have f2 := e2
              have f3 := e3
              have ts1 : ((n1 : Int) != (n2 : Int)) = false := by rw [bne_eq_false_iff_eq]; omega
              have ts2 : ((n3 : Int) != (n4 : Int)) = false := by rw [bne_eq_false_iff_eq]; omega
              have ts3 : ((n5 : Int) != (n6 : Int)) = true := by rw [bne_iff_ne]; omega
              have HR : Hid (PP = false) := Lib.hid (by rw [HCP.out]; simp [f1, f2, f3])
              clear f1 f2 f3 e1 e2 e3
              refine wp_region_bw (by kernel_rfl) (by kernel_rfl) ?_
              repeat (go_big_quiet_step (first
                | (go_at_call 32; (with_reducible first | exact (bw_callB K1.out B11 _) | exact (bw_callB K2.out B11 _) | exact (bw_callB K3.out B11 _) | exact (bw_callB K4.out B11 _) | exact (bw_callB K5.out B11 _) | exact (bw_callB K6.out B11 _)))))
              refine wpQuiet_nil ?_
              intro _ hw'
              obtain ⟨q, rfl⟩ := hw'
              go_wp2
              go_ret
              have HE := Lib.hid (HNO.out HR.out)
              exact ⟨by rw [HE.out]; rfl, bw_below B11 q⟩
          · have f1 := e1
            have f2 := e2
            have ts1 : ((n1 : Int) != (n2 : Int)) = false := by rw [bne_eq_false_iff_eq]; omega
            have ts2 : ((n3 : Int) != (n4 : Int)) = true := by rw [bne_iff_ne]; omega
            have HR : Hid (PP = false) := Lib.hid (by rw [HCP.out]; simp [f1, f2])
            clear f1 f2 e1 e2
            refine wp_region_bw (by kernel_rfl) (by kernel_rfl) ?_
            repeat (go_big_quiet_step (first
              | (go_at_call 32; (with_reducible first | exact (bw_callB K1.out B11 _) | exact (bw_callB K2.out B11 _) | exact (bw_callB K3.out B11 _) | exact (bw_callB K4.out B11 _) | exact (bw_callB K5.out B11 _) | exact (bw_callB K6.out B11 _)))))
            refine wpQuiet_nil ?_
            intro _ hw'
            obtain ⟨q, rfl⟩ := hw'
            go_wp2
            go_ret
            have HE := Lib.hid (HNO.out HR.out)
            exact ⟨by rw [HE.out]; rfl, bw_below B11 q⟩
        · have f1 := e1
          have ts1 : ((n1 : Int) != (n2 : Int)) = true := by rw [bne_iff_ne]; omega
          have HR : Hid (PP = false) := Lib.hid (by rw [HCP.out]; simp [f1])
          clear f1 e1
          refine wp_region_bw (by kernel_rfl) (by kernel_rfl) ?_
          repeat (go_big_quiet_step (first
            | (go_at_call 32; (with_reducible first | exact (bw_callB K1.out B11 _) | exact (bw_callB K2.out B11 _) | exact (bw_callB K3.out B11 _) | exact (bw_callB K4.out B11 _) | exact (bw_callB K5.out B11 _) | exact (bw_callB K6.out B11 _)))))
          refine wpQuiet_nil ?_
          intro _ hw'
          obtain ⟨q, rfl⟩ := hw'
          go_wp2
          go_ret
          have HE := Lib.hid (HNO.out HR.out)
          exact ⟨by rw [HE.out]; rfl, bw_below B11 q⟩
      · have f0 := e0
        have t0 : (kk != 1) = true := by rw [bne_iff_ne]; exact e0
        have HR : Hid (PP = false) := Lib.hid (by rw [HCP.out]; simp [f0])
        clear f0
        refine wp_region_bw (by kernel_rfl) (by kernel_rfl) ?_
        repeat (go_big_quiet_step (first
          | (go_at_call 32; (with_reducible first | exact (bw_callB K1.out B11 _) | exact (bw_callB K2.out B11 _) | exact (bw_callB K3.out B11 _) | exact (bw_callB K4.out B11 _) | exact (bw_callB K5.out B11 _) | exact (bw_callB K6.out B11 _)))))
        refine wpQuiet_nil ?_
        intro _ hw'
        obtain ⟨q, rfl⟩ := hw'
        go_wp2
        go_ret
        have HE := Lib.hid (HNO.out HR.out)
        exact ⟨by rw [HE.out]; rfl, bw_below B11 q⟩
    · have hke : k = n := by omega
      have HR : Hid (mClosed l = true) := Lib.hid (by
        have h := hall.out
        rw [hke, HNN.out, List.take_length] at h
        exact List.all_eq_true.2 h)
      clear hke
      go_wp2
      go_ret
      exact ⟨by rw [HR.out]; rfl, q0.h⟩

end
end Go.Proofs.Ytneacfhoinaeeaa
