/- Contracts of the document's own answers, layer 15: Sides, part, Cost, Best. -/
import Derived.Test.YtfdolgdfadipeaaRef15
import Derived.Test.YtfdolgdfadipeaaMem15
import Derived.Test.YtfdolgdfadipeaaFloat
import Derived.Deep.DeepCutAuto
namespace Go.Proofs.Ytfdolgdfadipeaa
open Go.RowKit Go.Proofs.Sky
set_option linter.unusedVariables false
set_option linter.unusedSimpArgs false

set_option maxRecDepth 100000 in
set_option maxHeartbeats 4000000 in
theorem ref15_Sides (a : Option Addr) (n cap : Nat) (V : Nat → Bx) (ax at_ lo hi : Int) (w : World) (hs : Boxes w (.slice a n cap) n V) (hx : I64 ax) (hl : I64 lo) (hh : I64 hi) (hn : n ≤ 1024) :
    Calls Try.prog 12 #[.agg #[.int .i64 ax, .int .i64 at_, .int .i64 lo, .int .i64 hi], .slice a n cap] w fun e w' => ∃ u v, e = .returned (.tuple #[u, v]) ∧ Ints w' w.heap.size u (ix (isL ax lo hi at_) V n) ∧ Ints w' w.heap.size v (ix (fun b => !isL ax lo hi at_ b) V n) ∧ Below w.heap.size w w' := by
  have HS := Lib.hid hs
  have KLH := Lib.hid (fun (b : Bx) w => ref15_Left ax at_ lo hi b.1.1 b.1.2.1 b.1.2.2 b.2.1 b.2.2.1 b.2.2.2 w hx hl hh)
  obtain ⟨i0, hi0, hz0, hz1, hz2⟩ := info_parts int_info15
  clear hs hx hl hh
  go_enter Try.func12, Try.ntmps12
  go_upto_region 1 with (fail)
  obtain ⟨W1, hW1⟩ : ∃ W, W = w.alloc (.cells #[.int .i64 ax, .int .i64 at_, .int .i64 lo, .int .i64 hi] 24) := ⟨_, rfl⟩
  obtain ⟨k_s, B1⟩ := st1 hW1
  rw [← hW1]
  clear hW1
  go_wp2
  go_loopw [6, 7, 8] (fun u v i wr => ∃ k : Nat, k ≤ n ∧ i = .int .i64 k ∧ Bk wr w.heap.size 24 #[.int .i64 ax, .int .i64 at_, .int .i64 lo, .int .i64 hi] ∧ Ints wr (w.heap.size + 1) u (ix (isL ax lo hi at_) V k) ∧ Ints wr (w.heap.size + 1) v (ix (fun b => !isL ax lo hi at_ b) V k) ∧ Apart2 u v ∧ Below w.heap.size w wr ∧ w.heap.size + 1 ≤ wr.heap.size) (fun u v i _ => n - (intOf i).toNat)
  case atStart => exact ⟨0, by omega, rfl, k_s, World.ownsRow_nil _ _ _ _, World.ownsRow_nil _ _ _ _, (fun j h => by cases h), B1, k_s.lt⟩
  case round =>
    clear k_s B1
    obtain ⟨k, hk, rfl, k_s, hu, hv, hap, BO, hsz⟩ := hrel
    by_cases hlt : k < n
    · have KL := Lib.hid (fun w => KLH.out (V k) w)
      obtain ⟨_, _, hsl, _, hS⟩ := HS.out
      cases hsl
      obtain ⟨bb, off, rfl, hbb, hcell⟩ := hS.resolve_left (by omega)
      have x0 : w.cell? ⟨bb, off + k * 6, none⟩ = some (.int .i64 (V k).1.1) := hcell k hlt 0 (by omega)
      have x1 : w.cell? ⟨bb, off + k * 6 + 1, none⟩ = some (.int .i64 (V k).1.2.1) := hcell k hlt 1 (by omega)
      have x2 : w.cell? ⟨bb, off + k * 6 + 2, none⟩ = some (.int .i64 (V k).1.2.2) := hcell k hlt 2 (by omega)
      have x3 : w.cell? ⟨bb, off + k * 6 + 3, none⟩ = some (.int .i64 (V k).2.1) := hcell k hlt 3 (by omega)
      have x4 : w.cell? ⟨bb, off + k * 6 + 4, none⟩ = some (.int .i64 (V k).2.2.1) := hcell k hlt 4 (by omega)
      have x5 : w.cell? ⟨bb, off + k * 6 + 5, none⟩ = some (.int .i64 (V k).2.2.2) := hcell k hlt 5 (by omega)
      clear hcell hS
      change Hid (∀ w, Calls Try.prog 16 #[.agg #[.int .i64 ax, .int .i64 at_, .int .i64 lo, .int .i64 hi], .agg #[.int .i64 (V k).1.1, .int .i64 (V k).1.2.1, .int .i64 (V k).1.2.2, .int .i64 (V k).2.1, .int .i64 (V k).2.2.1, .int .i64 (V k).2.2.2]] w fun en w' => en = .returned (.bool (isL ax lo hi at_ (V k))) ∧ Below w.heap.size w w') at KL
      obtain ⟨z, hz⟩ : ∃ z, z = isL ax lo hi at_ (V k) := ⟨_, rfl⟩
      rw [← hz] at KL
      clear KLH
      obtain ⟨vk, hvk⟩ : ∃ vk, vk = V k := ⟨_, rfl⟩
      rw [← hvk] at x0 x1 x2 x3 x4 x5 KL hz
      have HVK := Lib.hid hvk
      clear hvk
      obtain ⟨⟨v1, v2, v3⟩, v4, v5, v6⟩ := vk
      dsimp only at x0 x1 x2 x3 x4 x5 KL
      have HZ := Lib.hid hz
      clear hz
      cases z with
      | true =>
        have B1 := BO
        obtain ⟨c_s_0, c_s_1, c_s_2, c_s_3⟩ := bwc4 (k_s)
        have c_e0 : ∀ p : BW wr, p.w.cell? ⟨bb, off + k * 6, none⟩ = some (.int .i64 v1) := bw_cell ((B1.cell (p := ⟨bb, off + k * 6, none⟩) hbb).trans x0)
        have c_e1 : ∀ p : BW wr, p.w.cell? ⟨bb, off + k * 6 + 1, none⟩ = some (.int .i64 v2) := bw_cell ((B1.cell (p := ⟨bb, off + k * 6 + 1, none⟩) hbb).trans x1)
        have c_e2 : ∀ p : BW wr, p.w.cell? ⟨bb, off + k * 6 + 2, none⟩ = some (.int .i64 v3) := bw_cell ((B1.cell (p := ⟨bb, off + k * 6 + 2, none⟩) hbb).trans x2)
        have c_e3 : ∀ p : BW wr, p.w.cell? ⟨bb, off + k * 6 + 3, none⟩ = some (.int .i64 v4) := bw_cell ((B1.cell (p := ⟨bb, off + k * 6 + 3, none⟩) hbb).trans x3)
        have c_e4 : ∀ p : BW wr, p.w.cell? ⟨bb, off + k * 6 + 4, none⟩ = some (.int .i64 v5) := bw_cell ((B1.cell (p := ⟨bb, off + k * 6 + 4, none⟩) hbb).trans x4)
        have c_e5 : ∀ p : BW wr, p.w.cell? ⟨bb, off + k * 6 + 5, none⟩ = some (.int .i64 v6) := bw_cell ((B1.cell (p := ⟨bb, off + k * 6 + 5, none⟩) hbb).trans x5)
        obtain ⟨p1, hp1⟩ : ∃ p : BW wr, p.w = wr := ⟨BW.start wr, rfl⟩
        rw [← hp1]
        clear hp1
        go_upto_region 5 with (fail)
        refine wp_region_bw (by kernel_rfl) (by kernel_rfl) ?_
        repeat (go_big_quiet_step (first
          | (go_at_call 16; (first | (with_reducible exact bw_call KL.out _)))))
        refine wpQuiet_nil ?_
        intro _ hw'
        obtain ⟨q, rfl⟩ := hw'
        go_upto_region 6 with (fail)
        have hu := hu.below q.h
        have hv := hv.below q.h
        have k_s := k_s.below q.h
        have hsz2 := (bw_below B1 q).size
        have BQ := bw_below B1 q
        have hlu : (ix (isL ax lo hi at_) V k).length ≤ k := ix_le _ _ _
        have hlv : (ix (fun b => !isL ax lo hi at_ b) V k).length ≤ k := ix_le _ _ _
        have hlq : w.heap.size + 1 ≤ q.w.heap.size := k_s.lt
        go_wp2_with (at_builtin; refine wpList_append_at rfl _ _ 41 rfl (w.heap.size + 1) 3 i0 (.int .i64 0) 1 8 Try.underlying41 hi0 hz0 hz1 hz2 rfl (by decide) _ _ _ rfl (World.ownsRow.alloc hu _) ⟨q.w.heap.size, 0, none⟩ 1 1 [.int .i64 (k : Int)] rfl rfl ?g1 ?g2 ?g3 ?g4 ?g5 ?_)
        case g1 => exact cell_one_new _ _ _
        case g2 => intro u hu; simp only [List.mem_cons, List.not_mem_nil, or_false] at hu; rw [hu]; rfl
        case g3 => unfold maxLen; omega
        case g4 => omega
        case g5 => simp; omega
        intro v' w1 hown hgrow hat
        obtain ⟨r1, r2, r3⟩ := Ints.put hown (World.ownsRow.alloc hv _) hap hgrow (by simpa using hat)
        have hk1 : Bk w1 w.heap.size 24 #[.int .i64 ax, .int .i64 at_, .int .i64 lo, .int .i64 hi] := Bk.grown (k_s.alloc _) hgrow (fun e => by have := (World.ownsRow.lt hu _ e.symm).1; omega)
        have hb1 : Below w.heap.size w w1 := (BQ.alloc (by omega) _).grown hgrow (by simp; omega) (fun j ej => by have := (World.ownsRow.lt hu _ ej).1; omega)
        have hs1 : w.heap.size + 1 ≤ w1.heap.size := hk1.lt
        have eu : ix (isL ax lo hi at_) V (k + 1) = ix (isL ax lo hi at_) V k ++ [k] := by rw [ix_succ, ← HVK.out, if_pos (by rw [← HZ.out]; first | done | decide)]
        have ev : ix (fun b => !isL ax lo hi at_ b) V (k + 1) = ix (fun b => !isL ax lo hi at_ b) V k ++ [] := by rw [ix_succ, ← HVK.out, if_neg (by rw [← HZ.out]; first | done | decide)]
        go_wp2
        go_roundw
        case rel => exact ⟨k + 1, by omega, by go_num, hk1, (by rw [eu]; exact r1), (by rw [ev]; exact (by rw [List.append_nil]; exact r2)), r3, hb1, hs1⟩
        case measure => simp [intOf]; omega
      | false =>
        have B1 := BO
        obtain ⟨c_s_0, c_s_1, c_s_2, c_s_3⟩ := bwc4 (k_s)
        have c_e0 : ∀ p : BW wr, p.w.cell? ⟨bb, off + k * 6, none⟩ = some (.int .i64 v1) := bw_cell ((B1.cell (p := ⟨bb, off + k * 6, none⟩) hbb).trans x0)
        have c_e1 : ∀ p : BW wr, p.w.cell? ⟨bb, off + k * 6 + 1, none⟩ = some (.int .i64 v2) := bw_cell ((B1.cell (p := ⟨bb, off + k * 6 + 1, none⟩) hbb).trans x1)
        have c_e2 : ∀ p : BW wr, p.w.cell? ⟨bb, off + k * 6 + 2, none⟩ = some (.int .i64 v3) := bw_cell ((B1.cell (p := ⟨bb, off + k * 6 + 2, none⟩) hbb).trans x2)
        have c_e3 : ∀ p : BW wr, p.w.cell? ⟨bb, off + k * 6 + 3, none⟩ = some (.int .i64 v4) := bw_cell ((B1.cell (p := ⟨bb, off + k * 6 + 3, none⟩) hbb).trans x3)
        have c_e4 : ∀ p : BW wr, p.w.cell? ⟨bb, off + k * 6 + 4, none⟩ = some (.int .i64 v5) := bw_cell ((B1.cell (p := ⟨bb, off + k * 6 + 4, none⟩) hbb).trans x4)
        have c_e5 : ∀ p : BW wr, p.w.cell? ⟨bb, off + k * 6 + 5, none⟩ = some (.int .i64 v6) := bw_cell ((B1.cell (p := ⟨bb, off + k * 6 + 5, none⟩) hbb).trans x5)
        obtain ⟨p1, hp1⟩ : ∃ p : BW wr, p.w = wr := ⟨BW.start wr, rfl⟩
        rw [← hp1]
        clear hp1
        go_upto_region 5 with (fail)
        refine wp_region_bw (by kernel_rfl) (by kernel_rfl) ?_
        repeat (go_big_quiet_step (first
          | (go_at_call 16; (first | (with_reducible exact bw_call KL.out _)))))
        refine wpQuiet_nil ?_
        intro _ hw'
        obtain ⟨q, rfl⟩ := hw'
        go_upto_region 7 with (fail)
        have hu := hu.below q.h
        have hv := hv.below q.h
        have k_s := k_s.below q.h
        have hsz2 := (bw_below B1 q).size
        have BQ := bw_below B1 q
        have hlu : (ix (isL ax lo hi at_) V k).length ≤ k := ix_le _ _ _
        have hlv : (ix (fun b => !isL ax lo hi at_ b) V k).length ≤ k := ix_le _ _ _
        have hlq : w.heap.size + 1 ≤ q.w.heap.size := k_s.lt
        go_wp2_with (at_builtin; refine wpList_append_at rfl _ _ 41 rfl (w.heap.size + 1) 3 i0 (.int .i64 0) 1 8 Try.underlying41 hi0 hz0 hz1 hz2 rfl (by decide) _ _ _ rfl (World.ownsRow.alloc hv _) ⟨q.w.heap.size, 0, none⟩ 1 1 [.int .i64 (k : Int)] rfl rfl ?g1 ?g2 ?g3 ?g4 ?g5 ?_)
        case g1 => exact cell_one_new _ _ _
        case g2 => intro u hu; simp only [List.mem_cons, List.not_mem_nil, or_false] at hu; rw [hu]; rfl
        case g3 => unfold maxLen; omega
        case g4 => omega
        case g5 => simp; omega
        intro v' w1 hown hgrow hat
        obtain ⟨r1, r2, r3⟩ := Ints.put hown (World.ownsRow.alloc hu _) hap.symm hgrow (by simpa using hat)
        have hk1 : Bk w1 w.heap.size 24 #[.int .i64 ax, .int .i64 at_, .int .i64 lo, .int .i64 hi] := Bk.grown (k_s.alloc _) hgrow (fun e => by have := (World.ownsRow.lt hv _ e.symm).1; omega)
        have hb1 : Below w.heap.size w w1 := (BQ.alloc (by omega) _).grown hgrow (by simp; omega) (fun j ej => by have := (World.ownsRow.lt hv _ ej).1; omega)
        have hs1 : w.heap.size + 1 ≤ w1.heap.size := hk1.lt
        have eu : ix (isL ax lo hi at_) V (k + 1) = ix (isL ax lo hi at_) V k ++ [] := by rw [ix_succ, ← HVK.out, if_neg (by rw [← HZ.out]; first | done | decide)]
        have ev : ix (fun b => !isL ax lo hi at_ b) V (k + 1) = ix (fun b => !isL ax lo hi at_ b) V k ++ [k] := by rw [ix_succ, ← HVK.out, if_pos (by rw [← HZ.out]; first | done | decide)]
        go_wp2
        go_roundw
        case rel => exact ⟨k + 1, by omega, by go_num, hk1, (by rw [eu]; exact (by rw [List.append_nil]; exact r2)), (by rw [ev]; exact r1), r3.symm, hb1, hs1⟩
        case measure => simp [intOf]; omega
    · obtain rfl : k = n := by omega
      go_wp2
      go_ret2
      exact ⟨_, _, rfl, hu.mono (by omega), hv.mono (by omega), BO⟩

theorem intslice_down15 {w w' : World} {a : Option Addr} {n : Nat} {Z : Nat → Int} (h : IntSlice w a n Z) (hb : Below w.heap.size w w') : IntSlice w' a n Z := by
  rcases h with h | ⟨b, off, e, hc, hlt⟩
  · exact .inl h
  · exact .inr ⟨b, off, e, fun k hk => ⟨(hb.cell (p := ⟨b, off + k, none⟩) hlt).trans (hc k hk).1, (hc k hk).2⟩, Nat.lt_of_lt_of_le hlt hb.size⟩

theorem boxes_at {w : World} {a : Option Addr} {n cap : Nat} {V : Nat → Bx} (h : Boxes w (.slice a n cap) n V) {k : Nat} (hk : k < n) : ∃ b off, a = some ⟨b, off, none⟩ ∧ b < w.heap.size ∧
    w.cell? ⟨b, off + k * 6, none⟩ = some (.int .i64 (V k).1.1) ∧ w.cell? ⟨b, off + k * 6 + 1, none⟩ = some (.int .i64 (V k).1.2.1) ∧ w.cell? ⟨b, off + k * 6 + 2, none⟩ = some (.int .i64 (V k).1.2.2) ∧
    w.cell? ⟨b, off + k * 6 + 3, none⟩ = some (.int .i64 (V k).2.1) ∧ w.cell? ⟨b, off + k * 6 + 4, none⟩ = some (.int .i64 (V k).2.2.1) ∧ w.cell? ⟨b, off + k * 6 + 5, none⟩ = some (.int .i64 (V k).2.2.2) := by
  obtain ⟨_, _, e, _, hS⟩ := h
  cases e
  obtain ⟨b, off, rfl, hb, hc⟩ := hS.resolve_left (by omega)
  exact ⟨b, off, rfl, hb, hc k hk 0 (by omega), hc k hk 1 (by omega), hc k hk 2 (by omega), hc k hk 3 (by omega), hc k hk 4 (by omega), hc k hk 5 (by omega)⟩

set_option maxRecDepth 100000 in
set_option maxHeartbeats 4000000 in
theorem ref15_part (a : Option Addr) (n cap : Nat) (V : Nat → Bx) (o : Option Addr) (cp : Nat) (ws : List Nat) (w : World) (hs : Boxes w (.slice a n cap) n V) (hi : IntSlice w o ws.length (fun i => ((ws.getD i 0 : Nat) : Int))) (hne : ws ≠ []) (hlt : ∀ k ∈ ws, k < n) (hr : ∀ k ∈ ws, bRight (V k) = true) (hl : ws.length ≤ 1024) :
    Calls Try.prog 23 #[.slice a n cap, .slice o ws.length cp] w fun e w' => e = .returned (.int .i64 (bArea (around V ws ws.length) * ws.length)) ∧ Below w.heap.size w w' := by
  have HS := Lib.hid hs
  have HI := Lib.hid hi
  have hm : 0 < ws.length := by cases ws with | nil => exact absurd rfl hne | cons x l => simp
  have hget : ∀ k, k < ws.length → ws.getD k 0 ∈ ws := fun k hk => by rw [List.getD_eq_getElem?_getD, List.getElem?_eq_getElem hk]; exact List.getElem_mem _
  have HLT := Lib.hid (fun k hk => hlt _ (hget k hk))
  have HR := Lib.hid (fun k hk => hr _ (hget k hk))
  have har := around_right hne hr
  have HAR := Lib.hid har
  have HAS := Lib.hid (fun k => around_succ V ws k)
  have HA0 := Lib.hid (show around V ws 0 = V (ws.getD 0 0) from rfl)
  have hae := bArea_in (around V ws ws.length)
  have KAe := Lib.hid (fun w => ref10_Area (around V ws ws.length).1.1 (around V ws ws.length).1.2.1 (around V ws ws.length).1.2.2 (around V ws ws.length).2.1 (around V ws ws.length).2.2.1 (around V ws ws.length).2.2.2 w)
  change Hid (∀ w, Calls Try.prog 34 #[.agg #[.int .i64 (around V ws ws.length).1.1, .int .i64 (around V ws ws.length).1.2.1, .int .i64 (around V ws ws.length).1.2.2, .int .i64 (around V ws ws.length).2.1, .int .i64 (around V ws ws.length).2.2.1, .int .i64 (around V ws ws.length).2.2.2]] w fun en w' => en = .returned (.int .i64 (bArea (around V ws ws.length))) ∧ Below w.heap.size w w') at KAe
  obtain ⟨ae, hE⟩ : ∃ ae, ae = bArea (around V ws ws.length) := ⟨_, rfl⟩
  rw [← hE] at hae KAe ⊢
  clear hE har
  obtain ⟨m, hmm⟩ : ∃ m, m = ws.length := ⟨_, rfl⟩
  rw [← hmm] at HLT HR HAR HI hl hm KAe ⊢
  clear hmm hs hi hlt hr hne hget
  have hb1 := Int.mul_nonneg hae.1 (show 0 ≤ (m : Int) by omega)
  have hb2 := Int.mul_le_mul hae.2 (show (m : Int) ≤ 1024 by omega) (by omega) (by omega)
  have ew : wrap64 (ae * m) = ae * m := IntWalk.wrap64_in _ (by omega)
  have EW := Lib.hid ew
  clear hb1 hb2 ew hae
  obtain ⟨bo, oo, rfl, hic, hbo⟩ := HI.out.resolve_left (by omega)
  have HIC := Lib.hid hic
  have y0 : w.cell? ⟨bo, oo, none⟩ = some (.int .i64 ((ws.getD 0 0 : Nat) : Int)) := (hic 0 hm).1
  obtain ⟨z, hz⟩ : ∃ z, z = ws.getD 0 0 := ⟨_, rfl⟩
  have hzn : z < n := by rw [hz]; exact HLT.out 0 hm
  rw [← hz] at y0 HA0
  clear hz hic
  obtain ⟨bb, off, rfl, hbb, x0, x1, x2, x3, x4, x5⟩ := boxes_at HS.out hzn
  obtain ⟨vk, hvk⟩ : ∃ vk, vk = V z := ⟨_, rfl⟩
  rw [← hvk] at x0 x1 x2 x3 x4 x5 HA0
  clear hvk
  obtain ⟨⟨v1, v2, v3⟩, v4, v5, v6⟩ := vk
  dsimp only at x0 x1 x2 x3 x4 x5
  go_enter Try.func23, Try.ntmps23
  go_upto_region 2 with (fail)
  obtain ⟨W1, hW1⟩ : ∃ W, W = w.alloc (.cells #[.int .i64 v1, .int .i64 v2, .int .i64 v3, .int .i64 v4, .int .i64 v5, .int .i64 v6] 28) := ⟨_, rfl⟩
  obtain ⟨k_b, B1⟩ := st1 hW1
  rw [← hW1]
  clear hW1
  clear x0 x1 x2 x3 x4 x5 y0
  go_wp2
  go_loopw [6] (fun i wr => ∃ k : Nat, k ≤ m ∧ i = .int .i64 k ∧ Bk wr w.heap.size 28 #[.int .i64 (around V ws k).1.1, .int .i64 (around V ws k).1.2.1, .int .i64 (around V ws k).1.2.2, .int .i64 (around V ws k).2.1, .int .i64 (around V ws k).2.2.1, .int .i64 (around V ws k).2.2.2] ∧ Below w.heap.size w wr) (fun i _ => m - (intOf i).toNat)
  case atStart => exact ⟨0, by omega, rfl, (by rw [HA0.out]; exact k_b), B1⟩
  case round =>
    clear k_b B1
    obtain ⟨k, hk, rfl, k_b, BO⟩ := hrel
    by_cases hlt : k < m
    · have y0 : w.cell? ⟨bo, oo + k, none⟩ = some (.int .i64 ((ws.getD k 0 : Nat) : Int)) := (HIC.out k hlt).1
      have hzn : ws.getD k 0 < n := HLT.out k hlt
      have KJ := Lib.hid (fun w => ref10_Join (around V ws k).1.1 (around V ws k).1.2.1 (around V ws k).1.2.2 (around V ws k).2.1 (around V ws k).2.2.1 (around V ws k).2.2.2 (V (ws.getD k 0)).1.1 (V (ws.getD k 0)).1.2.1 (V (ws.getD k 0)).1.2.2 (V (ws.getD k 0)).2.1 (V (ws.getD k 0)).2.2.1 (V (ws.getD k 0)).2.2.2 w)
      change Hid (∀ w, Calls Try.prog 33 #[.agg #[.int .i64 (around V ws k).1.1, .int .i64 (around V ws k).1.2.1, .int .i64 (around V ws k).1.2.2, .int .i64 (around V ws k).2.1, .int .i64 (around V ws k).2.2.1, .int .i64 (around V ws k).2.2.2], .agg #[.int .i64 (V (ws.getD k 0)).1.1, .int .i64 (V (ws.getD k 0)).1.2.1, .int .i64 (V (ws.getD k 0)).1.2.2, .int .i64 (V (ws.getD k 0)).2.1, .int .i64 (V (ws.getD k 0)).2.2.1, .int .i64 (V (ws.getD k 0)).2.2.2]] w fun en w' => en = .returned (.agg #[.int .i64 (bJoin (around V ws k) (V (ws.getD k 0))).1.1, .int .i64 (bJoin (around V ws k) (V (ws.getD k 0))).1.2.1, .int .i64 (bJoin (around V ws k) (V (ws.getD k 0))).1.2.2, .int .i64 (bJoin (around V ws k) (V (ws.getD k 0))).2.1, .int .i64 (bJoin (around V ws k) (V (ws.getD k 0))).2.2.1, .int .i64 (bJoin (around V ws k) (V (ws.getD k 0))).2.2.2]) ∧ Below w.heap.size w w') at KJ
      have HN := Lib.hid (HAS.out k)
      obtain ⟨jn, hjn⟩ : ∃ jn, jn = bJoin (around V ws k) (V (ws.getD k 0)) := ⟨_, rfl⟩
      rw [← hjn] at KJ HN
      clear hjn
      obtain ⟨z, hz⟩ : ∃ z, z = ws.getD k 0 := ⟨_, rfl⟩
      rw [← hz] at y0 hzn KJ
      clear hz
      obtain ⟨_, _, hsl, hbb2, x0, x1, x2, x3, x4, x5⟩ := boxes_at HS.out hzn
      cases hsl
      obtain ⟨vk, hvk⟩ : ∃ vk, vk = V z := ⟨_, rfl⟩
      rw [← hvk] at x0 x1 x2 x3 x4 x5 KJ
      clear hvk
      obtain ⟨ak, hak⟩ : ∃ ak, ak = around V ws k := ⟨_, rfl⟩
      rw [← hak] at k_b KJ
      clear hak
      obtain ⟨⟨v1, v2, v3⟩, v4, v5, v6⟩ := vk
      obtain ⟨⟨a1, a2, a3⟩, a4, a5, a6⟩ := ak
      obtain ⟨⟨r1, r2, r3⟩, r4, r5, r6⟩ := jn
      dsimp only at x0 x1 x2 x3 x4 x5 KJ k_b
      have B1 := BO
      obtain ⟨c_b_0, c_b_1, c_b_2, c_b_3, c_b_4, c_b_5⟩ := bwc6 (k_b)
      obtain ⟨f_b_0, f_b_1, f_b_2, f_b_3, f_b_4, f_b_5⟩ := bwf6 (k_b)
      have c_e0 : ∀ p : BW wr, p.w.cell? ⟨bb, off + z * 6, none⟩ = some (.int .i64 v1) := bw_cell ((B1.cell (p := ⟨bb, off + z * 6, none⟩) hbb).trans x0)
      have c_e1 : ∀ p : BW wr, p.w.cell? ⟨bb, off + z * 6 + 1, none⟩ = some (.int .i64 v2) := bw_cell ((B1.cell (p := ⟨bb, off + z * 6 + 1, none⟩) hbb).trans x1)
      have c_e2 : ∀ p : BW wr, p.w.cell? ⟨bb, off + z * 6 + 2, none⟩ = some (.int .i64 v3) := bw_cell ((B1.cell (p := ⟨bb, off + z * 6 + 2, none⟩) hbb).trans x2)
      have c_e3 : ∀ p : BW wr, p.w.cell? ⟨bb, off + z * 6 + 3, none⟩ = some (.int .i64 v4) := bw_cell ((B1.cell (p := ⟨bb, off + z * 6 + 3, none⟩) hbb).trans x3)
      have c_e4 : ∀ p : BW wr, p.w.cell? ⟨bb, off + z * 6 + 4, none⟩ = some (.int .i64 v5) := bw_cell ((B1.cell (p := ⟨bb, off + z * 6 + 4, none⟩) hbb).trans x4)
      have c_e5 : ∀ p : BW wr, p.w.cell? ⟨bb, off + z * 6 + 5, none⟩ = some (.int .i64 v6) := bw_cell ((B1.cell (p := ⟨bb, off + z * 6 + 5, none⟩) hbb).trans x5)
      have c_y : ∀ p : BW wr, p.w.cell? ⟨bo, oo + k, none⟩ = some (.int .i64 (z : Int)) := bw_cell ((B1.cell (p := ⟨bo, oo + k, none⟩) hbo).trans y0)
      obtain ⟨p1, hp1⟩ : ∃ p : BW wr, p.w = wr := ⟨BW.start wr, rfl⟩
      rw [← hp1]
      clear hp1
      go_upto_region 5 with (fail)
      refine wp_region_bw_tail 9 (by kernel_rfl) (by kernel_rfl) (by kernel_rfl) ?_
      simp only [List.take_succ_cons, List.take_zero, List.drop_succ_cons, List.drop_zero]
      repeat (go_big_quiet_step (first
        | (go_at_call 33; (first | (with_reducible exact bw_call KJ.out _)))))
      refine wpQuiet_nil ?_
      intro _ hw'
      obtain ⟨q, rfl⟩ := hw'
      go_wp2
      go_roundw
      case rel => exact ⟨k + 1, by omega, by go_num, (by rw [HN.out]; exact bkp6 (k_b.below (BW.h _)) _ _ _ _ _ _), blp6 (bw_below B1 _) (by omega)⟩
      case measure => simp [intOf]; omega
    · obtain rfl : k = m := by omega
      skip
      have B1 := BO
      have ew := EW.out
      obtain ⟨c_b_0, c_b_1, c_b_2, c_b_3, c_b_4, c_b_5⟩ := bwc6 (k_b)
      obtain ⟨p1, hp1⟩ : ∃ p : BW wr, p.w = wr := ⟨BW.start wr, rfl⟩
      rw [← hp1]
      clear hp1
      go_wp2_with (first
        | (go_at_call 34; (first | (with_reducible refine (bw_call KAe.out _).mono ?_)); rintro e w' ⟨rfl, q, rfl⟩))
      go_ret
      exact ⟨ret_int ew, bw_below B1 _⟩

theorem allBin_more {ax lo hi : Int} {V : Nat → Bx} {k : Nat} (h : allBin ax lo hi (bls V k) = true) (h2 : 0 ≤ bBin (V k) ax lo hi) : allBin ax lo hi (bls V (k + 1)) = true := by
  rw [allBin_iff] at *
  intro b hb
  rw [bls_succ] at hb
  rcases List.mem_append.1 hb with hb | hb
  · exact h b hb
  · simp at hb; rw [hb]; exact h2

theorem allBin_no {ax lo hi : Int} {V : Nat → Bx} {k n : Nat} (h : bBin (V k) ax lo hi < 0) (hk : k < n) : allBin ax lo hi (bls V n) = false := by
  cases e : allBin ax lo hi (bls V n) with
  | false => rfl
  | true => have := allBin_iff.1 e (V k) (bls_mem.2 ⟨k, hk, rfl⟩); omega

set_option maxRecDepth 100000 in
set_option maxHeartbeats 4000000 in
theorem ref15_Cost (a : Option Addr) (n cap : Nat) (V : Nat → Bx) (ax at_ lo hi : Int) (w : World) (hs : Boxes w (.slice a n cap) n V) (hx : I64 ax) (hl : I64 lo) (hh : I64 hi) (hn : n ≤ 1024) :
    Calls Try.prog 8 #[.agg #[.int .i64 ax, .int .i64 at_, .int .i64 lo, .int .i64 hi], .slice a n cap] w fun e w' => e = .returned (.tuple #[.int .i64 (sCost ax lo hi at_ (bls V n)), .bool (sOk ax lo hi at_ (bls V n))]) ∧ Below w.heap.size w w' := by
  have HS := Lib.hid hs
  have KBH := Lib.hid (fun (b : Bx) w => ref15_Bin b.1.1 b.1.2.1 b.1.2.2 b.2.1 b.2.2.1 b.2.2.2 ax lo hi w hx hl hh)
  have KSD := Lib.hid (fun X (hX : Below w.heap.size w X) => ref15_Sides a n cap V ax at_ lo hi X (hs.below hX (Nat.le_refl _)) hx hl hh hn)
  have t1 : decide ((1024 : Int) < n) = false := decide_eq_false (by omega)
  have hll : (bls V n).length ≤ 1024 := by rw [bls_len]; exact hn
  have HN := Lib.hid hn
  have HLL := Lib.hid hll
  clear hs hx hl hh hll
  go_enter Try.func8, Try.ntmps8
  go_upto_region 1 with (fail)
  obtain ⟨W1, hW1⟩ : ∃ W, W = w.alloc (.cells #[.int .i64 ax, .int .i64 at_, .int .i64 lo, .int .i64 hi] 24) := ⟨_, rfl⟩
  obtain ⟨k_s, B1⟩ := st1 hW1
  rw [← hW1]
  clear hW1
  obtain ⟨c_s_0, c_s_1, c_s_2, c_s_3⟩ := bwc4 (k_s)
  obtain ⟨p1, hp1⟩ : ∃ p : BW W1, p.w = W1 := ⟨BW.start W1, rfl⟩
  rw [← hp1]
  clear hp1
  go_wp2
  go_loopw [6] (fun i wr => ∃ (k : Nat) (q : BW W1), k ≤ n ∧ i = .int .i64 k ∧ wr = q.w ∧ allBin ax lo hi (bls V k) = true) (fun i _ => n - (intOf i).toNat)
  case atStart => exact ⟨0, p1, by omega, rfl, rfl, rfl⟩
  case round =>
    obtain ⟨k, p3, hk, rfl, rfl, hall⟩ := hrel
    have HALL := Lib.hid hall
    clear hall
    by_cases hlt : k < n
    · have KB := Lib.hid (fun w => KBH.out (V k) w)
      clear KSD
      obtain ⟨_, _, hsl, _, hS⟩ := HS.out
      cases hsl
      obtain ⟨bb, off, rfl, hbb, hcell⟩ := hS.resolve_left (by omega)
      have x0 : w.cell? ⟨bb, off + k * 6, none⟩ = some (.int .i64 (V k).1.1) := hcell k hlt 0 (by omega)
      have x1 : w.cell? ⟨bb, off + k * 6 + 1, none⟩ = some (.int .i64 (V k).1.2.1) := hcell k hlt 1 (by omega)
      have x2 : w.cell? ⟨bb, off + k * 6 + 2, none⟩ = some (.int .i64 (V k).1.2.2) := hcell k hlt 2 (by omega)
      have x3 : w.cell? ⟨bb, off + k * 6 + 3, none⟩ = some (.int .i64 (V k).2.1) := hcell k hlt 3 (by omega)
      have x4 : w.cell? ⟨bb, off + k * 6 + 4, none⟩ = some (.int .i64 (V k).2.2.1) := hcell k hlt 4 (by omega)
      have x5 : w.cell? ⟨bb, off + k * 6 + 5, none⟩ = some (.int .i64 (V k).2.2.2) := hcell k hlt 5 (by omega)
      clear hcell hS
      change Hid (∀ w, Calls Try.prog 14 #[.agg #[.int .i64 (V k).1.1, .int .i64 (V k).1.2.1, .int .i64 (V k).1.2.2, .int .i64 (V k).2.1, .int .i64 (V k).2.2.1, .int .i64 (V k).2.2.2], .int .i64 ax, .int .i64 lo, .int .i64 hi] w fun en w' => en = .returned (.int .i64 (bBin (V k) ax lo hi)) ∧ Below w.heap.size w w') at KB
      obtain ⟨z, hz⟩ : ∃ z, z = bBin (V k) ax lo hi := ⟨_, rfl⟩
      rw [← hz] at KB
      clear KBH
      obtain ⟨vk, hvk⟩ : ∃ vk, vk = V k := ⟨_, rfl⟩
      rw [← hvk] at x0 x1 x2 x3 x4 x5 KB hz
      have HVK := Lib.hid hvk
      clear hvk
      obtain ⟨⟨v1, v2, v3⟩, v4, v5, v6⟩ := vk
      dsimp only at x0 x1 x2 x3 x4 x5 KB
      have HZ := Lib.hid hz
      clear hz
      have c_e0 : ∀ p : BW W1, p.w.cell? ⟨bb, off + k * 6, none⟩ = some (.int .i64 v1) := bw_cell ((B1.cell (p := ⟨bb, off + k * 6, none⟩) hbb).trans x0)
      have c_e1 : ∀ p : BW W1, p.w.cell? ⟨bb, off + k * 6 + 1, none⟩ = some (.int .i64 v2) := bw_cell ((B1.cell (p := ⟨bb, off + k * 6 + 1, none⟩) hbb).trans x1)
      have c_e2 : ∀ p : BW W1, p.w.cell? ⟨bb, off + k * 6 + 2, none⟩ = some (.int .i64 v3) := bw_cell ((B1.cell (p := ⟨bb, off + k * 6 + 2, none⟩) hbb).trans x2)
      have c_e3 : ∀ p : BW W1, p.w.cell? ⟨bb, off + k * 6 + 3, none⟩ = some (.int .i64 v4) := bw_cell ((B1.cell (p := ⟨bb, off + k * 6 + 3, none⟩) hbb).trans x3)
      have c_e4 : ∀ p : BW W1, p.w.cell? ⟨bb, off + k * 6 + 4, none⟩ = some (.int .i64 v5) := bw_cell ((B1.cell (p := ⟨bb, off + k * 6 + 4, none⟩) hbb).trans x4)
      have c_e5 : ∀ p : BW W1, p.w.cell? ⟨bb, off + k * 6 + 5, none⟩ = some (.int .i64 v6) := bw_cell ((B1.cell (p := ⟨bb, off + k * 6 + 5, none⟩) hbb).trans x5)
      by_cases hneg : z < 0
      · have tz : decide (z < 0) = true := decide_eq_true hneg
        have HNG := Lib.hid hneg
        clear hneg
        go_upto_region 6 with (fail)
        refine wp_region_bw (by kernel_rfl) (by kernel_rfl) ?_
        repeat (go_big_quiet_step (first
          | (go_at_call 14; (first | (with_reducible exact bw_call KB.out _)))))
        refine wpQuiet_nil ?_
        intro _ hw'
        obtain ⟨q, rfl⟩ := hw'
        go_wp2
        go_ret2
        have hno : allBin ax lo hi (bls V n) = false := allBin_no (k := k) (by rw [← HVK.out]; have := HZ.out; have := HNG.out; omega) hlt
        have hok : sOk ax lo hi at_ (bls V n) = false := by unfold sOk; rw [hno]; simp
        exact ⟨by rw [hok]; unfold sCost; rw [hok]; rfl, bw_below B1 q⟩
      · have tz : decide (z < 0) = false := decide_eq_false hneg
        have HNG := Lib.hid hneg
        clear hneg
        go_upto_region 6 with (fail)
        refine wp_region_bw (by kernel_rfl) (by kernel_rfl) ?_
        repeat (go_big_quiet_step (first
          | (go_at_call 14; (first | (with_reducible exact bw_call KB.out _)))))
        refine wpQuiet_nil ?_
        intro _ hw'
        obtain ⟨q, rfl⟩ := hw'
        go_wp2
        go_roundw
        case rel => exact ⟨k + 1, q, by omega, by go_num, rfl, allBin_more HALL.out (by rw [← HVK.out]; have := HZ.out; have := HNG.out; omega)⟩
        case measure => simp [intOf]; omega
    · obtain rfl : k = n := by omega
      clear KBH
      have hbin := allBin_iff.1 HALL.out
      have hright : ∀ b ∈ bls V k, bRight b = true := fun b hb => (bBin_nonneg.1 (hbin b hb)).1
      have hu1 := ix_len (isL ax lo hi at_) V k
      have hu2 := ix_len (fun b => !isL ax lo hi at_ b) V k
      have hk1 : ∀ j ∈ ix (isL ax lo hi at_) V k, j < k := fun j hj => ix_lt hj
      have hk2 : ∀ j ∈ ix (fun b => !isL ax lo hi at_ b) V k, j < k := fun j hj => ix_lt hj
      have hr1 : ∀ j ∈ ix (isL ax lo hi at_) V k, bRight (V j) = true := fun j hj => hright _ (bls_mem.2 ⟨j, hk1 j hj, rfl⟩)
      have hr2 : ∀ j ∈ ix (fun b => !isL ax lo hi at_ b) V k, bRight (V j) = true := fun j hj => hright _ (bls_mem.2 ⟨j, hk2 j hj, rfl⟩)
      have hle1 : (ix (isL ax lo hi at_) V k).length ≤ k := ix_le _ _ _
      have hle2 : (ix (fun b => !isL ax lo hi at_ b) V k).length ≤ k := ix_le _ _ _
      have hvi := sVal_in (ax := ax) (lo := lo) (hi := hi) (a := at_) HLL.out
      have hv1 : (gL (isL ax lo hi at_) (bls V k)).2 ≠ 0 → _ := fun h => around_cost h hright
      have hv2 : (gL (fun b => !isL ax lo hi at_ b) (bls V k)).2 ≠ 0 → _ := fun h => around_cost h hright
      have hsk : sOk ax lo hi at_ (bls V k) = (decide ((ix (isL ax lo hi at_) V k).length ≠ 0) && decide ((ix (fun b => !isL ax lo hi at_ b) V k).length ≠ 0)) := by
        unfold sOk
        rw [HALL.out, decide_eq_true HLL.out, hu1, hu2]
        rfl
      have hsv : sVal ax lo hi at_ (bls V k) = gCost (gL (isL ax lo hi at_) (bls V k)) + gCost (gL (fun b => !isL ax lo hi at_ b) (bls V k)) := rfl
      have KP1 := fun X o cp (hX : Below w.heap.size w X) (hI : IntSlice X o (ix (isL ax lo hi at_) V k).length (fun i => (((ix (isL ax lo hi at_) V k).getD i 0 : Nat) : Int))) (hne : ix (isL ax lo hi at_) V k ≠ []) => ref15_part a k cap V o cp (ix (isL ax lo hi at_) V k) X (HS.out.below hX (Nat.le_refl _)) hI hne hk1 hr1 (by have := HN.out; omega)
      have KP2 := fun X o cp (hX : Below w.heap.size w X) (hI : IntSlice X o (ix (fun b => !isL ax lo hi at_ b) V k).length (fun i => (((ix (fun b => !isL ax lo hi at_ b) V k).getD i 0 : Nat) : Int))) (hne : ix (fun b => !isL ax lo hi at_ b) V k ≠ []) => ref15_part a k cap V o cp (ix (fun b => !isL ax lo hi at_ b) V k) X (HS.out.below hX (Nat.le_refl _)) hI hne hk2 hr2 (by have := HN.out; omega)
      rw [← hu1] at hv1
      rw [← hu2] at hv2
      have hsc : sCost ax lo hi at_ (bls V k) = if sOk ax lo hi at_ (bls V k) = true then sVal ax lo hi at_ (bls V k) else 0 := rfl
      rw [hsk, hsv] at hsc
      rw [hsv] at hvi
      have hk1' : ∀ j ∈ ix (isL ax lo hi at_) V k, j ≤ 1048576 := fun j hj => by have := hk1 j hj; have := HN.out; omega
      have hk2' : ∀ j ∈ ix (fun b => !isL ax lo hi at_ b) V k, j ≤ 1048576 := fun j hj => by have := hk2 j hj; have := HN.out; omega
      have HSC := Lib.hid hsc
      have HSK := Lib.hid hsk
      have HK1 := Lib.hid hk1'
      have HK2 := Lib.hid hk2'
      clear hk1 hk2 hr1 hr2 hle1 hle2 hsk hsv hsc hbin hright hu1 hu2 hk1' hk2' HALL HLL
      generalize ix (isL ax lo hi at_) V k = l1 at *
      generalize ix (fun b => !isL ax lo hi at_ b) V k = l2 at *
      generalize gCost (gL (isL ax lo hi at_) (bls V k)) = c1 at *
      generalize gCost (gL (fun b => !isL ax lo hi at_ b) (bls V k)) = c2 at *
      by_cases hz1 : l1 = []
      · subst hz1
        clear KP1 KP2 hv1 hv2 hvi
        go_wp2_with (go_at_call 12; refine (KSD.out _ (bw_below B1 _)).mono ?_; rintro e w1 ⟨u, v, rfl, hu, hv, hb⟩; obtain ⟨o1, cp1, rfl, hi1⟩ := Ints.slice hu HK1.out; obtain ⟨o2, cp2, rfl, hi2⟩ := Ints.slice hv HK2.out; clear hu hv; obtain ⟨q, rfl⟩ := bw_take hb)
        go_ret2
        exact ⟨by rw [HSC.out, HSK.out]; simp, bw_below B1 _⟩
      have n1 : l1.length ≠ 0 := fun h => hz1 (List.length_eq_zero_iff.1 h)
      have z1 : ((l1.length : Int) == 0) = false := by rw [beq_eq_false_iff_ne]; omega
      by_cases hz2 : l2 = []
      · subst hz2
        clear KP1 KP2 hv1 hv2 hvi
        go_wp2_with (go_at_call 12; refine (KSD.out _ (bw_below B1 _)).mono ?_; rintro e w1 ⟨u, v, rfl, hu, hv, hb⟩; obtain ⟨o1, cp1, rfl, hi1⟩ := Ints.slice hu HK1.out; obtain ⟨o2, cp2, rfl, hi2⟩ := Ints.slice hv HK2.out; clear hu hv; obtain ⟨q, rfl⟩ := bw_take hb)
        go_ret2
        exact ⟨by rw [HSC.out, HSK.out]; simp, bw_below B1 _⟩
      have n2 : l2.length ≠ 0 := fun h => hz2 (List.length_eq_zero_iff.1 h)
      have z2 : ((l2.length : Int) == 0) = false := by rw [beq_eq_false_iff_ne]; omega
      have HNE1 := Lib.hid hz1
      have HNE2 := Lib.hid hz2
      have e1 := hv1 n1
      have e2 := hv2 n2
      rw [e1] at KP1
      rw [e2] at KP2
      have KP1 := Lib.hid KP1
      have KP2 := Lib.hid KP2
      have ew : wrap64 (c1 + c2) = c1 + c2 := IntWalk.wrap64_in _ (by omega)
      have EW := Lib.hid ew
      have HE : Hid (sCost ax lo hi at_ (bls V k) = c1 + c2 ∧ sOk ax lo hi at_ (bls V k) = true) := Lib.hid (by
        rw [HSC.out, HSK.out, decide_eq_true n1, decide_eq_true n2]
        exact ⟨rfl, rfl⟩)
      clear hv1 hv2 hvi hz1 hz2 e1 e2 ew n1 n2 HSC HSK
      go_wp2_with (first | (go_at_call 12; refine (KSD.out _ (bw_below B1 _)).mono ?_; rintro e w1 ⟨u, v, rfl, hu, hv, hb⟩; obtain ⟨o1, cp1, rfl, hi1⟩ := Ints.slice hu HK1.out; obtain ⟨o2, cp2, rfl, hi2⟩ := Ints.slice hv HK2.out; clear hu hv; obtain ⟨q, rfl⟩ := bw_take hb) | (go_at_call 23; (with_reducible refine (KP1.out _ _ _ (bw_below B1 _) hi1 HNE1.out).mono ?_); rintro e w2 ⟨rfl, hb2⟩; have hi2 := intslice_down15 hi2 hb2; obtain ⟨q2, rfl⟩ := bw_take hb2) | (go_at_call 23; (with_reducible refine (KP2.out _ _ _ (bw_below B1 _) hi2 HNE2.out).mono ?_); rintro e w3 ⟨rfl, hb3⟩; obtain ⟨q3, rfl⟩ := bw_take hb3))
      go_ret2
      exact ⟨by rw [HE.out.1, HE.out.2]; first | rfl | (show Ending.returned (.tuple #[.int .i64 (wrap64 (c1 + c2)), .bool true]) = _; rw [EW.out]), bw_below B1 _⟩

end Go.Proofs.Ytfdolgdfadipeaa
