/- Contracts of package bins, below: the least and the greatest middle, the boxes bin by bin, the sums from both ends. -/
import Derived.Test.YtfdolgdfadipeaaBinsl15
import Derived.Deep.MidRow
namespace Go.Proofs.Ytfdolgdfadipeaa
open Go.RowKit Go.Proofs.Sky
set_option linter.unusedVariables false

theorem mnV_next (V : Nat → Bx) (k : Nat) (ax : Int) : mnV V (k + 1) ax = (if k = 0 then bMid (V k) ax else min (mnV V k ax) (bMid (V k) ax)) ∧ mxV V (k + 1) ax = (if k = 0 then bMid (V k) ax else max (mxV V k ax) (bMid (V k) ax)) := by
  by_cases h : k = 0
  · subst h
    simp [mnV, mxV, mnAt, mxAt]
  · rw [if_neg h, if_neg h]
    unfold mnV mxV
    rw [if_neg (by omega), if_neg h, if_neg (by omega), if_neg h]
    exact ⟨rfl, rfl⟩

set_option maxRecDepth 100000 in
set_option maxHeartbeats 4000000 in
theorem bins_span (a : Option Addr) (n cap : Nat) (V : Nat → Bx) (ax : Int) (w : World) (hs : Boxes w (.slice a n cap) n V) (hx : I64 ax) (hn : n ≤ 1048576) :
    Calls Try.prog 24 #[.slice a n cap, .int .i64 ax] w fun e w' => e = .returned (.tuple #[.int .i64 (mnV V n ax), .int .i64 (mxV V n ax)]) ∧ Below w.heap.size w w' := by
  have HS := Lib.hid hs
  have KMH := Lib.hid (fun (b : Bx) w => box_Mid b.1.1 b.1.2.1 b.1.2.2 b.2.1 b.2.2.1 b.2.2.2 ax w hx)
  clear hs
  go_enter Try.func24, Try.ntmps24
  go_wp2
  go_loopw [4, 5, 11] (fun lo hi i wr => ∃ k : Nat, k ≤ n ∧ i = .int .i64 k ∧ lo = .int .i64 (mnV V k ax) ∧ hi = .int .i64 (mxV V k ax) ∧ Below w.heap.size w wr) (fun _ _ i _ => n - (intOf i).toNat)
  case atStart => exact ⟨0, by omega, rfl, rfl, rfl, Below.refl _ _⟩
  case round =>
    obtain ⟨k, hk, rfl, rfl, rfl, BO⟩ := hrel
    by_cases hlt : k < n
    · have hst := mnV_next V k ax
      have KM := Lib.hid (fun w => KMH.out (V k) w)
      obtain ⟨_, _, hsl, _, hS⟩ := HS.out
      cases hsl
      obtain ⟨bb, off, rfl, hbb, hcell⟩ := hS.resolve_left (by omega)
      have x0 : w.cell? ⟨bb, off + k * 6, none⟩ = some (.int .i64 (V k).1.1) := hcell k hlt 0 (by omega)
      have x1 : w.cell? ⟨bb, off + k * 6 + 1, none⟩ = some (.int .i64 (V k).1.2.1) := hcell k hlt 1 (by omega)
      have x2 : w.cell? ⟨bb, off + k * 6 + 2, none⟩ = some (.int .i64 (V k).1.2.2) := hcell k hlt 2 (by omega)
      have x3 : w.cell? ⟨bb, off + k * 6 + 3, none⟩ = some (.int .i64 (V k).2.1) := hcell k hlt 3 (by omega)
      have x4 : w.cell? ⟨bb, off + k * 6 + 4, none⟩ = some (.int .i64 (V k).2.2.1) := hcell k hlt 4 (by omega)
      have x5 : w.cell? ⟨bb, off + k * 6 + 5, none⟩ = some (.int .i64 (V k).2.2.2) := hcell k hlt 5 (by omega)
      clear hcell hS
      obtain ⟨ml, hml⟩ : ∃ m, m = mnV V k ax := ⟨_, rfl⟩
      obtain ⟨mh, hmh⟩ : ∃ m, m = mxV V k ax := ⟨_, rfl⟩
      rw [← hml, ← hmh] at hst ⊢
      clear hml hmh
      obtain ⟨md, hmd⟩ : ∃ m, m = bMid (V k) ax := ⟨_, rfl⟩
      rw [← hmd] at hst
      change Hid (∀ w, Calls Try.prog 27 #[.agg #[.int .i64 (V k).1.1, .int .i64 (V k).1.2.1, .int .i64 (V k).1.2.2, .int .i64 (V k).2.1, .int .i64 (V k).2.2.1, .int .i64 (V k).2.2.2], .int .i64 ax] w fun en w' => en = .returned (.int .i64 (bMid (V k) ax)) ∧ Below w.heap.size w w') at KM
      rw [← hmd] at KM
      clear hmd KMH
      obtain ⟨vk, hvk⟩ : ∃ vk, vk = V k := ⟨_, rfl⟩
      rw [← hvk] at x0 x1 x2 x3 x4 x5 KM
      clear hvk
      obtain ⟨⟨v1, v2, v3⟩, v4, v5, v6⟩ := vk
      dsimp only at x0 x1 x2 x3 x4 x5 KM
      have HST := Lib.hid hst
      clear hst
      by_cases h0 : k = 0
      · have B1 := BO
        have hr : mnV V (k + 1) ax = md ∧ mxV V (k + 1) ax = md := by have := HST.out; rwa [if_pos h0, if_pos h0] at this
        have HR := Lib.hid hr
        clear hr
        clear HST
        have H0 := Lib.hid h0
        clear h0
        have c_e0 : ∀ p : BW wr, p.w.cell? ⟨bb, off + k * 6, none⟩ = some (.int .i64 v1) := bw_cell ((B1.cell (p := ⟨bb, off + k * 6, none⟩) hbb).trans x0)
        have c_e1 : ∀ p : BW wr, p.w.cell? ⟨bb, off + k * 6 + 1, none⟩ = some (.int .i64 v2) := bw_cell ((B1.cell (p := ⟨bb, off + k * 6 + 1, none⟩) hbb).trans x1)
        have c_e2 : ∀ p : BW wr, p.w.cell? ⟨bb, off + k * 6 + 2, none⟩ = some (.int .i64 v3) := bw_cell ((B1.cell (p := ⟨bb, off + k * 6 + 2, none⟩) hbb).trans x2)
        have c_e3 : ∀ p : BW wr, p.w.cell? ⟨bb, off + k * 6 + 3, none⟩ = some (.int .i64 v4) := bw_cell ((B1.cell (p := ⟨bb, off + k * 6 + 3, none⟩) hbb).trans x3)
        have c_e4 : ∀ p : BW wr, p.w.cell? ⟨bb, off + k * 6 + 4, none⟩ = some (.int .i64 v5) := bw_cell ((B1.cell (p := ⟨bb, off + k * 6 + 4, none⟩) hbb).trans x4)
        have c_e5 : ∀ p : BW wr, p.w.cell? ⟨bb, off + k * 6 + 5, none⟩ = some (.int .i64 v6) := bw_cell ((B1.cell (p := ⟨bb, off + k * 6 + 5, none⟩) hbb).trans x5)
        obtain ⟨p1, hp1⟩ : ∃ p : BW wr, p.w = wr := ⟨BW.start wr, rfl⟩
        rw [← hp1]
        clear hp1
        go_upto_region 4 with (fail)
        obtain ⟨W2, hW2⟩ : ∃ W, W = p1.w.alloc (.cells #[.int .i64 v1, .int .i64 v2, .int .i64 v3, .int .i64 v4, .int .i64 v5, .int .i64 v6] 31) := ⟨_, rfl⟩
        have B2 : Below w.heap.size w W2 := by rw [hW2]; exact (bw_below B1 p1).alloc (bw_below B1 p1).size _
        have o_b : w.heap.size ≤ p1.w.heap.size := (bw_below B1 p1).size
        have k_b := bkn hW2
        rw [← hW2]
        clear hW2
        clear B1
        clear c_e0 c_e1 c_e2 c_e3 c_e4 c_e5
        generalize p1.w.heap.size = g_b at *
        obtain ⟨c_b_0, c_b_1, c_b_2, c_b_3, c_b_4, c_b_5⟩ := bwc6 (k_b)
        obtain ⟨p2, hp2⟩ : ∃ p : BW W2, p.w = W2 := ⟨BW.start W2, rfl⟩
        rw [← hp2]
        clear hp2
        go_upto_region 5 with (first
          | (go_at_call 27; (first | (with_reducible refine (bw_call KM.out _).mono ?_)); rintro e w' ⟨rfl, q, rfl⟩))
        have h0 := H0.out
        have h0i : (k : Int) = 0 := by omega
        go_wp2
        go_roundw
        case rel => exact ⟨k + 1, by omega, by go_num, by rw [HR.out.1], by rw [HR.out.2], bw_below B2 _⟩
        case measure => simp [intOf]; omega
      · have B1 := BO
        have hr : mnV V (k + 1) ax = min ml md ∧ mxV V (k + 1) ax = max mh md := by have := HST.out; rwa [if_neg h0, if_neg h0] at this
        have HR := Lib.hid hr
        clear hr
        clear HST
        have H0 := Lib.hid h0
        clear h0
        have c_e0 : ∀ p : BW wr, p.w.cell? ⟨bb, off + k * 6, none⟩ = some (.int .i64 v1) := bw_cell ((B1.cell (p := ⟨bb, off + k * 6, none⟩) hbb).trans x0)
        have c_e1 : ∀ p : BW wr, p.w.cell? ⟨bb, off + k * 6 + 1, none⟩ = some (.int .i64 v2) := bw_cell ((B1.cell (p := ⟨bb, off + k * 6 + 1, none⟩) hbb).trans x1)
        have c_e2 : ∀ p : BW wr, p.w.cell? ⟨bb, off + k * 6 + 2, none⟩ = some (.int .i64 v3) := bw_cell ((B1.cell (p := ⟨bb, off + k * 6 + 2, none⟩) hbb).trans x2)
        have c_e3 : ∀ p : BW wr, p.w.cell? ⟨bb, off + k * 6 + 3, none⟩ = some (.int .i64 v4) := bw_cell ((B1.cell (p := ⟨bb, off + k * 6 + 3, none⟩) hbb).trans x3)
        have c_e4 : ∀ p : BW wr, p.w.cell? ⟨bb, off + k * 6 + 4, none⟩ = some (.int .i64 v5) := bw_cell ((B1.cell (p := ⟨bb, off + k * 6 + 4, none⟩) hbb).trans x4)
        have c_e5 : ∀ p : BW wr, p.w.cell? ⟨bb, off + k * 6 + 5, none⟩ = some (.int .i64 v6) := bw_cell ((B1.cell (p := ⟨bb, off + k * 6 + 5, none⟩) hbb).trans x5)
        obtain ⟨p1, hp1⟩ : ∃ p : BW wr, p.w = wr := ⟨BW.start wr, rfl⟩
        rw [← hp1]
        clear hp1
        go_upto_region 4 with (fail)
        obtain ⟨W2, hW2⟩ : ∃ W, W = p1.w.alloc (.cells #[.int .i64 v1, .int .i64 v2, .int .i64 v3, .int .i64 v4, .int .i64 v5, .int .i64 v6] 31) := ⟨_, rfl⟩
        have B2 : Below w.heap.size w W2 := by rw [hW2]; exact (bw_below B1 p1).alloc (bw_below B1 p1).size _
        have o_b : w.heap.size ≤ p1.w.heap.size := (bw_below B1 p1).size
        have k_b := bkn hW2
        rw [← hW2]
        clear hW2
        clear B1
        clear c_e0 c_e1 c_e2 c_e3 c_e4 c_e5
        generalize p1.w.heap.size = g_b at *
        obtain ⟨c_b_0, c_b_1, c_b_2, c_b_3, c_b_4, c_b_5⟩ := bwc6 (k_b)
        obtain ⟨p2, hp2⟩ : ∃ p : BW W2, p.w = W2 := ⟨BW.start W2, rfl⟩
        rw [← hp2]
        clear hp2
        go_upto_region 5 with (first
          | (go_at_call 27; (first | (with_reducible refine (bw_call KM.out _).mono ?_)); rintro e w' ⟨rfl, q, rfl⟩))
        have h0 := H0.out
        have h0i : ¬ (k : Int) = 0 := by omega
        go_wp2
        go_roundw
        case rel => exact ⟨k + 1, by omega, by go_num, by rw [HR.out.1], by rw [HR.out.2], bw_below B2 _⟩
        case measure => simp [intOf]; omega
    · obtain rfl : k = n := by omega
      go_wp2
      go_ret2
      exact ⟨rfl, BO⟩

theorem isB_group {ax lo hi : Int} {V : Nat → Bx} {k : Nat} {z : Nat} (h : bBin (V k) ax lo hi = z) : (fun j : Nat => gL (isB ax lo hi j) (bls V (k + 1))) = gset (fun j : Nat => gL (isB ax lo hi j) (bls V k)) z (gW (gL (isB ax lo hi z) (bls V k)) (V k, 1)) := by
  funext j
  rw [gL_succ]
  unfold gset gPut isB
  rw [h]
  by_cases e : j = z
  · subst e; simp
  · rw [if_neg (by simp; omega), if_neg e]

theorem allBin_succ {ax lo hi : Int} {V : Nat → Bx} {k : Nat} (h : allBin ax lo hi (bls V k) = true) (h2 : 0 ≤ bBin (V k) ax lo hi) : allBin ax lo hi (bls V (k + 1)) = true := by
  rw [allBin_iff] at *
  intro b hb
  rw [bls_succ] at hb
  rcases List.mem_append.1 hb with hb | hb
  · exact h b hb
  · simp at hb; rw [hb]; exact h2

theorem allBin_not {ax lo hi : Int} {V : Nat → Bx} {k n : Nat} (h : bBin (V k) ax lo hi < 0) (hk : k < n) : allBin ax lo hi (bls V n) = false := by
  cases e : allBin ax lo hi (bls V n) with
  | false => rfl
  | true => have := allBin_iff.1 e (V k) (bls_mem.2 ⟨k, hk, rfl⟩); omega

set_option maxRecDepth 100000 in
set_option maxHeartbeats 4000000 in
theorem bins_binned (a : Option Addr) (n cap : Nat) (V : Nat → Bx) (ax lo hi : Int) (w : World) (hs : Boxes w (.slice a n cap) n V) (hx : I64 ax) (hl : I64 lo) (hh : I64 hi) (hn : n ≤ 1024) :
    Calls Try.prog 20 #[.slice a n cap, .int .i64 ax, .int .i64 lo, .int .i64 hi] w fun e w' => e = .returned (.tuple #[.agg (if allBin ax lo hi (bls V n) = true then GA (fun j : Nat => gL (isB ax lo hi j) (bls V n)) else GA (fun _ => g0)), .bool (allBin ax lo hi (bls V n))]) ∧ Below w.heap.size w w' := by
  have HS := Lib.hid hs
  have KBH := Lib.hid (fun (b : Bx) w => bins_Bin b.1.1 b.1.2.1 b.1.2.2 b.2.1 b.2.2.1 b.2.2.2 ax lo hi w hx hl hh)
  have hb0 : ∀ w, (Instr.build 56 #[]).run Try.prog w = .ok (.agg (GA (fun _ => g0))) w := fun _ => by kernel_rfl
  clear hs hx hl hh
  go_enter Try.func20, Try.ntmps20
  go_upto_region 2 with (fail)
  obtain ⟨W1, hW1⟩ : ∃ W, W = (w.alloc (.cells #[.int .i64 0, .int .i64 0, .int .i64 0, .int .i64 0, .int .i64 0, .int .i64 0, .int .i64 0, .int .i64 0, .int .i64 0, .int .i64 0, .int .i64 0, .int .i64 0, .int .i64 0, .int .i64 0, .int .i64 0, .int .i64 0, .int .i64 0, .int .i64 0, .int .i64 0, .int .i64 0, .int .i64 0, .int .i64 0, .int .i64 0, .int .i64 0, .int .i64 0, .int .i64 0, .int .i64 0, .int .i64 0, .int .i64 0, .int .i64 0, .int .i64 0, .int .i64 0, .int .i64 0, .int .i64 0, .int .i64 0, .int .i64 0, .int .i64 0, .int .i64 0, .int .i64 0, .int .i64 0, .int .i64 0, .int .i64 0, .int .i64 0, .int .i64 0, .int .i64 0, .int .i64 0, .int .i64 0, .int .i64 0, .int .i64 0, .int .i64 0, .int .i64 0, .int .i64 0, .int .i64 0, .int .i64 0, .int .i64 0, .int .i64 0] 56)).alloc (.cells #[.int .i64 0, .int .i64 0, .int .i64 0, .int .i64 0, .int .i64 0, .int .i64 0, .int .i64 0, .int .i64 0, .int .i64 0, .int .i64 0, .int .i64 0, .int .i64 0, .int .i64 0, .int .i64 0, .int .i64 0, .int .i64 0, .int .i64 0, .int .i64 0, .int .i64 0, .int .i64 0, .int .i64 0, .int .i64 0, .int .i64 0, .int .i64 0, .int .i64 0, .int .i64 0, .int .i64 0, .int .i64 0, .int .i64 0, .int .i64 0, .int .i64 0, .int .i64 0, .int .i64 0, .int .i64 0, .int .i64 0, .int .i64 0, .int .i64 0, .int .i64 0, .int .i64 0, .int .i64 0, .int .i64 0, .int .i64 0, .int .i64 0, .int .i64 0, .int .i64 0, .int .i64 0, .int .i64 0, .int .i64 0, .int .i64 0, .int .i64 0, .int .i64 0, .int .i64 0, .int .i64 0, .int .i64 0, .int .i64 0, .int .i64 0] 56) := ⟨_, rfl⟩
  obtain ⟨k_r, k_g, B1⟩ := st2 hW1
  rw [← hW1]
  clear hW1
  have l_g : w.heap.size < w.heap.size + 1 := by omega
  generalize w.heap.size + 1 = g_g at *
  change Bk W1 w.heap.size 56 (GA (fun _ => g0)) at k_r
  change Bk W1 g_g 56 (GA (fun _ => g0)) at k_g
  go_wp2
  go_loopw [16] (fun i wr => ∃ k : Nat, k ≤ n ∧ i = .int .i64 k ∧ Bk wr w.heap.size 56 (GA (fun _ => g0)) ∧ Bk wr g_g 56 (GA (fun j : Nat => gL (isB ax lo hi j) (bls V k))) ∧ Below w.heap.size w wr ∧ allBin ax lo hi (bls V k) = true) (fun i _ => n - (intOf i).toNat)
  case atStart => exact ⟨0, by omega, rfl, k_r, k_g, B1, rfl⟩
  case round =>
    clear k_r k_g B1
    obtain ⟨k, hk, rfl, k_r, k_g, BO, hall⟩ := hrel
    have HALL := Lib.hid hall
    clear hall
    by_cases hlt : k < n
    · have KB := Lib.hid (fun w => KBH.out (V k) w)
      obtain ⟨_, _, hsl, _, hS⟩ := HS.out
      cases hsl
      obtain ⟨bb, off, rfl, hbb, hcell⟩ := hS.resolve_left (by omega)
      have x0 : w.cell? ⟨bb, off + k * 6, none⟩ = some (.int .i64 (V k).1.1) := hcell k hlt 0 (by omega)
      have x1 : w.cell? ⟨bb, off + k * 6 + 1, none⟩ = some (.int .i64 (V k).1.2.1) := hcell k hlt 1 (by omega)
      have x2 : w.cell? ⟨bb, off + k * 6 + 2, none⟩ = some (.int .i64 (V k).1.2.2) := hcell k hlt 2 (by omega)
      have x3 : w.cell? ⟨bb, off + k * 6 + 3, none⟩ = some (.int .i64 (V k).2.1) := hcell k hlt 3 (by omega)
      have x4 : w.cell? ⟨bb, off + k * 6 + 4, none⟩ = some (.int .i64 (V k).2.2.1) := hcell k hlt 4 (by omega)
      have x5 : w.cell? ⟨bb, off + k * 6 + 5, none⟩ = some (.int .i64 (V k).2.2.2) := hcell k hlt 5 (by omega)
      clear hcell hS
      change Hid (∀ w, Calls Try.prog 13 #[.agg #[.int .i64 (V k).1.1, .int .i64 (V k).1.2.1, .int .i64 (V k).1.2.2, .int .i64 (V k).2.1, .int .i64 (V k).2.2.1, .int .i64 (V k).2.2.2], .int .i64 ax, .int .i64 lo, .int .i64 hi] w fun en w' => en = .returned (.int .i64 (bBin (V k) ax lo hi)) ∧ Below w.heap.size w w') at KB
      obtain ⟨z, hz⟩ : ∃ z, z = bBin (V k) ax lo hi := ⟨_, rfl⟩
      rw [← hz] at KB
      have hz7 := bBin_lt (V k) ax lo hi
      rw [← hz] at hz7
      clear KBH
      obtain ⟨vk, hvk⟩ : ∃ vk, vk = V k := ⟨_, rfl⟩
      rw [← hvk] at x0 x1 x2 x3 x4 x5 KB hz
      have HVK := Lib.hid hvk
      clear hvk
      obtain ⟨⟨v1, v2, v3⟩, v4, v5, v6⟩ := vk
      dsimp only at x0 x1 x2 x3 x4 x5 KB
      have HZ := Lib.hid hz
      clear hz
      by_cases hneg : z < 0
      · have B1 := BO
        have tz : decide (z < 0) = true := decide_eq_true hneg
        have HN := Lib.hid hneg
        clear hneg hz7
        have c_e0 : ∀ p : BW wr, p.w.cell? ⟨bb, off + k * 6, none⟩ = some (.int .i64 v1) := bw_cell ((B1.cell (p := ⟨bb, off + k * 6, none⟩) hbb).trans x0)
        have c_e1 : ∀ p : BW wr, p.w.cell? ⟨bb, off + k * 6 + 1, none⟩ = some (.int .i64 v2) := bw_cell ((B1.cell (p := ⟨bb, off + k * 6 + 1, none⟩) hbb).trans x1)
        have c_e2 : ∀ p : BW wr, p.w.cell? ⟨bb, off + k * 6 + 2, none⟩ = some (.int .i64 v3) := bw_cell ((B1.cell (p := ⟨bb, off + k * 6 + 2, none⟩) hbb).trans x2)
        have c_e3 : ∀ p : BW wr, p.w.cell? ⟨bb, off + k * 6 + 3, none⟩ = some (.int .i64 v4) := bw_cell ((B1.cell (p := ⟨bb, off + k * 6 + 3, none⟩) hbb).trans x3)
        have c_e4 : ∀ p : BW wr, p.w.cell? ⟨bb, off + k * 6 + 4, none⟩ = some (.int .i64 v5) := bw_cell ((B1.cell (p := ⟨bb, off + k * 6 + 4, none⟩) hbb).trans x4)
        have c_e5 : ∀ p : BW wr, p.w.cell? ⟨bb, off + k * 6 + 5, none⟩ = some (.int .i64 v6) := bw_cell ((B1.cell (p := ⟨bb, off + k * 6 + 5, none⟩) hbb).trans x5)
        obtain ⟨p1, hp1⟩ : ∃ p : BW wr, p.w = wr := ⟨BW.start wr, rfl⟩
        rw [← hp1]
        clear hp1
        go_upto_region 5 with (fail)
        obtain ⟨W2, hW2⟩ : ∃ W, W = p1.w.alloc (.cells #[.int .i64 v1, .int .i64 v2, .int .i64 v3, .int .i64 v4, .int .i64 v5, .int .i64 v6] 31) := ⟨_, rfl⟩
        have B2 : Below w.heap.size w W2 := by rw [hW2]; exact (bw_below B1 p1).alloc (bw_below B1 p1).size _
        have l_b : g_g < p1.w.heap.size := (k_g.below p1.h).lt
        have o_b : w.heap.size ≤ p1.w.heap.size := (bw_below B1 p1).size
        have l_b_r : w.heap.size < p1.w.heap.size := (k_r.below p1.h).lt
        have k_r := bka hW2 (k_r.below p1.h)
        have k_g := bka hW2 (k_g.below p1.h)
        have k_b := bkn hW2
        rw [← hW2]
        clear hW2
        clear B1
        clear c_e0 c_e1 c_e2 c_e3 c_e4 c_e5
        generalize p1.w.heap.size = g_b at *
        obtain ⟨c_b_0, c_b_1, c_b_2, c_b_3, c_b_4, c_b_5⟩ := bwc6 (k_b)
        obtain ⟨p2, hp2⟩ : ∃ p : BW W2, p.w = W2 := ⟨BW.start W2, rfl⟩
        rw [← hp2]
        clear hp2
        go_upto_region 7 with (first
          | (go_at_call 13; (first | (with_reducible refine (bw_call KB.out _).mono ?_)); rintro e w' ⟨rfl, q, rfl⟩))
        repeat (first | (with_reducible refine gwp_none ?_) | ((with_reducible refine gwp_store_all (g := w.heap.size) (H := fun _ => g0) ?hx ?hy (k_r.below q.h) ?_); (case hx => rfl); (case hy => rfl)) | go_values | go_skip | go_guarded | go_step | go_upon)
        refine bodyPost_ret (results_cell_tmp rfl _ _ w.heap.size 56 (GA (fun _ => g0)) _ rfl (bk_row (k_r.below q.h)) Try.underlying56 rfl ga_info) rfl ⟨?_, below_row (bw_below B2 q) (Nat.le_refl _)⟩
        have hno : allBin ax lo hi (bls V n) = false := allBin_not (k := k) (by rw [← HVK.out]; have := HZ.out; have := HN.out; omega) hlt
        rw [hno]
        rfl
      · have B1 := BO
        have tz : decide (z < 0) = false := decide_eq_false hneg
        obtain ⟨zn, rfl⟩ : ∃ zn : Nat, z = zn := ⟨z.toNat, by omega⟩
        have hz8 : zn < 8 := by omega
        clear hneg hz7
        have c_e0 : ∀ p : BW wr, p.w.cell? ⟨bb, off + k * 6, none⟩ = some (.int .i64 v1) := bw_cell ((B1.cell (p := ⟨bb, off + k * 6, none⟩) hbb).trans x0)
        have c_e1 : ∀ p : BW wr, p.w.cell? ⟨bb, off + k * 6 + 1, none⟩ = some (.int .i64 v2) := bw_cell ((B1.cell (p := ⟨bb, off + k * 6 + 1, none⟩) hbb).trans x1)
        have c_e2 : ∀ p : BW wr, p.w.cell? ⟨bb, off + k * 6 + 2, none⟩ = some (.int .i64 v3) := bw_cell ((B1.cell (p := ⟨bb, off + k * 6 + 2, none⟩) hbb).trans x2)
        have c_e3 : ∀ p : BW wr, p.w.cell? ⟨bb, off + k * 6 + 3, none⟩ = some (.int .i64 v4) := bw_cell ((B1.cell (p := ⟨bb, off + k * 6 + 3, none⟩) hbb).trans x3)
        have c_e4 : ∀ p : BW wr, p.w.cell? ⟨bb, off + k * 6 + 4, none⟩ = some (.int .i64 v5) := bw_cell ((B1.cell (p := ⟨bb, off + k * 6 + 4, none⟩) hbb).trans x4)
        have c_e5 : ∀ p : BW wr, p.w.cell? ⟨bb, off + k * 6 + 5, none⟩ = some (.int .i64 v6) := bw_cell ((B1.cell (p := ⟨bb, off + k * 6 + 5, none⟩) hbb).trans x5)
        obtain ⟨p1, hp1⟩ : ∃ p : BW wr, p.w = wr := ⟨BW.start wr, rfl⟩
        rw [← hp1]
        clear hp1
        go_upto_region 5 with (fail)
        obtain ⟨W2, hW2⟩ : ∃ W, W = p1.w.alloc (.cells #[.int .i64 v1, .int .i64 v2, .int .i64 v3, .int .i64 v4, .int .i64 v5, .int .i64 v6] 31) := ⟨_, rfl⟩
        have B2 : Below w.heap.size w W2 := by rw [hW2]; exact (bw_below B1 p1).alloc (bw_below B1 p1).size _
        have l_b : g_g < p1.w.heap.size := (k_g.below p1.h).lt
        have o_b : w.heap.size ≤ p1.w.heap.size := (bw_below B1 p1).size
        have l_b_r : w.heap.size < p1.w.heap.size := (k_r.below p1.h).lt
        have k_r := bka hW2 (k_r.below p1.h)
        have k_g := bka hW2 (k_g.below p1.h)
        have k_b := bkn hW2
        rw [← hW2]
        clear hW2
        clear B1
        clear c_e0 c_e1 c_e2 c_e3 c_e4 c_e5
        generalize p1.w.heap.size = g_b at *
        obtain ⟨c_b_0, c_b_1, c_b_2, c_b_3, c_b_4, c_b_5⟩ := bwc6 (k_b)
        obtain ⟨p2, hp2⟩ : ∃ p : BW W2, p.w = W2 := ⟨BW.start W2, rfl⟩
        rw [← hp2]
        clear hp2
        go_upto_region 8 with (first
          | (go_at_call 13; (first | (with_reducible refine (bw_call KB.out _).mono ?_)); rintro e w' ⟨rfl, q, rfl⟩))
        obtain ⟨gz, hgz⟩ : ∃ gz, gz = gL (isB ax lo hi zn) (bls V k) := ⟨_, rfl⟩
        have hall := allBin_iff.1 HALL.out
        have okz : gOk gz := by rw [hgz]; exact gB_ok hall _
        have lez : gz.2 ≤ 1024 := by rw [hgz]; exact Nat.le_trans (gL_le _ _) (by rw [bls_len]; omega)
        have okv : bRight ((v1, v2, v3), v4, v5, v6) = true := (bBin_nonneg.1 (show 0 ≤ bBin ((v1, v2, v3), v4, v5, v6) ax lo hi by rw [← HZ.out]; omega)).1
        have KW := Lib.hid (fun w => bins_with gz (((v1, v2, v3), v4, v5, v6), 1) w okz (.inr okv) (by dsimp only; omega))
        have hnx := isB_group (V := V) (k := k) (z := zn) (ax := ax) (lo := lo) (hi := hi) (by rw [← HVK.out]; exact HZ.out.symm)
        rw [← hgz, ← HVK.out] at hnx
        have HNX := Lib.hid hnx
        have c_q := group_bw k_g hz8
        have f_q := group_fz k_g zn
        try dsimp only at c_q
        rw [← hgz] at c_q
        have hix := fun w => ga_index g_g zn hz8 w
        have HG := Lib.hid hgz
        clear hall hnx hgz okz lez okv
        obtain ⟨gn, hgn⟩ : ∃ gn, gn = gW gz (((v1, v2, v3), v4, v5, v6), 1) := ⟨_, rfl⟩
        rw [← hgn] at KW HNX
        clear hgn
        obtain ⟨⟨⟨p1, p2, p3⟩, p4, p5, p6⟩, pn⟩ := gz
        obtain ⟨⟨⟨r1, r2, r3⟩, r4, r5, r6⟩, rn⟩ := gn
        change Hid (∀ w, Calls Try.prog 31 #[.agg #[.int .i64 p1, .int .i64 p2, .int .i64 p3, .int .i64 p4, .int .i64 p5, .int .i64 p6, .int .i64 pn], .agg #[.int .i64 v1, .int .i64 v2, .int .i64 v3, .int .i64 v4, .int .i64 v5, .int .i64 v6, .int .i64 1]] w fun e w' => e = .returned (.agg #[.int .i64 r1, .int .i64 r2, .int .i64 r3, .int .i64 r4, .int .i64 r5, .int .i64 r6, .int .i64 rn]) ∧ Below w.heap.size w w') at KW
        obtain ⟨c_q0, c_q1, c_q2, c_q3, c_q4, c_q5, c_q6⟩ := c_q
        obtain ⟨f_q0, f_q1, f_q2, f_q3, f_q4, f_q5, f_q6⟩ := f_q
        dsimp only at c_q0 c_q1 c_q2 c_q3 c_q4 c_q5 c_q6
        refine wp_region_bw_tail 8 (by kernel_rfl) (by kernel_rfl) (by kernel_rfl) ?_
        simp only [List.take_succ_cons, List.take_zero, List.drop_succ_cons, List.drop_zero]
        repeat (go_big_quiet_step (first
          | (go_at_call 31; (first | (with_reducible exact bw_call KW.out _)))))
        refine wpQuiet_nil ?_
        intro _ hw'
        obtain ⟨q, rfl⟩ := hw'
        go_wp2
        go_roundw
        case rel => exact ⟨k + 1, by omega, by go_num, setCells_other (gcells (((r1, r2, r3), r4, r5, r6), rn)) (zn * 7) _ (k_r.below (BW.h _)) (by omega), (by rw [HNX.out]; exact group_stored (k_g.below (BW.h _)) hz8 (((r1, r2, r3), r4, r5, r6), rn)), setCells_below (by omega) (gcells (((r1, r2, r3), r4, r5, r6), rn)) (zn * 7) _ (bw_below B2 _), allBin_succ HALL.out (by rw [← HVK.out, ← HZ.out]; omega)⟩
        case measure => simp [intOf]; omega
    · obtain rfl : k = n := by omega
      obtain ⟨p1, hp1⟩ : ∃ p : BW wr, p.w = wr := ⟨BW.start wr, rfl⟩
      rw [← hp1]
      clear hp1
      repeat (first | ((with_reducible refine gwp_load_all (g := g_g) ?hx (k_g.below p1.h) ?_); (case hx => rfl)) | ((with_reducible refine gwp_store_all (g := w.heap.size) (H := fun j : Nat => gL (isB ax lo hi j) (bls V k)) ?hx ?hy (k_r.below p1.h) ?_); (case hx => rfl); (case hy => rfl)) | go_values | go_skip | go_guarded | go_step | go_upon)
      exact bodyPost_ret (results_cell_tmp rfl _ _ w.heap.size 56 _ _ rfl (bk_row (k_r.below p1.h)) Try.underlying56 rfl ga_info) rfl ⟨by rw [HALL.out, if_pos rfl]; rfl, below_row (bw_below BO p1) (Nat.le_refl _)⟩

set_option maxRecDepth 100000 in
set_option maxHeartbeats 4000000 in
theorem bins_parted (l : List Bx) (ax lo hi : Int) (w : World) (hall : ∀ b ∈ l, 0 ≤ bBin b ax lo hi) (hn : l.length ≤ 1024) :
    Calls Try.prog 21 #[.agg (GA (fun j : Nat => gL (isB ax lo hi j) l))] w fun e w' => e = .returned (.tuple #[.agg (GA (fun j : Nat => gL (isL ax lo hi j) l)), .agg (GA (fun j : Nat => gL (isR ax lo hi j) l))]) ∧ Below w.heap.size w w' := by
  have HALL := Lib.hid hall
  have HLE := Lib.hid (fun p => Nat.le_trans (gL_le p l) hn)
  clear hall hn
  obtain ⟨LA, hLA⟩ : ∃ LA, LA = GA (fun j : Nat => gL (isB ax lo hi j) l) := ⟨_, rfl⟩
  rw [← hLA]
  have HLA := Lib.hid hLA
  clear hLA
  go_enter Try.func21, Try.ntmps21
  go_upto_region 1 with (fail)
  obtain ⟨W1, hW1⟩ : ∃ W, W = ((w.alloc (.cells LA 56)).alloc (.cells #[.int .i64 0, .int .i64 0, .int .i64 0, .int .i64 0, .int .i64 0, .int .i64 0, .int .i64 0, .int .i64 0, .int .i64 0, .int .i64 0, .int .i64 0, .int .i64 0, .int .i64 0, .int .i64 0, .int .i64 0, .int .i64 0, .int .i64 0, .int .i64 0, .int .i64 0, .int .i64 0, .int .i64 0, .int .i64 0, .int .i64 0, .int .i64 0, .int .i64 0, .int .i64 0, .int .i64 0, .int .i64 0, .int .i64 0, .int .i64 0, .int .i64 0, .int .i64 0, .int .i64 0, .int .i64 0, .int .i64 0, .int .i64 0, .int .i64 0, .int .i64 0, .int .i64 0, .int .i64 0, .int .i64 0, .int .i64 0, .int .i64 0, .int .i64 0, .int .i64 0, .int .i64 0, .int .i64 0, .int .i64 0, .int .i64 0, .int .i64 0, .int .i64 0, .int .i64 0, .int .i64 0, .int .i64 0, .int .i64 0, .int .i64 0] 56)).alloc (.cells #[.int .i64 0, .int .i64 0, .int .i64 0, .int .i64 0, .int .i64 0, .int .i64 0, .int .i64 0, .int .i64 0, .int .i64 0, .int .i64 0, .int .i64 0, .int .i64 0, .int .i64 0, .int .i64 0, .int .i64 0, .int .i64 0, .int .i64 0, .int .i64 0, .int .i64 0, .int .i64 0, .int .i64 0, .int .i64 0, .int .i64 0, .int .i64 0, .int .i64 0, .int .i64 0, .int .i64 0, .int .i64 0, .int .i64 0, .int .i64 0, .int .i64 0, .int .i64 0, .int .i64 0, .int .i64 0, .int .i64 0, .int .i64 0, .int .i64 0, .int .i64 0, .int .i64 0, .int .i64 0, .int .i64 0, .int .i64 0, .int .i64 0, .int .i64 0, .int .i64 0, .int .i64 0, .int .i64 0, .int .i64 0, .int .i64 0, .int .i64 0, .int .i64 0, .int .i64 0, .int .i64 0, .int .i64 0, .int .i64 0, .int .i64 0] 56) := ⟨_, rfl⟩
  obtain ⟨k_a, k_b, k_o, B1⟩ := st3 hW1
  rw [← hW1]
  clear hW1
  have l_b : w.heap.size < w.heap.size + 1 := by omega
  have l_o : w.heap.size + 1 < w.heap.size + 1 + 1 := by omega
  generalize w.heap.size + 1 + 1 = g_o at *
  generalize w.heap.size + 1 = g_b at *
  rw [HLA.out] at k_a
  change Bk W1 g_b 56 (GA (fun _ => g0)) at k_b
  change Bk W1 g_o 56 (GA (fun _ => g0)) at k_o
  repeat (first | ((with_reducible refine gwp_load (k := 7) ?hx (k_a) (show 7 < 8 by omega) ?_); (case hx => rfl)) | ((with_reducible refine gwp_store (k := 7) (z := gL (isB ax lo hi (7 : Nat)) l) ?hx ?hy (k_o) (show 7 < 8 by omega) ?_); (case hx => rfl); (case hy => rfl)) | go_values | go_skip | go_guarded | go_step | go_upon)
  obtain ⟨W2, hW2⟩ : ∃ W, W = W1.setCells g_o 49 (gcells (gL (isB ax lo hi 7) l)) := ⟨_, rfl⟩
  have k_a : Bk W2 w.heap.size 56 (GA (fun j : Nat => gL (isB ax lo hi j) l)) := by rw [hW2]; exact setCells_other _ _ _ k_a (by omega)
  have k_b : Bk W2 g_b 56 (GA (gBefore ax lo hi l 0)) := by rw [hW2, gBefore_start]; exact setCells_other _ _ _ k_b (by omega)
  have k_o : Bk W2 g_o 56 (GA (gOthers ax lo hi l 0)) := by rw [hW2, ← gOthers_start]; exact group_stored k_o (show 7 < 8 by omega) _
  have B2 : Below w.heap.size w W2 := by rw [hW2]; exact setCells_below (by omega) _ _ _ B1
  rw [← hW2]
  clear hW2 B1
  go_loopw [9] (fun i wr => ∃ k : Nat, k ≤ 7 ∧ i = .int .i64 k ∧ Bk wr w.heap.size 56 (GA (fun j : Nat => gL (isB ax lo hi j) l)) ∧ Bk wr g_b 56 (GA (gBefore ax lo hi l k)) ∧ Bk wr g_o 56 (GA (gOthers ax lo hi l k)) ∧ Below w.heap.size w wr) (fun i _ => 7 - (intOf i).toNat)
  case atStart => exact ⟨0, by omega, rfl, k_a, k_b, k_o, B2⟩
  case round =>
    clear k_a k_b k_o B2
    obtain ⟨k, hk, rfl, k_a, k_b, k_o, BO⟩ := hrel
    by_cases hlt : k < 7
    · obtain ⟨m, hm⟩ : ∃ m, m = 6 - k := ⟨_, rfl⟩
      have E2 := Lib.hid (show (6 : Int) - (k : Int) = (m : Int) by omega)
      obtain ⟨x, hx⟩ : ∃ x, x = gBefore ax lo hi l k k := ⟨_, rfl⟩
      obtain ⟨y, hy⟩ : ∃ y, y = gL (isB ax lo hi k) l := ⟨_, rfl⟩
      obtain ⟨u, hu⟩ : ∃ u, u = gOthers ax lo hi l k (m + 1) := ⟨_, rfl⟩
      obtain ⟨v, hv⟩ : ∃ v, v = gL (isB ax lo hi m) l := ⟨_, rfl⟩
      have n1 := gBefore_step (ax := ax) (lo := lo) (hi := hi) l k
      have n2 := gOthers_step (ax := ax) (lo := lo) (hi := hi) l k m (by omega)
      rw [← hx, ← hy] at n1
      rw [← hu, ← hv] at n2
      have okA : ∀ p, gOk (gL p l) := fun p => gB_ok HALL.out p
      have ex : x = gL (isL ax lo hi k) l := by rw [hx]; unfold gBefore; rw [if_pos (Nat.le_refl _)]
      have eu : u = gL (isR ax lo hi (m + 1 : Nat)) l := by rw [hu]; unfold gOthers; rw [if_pos (by omega)]
      have KX := Lib.hid (fun w => bins_with x y w (by rw [ex]; exact okA _) (by rw [hy]; exact okA _) (by rw [ex, hy]; have := HLE.out (isL ax lo hi k); have := HLE.out (isB ax lo hi k); omega))
      have KU := Lib.hid (fun w => bins_with u v w (by rw [eu]; exact okA _) (by rw [hv]; exact okA _) (by rw [eu, hv]; have := HLE.out (isR ax lo hi (m + 1 : Nat)); have := HLE.out (isB ax lo hi m); omega))
      have c_x := group_bw k_b (show k < 8 by omega)
      have c_y := group_bw k_a (show k < 8 by omega)
      rw [← hx] at c_x
      rw [← hy] at c_y
      have HX := Lib.hid hx
      have HY := Lib.hid hy
      have HU := Lib.hid hu
      have HV := Lib.hid hv
      have HN1 := Lib.hid n1
      have HN2 := Lib.hid n2
      obtain ⟨X, hX⟩ : ∃ X, X = gW x y := ⟨_, rfl⟩
      obtain ⟨U, hU⟩ : ∃ U, U = gW u v := ⟨_, rfl⟩
      rw [← hX] at KX HN1
      rw [← hU] at KU HN2
      have HM := Lib.hid hm
      have hk8 : k < 8 := by omega
      have hk18 : k + 1 < 8 := by omega
      have hm8 : m < 8 := by omega
      have hm18 : m + 1 < 8 := by omega
      clear hX hU hx hy hu hv n1 n2 okA ex eu hm
      have B2 := BO
      clear BO
      obtain ⟨⟨⟨x1, x2, x3⟩, x4, x5, x6⟩, xn⟩ := x
      obtain ⟨⟨⟨y1, y2, y3⟩, y4, y5, y6⟩, yn⟩ := y
      obtain ⟨⟨⟨u1, u2, u3⟩, u4, u5, u6⟩, un⟩ := u
      obtain ⟨⟨⟨v1, v2, v3⟩, v4, v5, v6⟩, vn⟩ := v
      obtain ⟨⟨⟨p1, p2, p3⟩, p4, p5, p6⟩, pn⟩ := X
      obtain ⟨⟨⟨q1, q2, q3⟩, q4, q5, q6⟩, qn⟩ := U
      change Hid (∀ w, Calls Try.prog 31 #[.agg #[.int .i64 x1, .int .i64 x2, .int .i64 x3, .int .i64 x4, .int .i64 x5, .int .i64 x6, .int .i64 xn], .agg #[.int .i64 y1, .int .i64 y2, .int .i64 y3, .int .i64 y4, .int .i64 y5, .int .i64 y6, .int .i64 yn]] w fun e w' => e = .returned (.agg #[.int .i64 p1, .int .i64 p2, .int .i64 p3, .int .i64 p4, .int .i64 p5, .int .i64 p6, .int .i64 pn]) ∧ Below w.heap.size w w') at KX
      change Hid (∀ w, Calls Try.prog 31 #[.agg #[.int .i64 u1, .int .i64 u2, .int .i64 u3, .int .i64 u4, .int .i64 u5, .int .i64 u6, .int .i64 un], .agg #[.int .i64 v1, .int .i64 v2, .int .i64 v3, .int .i64 v4, .int .i64 v5, .int .i64 v6, .int .i64 vn]] w fun e w' => e = .returned (.agg #[.int .i64 q1, .int .i64 q2, .int .i64 q3, .int .i64 q4, .int .i64 q5, .int .i64 q6, .int .i64 qn]) ∧ Below w.heap.size w w') at KU
      obtain ⟨c_x0, c_x1, c_x2, c_x3, c_x4, c_x5, c_x6⟩ := c_x
      dsimp only at c_x0 c_x1 c_x2 c_x3 c_x4 c_x5 c_x6
      obtain ⟨c_y0, c_y1, c_y2, c_y3, c_y4, c_y5, c_y6⟩ := c_y
      dsimp only at c_y0 c_y1 c_y2 c_y3 c_y4 c_y5 c_y6
      obtain ⟨f_b0, f_b1, f_b2, f_b3, f_b4, f_b5, f_b6⟩ := group_fz k_b (k + 1)
      obtain ⟨d_b0, d_b1, d_b2, d_b3, d_b4, d_b5, d_b6⟩ := group_bw k_b hk18
      have i1 := fun w => ga_index g_b k hk8 w
      have i2 := ga_index w.heap.size k hk8
      have i3 := ga_index g_b (k + 1) hk18
      obtain ⟨pw, hpw⟩ : ∃ p : BW wr, p.w = wr := ⟨BW.start wr, rfl⟩
      rw [← hpw]
      clear hpw
      go_upto_region 5 with (fail)
      refine wp_region_bw_tail 10 (by kernel_rfl) (by kernel_rfl) (by kernel_rfl) ?_
      simp only [List.take_succ_cons, List.take_zero, List.drop_succ_cons, List.drop_zero]
      repeat (go_big_quiet_step (first
        | (go_at_call 31; (first | (with_reducible exact bw_call KX.out _)))))
      refine wpQuiet_nil ?_
      intro _ hw'
      obtain ⟨q, rfl⟩ := hw'
      go_upto_region 6 with (fail)
      obtain ⟨W3, hW3⟩ : ∃ W, W = ((((((q.w.setCell ⟨g_b, (k + 1) * 7, none⟩ (.int .i64 p1)).setCell ⟨g_b, (k + 1) * 7 + 1, none⟩ (.int .i64 p2)).setCell ⟨g_b, (k + 1) * 7 + 2, none⟩ (.int .i64 p3)).setCell ⟨g_b, (k + 1) * 7 + 3, none⟩ (.int .i64 p4)).setCell ⟨g_b, (k + 1) * 7 + 4, none⟩ (.int .i64 p5)).setCell ⟨g_b, (k + 1) * 7 + 5, none⟩ (.int .i64 p6)).setCell ⟨g_b, (k + 1) * 7 + 6, none⟩ (.int .i64 pn) := ⟨_, rfl⟩
      have k_a : Bk W3 w.heap.size 56 (GA (fun j : Nat => gL (isB ax lo hi j) l)) := by rw [hW3]; exact setCells_other (gcells (((p1, p2, p3), p4, p5, p6), pn)) ((k + 1) * 7) _ (k_a.below q.h) (by omega)
      have k_b : Bk W3 g_b 56 (GA (gBefore ax lo hi l (k + 1))) := by rw [hW3, ← HN1.out]; exact group_stored (k_b.below q.h) hk18 (((p1, p2, p3), p4, p5, p6), pn)
      have k_o : Bk W3 g_o 56 (GA (gOthers ax lo hi l k)) := by rw [hW3]; exact setCells_other (gcells (((p1, p2, p3), p4, p5, p6), pn)) ((k + 1) * 7) _ (k_o.below q.h) (by omega)
      have B3 : Below w.heap.size w W3 := by rw [hW3]; exact setCells_below (by omega) (gcells (((p1, p2, p3), p4, p5, p6), pn)) ((k + 1) * 7) _ (bw_below B2 q)
      rw [← hW3]
      clear hW3 B2
      clear i1 i2 i3
      clear c_x0 c_y0 f_b0 d_b0 c_x1 c_y1 f_b1 d_b1 c_x2 c_y2 f_b2 d_b2 c_x3 c_y3 f_b3 d_b3 c_x4 c_y4 f_b4 d_b4 c_x5 c_y5 f_b5 d_b5 c_x6 c_y6 f_b6 d_b6
      have c_x := group_bw k_o hm18
      have c_y := group_bw k_a hm8
      rw [← HU.out] at c_x
      rw [← HV.out] at c_y
      obtain ⟨c_x0, c_x1, c_x2, c_x3, c_x4, c_x5, c_x6⟩ := c_x
      dsimp only at c_x0 c_x1 c_x2 c_x3 c_x4 c_x5 c_x6
      obtain ⟨c_y0, c_y1, c_y2, c_y3, c_y4, c_y5, c_y6⟩ := c_y
      dsimp only at c_y0 c_y1 c_y2 c_y3 c_y4 c_y5 c_y6
      obtain ⟨f_o0, f_o1, f_o2, f_o3, f_o4, f_o5, f_o6⟩ := group_fz k_o m
      obtain ⟨d_o0, d_o1, d_o2, d_o3, d_o4, d_o5, d_o6⟩ := group_bw k_o hm8
      have i1 := ga_index g_o (m + 1) hm18
      have i2 := ga_index w.heap.size m hm8
      have i3 := ga_index g_o m hm8
      obtain ⟨pw, hpw⟩ : ∃ p : BW W3, p.w = W3 := ⟨BW.start W3, rfl⟩
      rw [← hpw]
      clear hpw
      have e2 := E2.out
      go_upto_region 7 with (fail)
      refine wp_region_bw_tail 10 (by kernel_rfl) (by kernel_rfl) (by kernel_rfl) ?_
      simp only [List.take_succ_cons, List.take_zero, List.drop_succ_cons, List.drop_zero]
      repeat (go_big_quiet_step (first
        | (go_at_call 31; (first | (with_reducible exact bw_call KU.out _)))))
      refine wpQuiet_nil ?_
      intro _ hw'
      obtain ⟨q, rfl⟩ := hw'
      go_wp2
      go_roundw
      case rel => exact ⟨k + 1, by omega, by go_num, setCells_other (gcells (((q1, q2, q3), q4, q5, q6), qn)) (m * 7) _ (k_a.below (BW.h _)) (by omega), setCells_other (gcells (((q1, q2, q3), q4, q5, q6), qn)) (m * 7) _ (k_b.below (BW.h _)) (by omega), (by rw [← HN2.out]; exact group_stored (k_o.below (BW.h _)) hm8 (((q1, q2, q3), q4, q5, q6), qn)), setCells_below (by omega) (gcells (((q1, q2, q3), q4, q5, q6), qn)) (m * 7) _ (bw_below B3 _)⟩
      case measure => simp [intOf]; omega
    · obtain rfl : k = 7 := by omega
      rw [gBefore_end] at k_b
      rw [gOthers_end] at k_o
      go_upto_region 9 with (fail)
      refine wp_region_any (by kernel_rfl) ?_
      have k_b : Bk { wr with drawn := wr.drawn + 1 } g_b 56 (GA (fun j : Nat => gL (isL ax lo hi j) l)) := k_b
      have k_o : Bk { wr with drawn := wr.drawn + 1 } g_o 56 (GA (fun j : Nat => gL (isR ax lo hi j) l)) := k_o
      have B3 : Below w.heap.size w { wr with drawn := wr.drawn + 1 } := BO.trans ⟨rfl, rfl, rfl, Nat.le_refl _, fun _ _ => rfl⟩
      generalize { wr with drawn := wr.drawn + 1 } = w9 at *
      refine wpAny_ready (rs := [0, 1]) (by kernel_rfl) (by simp) ?_
      refine AllReady.cons rfl (fun K hK => ?_) (AllReady.cons rfl (fun K hK => ?_) (AllReady.nil))
      · rw [if_pos (by rfl)]
        refine gwp_load_all (g := g_b) rfl k_b ?_
        refine hK _ _ ?_
        clear hK K
        refine wpAny_ready (rs := [1, 2]) (by kernel_rfl) (by simp) ?_
        refine AllReady.cons rfl (fun K hK => ?_) (AllReady.cons rfl (fun K hK => ?_) (AllReady.nil))
        · rw [if_pos (by rfl)]
          refine gwp_load_all (g := g_o) rfl k_o ?_
          refine hK _ _ ?_
          clear hK K
          refine wpAny_ready (rs := [2]) (by kernel_rfl) (by simp) ?_
          refine AllReady.cons rfl (fun K hK => ?_) (AllReady.nil)
          rw [if_pos (by rfl)]
          refine gwp_store_same (g := g_b) rfl rfl k_b ?_
          refine hK _ _ ?_
          clear hK K
          refine wpAny_ready (rs := [3]) (by kernel_rfl) (by simp) ?_
          refine AllReady.cons rfl (fun K hK => ?_) (AllReady.nil)
          rw [if_pos (by rfl)]
          refine gwp_store_same (g := g_o) rfl rfl k_o ?_
          refine hK _ _ ?_
          clear hK K
          refine wpAny_done (by kernel_rfl) ?_ _
          simp only [Act.put, List.setIfInBounds_toArray, List.set_cons_zero, List.set_cons_succ]
          go_wp2
          exact bodyPost_ret (results_cell_cell rfl _ _ g_b 56 _ _ rfl k_b Try.underlying56 rfl ga_info g_o 56 _ _ rfl k_o Try.underlying56 rfl ga_info) rfl ⟨rfl, B3⟩
        · rw [if_pos (by rfl)]
          refine gwp_store_same (g := g_b) rfl rfl k_b ?_
          refine hK _ _ ?_
          clear hK K
          refine wpAny_ready (rs := [1]) (by kernel_rfl) (by simp) ?_
          refine AllReady.cons rfl (fun K hK => ?_) (AllReady.nil)
          rw [if_pos (by rfl)]
          refine gwp_load_all (g := g_o) rfl k_o ?_
          refine hK _ _ ?_
          clear hK K
          refine wpAny_ready (rs := [3]) (by kernel_rfl) (by simp) ?_
          refine AllReady.cons rfl (fun K hK => ?_) (AllReady.nil)
          rw [if_pos (by rfl)]
          refine gwp_store_same (g := g_o) rfl rfl k_o ?_
          refine hK _ _ ?_
          clear hK K
          refine wpAny_done (by kernel_rfl) ?_ _
          simp only [Act.put, List.setIfInBounds_toArray, List.set_cons_zero, List.set_cons_succ]
          go_wp2
          exact bodyPost_ret (results_cell_cell rfl _ _ g_b 56 _ _ rfl k_b Try.underlying56 rfl ga_info g_o 56 _ _ rfl k_o Try.underlying56 rfl ga_info) rfl ⟨rfl, B3⟩
      · rw [if_pos (by rfl)]
        refine gwp_load_all (g := g_o) rfl k_o ?_
        refine hK _ _ ?_
        clear hK K
        refine wpAny_ready (rs := [0]) (by kernel_rfl) (by simp) ?_
        refine AllReady.cons rfl (fun K hK => ?_) (AllReady.nil)
        rw [if_pos (by rfl)]
        refine gwp_load_all (g := g_b) rfl k_b ?_
        refine hK _ _ ?_
        clear hK K
        refine wpAny_ready (rs := [2]) (by kernel_rfl) (by simp) ?_
        refine AllReady.cons rfl (fun K hK => ?_) (AllReady.nil)
        rw [if_pos (by rfl)]
        refine gwp_store_same (g := g_b) rfl rfl k_b ?_
        refine hK _ _ ?_
        clear hK K
        refine wpAny_ready (rs := [3]) (by kernel_rfl) (by simp) ?_
        refine AllReady.cons rfl (fun K hK => ?_) (AllReady.nil)
        rw [if_pos (by rfl)]
        refine gwp_store_same (g := g_o) rfl rfl k_o ?_
        refine hK _ _ ?_
        clear hK K
        refine wpAny_done (by kernel_rfl) ?_ _
        simp only [Act.put, List.setIfInBounds_toArray, List.set_cons_zero, List.set_cons_succ]
        go_wp2
        exact bodyPost_ret (results_cell_cell rfl _ _ g_b 56 _ _ rfl k_b Try.underlying56 rfl ga_info g_o 56 _ _ rfl k_o Try.underlying56 rfl ga_info) rfl ⟨rfl, B3⟩

end Go.Proofs.Ytfdolgdfadipeaa
