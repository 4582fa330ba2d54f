/- Contracts of the landed tree, below: chosen, boxed, around, indices, isOther, isLeaf, once. -/
import Derived.Test.YtomlcglnkdfemaaGreatTb20
import Derived.Test.YtomlcglnkdfemaaGreatTb32
import Derived.Test.YtomlcglnkdfemaaGreatTb35
import Derived.Test.YtomlcglnkdfemaaGreatTb28


namespace Go.Proofs.YtomlcglnkdfemaaGreat
section

open Go.RowKit Go.Proofs.Sky

set_option linter.unusedVariables false

set_option linter.unusedSimpArgs false

set_option maxRecDepth 100000 in
set_option maxHeartbeats 8000000 in
theorem tree_chosen_int (a b : Option Addr) (ca cb : Nat) (wl sl : List Nat) (w : World) (ha : IntSlice w a wl.length (fun i => ((wl.getD i 0 : Nat) : Int))) (hb : IntSlice w b sl.length (fun i => ((sl.getD i 0 : Nat) : Int))) (hs : ∀ k ∈ sl, k < wl.length) (hn : sl.length ≤ 1024) :
    Calls Tryz.prog 28 #[.slice a wl.length ca, .slice b sl.length cb] w fun e w' => ∃ u, e = .returned u ∧ Ints w' w.heap.size u (wAt wl sl) ∧ Below w.heap.size w w' := by
  have HA := Lib.hid ha
  have HB := Lib.hid hb
  have HS := Lib.hid hs
  obtain ⟨i0, hi0, hz0, hz1, hz2⟩ := info_parts int_info15
  obtain ⟨m, hmm⟩ : ∃ m, m = sl.length := ⟨_, rfl⟩
  obtain ⟨n, hnn⟩ : ∃ n, n = wl.length := ⟨_, rfl⟩
  rw [← hmm] at hn HB ⊢
  rw [← hnn] at HA HS ⊢
  have HM := Lib.hid hmm
  clear ha hb hs hmm hnn
  go_enter Tryz.func28, Tryz.ntmps28
  go_wp2
  go_loopw [5, 10] (fun u i wr => ∃ k : Nat, k ≤ m ∧ i = .int .i64 k ∧ Ints wr w.heap.size u (wAt wl (sl.take k)) ∧ Below w.heap.size w wr) (fun _ i _ => m - (intOf i).toNat)
  case atStart => exact ⟨0, by omega, rfl, World.ownsRow_nil _ _ _ _, Below.refl _ _⟩
  case round =>
    obtain ⟨k, hk, rfl, hu, BO⟩ := hrel
    by_cases hlt : k < m
    · obtain ⟨bb, ob, rfl, hcb, hbb⟩ := HB.out.resolve_left (by omega)
      have y0 : w.cell? ⟨bb, ob + k, none⟩ = some (.int .i64 ((sl.getD k 0 : Nat) : Int)) := (hcb k hlt).1
      have hkl : k < sl.length := by have := HM.out; omega
      have hin : sl.getD k 0 < n := HS.out _ (by rw [List.getD_eq_getElem?_getD, List.getElem?_eq_getElem hkl]; exact List.getElem_mem _)
      obtain ⟨ba, oa, rfl, hca, hba⟩ := HA.out.resolve_left (by omega)
      have z0 : w.cell? ⟨ba, oa + sl.getD k 0, none⟩ = some (.int .i64 ((wl.getD (sl.getD k 0) 0 : Nat) : Int)) := (hca _ hin).1
      have hT := wAt_take (wl := wl) hkl
      clear hcb hca
      generalize sl.getD k 0 = j at *
      generalize wl.getD j 0 = v at *
      have hlu : (wAt wl (sl.take k)).length ≤ k := by rw [wAt_len, List.length_take]; omega
      have HT := Lib.hid hT
      clear hT
      have B1 := BO
      have c_y : ∀ p : BW wr, p.w.cell? ⟨bb, ob + k, none⟩ = some (.int .i64 (j : Int)) := bw_cell ((B1.cell (p := ⟨bb, ob + k, none⟩) hbb).trans y0)
      have c_z : ∀ p : BW wr, p.w.cell? ⟨ba, oa + j, none⟩ = some (.int .i64 (v : Int)) := bw_cell ((B1.cell (p := ⟨ba, oa + j, none⟩) hba).trans z0)
      obtain ⟨p1, hp1⟩ : ∃ p : BW wr, p.w = wr := ⟨BW.start wr, rfl⟩
      rw [← hp1]
      clear hp1
      go_wp2_with (at_builtin; refine wpList_append_at rfl _ _ 26 rfl w.heap.size 3 i0 (.int .i64 0) 1 8 Tryz.underlying26 hi0 hz0 hz1 hz2 rfl (by decide) _ _ _ rfl (World.ownsRow.alloc (hu.below (BW.h _)) _) ⟨_, 0, none⟩ 1 1 [.int .i64 (v : Int)] rfl rfl ?g1 ?g2 ?g3 ?g4 ?g5 ?_)
      case g1 => exact cell_one_new _ _ _
      case g2 => first | (intro u hu; simp only [List.mem_cons, List.not_mem_nil, or_false] at hu; rw [hu]; rfl) | rfl | (simp [Value.oneCell'])
      case g3 => unfold maxLen; omega
      case g4 => omega
      case g5 => have := (bw_below B1 p1).size; simp; omega
      intro v' w1 hown hgrow hat
      have hb1 : Below w.heap.size w w1 := ((bw_below B1 p1).alloc (bw_below B1 p1).size _).grown hgrow (by have := (bw_below B1 p1).size; simp; omega) (fun j ej => by have := (World.ownsRow.lt hu _ ej).1; omega)
      have r1 : Ints w1 w.heap.size v' (wAt wl (sl.take k) ++ [v]) := by unfold Ints; rw [List.length_append, List.map_append]; exact hown
      go_wp2
      go_roundw
      case rel => exact ⟨k + 1, by omega, by go_num, (by rw [HT.out]; exact r1), hb1⟩
      case measure => simp [intOf]; omega
    · obtain rfl : k = m := by omega
      go_wp2
      go_ret
      have e : sl.take k = sl := by rw [HM.out, List.take_length]
      rw [e] at hu
      exact ⟨_, rfl, hu, BO⟩

set_option maxRecDepth 100000 in
set_option maxHeartbeats 8000000 in
theorem tree_chosen_box (a b : Option Addr) (n ca m cb : Nat) (V : Nat → Bx) (Z : Nat → Int) (w : World) (ha : Boxes w (.slice a n ca) n V) (hb : IntSlice w b m Z) (hz : ∀ k, k < m → 0 ≤ Z k ∧ Z k < n) (hm : m ≤ 1024) :
    Calls Tryz.prog 15 #[.slice a n ca, .slice b m cb] w fun e w' => ∃ u, e = .returned u ∧ BoxRow w' w.heap.size u (bls (fun k => V (Z k).toNat) m) ∧ Below w.heap.size w w' := by
  have HA := Lib.hid ha
  have HB := Lib.hid hb
  have HZ := Lib.hid hz
  obtain ⟨i0, hi0, hz0, hz1, hz2⟩ := info_parts box_info
  clear ha hb hz
  go_enter Tryz.func15, Tryz.ntmps15
  go_wp2
  go_loopw [5, 10] (fun u i wr => ∃ k : Nat, k ≤ m ∧ i = .int .i64 k ∧ BoxRow wr w.heap.size u (bls (fun k => V (Z k).toNat) k) ∧ Below w.heap.size w wr) (fun _ i _ => m - (intOf i).toNat)
  case atStart => exact ⟨0, by omega, rfl, World.ownsRow_nil _ _ _ _, Below.refl _ _⟩
  case round =>
    obtain ⟨k, hk, rfl, hu, BO⟩ := hrel
    by_cases hlt : k < m
    · obtain ⟨bb, ob, rfl, hcb, hbb⟩ := HB.out.resolve_left (by omega)
      have y0 : w.cell? ⟨bb, ob + k, none⟩ = some (.int .i64 (Z k)) := (hcb k hlt).1
      have hr := HZ.out k hlt
      obtain ⟨j, hj⟩ : ∃ j : Nat, j = (Z k).toNat := ⟨_, rfl⟩
      have hjz : Z k = (j : Int) := by omega
      have hjn : j < n := by omega
      obtain ⟨ba, oa, rfl, hba, x0, x1, x2, x3, x4, x5⟩ := boxes_at HA.out hjn
      rw [hjz] at y0
      have hT : bls (fun k => V (Z k).toNat) (k + 1) = bls (fun k => V (Z k).toNat) k ++ [V j] := by rw [bls_succ, ← hj]
      obtain ⟨vk, hvk⟩ : ∃ vk, vk = V j := ⟨_, rfl⟩
      rw [← hvk] at x0 x1 x2 x3 x4 x5 hT
      have HT := Lib.hid hT
      clear hvk hT hcb hr hj hjz
      obtain ⟨⟨v1, v2, v3⟩, v4, v5, v6⟩ := vk
      dsimp only at x0 x1 x2 x3 x4 x5
      have hlu : (bls (fun k => V (Z k).toNat) k).length = k := bls_len _ _
      generalize bls (fun k => V (Z k).toNat) k = L at *
      have B1 := BO
      have c_y : ∀ p : BW wr, p.w.cell? ⟨bb, ob + k, none⟩ = some (.int .i64 (j : Int)) := bw_cell ((B1.cell (p := ⟨bb, ob + k, none⟩) hbb).trans y0)
      have c_x0 : ∀ p : BW wr, p.w.cell? ⟨ba, oa + j * 6, none⟩ = some (.int .i64 v1) := bw_cell ((B1.cell (p := ⟨ba, oa + j * 6, none⟩) hba).trans x0)
      have c_x1 : ∀ p : BW wr, p.w.cell? ⟨ba, oa + j * 6 + 1, none⟩ = some (.int .i64 v2) := bw_cell ((B1.cell (p := ⟨ba, oa + j * 6 + 1, none⟩) hba).trans x1)
      have c_x2 : ∀ p : BW wr, p.w.cell? ⟨ba, oa + j * 6 + 2, none⟩ = some (.int .i64 v3) := bw_cell ((B1.cell (p := ⟨ba, oa + j * 6 + 2, none⟩) hba).trans x2)
      have c_x3 : ∀ p : BW wr, p.w.cell? ⟨ba, oa + j * 6 + 3, none⟩ = some (.int .i64 v4) := bw_cell ((B1.cell (p := ⟨ba, oa + j * 6 + 3, none⟩) hba).trans x3)
      have c_x4 : ∀ p : BW wr, p.w.cell? ⟨ba, oa + j * 6 + 4, none⟩ = some (.int .i64 v5) := bw_cell ((B1.cell (p := ⟨ba, oa + j * 6 + 4, none⟩) hba).trans x4)
      have c_x5 : ∀ p : BW wr, p.w.cell? ⟨ba, oa + j * 6 + 5, none⟩ = some (.int .i64 v6) := bw_cell ((B1.cell (p := ⟨ba, oa + j * 6 + 5, none⟩) hba).trans x5)
      obtain ⟨p1, hp1⟩ : ∃ p : BW wr, p.w = wr := ⟨BW.start wr, rfl⟩
      rw [← hp1]
      clear hp1
      go_wp2_with (at_builtin; refine wpList_append_at rfl _ _ 47 rfl w.heap.size 41 i0 _ 6 48 Tryz.underlying47 hi0 hz0 hz1 hz2 rfl (by decide) _ _ _ rfl (World.ownsRow.alloc (owns_below hu (BW.h _)) _) ⟨_, 0, none⟩ 1 1 (bcells ((v1, v2, v3), (v4, v5, v6))) rfl rfl ?g1 ?g2 ?g3 ?g4 ?g5 ?_)
      case g1 => exact cells_new _ #[.int .i64 v1, .int .i64 v2, .int .i64 v3, .int .i64 v4, .int .i64 v5, .int .i64 v6] _
      case g2 => exact bcells_one _
      case g3 => unfold maxLen; omega
      case g4 => omega
      case g5 => have := (bw_below B1 p1).size; simp; omega
      intro v' w1 hown hgrow hat
      have hb1 : Below w.heap.size w w1 := ((bw_below B1 p1).alloc (bw_below B1 p1).size _).grown hgrow (by have := (bw_below B1 p1).size; simp; omega) (fun j ej => by have := (World.ownsRow.lt hu _ ej).1; omega)
      have r1 : BoxRow w1 w.heap.size v' (L ++ [((v1, v2, v3), (v4, v5, v6))]) := by unfold BoxRow; rw [List.length_append, hlu, List.flatMap_append, List.flatMap_cons, List.flatMap_nil, List.append_nil]; exact hown
      go_wp2
      go_roundw
      case rel => exact ⟨k + 1, by omega, by go_num, (by rw [HT.out]; exact r1), hb1⟩
      case measure => simp [intOf]; omega
    · obtain rfl : k = m := by omega
      go_wp2
      go_ret
      exact ⟨_, rfl, hu, BO⟩

set_option maxRecDepth 100000 in
set_option maxHeartbeats 8000000 in
theorem tree_indices (n : Nat) (w : World) (hn : n ≤ 1024) :
    Calls Tryz.prog 14 #[.int .i64 (n : Int)] w fun e w' => ∃ u, e = .returned u ∧ Ints w' w.heap.size u (List.range n) ∧ Below w.heap.size w w' := by
  obtain ⟨i0, hi0, hz0, hz1, hz2⟩ := info_parts int_info15
  go_enter Tryz.func14, Tryz.ntmps14
  go_wp2
  go_loopw [3, 6] (fun u i wr => ∃ k : Nat, k ≤ n ∧ i = .int .i64 k ∧ Ints wr w.heap.size u (List.range k) ∧ Below w.heap.size w wr) (fun _ i _ => n - (intOf i).toNat)
  case atStart => exact ⟨0, by omega, rfl, World.ownsRow_nil _ _ _ _, Below.refl _ _⟩
  case round =>
    obtain ⟨k, hk, rfl, hu, BO⟩ := hrel
    by_cases hlt : k < n
    · have hlu : (List.range k).length = k := List.length_range
      have HT := Lib.hid (List.range_succ (n := k))
      generalize List.range k = L at *
      have B1 := BO
      obtain ⟨p1, hp1⟩ : ∃ p : BW wr, p.w = wr := ⟨BW.start wr, rfl⟩
      rw [← hp1]
      clear hp1
      go_wp2_with (at_builtin; refine wpList_append_at rfl _ _ 26 rfl w.heap.size 3 i0 (.int .i64 0) 1 8 Tryz.underlying26 hi0 hz0 hz1 hz2 rfl (by decide) _ _ _ rfl (World.ownsRow.alloc (hu.below (BW.h _)) _) ⟨_, 0, none⟩ 1 1 [.int .i64 (k : Int)] rfl rfl ?g1 ?g2 ?g3 ?g4 ?g5 ?_)
      case g1 => exact cell_one_new _ _ _
      case g2 => first | (intro u hu; simp only [List.mem_cons, List.not_mem_nil, or_false] at hu; rw [hu]; rfl) | rfl | (simp [Value.oneCell'])
      case g3 => unfold maxLen; omega
      case g4 => omega
      case g5 => have := (bw_below B1 p1).size; simp; omega
      intro v' w1 hown hgrow hat
      have hb1 : Below w.heap.size w w1 := ((bw_below B1 p1).alloc (bw_below B1 p1).size _).grown hgrow (by have := (bw_below B1 p1).size; simp; omega) (fun j ej => by have := (World.ownsRow.lt hu _ ej).1; omega)
      have r1 : Ints w1 w.heap.size v' (L ++ [k]) := by unfold Ints; rw [List.length_append, hlu, List.map_append]; exact hown
      go_wp2
      go_roundw
      case rel => exact ⟨k + 1, by omega, by go_num, (by rw [HT.out]; exact r1), hb1⟩
      case measure => simp [intOf]; omega
    · obtain rfl : k = n := by omega
      go_wp2
      go_ret
      exact ⟨_, rfl, hu, BO⟩

set_option maxRecDepth 100000 in
set_option maxHeartbeats 8000000 in
theorem tree_boxed (a : Option Addr) (n cap : Nat) (P : Nat → Pr) (w : World) (hs : Prims w (.slice a n cap) n P) (hn : n ≤ 1048576) :
    Calls Tryz.prog 13 #[.slice a n cap] w fun e w' => ∃ u, e = .returned (.tuple #[u, .bool (pAll P n)]) ∧ (pAll P n = true → BoxRow w' w.heap.size u (bls (fun k => pBox (P k)) n)) ∧ Below w.heap.size w w' ∧ ∃ x m c, u = .slice x m c := by
  obtain ⟨hsl, hI⟩ := hs
  obtain ⟨_, _, e, hm, hS⟩ := hsl
  cases e
  have HS := Lib.hid hS
  have HI := Lib.hid hI
  obtain ⟨i0, hi0, hz0, hz1, hz2⟩ := info_parts box_info
  clear hS hI
  go_enter Tryz.func13, Tryz.ntmps13
  go_wp2
  go_loopw [4, 9] (fun u i wr => ∃ k : Nat, k ≤ n ∧ i = .int .i64 k ∧ pAll P k = true ∧ BoxRow wr w.heap.size u (bls (fun k => pBox (P k)) k) ∧ Below w.heap.size w wr) (fun _ i _ => n - (intOf i).toNat)
  case atStart => exact ⟨0, by omega, rfl, rfl, World.ownsRow_nil _ _ _ _, Below.refl _ _⟩
  case round =>
    obtain ⟨k, hk, rfl, hall, hu, BO⟩ := hrel
    have HALL := Lib.hid hall
    clear hall
    by_cases hlt : k < n
    · obtain ⟨b, off, rfl, hb, hcell⟩ := HS.out.resolve_left (by omega)
      have hx := hcell k hlt
      have hI := HI.out k hlt
      have KR := Lib.hid (fun w => prim_Right (P k).k (P k).a.1 (P k).a.2.1 (P k).a.2.2 (P k).b.1 (P k).b.2.1 (P k).b.2.2 (P k).c.1 (P k).c.2.1 (P k).c.2.2 (P k).r (P k).m w hI)
      have KB := Lib.hid (fun w => prim_Box (P k).k (P k).a.1 (P k).a.2.1 (P k).a.2.2 (P k).b.1 (P k).b.2.1 (P k).b.2.2 (P k).c.1 (P k).c.2.1 (P k).c.2.2 (P k).r (P k).m w hI)
      change Hid (∀ w, Calls Tryz.prog 24 _ w fun en w' => en = .returned (.bool (pRight (P k))) ∧ Below w.heap.size w w') at KR
      change Hid (∀ w, Calls Tryz.prog 25 _ w fun en w' => en = .returned (.agg #[.int .i64 (pBox (P k)).1.1, .int .i64 (pBox (P k)).1.2.1, .int .i64 (pBox (P k)).1.2.2, .int .i64 (pBox (P k)).2.1, .int .i64 (pBox (P k)).2.2.1, .int .i64 (pBox (P k)).2.2.2]) ∧ Below w.heap.size w w') at KB
      have hT : bls (fun k => pBox (P k)) (k + 1) = bls (fun k => pBox (P k)) k ++ [pBox (P k)] := bls_succ _ _
      have hlu : (bls (fun k => pBox (P k)) k).length = k := bls_len _ _
      have HA := Lib.hid (pAll_succ P k)
      have HN := Lib.hid (fun h : pRight (P k) = false => pAll_no h hlt)
      obtain ⟨z, hz⟩ : ∃ z, z = pRight (P k) := ⟨_, rfl⟩
      rw [← hz] at KR HA HN
      clear hz
      obtain ⟨bx, hbx⟩ : ∃ bx, bx = pBox (P k) := ⟨_, rfl⟩
      rw [← hbx] at KB hT
      clear hbx
      have HT := Lib.hid hT
      clear hT
      generalize bls (fun k => pBox (P k)) k = L at *
      have x0 : w.cell? ⟨b, off + k * 12, none⟩ = some (.int .i64 (P k).k) := hx 0 (by omega)
      have x1 : w.cell? ⟨b, off + k * 12 + 1, none⟩ = some (.int .i64 (P k).a.1) := hx 1 (by omega)
      have x2 : w.cell? ⟨b, off + k * 12 + 2, none⟩ = some (.int .i64 (P k).a.2.1) := hx 2 (by omega)
      have x3 : w.cell? ⟨b, off + k * 12 + 3, none⟩ = some (.int .i64 (P k).a.2.2) := hx 3 (by omega)
      have x4 : w.cell? ⟨b, off + k * 12 + 4, none⟩ = some (.int .i64 (P k).b.1) := hx 4 (by omega)
      have x5 : w.cell? ⟨b, off + k * 12 + 5, none⟩ = some (.int .i64 (P k).b.2.1) := hx 5 (by omega)
      have x6 : w.cell? ⟨b, off + k * 12 + 6, none⟩ = some (.int .i64 (P k).b.2.2) := hx 6 (by omega)
      have x7 : w.cell? ⟨b, off + k * 12 + 7, none⟩ = some (.int .i64 (P k).c.1) := hx 7 (by omega)
      have x8 : w.cell? ⟨b, off + k * 12 + 8, none⟩ = some (.int .i64 (P k).c.2.1) := hx 8 (by omega)
      have x9 : w.cell? ⟨b, off + k * 12 + 9, none⟩ = some (.int .i64 (P k).c.2.2) := hx 9 (by omega)
      have x10 : w.cell? ⟨b, off + k * 12 + 10, none⟩ = some (.int .i64 (P k).r) := hx 10 (by omega)
      have x11 : w.cell? ⟨b, off + k * 12 + 11, none⟩ = some (.int .i64 (P k).m) := hx 11 (by omega)
      clear hx hcell hI
      generalize P k = pk at KR KB x0 x1 x2 x3 x4 x5 x6 x7 x8 x9 x10 x11
      obtain ⟨kk, ⟨a1, a2, a3⟩, ⟨b1, b2, b3⟩, ⟨c1, c2, c3⟩, r, m⟩ := pk
      obtain ⟨⟨v1, v2, v3⟩, v4, v5, v6⟩ := bx
      dsimp only at x0 x1 x2 x3 x4 x5 x6 x7 x8 x9 x10 x11 KR KB
      have B1 := BO
      have c_e0 : ∀ p : BW wr, p.w.cell? ⟨b, off + k * 12, none⟩ = some (.int .i64 kk) := bw_cell ((B1.cell (p := ⟨b, off + k * 12, none⟩) hb).trans x0)
      have c_e1 : ∀ p : BW wr, p.w.cell? ⟨b, off + k * 12 + 1, none⟩ = some (.int .i64 a1) := bw_cell ((B1.cell (p := ⟨b, off + k * 12 + 1, none⟩) hb).trans x1)
      have c_e2 : ∀ p : BW wr, p.w.cell? ⟨b, off + k * 12 + 2, none⟩ = some (.int .i64 a2) := bw_cell ((B1.cell (p := ⟨b, off + k * 12 + 2, none⟩) hb).trans x2)
      have c_e3 : ∀ p : BW wr, p.w.cell? ⟨b, off + k * 12 + 3, none⟩ = some (.int .i64 a3) := bw_cell ((B1.cell (p := ⟨b, off + k * 12 + 3, none⟩) hb).trans x3)
      have c_e4 : ∀ p : BW wr, p.w.cell? ⟨b, off + k * 12 + 4, none⟩ = some (.int .i64 b1) := bw_cell ((B1.cell (p := ⟨b, off + k * 12 + 4, none⟩) hb).trans x4)
      have c_e5 : ∀ p : BW wr, p.w.cell? ⟨b, off + k * 12 + 5, none⟩ = some (.int .i64 b2) := bw_cell ((B1.cell (p := ⟨b, off + k * 12 + 5, none⟩) hb).trans x5)
      have c_e6 : ∀ p : BW wr, p.w.cell? ⟨b, off + k * 12 + 6, none⟩ = some (.int .i64 b3) := bw_cell ((B1.cell (p := ⟨b, off + k * 12 + 6, none⟩) hb).trans x6)
      have c_e7 : ∀ p : BW wr, p.w.cell? ⟨b, off + k * 12 + 7, none⟩ = some (.int .i64 c1) := bw_cell ((B1.cell (p := ⟨b, off + k * 12 + 7, none⟩) hb).trans x7)
      have c_e8 : ∀ p : BW wr, p.w.cell? ⟨b, off + k * 12 + 8, none⟩ = some (.int .i64 c2) := bw_cell ((B1.cell (p := ⟨b, off + k * 12 + 8, none⟩) hb).trans x8)
      have c_e9 : ∀ p : BW wr, p.w.cell? ⟨b, off + k * 12 + 9, none⟩ = some (.int .i64 c3) := bw_cell ((B1.cell (p := ⟨b, off + k * 12 + 9, none⟩) hb).trans x9)
      have c_e10 : ∀ p : BW wr, p.w.cell? ⟨b, off + k * 12 + 10, none⟩ = some (.int .i64 r) := bw_cell ((B1.cell (p := ⟨b, off + k * 12 + 10, none⟩) hb).trans x10)
      have c_e11 : ∀ p : BW wr, p.w.cell? ⟨b, off + k * 12 + 11, none⟩ = some (.int .i64 m) := bw_cell ((B1.cell (p := ⟨b, off + k * 12 + 11, none⟩) hb).trans x11)
      obtain ⟨p1, hp1⟩ : ∃ p : BW wr, p.w = wr := ⟨BW.start wr, rfl⟩
      rw [← hp1]
      clear hp1
      go_upto_region 5 with (fail)
      obtain ⟨W2, hW2⟩ : ∃ W, W = p1.w.alloc (.cells #[.int .i64 kk, .int .i64 a1, .int .i64 a2, .int .i64 a3, .int .i64 b1, .int .i64 b2, .int .i64 b3, .int .i64 c1, .int .i64 c2, .int .i64 c3, .int .i64 r, .int .i64 m] 39) := ⟨_, rfl⟩
      have B2 : Below w.heap.size w W2 := by rw [hW2]; exact (bw_below B1 p1).alloc (bw_below B1 p1).size _
      have o_p : w.heap.size ≤ p1.w.heap.size := (bw_below B1 p1).size
      have hu := boxrow_alloc hW2 (hu.below p1.h)
      have k_p := bkn hW2
      rw [← hW2]
      clear hW2
      clear B1
      clear c_e0 c_e1 c_e2 c_e3 c_e4 c_e5 c_e6 c_e7 c_e8 c_e9 c_e10 c_e11
      generalize p1.w.heap.size = g_p at *
      obtain ⟨c_p_0, c_p_1, c_p_2, c_p_3, c_p_4, c_p_5, c_p_6, c_p_7, c_p_8, c_p_9, c_p_10, c_p_11⟩ := bwc12 (k_p)
      have c_e0 : ∀ p : BW W2, p.w.cell? ⟨b, off + k * 12, none⟩ = some (.int .i64 kk) := bw_cell ((B2.cell (p := ⟨b, off + k * 12, none⟩) hb).trans x0)
      have c_e1 : ∀ p : BW W2, p.w.cell? ⟨b, off + k * 12 + 1, none⟩ = some (.int .i64 a1) := bw_cell ((B2.cell (p := ⟨b, off + k * 12 + 1, none⟩) hb).trans x1)
      have c_e2 : ∀ p : BW W2, p.w.cell? ⟨b, off + k * 12 + 2, none⟩ = some (.int .i64 a2) := bw_cell ((B2.cell (p := ⟨b, off + k * 12 + 2, none⟩) hb).trans x2)
      have c_e3 : ∀ p : BW W2, p.w.cell? ⟨b, off + k * 12 + 3, none⟩ = some (.int .i64 a3) := bw_cell ((B2.cell (p := ⟨b, off + k * 12 + 3, none⟩) hb).trans x3)
      have c_e4 : ∀ p : BW W2, p.w.cell? ⟨b, off + k * 12 + 4, none⟩ = some (.int .i64 b1) := bw_cell ((B2.cell (p := ⟨b, off + k * 12 + 4, none⟩) hb).trans x4)
      have c_e5 : ∀ p : BW W2, p.w.cell? ⟨b, off + k * 12 + 5, none⟩ = some (.int .i64 b2) := bw_cell ((B2.cell (p := ⟨b, off + k * 12 + 5, none⟩) hb).trans x5)
      have c_e6 : ∀ p : BW W2, p.w.cell? ⟨b, off + k * 12 + 6, none⟩ = some (.int .i64 b3) := bw_cell ((B2.cell (p := ⟨b, off + k * 12 + 6, none⟩) hb).trans x6)
      have c_e7 : ∀ p : BW W2, p.w.cell? ⟨b, off + k * 12 + 7, none⟩ = some (.int .i64 c1) := bw_cell ((B2.cell (p := ⟨b, off + k * 12 + 7, none⟩) hb).trans x7)
      have c_e8 : ∀ p : BW W2, p.w.cell? ⟨b, off + k * 12 + 8, none⟩ = some (.int .i64 c2) := bw_cell ((B2.cell (p := ⟨b, off + k * 12 + 8, none⟩) hb).trans x8)
      have c_e9 : ∀ p : BW W2, p.w.cell? ⟨b, off + k * 12 + 9, none⟩ = some (.int .i64 c3) := bw_cell ((B2.cell (p := ⟨b, off + k * 12 + 9, none⟩) hb).trans x9)
      have c_e10 : ∀ p : BW W2, p.w.cell? ⟨b, off + k * 12 + 10, none⟩ = some (.int .i64 r) := bw_cell ((B2.cell (p := ⟨b, off + k * 12 + 10, none⟩) hb).trans x10)
      have c_e11 : ∀ p : BW W2, p.w.cell? ⟨b, off + k * 12 + 11, none⟩ = some (.int .i64 m) := bw_cell ((B2.cell (p := ⟨b, off + k * 12 + 11, none⟩) hb).trans x11)
      obtain ⟨p2, hp2⟩ : ∃ p : BW W2, p.w = W2 := ⟨BW.start W2, rfl⟩
      rw [← hp2]
      clear hp2
      cases z with
      | false =>
        go_wp2_with (go_at_call 24; (with_reducible refine (bw_call KR.out _).mono ?_); rintro e w' ⟨rfl, q, rfl⟩)
        go_ret2
        have hp := HN.out (by trivial)
        refine ⟨.slice none 0 0, by rw [hp]; rfl, fun e => by (rw [hp] at e; cases e), bw_below B2 q, none, 0, 0, rfl⟩
      | true =>
        go_upto_region 7 with (go_at_call 24; (with_reducible refine (bw_call KR.out _).mono ?_); rintro e w' ⟨rfl, q, rfl⟩)
        go_wp2_with (first
          | (go_at_call 25; (with_reducible refine (bw_call KB.out _).mono ?_); rintro e w' ⟨rfl, q2, rfl⟩)
          | (at_builtin; refine wpList_append_at rfl _ _ 47 rfl w.heap.size 41 i0 _ 6 48 Tryz.underlying47 hi0 hz0 hz1 hz2 rfl (by decide) _ _ _ rfl (World.ownsRow.alloc (owns_below hu (BW.h _)) _) ⟨_, 0, none⟩ 1 1 (bcells ((v1, v2, v3), (v4, v5, v6))) rfl rfl ?g1 ?g2 ?g3 ?g4 ?g5 ?_))
        case g1 => exact cells_new _ #[.int .i64 v1, .int .i64 v2, .int .i64 v3, .int .i64 v4, .int .i64 v5, .int .i64 v6] _
        case g2 => exact bcells_one _
        case g3 => unfold maxLen; omega
        case g4 => omega
        case g5 => have := (bw_below B2 q2).size; simp; omega
        intro v' w1 hown hgrow hat
        have hb1 : Below w.heap.size w w1 := ((bw_below B2 q2).alloc (bw_below B2 q2).size _).grown hgrow (by have := (bw_below B2 q2).size; simp; omega) (fun j ej => by have := (World.ownsRow.lt hu _ ej).1; omega)
        have r1 : BoxRow w1 w.heap.size v' (L ++ [((v1, v2, v3), (v4, v5, v6))]) := by unfold BoxRow; rw [List.length_append, hlu, List.flatMap_append, List.flatMap_cons, List.flatMap_nil, List.append_nil]; exact hown
        go_wp2
        go_roundw
        case rel => exact ⟨k + 1, by omega, by go_num, (by rw [HA.out, HALL.out]; rfl), (by rw [HT.out]; exact r1), hb1⟩
        case measure => simp [intOf]; omega
    · obtain rfl : k = n := by omega
      go_wp2
      go_ret2
      exact ⟨_, by rw [HALL.out]; rfl, fun _ => hu, BO, by obtain ⟨x, c, e⟩ := owns_val hu; exact ⟨x, _, c, e⟩⟩

set_option maxRecDepth 100000 in
set_option maxHeartbeats 8000000 in
theorem tree_around (a : Option Addr) (n cap : Nat) (V : Nat → Bx) (w : World) (hs : Boxes w (.slice a n cap) n V) (hm : 0 < n) (hn : n ≤ 1048576) :
    Calls Tryz.prog 17 #[.slice a n cap] w fun e w' => e = .returned (.agg #[.int .i64 (bAll V n).1.1, .int .i64 (bAll V n).1.2.1, .int .i64 (bAll V n).1.2.2, .int .i64 (bAll V n).2.1, .int .i64 (bAll V n).2.2.1, .int .i64 (bAll V n).2.2.2]) ∧ Below w.heap.size w w' := by
  have HS := Lib.hid hs
  have HAS := Lib.hid (fun k => bAll_succ V k)
  have HA0 := Lib.hid (show bAll V 0 = V 0 from rfl)
  obtain ⟨bb, off, rfl, hbb, x0, x1, x2, x3, x4, x5⟩ := boxes_at HS.out hm
  obtain ⟨vk, hvk⟩ : ∃ vk, vk = V 0 := ⟨_, rfl⟩
  rw [← hvk] at x0 x1 x2 x3 x4 x5 HA0
  clear hvk hs
  obtain ⟨⟨v1, v2, v3⟩, v4, v5, v6⟩ := vk
  dsimp only at x0 x1 x2 x3 x4 x5
  rw [Nat.zero_mul, Nat.add_zero] at x0 x1 x2 x3 x4 x5
  go_enter Tryz.func17, Tryz.ntmps17
  go_upto_region 2 with (fail)
  obtain ⟨W1, hW1⟩ : ∃ W, W = (w.alloc (.cells #[.int .i64 0, .int .i64 0, .int .i64 0, .int .i64 0, .int .i64 0, .int .i64 0] 41)).alloc (.cells #[.int .i64 v1, .int .i64 v2, .int .i64 v3, .int .i64 v4, .int .i64 v5, .int .i64 v6] 41) := ⟨_, rfl⟩
  obtain ⟨k_r, k_b, B1⟩ := st2 hW1
  rw [← hW1]
  clear hW1
  have l_b : w.heap.size < w.heap.size + 1 := by omega
  generalize w.heap.size + 1 = g_b at *
  clear x0 x1 x2 x3 x4 x5
  go_wp2
  go_loopw [11] (fun i wr => ∃ k : Nat, k ≤ n ∧ i = .int .i64 k ∧ Bk wr w.heap.size 41 #[.int .i64 0, .int .i64 0, .int .i64 0, .int .i64 0, .int .i64 0, .int .i64 0] ∧ Bk wr g_b 41 #[.int .i64 (bAll V k).1.1, .int .i64 (bAll V k).1.2.1, .int .i64 (bAll V k).1.2.2, .int .i64 (bAll V k).2.1, .int .i64 (bAll V k).2.2.1, .int .i64 (bAll V k).2.2.2] ∧ Below w.heap.size w wr) (fun i _ => n - (intOf i).toNat)
  case atStart => exact ⟨0, by omega, rfl, k_r, (by rw [HA0.out]; exact k_b), B1⟩
  case round =>
    clear k_b k_r B1
    obtain ⟨k, hk, rfl, k_r, k_b, BO⟩ := hrel
    by_cases hlt : k < n
    · have KJ := Lib.hid (fun w => box_Join (bAll V k).1.1 (bAll V k).1.2.1 (bAll V k).1.2.2 (bAll V k).2.1 (bAll V k).2.2.1 (bAll V k).2.2.2 (V k).1.1 (V k).1.2.1 (V k).1.2.2 (V k).2.1 (V k).2.2.1 (V k).2.2.2 w)
      change Hid (∀ w, Calls Tryz.prog 29 #[.agg #[.int .i64 (bAll V k).1.1, .int .i64 (bAll V k).1.2.1, .int .i64 (bAll V k).1.2.2, .int .i64 (bAll V k).2.1, .int .i64 (bAll V k).2.2.1, .int .i64 (bAll V k).2.2.2], .agg #[.int .i64 (V k).1.1, .int .i64 (V k).1.2.1, .int .i64 (V k).1.2.2, .int .i64 (V k).2.1, .int .i64 (V k).2.2.1, .int .i64 (V k).2.2.2]] w fun en w' => en = .returned (.agg #[.int .i64 (bJoin (bAll V k) (V k)).1.1, .int .i64 (bJoin (bAll V k) (V k)).1.2.1, .int .i64 (bJoin (bAll V k) (V k)).1.2.2, .int .i64 (bJoin (bAll V k) (V k)).2.1, .int .i64 (bJoin (bAll V k) (V k)).2.2.1, .int .i64 (bJoin (bAll V k) (V k)).2.2.2]) ∧ Below w.heap.size w w') at KJ
      have HN := Lib.hid (HAS.out k)
      obtain ⟨jn, hjn⟩ : ∃ jn, jn = bJoin (bAll V k) (V k) := ⟨_, rfl⟩
      rw [← hjn] at KJ HN
      clear hjn
      obtain ⟨_, _, hsl, hbb2, x0, x1, x2, x3, x4, x5⟩ := boxes_at HS.out hlt
      cases hsl
      obtain ⟨vk, hvk⟩ : ∃ vk, vk = V k := ⟨_, rfl⟩
      rw [← hvk] at x0 x1 x2 x3 x4 x5 KJ
      clear hvk
      obtain ⟨ak, hak⟩ : ∃ ak, ak = bAll V k := ⟨_, rfl⟩
      rw [← hak] at k_b KJ
      clear hak
      obtain ⟨⟨v1, v2, v3⟩, v4, v5, v6⟩ := vk
      obtain ⟨⟨a1, a2, a3⟩, a4, a5, a6⟩ := ak
      obtain ⟨⟨r1, r2, r3⟩, r4, r5, r6⟩ := jn
      dsimp only at x0 x1 x2 x3 x4 x5 KJ k_b
      have B1 := BO
      obtain ⟨c_r_0, c_r_1, c_r_2, c_r_3, c_r_4, c_r_5⟩ := bwc6 (k_r)
      obtain ⟨c_b_0, c_b_1, c_b_2, c_b_3, c_b_4, c_b_5⟩ := bwc6 (k_b)
      have c_e0 : ∀ p : BW wr, p.w.cell? ⟨bb, off + k * 6, none⟩ = some (.int .i64 v1) := bw_cell ((B1.cell (p := ⟨bb, off + k * 6, none⟩) hbb).trans x0)
      have c_e1 : ∀ p : BW wr, p.w.cell? ⟨bb, off + k * 6 + 1, none⟩ = some (.int .i64 v2) := bw_cell ((B1.cell (p := ⟨bb, off + k * 6 + 1, none⟩) hbb).trans x1)
      have c_e2 : ∀ p : BW wr, p.w.cell? ⟨bb, off + k * 6 + 2, none⟩ = some (.int .i64 v3) := bw_cell ((B1.cell (p := ⟨bb, off + k * 6 + 2, none⟩) hbb).trans x2)
      have c_e3 : ∀ p : BW wr, p.w.cell? ⟨bb, off + k * 6 + 3, none⟩ = some (.int .i64 v4) := bw_cell ((B1.cell (p := ⟨bb, off + k * 6 + 3, none⟩) hbb).trans x3)
      have c_e4 : ∀ p : BW wr, p.w.cell? ⟨bb, off + k * 6 + 4, none⟩ = some (.int .i64 v5) := bw_cell ((B1.cell (p := ⟨bb, off + k * 6 + 4, none⟩) hbb).trans x4)
      have c_e5 : ∀ p : BW wr, p.w.cell? ⟨bb, off + k * 6 + 5, none⟩ = some (.int .i64 v6) := bw_cell ((B1.cell (p := ⟨bb, off + k * 6 + 5, none⟩) hbb).trans x5)
      obtain ⟨p1, hp1⟩ : ∃ p : BW wr, p.w = wr := ⟨BW.start wr, rfl⟩
      rw [← hp1]
      clear hp1
      go_upto_region 5 with (fail)
      obtain ⟨W2, hW2⟩ : ∃ W, W = p1.w.alloc (.cells #[.int .i64 v1, .int .i64 v2, .int .i64 v3, .int .i64 v4, .int .i64 v5, .int .i64 v6] 41) := ⟨_, rfl⟩
      have B2 : Below w.heap.size w W2 := by rw [hW2]; exact (bw_below B1 p1).alloc (bw_below B1 p1).size _
      have l_c : g_b < p1.w.heap.size := (k_b.below p1.h).lt
      have o_c : w.heap.size ≤ p1.w.heap.size := (bw_below B1 p1).size
      have l_c_r : w.heap.size < p1.w.heap.size := (k_r.below p1.h).lt
      have k_r := bka hW2 (k_r.below p1.h)
      have k_b := bka hW2 (k_b.below p1.h)
      have k_c := bkn hW2
      rw [← hW2]
      clear hW2
      clear B1
      clear c_r_0 c_r_1 c_r_2 c_r_3 c_r_4 c_r_5 c_b_0 c_b_1 c_b_2 c_b_3 c_b_4 c_b_5 c_e0 c_e1 c_e2 c_e3 c_e4 c_e5
      generalize p1.w.heap.size = g_c at *
      obtain ⟨c_r_0, c_r_1, c_r_2, c_r_3, c_r_4, c_r_5⟩ := bwc6 (k_r)
      obtain ⟨c_b_0, c_b_1, c_b_2, c_b_3, c_b_4, c_b_5⟩ := bwc6 (k_b)
      obtain ⟨f_b_0, f_b_1, f_b_2, f_b_3, f_b_4, f_b_5⟩ := bwf6 (k_b)
      obtain ⟨c_c_0, c_c_1, c_c_2, c_c_3, c_c_4, c_c_5⟩ := bwc6 (k_c)
      obtain ⟨p2, hp2⟩ : ∃ p : BW W2, p.w = W2 := ⟨BW.start W2, rfl⟩
      rw [← hp2]
      clear hp2
      go_wp2_with (go_at_call 29; (with_reducible refine (bw_call KJ.out _).mono ?_); rintro e w' ⟨rfl, q, rfl⟩)
      go_roundw
      case rel => exact ⟨k + 1, by omega, by go_num, bko6 (k_r.below (BW.h _)) (by omega), (by rw [HN.out]; exact bkp6 (k_b.below (BW.h _)) _ _ _ _ _ _), blp6 (bw_below B2 _) (by omega)⟩
      case measure => simp [intOf]; omega
    · obtain rfl : k = n := by omega
      have B1 := BO
      obtain ⟨c_b_0, c_b_1, c_b_2, c_b_3, c_b_4, c_b_5⟩ := bwc6 (k_b)
      obtain ⟨c_r_0, c_r_1, c_r_2, c_r_3, c_r_4, c_r_5⟩ := bwc6 (k_r)
      obtain ⟨f_r_0, f_r_1, f_r_2, f_r_3, f_r_4, f_r_5⟩ := bwf6 (k_r)
      obtain ⟨p1, hp1⟩ : ∃ p : BW wr, p.w = wr := ⟨BW.start wr, rfl⟩
      rw [← hp1]
      clear hp1
      go_wp2
      have kr := bkp6 (k_r.below p1.h) (.int .i64 (bAll V k).1.1) (.int .i64 (bAll V k).1.2.1) (.int .i64 (bAll V k).1.2.2) (.int .i64 (bAll V k).2.1) (.int .i64 (bAll V k).2.2.1) (.int .i64 (bAll V k).2.2.2)
      obtain ⟨rc0, rc1, rc2, rc3, rc4, rc5⟩ := rwc6 kr
      exact bodyPost_ret (v := .agg #[.int .i64 (bAll V k).1.1, .int .i64 (bAll V k).1.2.1, .int .i64 (bAll V k).1.2.2, .int .i64 (bAll V k).2.1, .int .i64 (bAll V k).2.2.1, .int .i64 (bAll V k).2.2.2]) (by simp [results, Tryz.results17, go_sem, rc0, rc1, rc2, rc3, rc4, rc5]) rfl ⟨rfl, blp6 (bw_below B1 p1) (by omega)⟩

set_option maxRecDepth 100000 in
set_option maxHeartbeats 8000000 in
theorem tree_isOther (n1 n2 n3 n4 n5 n6 fi co ri : Int) (w : World) :
    Calls Tryz.prog 36 #[.agg #[.int .i64 n1, .int .i64 n2, .int .i64 n3, .int .i64 n4, .int .i64 n5, .int .i64 n6, .int .i64 fi, .int .i64 co, .int .i64 ri]] w fun en w' => en = .returned (.bool (decide (co = 0 ∧ fi = 0))) ∧ Below w.heap.size w w' := by
  obtain ⟨r, hr⟩ : ∃ r, r = decide (co = 0 ∧ fi = 0) := ⟨_, rfl⟩
  rw [← hr]
  have HR := Lib.hid hr
  clear hr
  go_enter Tryz.func36, Tryz.ntmps36
  go_upto_region 1 with (fail)
  obtain ⟨W1, hW1⟩ : ∃ W, W = w.alloc (.cells #[.int .i64 n1, .int .i64 n2, .int .i64 n3, .int .i64 n4, .int .i64 n5, .int .i64 n6, .int .i64 fi, .int .i64 co, .int .i64 ri] 43) := ⟨_, rfl⟩
  obtain ⟨k_d, B1⟩ := st1 hW1
  rw [← hW1]
  clear hW1
  obtain ⟨c_d_0, c_d_1, c_d_2, c_d_3, c_d_4, c_d_5, c_d_6, c_d_7, c_d_8⟩ := bwc9 (k_d)
  obtain ⟨p1, hp1⟩ : ∃ p : BW W1, p.w = W1 := ⟨BW.start W1, rfl⟩
  rw [← hp1]
  clear hp1
  by_cases h1 : co = 0
  · by_cases h2 : fi = 0
    · have e : r = true := by rw [HR.out]; exact decide_eq_true ⟨h1, h2⟩
      subst e
      subst h1
      subst h2
      go_wp2
      go_ret
      exact ⟨rfl, bw_below B1 _⟩
    · have e : r = false := by rw [HR.out]; exact decide_eq_false (fun q => h2 q.2)
      subst e
      subst h1
      have t2 : (fi == 0) = false := by rw [beq_eq_false_iff_ne]; exact h2
      go_wp2
      go_ret
      exact ⟨rfl, bw_below B1 _⟩
  · have e : r = false := by rw [HR.out]; exact decide_eq_false (fun q => h1 q.1)
    subst e
    have t1 : (co == 0) = false := by rw [beq_eq_false_iff_ne]; exact h1
    go_wp2
    go_ret
    exact ⟨rfl, bw_below B1 _⟩

set_option maxRecDepth 100000 in
set_option maxHeartbeats 8000000 in
theorem tree_isLeaf (n1 n2 n3 n4 n5 n6 fi co ri th m : Int) (w : World) (ht : 0 ≤ th ∧ th ≤ m) (hm : m ≤ 1048576) :
    Calls Tryz.prog 37 #[.agg #[.int .i64 n1, .int .i64 n2, .int .i64 n3, .int .i64 n4, .int .i64 n5, .int .i64 n6, .int .i64 fi, .int .i64 co, .int .i64 ri], .int .i64 th, .int .i64 m] w fun en w' => en = .returned (.bool (decide (0 < co ∧ fi = th ∧ co ≤ m - th ∧ ri = 0))) ∧ Below w.heap.size w w' := by
  obtain ⟨r, hr⟩ : ∃ r, r = decide (0 < co ∧ fi = th ∧ co ≤ m - th ∧ ri = 0) := ⟨_, rfl⟩
  rw [← hr]
  have HR := Lib.hid hr
  obtain ⟨s, hs⟩ : ∃ s, wrap64 (m - th) = s := ⟨_, rfl⟩
  have hs2 : s = m - th := by rw [← hs]; exact IntWalk.wrap64_in _ (by omega)
  have HS := Lib.hid hs2
  clear hr hs2 ht hm
  go_enter Tryz.func37, Tryz.ntmps37
  go_upto_region 1 with (fail)
  obtain ⟨W1, hW1⟩ : ∃ W, W = w.alloc (.cells #[.int .i64 n1, .int .i64 n2, .int .i64 n3, .int .i64 n4, .int .i64 n5, .int .i64 n6, .int .i64 fi, .int .i64 co, .int .i64 ri] 43) := ⟨_, rfl⟩
  obtain ⟨k_d, B1⟩ := st1 hW1
  rw [← hW1]
  clear hW1
  obtain ⟨c_d_0, c_d_1, c_d_2, c_d_3, c_d_4, c_d_5, c_d_6, c_d_7, c_d_8⟩ := bwc9 (k_d)
  obtain ⟨p1, hp1⟩ : ∃ p : BW W1, p.w = W1 := ⟨BW.start W1, rfl⟩
  rw [← hp1]
  clear hp1
  by_cases h1 : 0 < co
  · have t1 : decide (0 < co) = true := decide_eq_true h1
    by_cases h2 : fi = th
    · by_cases h3 : co ≤ s
      · by_cases h4 : ri = 0
        · have e : r = true := by rw [HR.out]; exact decide_eq_true ⟨h1, h2, by rw [← HS.out]; exact h3, h4⟩
          subst e
          subst h4
          subst h2
          have t3 : decide (co ≤ s) = true := decide_eq_true h3
          clear h1 h3
          go_wp2
          go_ret
          exact ⟨rfl, bw_below B1 _⟩
        · have e : r = false := by rw [HR.out]; exact decide_eq_false (fun q => h4 q.2.2.2)
          subst e
          subst h2
          have t3 : decide (co ≤ s) = true := decide_eq_true h3
          have t4 : (ri == 0) = false := by rw [beq_eq_false_iff_ne]; exact h4
          clear h1 h3
          go_wp2
          go_ret
          exact ⟨rfl, bw_below B1 _⟩
      · have e : r = false := by rw [HR.out]; exact decide_eq_false (fun q => h3 (by rw [HS.out]; exact q.2.2.1))
        subst e
        subst h2
        have t3 : decide (co ≤ s) = false := decide_eq_false h3
        clear h1 h3
        go_wp2
        go_ret
        exact ⟨rfl, bw_below B1 _⟩
    · have e : r = false := by rw [HR.out]; exact decide_eq_false (fun q => h2 q.2.1)
      subst e
      have t2 : (fi == th) = false := by rw [beq_eq_false_iff_ne]; exact h2
      clear h1
      go_wp2
      go_ret
      exact ⟨rfl, bw_below B1 _⟩
  · have e : r = false := by rw [HR.out]; exact decide_eq_false (fun q => h1 q.1)
    subst e
    have t1 : decide (0 < co) = false := decide_eq_false h1
    clear h1
    go_wp2
    go_ret
    exact ⟨rfl, bw_below B1 _⟩

end
end Go.Proofs.YtomlcglnkdfemaaGreat
