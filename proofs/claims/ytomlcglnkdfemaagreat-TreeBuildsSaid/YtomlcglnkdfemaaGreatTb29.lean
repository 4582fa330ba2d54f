/- Contracts of the document's own answers, layer 16: boxes, under, Whole. -/
import Derived.Test.YtomlcglnkdfemaaGreatTb28
import Derived.Test.YtomlcglnkdfemaaGreatTb13
import Derived.Test.YtomlcglnkdfemaaGreatTb21


namespace Go.Proofs.YtomlcglnkdfemaaGreat
section

open Go.RowKit Go.Proofs.Sky

set_option linter.unusedVariables false

set_option linter.unusedSimpArgs false

/-- A row of the document's boxes that a call made. -/
def RboxRow (w : World) (B : Nat) (v : Value) (l : List Bx) : Prop := w.ownsRow B 58 6 v l.length (l.flatMap bcells)

theorem RboxRow.below {w w' : World} {B : Nat} {v : Value} {l : List Bx} (h : RboxRow w B v l) (hb : Below w.heap.size w w') : RboxRow w' B v l := owns_below h hb

theorem rbox_info16 : (Tryz.prog.info? 58).map (fun i => (i.zero, i.size, i.bytes)) = some (some (.agg #[.int .i64 0, .int .i64 0, .int .i64 0, .int .i64 0, .int .i64 0, .int .i64 0]), 6, 48) := by kernel_rfl

theorem rboxrow_boxes {w : World} {B : Nat} {v : Value} {U : Nat → Bx} {n : Nat} (h : RboxRow w B v (bls U n)) (hn : n ≤ 1048576) : Boxes w v n U ∧ ∃ a cap, v = .slice a n cap := by
  have hl := bls_len U n
  have hs := owns_sll (f := bcells) (l := bls U n) bcells_len16 (by omega) rfl (by rw [hl]; unfold maxLen; omega) h
  obtain ⟨a, cap, rfl, hm, h⟩ := hs
  rw [hl]
  refine ⟨⟨a, cap, rfl, by unfold maxLen; omega, ?_⟩, a, cap, rfl⟩
  rcases h with h | ⟨b, off, rfl, hlt, hc⟩
  · exact .inl (by rw [hl] at h; exact h)
  · refine .inr ⟨b, off, rfl, hlt, fun i hi j hj => ?_⟩
    have e : (bls U n)[i]'(by rw [hl]; exact hi) = U i := by simp [bls]
    rw [hc i (by rw [hl]; exact hi) j hj, e]

set_option maxRecDepth 100000 in
set_option maxHeartbeats 8000000 in
theorem ref16_boxes (a b : Option Addr) (n ca m cb : Nat) (P : Nat → Pr) (Z : Nat → Int) (w : World) (ha : Prims w (.slice a n ca) n P) (hb : IntSlice w b m Z) (hz : ∀ k, k < m → 0 ≤ Z k ∧ Z k < n) (hm : m ≤ 1024) :
    Calls Tryz.prog 31 #[.slice a n ca, .slice b m cb] w fun e w' => ∃ u, e = .returned u ∧ RboxRow w' w.heap.size u (bls (fun k => pBox (P (Z k).toNat)) m) ∧ Below w.heap.size w w' := by
  obtain ⟨hsl, hI⟩ := ha
  obtain ⟨_, _, e, hmx, hS⟩ := hsl
  cases e
  have HS := Lib.hid hS
  have HI := Lib.hid hI
  have HB := Lib.hid hb
  have HZ := Lib.hid hz
  obtain ⟨i0, hi0, hz0, hz1, hz2⟩ := info_parts rbox_info16
  clear hS hI hb hz
  go_enter Tryz.func31, Tryz.ntmps31
  go_wp2
  go_loopw [5, 6] (fun u i wr => ∃ k : Nat, k ≤ m ∧ i = .int .i64 k ∧ RboxRow wr w.heap.size u (bls (fun k => pBox (P (Z k).toNat)) k) ∧ Below w.heap.size w wr) (fun _ i _ => m - (intOf i).toNat)
  case atStart => exact ⟨0, by omega, rfl, World.ownsRow_nil _ _ _ _, Below.refl _ _⟩
  case round =>
    obtain ⟨k, hk, rfl, hu, BO⟩ := hrel
    by_cases hlt : k < m
    · obtain ⟨bb, ob, rfl, hcb, hbb⟩ := HB.out.resolve_left (by omega)
      have y0 : w.cell? ⟨bb, ob + k, none⟩ = some (.int .i64 (Z k)) := (hcb k hlt).1
      have hr := HZ.out k hlt
      obtain ⟨j, hj⟩ : ∃ j : Nat, j = (Z k).toNat := ⟨_, rfl⟩
      have hjz : Z k = (j : Int) := by omega
      have hjn : j < n := by omega
      obtain ⟨b, off, rfl, hb, hcell⟩ := HS.out.resolve_left (by omega)
      have hx := hcell j hjn
      have hIj := HI.out j hjn
      have KB := Lib.hid (fun w => ref13_Box (P j) w hIj)
      rw [hjz] at y0
      have hT : bls (fun k => pBox (P (Z k).toNat)) (k + 1) = bls (fun k => pBox (P (Z k).toNat)) k ++ [pBox (P j)] := by rw [bls_succ, ← hj]
      obtain ⟨vk, hvk⟩ : ∃ vk, vk = pBox (P j) := ⟨_, rfl⟩
      rw [← hvk] at KB hT
      have HT := Lib.hid hT
      clear hvk hT hcb hr hj hjz hIj
      have x0 : w.cell? ⟨b, off + j * 12, none⟩ = some (.int .i64 (P j).k) := hx 0 (by omega)
      have x1 : w.cell? ⟨b, off + j * 12 + 1, none⟩ = some (.int .i64 (P j).a.1) := hx 1 (by omega)
      have x2 : w.cell? ⟨b, off + j * 12 + 2, none⟩ = some (.int .i64 (P j).a.2.1) := hx 2 (by omega)
      have x3 : w.cell? ⟨b, off + j * 12 + 3, none⟩ = some (.int .i64 (P j).a.2.2) := hx 3 (by omega)
      have x4 : w.cell? ⟨b, off + j * 12 + 4, none⟩ = some (.int .i64 (P j).b.1) := hx 4 (by omega)
      have x5 : w.cell? ⟨b, off + j * 12 + 5, none⟩ = some (.int .i64 (P j).b.2.1) := hx 5 (by omega)
      have x6 : w.cell? ⟨b, off + j * 12 + 6, none⟩ = some (.int .i64 (P j).b.2.2) := hx 6 (by omega)
      have x7 : w.cell? ⟨b, off + j * 12 + 7, none⟩ = some (.int .i64 (P j).c.1) := hx 7 (by omega)
      have x8 : w.cell? ⟨b, off + j * 12 + 8, none⟩ = some (.int .i64 (P j).c.2.1) := hx 8 (by omega)
      have x9 : w.cell? ⟨b, off + j * 12 + 9, none⟩ = some (.int .i64 (P j).c.2.2) := hx 9 (by omega)
      have x10 : w.cell? ⟨b, off + j * 12 + 10, none⟩ = some (.int .i64 (P j).r) := hx 10 (by omega)
      have x11 : w.cell? ⟨b, off + j * 12 + 11, none⟩ = some (.int .i64 (P j).m) := hx 11 (by omega)
      clear hx hcell
      generalize P j = pk at KB x0 x1 x2 x3 x4 x5 x6 x7 x8 x9 x10 x11
      obtain ⟨kk, ⟨a1, a2, a3⟩, ⟨b1, b2, b3⟩, ⟨c1, c2, c3⟩, r, mm⟩ := pk
      obtain ⟨⟨v1, v2, v3⟩, v4, v5, v6⟩ := vk
      dsimp only at x0 x1 x2 x3 x4 x5 x6 x7 x8 x9 x10 x11 KB
      have hlu : (bls (fun k => pBox (P (Z k).toNat)) k).length = k := bls_len _ _
      generalize bls (fun k => pBox (P (Z k).toNat)) k = L at *
      have B1 := BO
      have c_y : ∀ p : BW wr, p.w.cell? ⟨bb, ob + k, none⟩ = some (.int .i64 (j : Int)) := bw_cell ((B1.cell (p := ⟨bb, ob + k, none⟩) hbb).trans y0)
      have c_e0 : ∀ p : BW wr, p.w.cell? ⟨b, off + j * 12, none⟩ = some (.int .i64 kk) := bw_cell ((B1.cell (p := ⟨b, off + j * 12, none⟩) hb).trans x0)
      have c_e1 : ∀ p : BW wr, p.w.cell? ⟨b, off + j * 12 + 1, none⟩ = some (.int .i64 a1) := bw_cell ((B1.cell (p := ⟨b, off + j * 12 + 1, none⟩) hb).trans x1)
      have c_e2 : ∀ p : BW wr, p.w.cell? ⟨b, off + j * 12 + 2, none⟩ = some (.int .i64 a2) := bw_cell ((B1.cell (p := ⟨b, off + j * 12 + 2, none⟩) hb).trans x2)
      have c_e3 : ∀ p : BW wr, p.w.cell? ⟨b, off + j * 12 + 3, none⟩ = some (.int .i64 a3) := bw_cell ((B1.cell (p := ⟨b, off + j * 12 + 3, none⟩) hb).trans x3)
      have c_e4 : ∀ p : BW wr, p.w.cell? ⟨b, off + j * 12 + 4, none⟩ = some (.int .i64 b1) := bw_cell ((B1.cell (p := ⟨b, off + j * 12 + 4, none⟩) hb).trans x4)
      have c_e5 : ∀ p : BW wr, p.w.cell? ⟨b, off + j * 12 + 5, none⟩ = some (.int .i64 b2) := bw_cell ((B1.cell (p := ⟨b, off + j * 12 + 5, none⟩) hb).trans x5)
      have c_e6 : ∀ p : BW wr, p.w.cell? ⟨b, off + j * 12 + 6, none⟩ = some (.int .i64 b3) := bw_cell ((B1.cell (p := ⟨b, off + j * 12 + 6, none⟩) hb).trans x6)
      have c_e7 : ∀ p : BW wr, p.w.cell? ⟨b, off + j * 12 + 7, none⟩ = some (.int .i64 c1) := bw_cell ((B1.cell (p := ⟨b, off + j * 12 + 7, none⟩) hb).trans x7)
      have c_e8 : ∀ p : BW wr, p.w.cell? ⟨b, off + j * 12 + 8, none⟩ = some (.int .i64 c2) := bw_cell ((B1.cell (p := ⟨b, off + j * 12 + 8, none⟩) hb).trans x8)
      have c_e9 : ∀ p : BW wr, p.w.cell? ⟨b, off + j * 12 + 9, none⟩ = some (.int .i64 c3) := bw_cell ((B1.cell (p := ⟨b, off + j * 12 + 9, none⟩) hb).trans x9)
      have c_e10 : ∀ p : BW wr, p.w.cell? ⟨b, off + j * 12 + 10, none⟩ = some (.int .i64 r) := bw_cell ((B1.cell (p := ⟨b, off + j * 12 + 10, none⟩) hb).trans x10)
      have c_e11 : ∀ p : BW wr, p.w.cell? ⟨b, off + j * 12 + 11, none⟩ = some (.int .i64 mm) := bw_cell ((B1.cell (p := ⟨b, off + j * 12 + 11, none⟩) hb).trans x11)
      obtain ⟨p1, hp1⟩ : ∃ p : BW wr, p.w = wr := ⟨BW.start wr, rfl⟩
      rw [← hp1]
      clear hp1
      go_wp2_with (first
        | (go_at_call 53; (with_reducible refine (bw_call KB.out _).mono ?_); rintro e w' ⟨rfl, q, rfl⟩)
        | (at_builtin; refine wpList_append_at rfl _ _ 81 rfl w.heap.size 58 i0 _ 6 48 Tryz.underlying81 hi0 hz0 hz1 hz2 rfl (by decide) _ _ _ rfl (World.ownsRow.alloc (owns_below hu (BW.h _)) _) ⟨_, 0, none⟩ 1 1 (bcells ((v1, v2, v3), (v4, v5, v6))) rfl rfl ?g1 ?g2 ?g3 ?g4 ?g5 ?_))
      case g1 => exact cells_new _ #[.int .i64 v1, .int .i64 v2, .int .i64 v3, .int .i64 v4, .int .i64 v5, .int .i64 v6] _
      case g2 => exact bcells_one _
      case g3 => unfold maxLen; omega
      case g4 => omega
      case g5 => have := (bw_below B1 q).size; simp; omega
      intro v' w1 hown hgrow hat
      have hb1 : Below w.heap.size w w1 := ((bw_below B1 q).alloc (bw_below B1 q).size _).grown hgrow (by have := (bw_below B1 q).size; simp; omega) (fun j ej => by have := (World.ownsRow.lt hu _ ej).1; omega)
      have r1 : RboxRow w1 w.heap.size v' (L ++ [((v1, v2, v3), (v4, v5, v6))]) := by unfold RboxRow; rw [List.length_append, hlu, List.flatMap_append, List.flatMap_cons, List.flatMap_nil, List.append_nil]; exact hown
      go_wp2
      go_roundw
      case rel => exact ⟨k + 1, by omega, by go_num, (by rw [HT.out]; exact r1), hb1⟩
      case measure => simp [intOf]; omega
    · obtain rfl : k = m := by omega
      go_wp2
      go_ret
      exact ⟨_, rfl, hu, BO⟩

end
end Go.Proofs.YtomlcglnkdfemaaGreat
