/- Contracts of the document's own answers, layer 16: boxes, under, Whole. -/
import Derived.Test.YtomlcglnkdfemaaTt34
import Derived.Test.YtomlcglnkdfemaaTt33
import Derived.Test.YtomlcglnkdfemaaTt36


namespace Go.Proofs.Ytomlcglnkdfemaa
section

open Go.RowKit Go.Proofs.Sky

set_option linter.unusedVariables false

set_option linter.unusedSimpArgs false

/-- A row of the document's boxes that a call made. -/
def RboxRow (w : World) (B : Nat) (v : Value) (l : List Bx) : Prop := w.ownsRow B 41 6 v l.length (l.flatMap bcells)

theorem RboxRow.below {w w' : World} {B : Nat} {v : Value} {l : List Bx} (h : RboxRow w B v l) (hb : Below w.heap.size w w') : RboxRow w' B v l := owns_below h hb

theorem rbox_info16 : (Try.prog.info? 41).map (fun i => (i.zero, i.size, i.bytes)) = some (some (.agg #[.int .i64 0, .int .i64 0, .int .i64 0, .int .i64 0, .int .i64 0, .int .i64 0]), 6, 48) := by kernel_rfl

theorem rboxrow_boxes {w : World} {B : Nat} {v : Value} {U : Nat → Bx} {n : Nat} (h : RboxRow w B v (bls U n)) (hn : n ≤ 1048576) : Boxes w v n U ∧ ∃ a cap, v = .slice a n cap := by
  have hl := bls_len U n
  have hs := owns_sll (f := bcells) (l := bls U n) bcells_len16 (by omega) rfl (by rw [hl]; unfold maxLen; omega) h
  obtain ⟨a, cap, rfl, hm, h⟩ := hs
  rw [hl]
  refine ⟨⟨a, cap, rfl, by unfold maxLen; omega, ?_⟩, a, cap, rfl⟩
  rcases h with h | ⟨b, off, rfl, hlt, hc⟩
  · exact .inl (by rw [hl] at h; exact h)
  · refine .inr ⟨b, off, rfl, hlt, fun i hi j hj => ?_⟩
    have e : (bls U n)[i]'(by rw [hl]; exact hi) = U i := by simp [bls]
    rw [hc i (by rw [hl]; exact hi) j hj, e]

set_option maxRecDepth 100000 in
set_option maxHeartbeats 8000000 in
theorem ref16_boxes (a b : Option Addr) (n ca m cb : Nat) (P : Nat → Pr) (Z : Nat → Int) (w : World) (ha : Prims w (.slice a n ca) n P) (hb : IntSlice w b m Z) (hz : ∀ k, k < m → 0 ≤ Z k ∧ Z k < n) (hm : m ≤ 1024) :
    Calls Try.prog 24 #[.slice a n ca, .slice b m cb] w fun e w' => ∃ u, e = .returned u ∧ RboxRow w' w.heap.size u (bls (fun k => pBox (P (Z k).toNat)) m) ∧ Below w.heap.size w w' := by
  obtain ⟨hsl, hI⟩ := ha
  obtain ⟨_, _, e, hmx, hS⟩ := hsl
  cases e
  have HS := Lib.hid hS
  have HI := Lib.hid hI
  have HB := Lib.hid hb
  have HZ := Lib.hid hz
  obtain ⟨i0, hi0, hz0, hz1, hz2⟩ := info_parts rbox_info16
  clear hS hI hb hz
  go_enter Try.func24, Try.ntmps24
  go_wp2
  go_loopw [5, 6] (fun u i wr => ∃ k : Nat, k ≤ m ∧ i = .int .i64 k ∧ RboxRow wr w.heap.size u (bls (fun k => pBox (P (Z k).toNat)) k) ∧ Below w.heap.size w wr) (fun _ i _ => m - (intOf i).toNat)
  case atStart => exact ⟨0, by omega, rfl, World.ownsRow_nil _ _ _ _, Below.refl _ _⟩
  case round =>
    obtain ⟨k, hk, rfl, hu, BO⟩ := hrel
    by_cases hlt : k < m
    · obtain ⟨bb, ob, rfl, hcb, hbb⟩ := HB.out.resolve_left (by omega)
      have y0 : w.cell? ⟨bb, ob + k, none⟩ = some (.int .i64 (Z k)) := (hcb k hlt).1
      have hr := HZ.out k hlt
      obtain ⟨j, hj⟩ : ∃ j : Nat, j = (Z k).toNat := ⟨_, rfl⟩
      have hjz : Z k = (j : Int) := by omega
      have hjn : j < n := by omega
      obtain ⟨b, off, rfl, hb, hcell⟩ := HS.out.resolve_left (by omega)
      have hx := hcell j hjn
      have hIj := HI.out j hjn
      have KB := Lib.hid (fun w => ref13_Box (P j) w hIj)
      rw [hjz] at y0
      have hT : bls (fun k => pBox (P (Z k).toNat)) (k + 1) = bls (fun k => pBox (P (Z k).toNat)) k ++ [pBox (P j)] := by rw [bls_succ, ← hj]
      obtain ⟨vk, hvk⟩ : ∃ vk, vk = pBox (P j) := ⟨_, rfl⟩
      rw [← hvk] at KB hT
      have HT := Lib.hid hT
      clear hvk hT hcb hr hj hjz hIj
      have x0 : w.cell? ⟨b, off + j * 12, none⟩ = some (.int .i64 (P j).k) := hx 0 (by omega)
      have x1 : w.cell? ⟨b, off + j * 12 + 1, none⟩ = some (.int .i64 (P j).a.1) := hx 1 (by omega)
      have x2 : w.cell? ⟨b, off + j * 12 + 2, none⟩ = some (.int .i64 (P j).a.2.1) := hx 2 (by omega)
      have x3 : w.cell? ⟨b, off + j * 12 + 3, none⟩ = some (.int .i64 (P j).a.2.2) := hx 3 (by omega)
      have x4 : w.cell? ⟨b, off + j * 12 + 4, none⟩ = some (.int .i64 (P j).b.1) := hx 4 (by omega)
      have x5 : w.cell? ⟨b, off + j * 12 + 5, none⟩ = some (.int .i64 (P j).b.2.1) := hx 5 (by omega)
      have x6 : w.cell? ⟨b, off + j * 12 + 6, none⟩ = some (.int .i64 (P j).b.2.2) := hx 6 (by omega)
      have x7 : w.cell? ⟨b, off + j * 12 + 7, none⟩ = some (.int .i64 (P j).c.1) := hx 7 (by omega)
      have x8 : w.cell? ⟨b, off + j * 12 + 8, none⟩ = some (.int .i64 (P j).c.2.1) := hx 8 (by omega)
      have x9 : w.cell? ⟨b, off + j * 12 + 9, none⟩ = some (.int .i64 (P j).c.2.2) := hx 9 (by omega)
      have x10 : w.cell? ⟨b, off + j * 12 + 10, none⟩ = some (.int .i64 (P j).r) := hx 10 (by omega)
      have x11 : w.cell? ⟨b, off + j * 12 + 11, none⟩ = some (.int .i64 (P j).m) := hx 11 (by omega)
      clear hx hcell
      generalize P j = pk at KB x0 x1 x2 x3 x4 x5 x6 x7 x8 x9 x10 x11
      obtain ⟨kk, ⟨a1, a2, a3⟩, ⟨b1, b2, b3⟩, ⟨c1, c2, c3⟩, r, mm⟩ := pk
      obtain ⟨⟨v1, v2, v3⟩, v4, v5, v6⟩ := vk
      dsimp only at x0 x1 x2 x3 x4 x5 x6 x7 x8 x9 x10 x11 KB
      have hlu : (bls (fun k => pBox (P (Z k).toNat)) k).length = k := bls_len _ _
      generalize bls (fun k => pBox (P (Z k).toNat)) k = L at *
      have B1 := BO
      have c_y : ∀ p : BW wr, p.w.cell? ⟨bb, ob + k, none⟩ = some (.int .i64 (j : Int)) := bw_cell ((B1.cell (p := ⟨bb, ob + k, none⟩) hbb).trans y0)
      have c_e0 : ∀ p : BW wr, p.w.cell? ⟨b, off + j * 12, none⟩ = some (.int .i64 kk) := bw_cell ((B1.cell (p := ⟨b, off + j * 12, none⟩) hb).trans x0)
      have c_e1 : ∀ p : BW wr, p.w.cell? ⟨b, off + j * 12 + 1, none⟩ = some (.int .i64 a1) := bw_cell ((B1.cell (p := ⟨b, off + j * 12 + 1, none⟩) hb).trans x1)
      have c_e2 : ∀ p : BW wr, p.w.cell? ⟨b, off + j * 12 + 2, none⟩ = some (.int .i64 a2) := bw_cell ((B1.cell (p := ⟨b, off + j * 12 + 2, none⟩) hb).trans x2)
      have c_e3 : ∀ p : BW wr, p.w.cell? ⟨b, off + j * 12 + 3, none⟩ = some (.int .i64 a3) := bw_cell ((B1.cell (p := ⟨b, off + j * 12 + 3, none⟩) hb).trans x3)
      have c_e4 : ∀ p : BW wr, p.w.cell? ⟨b, off + j * 12 + 4, none⟩ = some (.int .i64 b1) := bw_cell ((B1.cell (p := ⟨b, off + j * 12 + 4, none⟩) hb).trans x4)
      have c_e5 : ∀ p : BW wr, p.w.cell? ⟨b, off + j * 12 + 5, none⟩ = some (.int .i64 b2) := bw_cell ((B1.cell (p := ⟨b, off + j * 12 + 5, none⟩) hb).trans x5)
      have c_e6 : ∀ p : BW wr, p.w.cell? ⟨b, off + j * 12 + 6, none⟩ = some (.int .i64 b3) := bw_cell ((B1.cell (p := ⟨b, off + j * 12 + 6, none⟩) hb).trans x6)
      have c_e7 : ∀ p : BW wr, p.w.cell? ⟨b, off + j * 12 + 7, none⟩ = some (.int .i64 c1) := bw_cell ((B1.cell (p := ⟨b, off + j * 12 + 7, none⟩) hb).trans x7)
      have c_e8 : ∀ p : BW wr, p.w.cell? ⟨b, off + j * 12 + 8, none⟩ = some (.int .i64 c2) := bw_cell ((B1.cell (p := ⟨b, off + j * 12 + 8, none⟩) hb).trans x8)
      have c_e9 : ∀ p : BW wr, p.w.cell? ⟨b, off + j * 12 + 9, none⟩ = some (.int .i64 c3) := bw_cell ((B1.cell (p := ⟨b, off + j * 12 + 9, none⟩) hb).trans x9)
      have c_e10 : ∀ p : BW wr, p.w.cell? ⟨b, off + j * 12 + 10, none⟩ = some (.int .i64 r) := bw_cell ((B1.cell (p := ⟨b, off + j * 12 + 10, none⟩) hb).trans x10)
      have c_e11 : ∀ p : BW wr, p.w.cell? ⟨b, off + j * 12 + 11, none⟩ = some (.int .i64 mm) := bw_cell ((B1.cell (p := ⟨b, off + j * 12 + 11, none⟩) hb).trans x11)
      obtain ⟨p1, hp1⟩ : ∃ p : BW wr, p.w = wr := ⟨BW.start wr, rfl⟩
      rw [← hp1]
      clear hp1
      go_wp2_with (first
        | (go_at_call 39; (with_reducible refine (bw_call KB.out _).mono ?_); rintro e w' ⟨rfl, q, rfl⟩)
        | (at_builtin; refine wpList_append_at rfl _ _ 68 rfl w.heap.size 41 i0 _ 6 48 Try.underlying68 hi0 hz0 hz1 hz2 rfl (by decide) _ _ _ rfl (World.ownsRow.alloc (owns_below hu (BW.h _)) _) ⟨_, 0, none⟩ 1 1 (bcells ((v1, v2, v3), (v4, v5, v6))) rfl rfl ?g1 ?g2 ?g3 ?g4 ?g5 ?_))
      case g1 => exact cells_new _ #[.int .i64 v1, .int .i64 v2, .int .i64 v3, .int .i64 v4, .int .i64 v5, .int .i64 v6] _
      case g2 => exact bcells_one _
      case g3 => unfold maxLen; omega
      case g4 => omega
      case g5 => have := (bw_below B1 q).size; simp; omega
      intro v' w1 hown hgrow hat
      have hb1 : Below w.heap.size w w1 := ((bw_below B1 q).alloc (bw_below B1 q).size _).grown hgrow (by have := (bw_below B1 q).size; simp; omega) (fun j ej => by have := (World.ownsRow.lt hu _ ej).1; omega)
      have r1 : RboxRow w1 w.heap.size v' (L ++ [((v1, v2, v3), (v4, v5, v6))]) := by unfold RboxRow; rw [List.length_append, hlu, List.flatMap_append, List.flatMap_cons, List.flatMap_nil, List.append_nil]; exact hown
      go_wp2
      go_roundw
      case rel => exact ⟨k + 1, by omega, by go_num, (by rw [HT.out]; exact r1), hb1⟩
      case measure => simp [intOf]; omega
    · obtain rfl : k = m := by omega
      go_wp2
      go_ret
      exact ⟨_, rfl, hu, BO⟩

set_option maxRecDepth 100000 in
set_option maxHeartbeats 8000000 in
theorem ref16_under_w (bb off n cv bo oo m co i f t : Nat) (p0 p2 p4 : Int) (ok : Bool) (ns : List Nd) (w : World) (hnn : n = ns.length) (hbb : bb < w.heap.size) (hcell : ∀ k (h : k < ns.length), ∀ j, j < 9 → w.cell? ⟨bb, off + k * 9 + j, none⟩ = (ncells ns[k])[j]?) (hi : i < n) (hn : n ≤ 1048576) (hm : m ≤ 1048576) (hmc : m ≤ co) (hf : mFrom ns i = (f : Int)) (hft : f < t) (htm : t ≤ m) (hfs : ∀ k, k < n → 0 < (ns.getD k nd0).2.2.1 → 0 ≤ (ns.getD k nd0).2.1 ∧ (ns.getD k nd0).2.1 + (ns.getD k nd0).2.2.1 ≤ m)
    (KW : Hid (∀ X, Below w.heap.size w X → Calls Try.prog 33 #[.agg #[.slice (some ⟨bb, off, none⟩) n cv, .slice (some ⟨bo, oo, none⟩) m co], .int .i64 (i : Int), .int .i64 (f : Int)] X fun e w' => e = .returned (.agg #[.int .i64 p0, .int .i64 (t : Int), .int .i64 p2, .int .i64 p4, .bool ok]) ∧ Below X.heap.size X w')) :
    Calls Try.prog 25 #[.agg #[.slice (some ⟨bb, off, none⟩) n cv, .slice (some ⟨bo, oo, none⟩) m co], .int .i64 (i : Int)] w fun en w' => en = .returned (.slice (some ⟨bo, oo + f, none⟩) (t - f) (co - f)) ∧ Below w.heap.size w w' := by
  have HC := Lib.hid hcell
  have HNN := Lib.hid hnn
  have HFS := Lib.hid hfs
  have HF := Lib.hid hf
  have HMS := Lib.hid (fun k => mFrom_succ ns k)
  clear hcell hnn hfs hf
  go_enter Try.func25, Try.ntmps25
  go_upto_region 1 with (fail)
  obtain ⟨W1, hW1⟩ : ∃ W, W = w.alloc (.cells #[.slice (some ⟨bb, off, none⟩) n cv, .slice (some ⟨bo, oo, none⟩) m co] 25) := ⟨_, rfl⟩
  obtain ⟨k_t, B1⟩ := st1 hW1
  rw [← hW1]
  clear hW1
  obtain ⟨c_t_0, c_t_1⟩ := bwc2 (k_t)
  obtain ⟨p1, hp1⟩ : ∃ p : BW W1, p.w = W1 := ⟨BW.start W1, rfl⟩
  rw [← hp1]
  clear hp1
  go_wp2
  go_loopw [5, 6] (fun fv iv wr => ∃ (k : Nat) (q : BW W1), k ≤ i ∧ iv = .int .i64 k ∧ fv = .int .i64 (mFrom ns k) ∧ wr = q.w) (fun _ iv _ => i - (intOf iv).toNat)
  case atStart => exact ⟨0, p1, by omega, rfl, rfl, rfl⟩
  case round =>
    obtain ⟨k, p3, hk, rfl, rfl, rfl⟩ := hrel
    by_cases hlt : k < i
    · have hkl : k < ns.length := by rw [← HNN.out]; omega
      have hx := HC.out k hkl
      have x0 : w.cell? ⟨bb, off + k * 9, none⟩ = some (.int .i64 ns[k].1.1.1) := hx 0 (by omega)
      have x1 : w.cell? ⟨bb, off + k * 9 + 1, none⟩ = some (.int .i64 ns[k].1.1.2.1) := hx 1 (by omega)
      have x2 : w.cell? ⟨bb, off + k * 9 + 2, none⟩ = some (.int .i64 ns[k].1.1.2.2) := hx 2 (by omega)
      have x3 : w.cell? ⟨bb, off + k * 9 + 3, none⟩ = some (.int .i64 ns[k].1.2.1) := hx 3 (by omega)
      have x4 : w.cell? ⟨bb, off + k * 9 + 4, none⟩ = some (.int .i64 ns[k].1.2.2.1) := hx 4 (by omega)
      have x5 : w.cell? ⟨bb, off + k * 9 + 5, none⟩ = some (.int .i64 ns[k].1.2.2.2) := hx 5 (by omega)
      have x6 : w.cell? ⟨bb, off + k * 9 + 6, none⟩ = some (.int .i64 ns[k].2.1) := hx 6 (by omega)
      have x7 : w.cell? ⟨bb, off + k * 9 + 7, none⟩ = some (.int .i64 ns[k].2.2.1) := hx 7 (by omega)
      have x8 : w.cell? ⟨bb, off + k * 9 + 8, none⟩ = some (.int .i64 ns[k].2.2.2) := hx 8 (by omega)
      have hfs := HFS.out k (by omega)
      have hms := HMS.out k
      rw [getD_at hkl] at hfs hms
      clear hx
      generalize ns[k] = nd at *
      obtain ⟨⟨⟨n1, n2, n3⟩, n4, n5, n6⟩, fi, cn, ri⟩ := nd
      dsimp only at x0 x1 x2 x3 x4 x5 x6 x7 x8 hfs hms
      have c_e6 : ∀ p : BW W1, p.w.cell? ⟨bb, off + k * 9 + 6, none⟩ = some (.int .i64 fi) := bw_cell ((B1.cell (p := ⟨bb, off + k * 9 + 6, none⟩) hbb).trans x6)
      have c_e7 : ∀ p : BW W1, p.w.cell? ⟨bb, off + k * 9 + 7, none⟩ = some (.int .i64 cn) := bw_cell ((B1.cell (p := ⟨bb, off + k * 9 + 7, none⟩) hbb).trans x7)
      have hkn : k < n := by omega
      by_cases hc : 0 < cn
      · have t1 : decide (0 < cn) = true := decide_eq_true hc
        rw [if_pos hc] at hms
        obtain ⟨h1, h2⟩ := hfs hc
        have hsm : wrap64 (fi + cn) = fi + cn := IntWalk.wrap64_in _ (by omega)
        have hsm2 : IntKind.i64.wrap (fi + cn) = fi + cn := by rw [i64w]; omega
        have HM := Lib.hid hms
        clear hms hfs hc h1 h2
        go_upto_region 6 with (fail)
        refine wp_region_bw (by kernel_rfl) (by kernel_rfl) ?_
        repeat (go_big_quiet_step (fail))
        refine wpQuiet_nil ?_
        intro _ hw'
        obtain ⟨q, rfl⟩ := hw'
        go_wp2
        go_roundw
        case rel => exact ⟨k + 1, q, by omega, by go_num, by rw [HM.out] <;> rfl, rfl⟩
        case measure => simp [intOf]; omega
      · have t1 : decide (0 < cn) = false := decide_eq_false hc
        rw [if_neg hc] at hms
        have HM := Lib.hid hms
        clear hms hfs hc
        go_wp2
        go_roundw
        case rel => exact ⟨k + 1, p3, by omega, by go_num, by rw [HM.out], rfl⟩
        case measure => simp [intOf]; omega
    · obtain rfl : k = i := by omega
      rw [HF.out]
      go_upto_region 8 with (go_at_call 33; (with_reducible refine (KW.out _ (bw_below B1 _)).mono ?_); rintro e w2 ⟨rfl, hb2⟩; obtain ⟨q, rfl⟩ := bw_take hb2)
      obtain ⟨W2, hW2⟩ : ∃ W, W = q.w.alloc (.cells #[.int .i64 p0, .int .i64 (t : Int), .int .i64 p2, .int .i64 p4, .bool ok] 57) := ⟨_, rfl⟩
      have B2 : Below w.heap.size w W2 := by rw [hW2]; exact (bw_below B1 q).alloc (bw_below B1 q).size _
      have l_p : w.heap.size < q.w.heap.size := (k_t.below q.h).lt
      have o_p : w.heap.size ≤ q.w.heap.size := (bw_below B1 q).size
      have k_t := bka hW2 (k_t.below q.h)
      have k_p := bkn hW2
      rw [← hW2]
      clear hW2
      clear B1
      clear c_t_0 c_t_1
      generalize q.w.heap.size = g_p at *
      obtain ⟨c_t_0, c_t_1⟩ := bwc2 (k_t)
      obtain ⟨c_p_0, c_p_1, c_p_2, c_p_3, c_p_4⟩ := bwc5 (k_p)
      obtain ⟨p2, hp2⟩ : ∃ p : BW W2, p.w = W2 := ⟨BW.start W2, rfl⟩
      rw [← hp2]
      clear hp2
      go_wp2
      go_ret
      exact ⟨rfl, bw_below B2 _⟩

theorem ref16_under (tv : Value) (ns : List Nd) (bo oo m co i : Nat) (w : World) (hN : Nodes w tv ns) (hw : (mWhole ns m).2.2.2.2 = true) (hi : i < ns.length) (hn : ns.length ≤ 1048576) (hm : m ≤ 1048576) (hmc : m ≤ co) :
    Calls Try.prog 25 #[.agg #[tv, .slice (some ⟨bo, oo, none⟩) m co], .int .i64 (i : Int)] w fun en w' => en = .returned (.slice (some ⟨bo, oo + (mFrom ns i).toNat, none⟩) (mThing ns m i - mFrom ns i).toNat (co - (mFrom ns i).toNat)) ∧ Below w.heap.size w w' := by
  have hN0 := hN
  obtain ⟨a, cap, rfl, hmx, h⟩ := hN
  obtain ⟨bb, off, rfl, hbb, hc⟩ := h.resolve_left (by omega)
  have h0 := mFrom_nonneg hw i (by omega)
  have hk := whole_each hw hi
  have hin := mPart_in hk
  have hth : mThing ns m i = (mPart ns m i (mFrom ns i)).2.1 := rfl
  have e1 : (mThing ns m i - mFrom ns i).toNat = (mThing ns m i).toNat - (mFrom ns i).toNat := by omega
  rw [e1]
  have hfs : ∀ k, k < ns.length → 0 < (ns.getD k nd0).2.2.1 → 0 ≤ (ns.getD k nd0).2.1 ∧ (ns.getD k nd0).2.1 + (ns.getD k nd0).2.2.1 ≤ m := fun k hk hp => by
    rw [getD_at hk] at hp ⊢
    obtain ⟨_, q2, q3, q4, q5⟩ := node_leaf hw hk (by omega)
    omega
  refine ref16_under_w bb off ns.length cap bo oo m co i (mFrom ns i).toNat (mThing ns m i).toNat (mPart ns m i (mFrom ns i)).1 (mPart ns m i (mFrom ns i)).2.2.1 (mPart ns m i (mFrom ns i)).2.2.2.1 (mPart ns m i (mFrom ns i)).2.2.2.2 ns w rfl hbb hc hi hn hm hmc (by omega) (by omega) (by omega) hfs (Lib.hid fun X hX => ?_)
  have h := ref16_walk ns (.slice (some ⟨bb, off, none⟩) ns.length cap) (some ⟨bo, oo, none⟩) m co hm hn (ns.length + 1 - i) i (mFrom ns i) X (by omega) (hN0.below hX (Nat.le_refl _)) h0 (by omega)
  rw [show (((mFrom ns i).toNat : Nat) : Int) = mFrom ns i by omega, show (((mThing ns m i).toNat : Nat) : Int) = mThing ns m i by omega]
  exact h

set_option maxRecDepth 100000 in
set_option maxHeartbeats 8000000 in
theorem rwhole_wild (a o lp : Option Addr) (N cap m co n lc : Nat) (w : World) (KO : Hid (∀ X, Below w.heap.size w X → Calls Try.prog 8 #[.agg #[.slice a N cap, .slice o m co]] X fun e w' => e = .returned (.bool false) ∧ Below X.heap.size X w')) :
    Calls Try.prog 10 #[.agg #[.slice a N cap, .slice o m co], .slice lp n lc] w fun en w' => en = .returned (.bool false) ∧ Below w.heap.size w w' := by
  go_enter Try.func10, Try.ntmps10
  go_upto_region 1 with (fail)
  obtain ⟨W1, hW1⟩ : ∃ W, W = w.alloc (.cells #[.slice a N cap, .slice o m co] 25) := ⟨_, rfl⟩
  obtain ⟨k_t, B1⟩ := st1 hW1
  rw [← hW1]
  clear hW1
  obtain ⟨c_t_0, c_t_1⟩ := bwc2 (k_t)
  obtain ⟨p1, hp1⟩ : ∃ p : BW W1, p.w = W1 := ⟨BW.start W1, rfl⟩
  rw [← hp1]
  clear hp1
  go_wp2_with (first
    | (go_at_call 8; (with_reducible refine (KO.out _ (bw_below B1 _)).mono ?_); rintro e w2 ⟨rfl, hb2⟩; obtain ⟨q, rfl⟩ := bw_take hb2))
  go_ret
  exact ⟨rfl, bw_below B1 _⟩

set_option maxRecDepth 100000 in
set_option maxHeartbeats 8000000 in
theorem rwhole_bad (a o lp : Option Addr) (N cap m co n lc : Nat) (w : World) (KO : Hid (∀ X, Below w.heap.size w X → Calls Try.prog 8 #[.agg #[.slice a N cap, .slice o m co]] X fun e w' => e = .returned (.bool true) ∧ Below X.heap.size X w')) (KR : Hid (∀ X, Below w.heap.size w X → Calls Try.prog 15 #[.slice lp n lc] X fun e w' => e = .returned (.bool false) ∧ Below X.heap.size X w')) :
    Calls Try.prog 10 #[.agg #[.slice a N cap, .slice o m co], .slice lp n lc] w fun en w' => en = .returned (.bool false) ∧ Below w.heap.size w w' := by
  go_enter Try.func10, Try.ntmps10
  go_upto_region 1 with (fail)
  obtain ⟨W1, hW1⟩ : ∃ W, W = w.alloc (.cells #[.slice a N cap, .slice o m co] 25) := ⟨_, rfl⟩
  obtain ⟨k_t, B1⟩ := st1 hW1
  rw [← hW1]
  clear hW1
  obtain ⟨c_t_0, c_t_1⟩ := bwc2 (k_t)
  obtain ⟨p1, hp1⟩ : ∃ p : BW W1, p.w = W1 := ⟨BW.start W1, rfl⟩
  rw [← hp1]
  clear hp1
  go_wp2_with (first
    | (go_at_call 8; (with_reducible refine (KO.out _ (bw_below B1 _)).mono ?_); rintro e w2 ⟨rfl, hb2⟩; obtain ⟨q, rfl⟩ := bw_take hb2)
    | (go_at_call 15; (with_reducible refine (KR.out _ (bw_below B1 _)).mono ?_); rintro e w2 ⟨rfl, hb2⟩; obtain ⟨q, rfl⟩ := bw_take hb2))
  go_ret
  exact ⟨rfl, bw_below B1 _⟩

set_option maxRecDepth 100000 in
set_option maxHeartbeats 8000000 in
theorem rwhole_size (a o lp : Option Addr) (N cap m co n lc : Nat) (w : World) (KO : Hid (∀ X, Below w.heap.size w X → Calls Try.prog 8 #[.agg #[.slice a N cap, .slice o m co]] X fun e w' => e = .returned (.bool true) ∧ Below X.heap.size X w')) (KR : Hid (∀ X, Below w.heap.size w X → Calls Try.prog 15 #[.slice lp n lc] X fun e w' => e = .returned (.bool true) ∧ Below X.heap.size X w')) (hmn : ¬ m = n) :
    Calls Try.prog 10 #[.agg #[.slice a N cap, .slice o m co], .slice lp n lc] w fun en w' => en = .returned (.bool false) ∧ Below w.heap.size w w' := by
  have t1 : ((m : Int) == (n : Int)) = false := by rw [beq_eq_false_iff_ne]; omega
  clear hmn
  go_enter Try.func10, Try.ntmps10
  go_upto_region 1 with (fail)
  obtain ⟨W1, hW1⟩ : ∃ W, W = w.alloc (.cells #[.slice a N cap, .slice o m co] 25) := ⟨_, rfl⟩
  obtain ⟨k_t, B1⟩ := st1 hW1
  rw [← hW1]
  clear hW1
  obtain ⟨c_t_0, c_t_1⟩ := bwc2 (k_t)
  obtain ⟨p1, hp1⟩ : ∃ p : BW W1, p.w = W1 := ⟨BW.start W1, rfl⟩
  rw [← hp1]
  clear hp1
  go_wp2_with (first
    | (go_at_call 8; (with_reducible refine (KO.out _ (bw_below B1 _)).mono ?_); rintro e w2 ⟨rfl, hb2⟩; obtain ⟨q, rfl⟩ := bw_take hb2)
    | (go_at_call 15; (with_reducible refine (KR.out _ (bw_below B1 _)).mono ?_); rintro e w2 ⟨rfl, hb2⟩; obtain ⟨q, rfl⟩ := bw_take hb2))
  go_ret
  exact ⟨rfl, bw_below B1 _⟩

theorem count_next {ord : List Int} {j : Nat} {x : Int} (h : j < ord.length) (hx : ord.getD j 0 = x) (z : Int) : (ord.take (j + 1)).count z = (ord.take j).count z + (if x = z then 1 else 0) := by
  rw [take_snoc h, hx, List.count_append, List.count_singleton]
  by_cases e : x = z
  · rw [if_pos e, if_pos (by rw [beq_iff_eq]; exact e)]
  · rw [if_neg e, if_neg (by rw [beq_iff_eq]; exact e)]

set_option maxRecDepth 100000 in
set_option maxHeartbeats 8000000 in
theorem rwhole_go (a o lp : Option Addr) (N cap m co n lc : Nat) (ns : List Nd) (ord : List Int) (ou : Nat → Option Addr) (lu cu : Nat → Nat) (ld : Nat → Bx) (w : World) (hNl : N = ns.length) (hN : Nodes w (.slice a N cap) ns) (hml : m = ord.length) (ho : IntSlice w o ord.length (fun i => ord.getD i 0)) (hn : N ≤ 1048576) (hm : m ≤ 1024) (hmn : m = n) (KO : Hid (∀ X, Below w.heap.size w X → Calls Try.prog 8 #[.agg #[.slice a N cap, .slice o m co]] X fun e w' => e = .returned (.bool true) ∧ Below X.heap.size X w')) (KR : Hid (∀ X, Below w.heap.size w X → Calls Try.prog 15 #[.slice lp n lc] X fun e w' => e = .returned (.bool true) ∧ Below X.heap.size X w')) (hgo : mOnce ord n = true → Hid (∀ (j : Nat) X, Below w.heap.size w X → j < N → Calls Try.prog 25 #[.agg #[.slice a N cap, .slice o m co], .int .i64 (j : Int)] X fun e w' => e = .returned (.slice (ou j) (lu j) (cu j)) ∧ Below X.heap.size X w') ∧ Hid (∀ (j : Nat) X, Below w.heap.size w X → j < N → Calls Try.prog 24 #[.slice lp n lc, .slice (ou j) (lu j) (cu j)] X fun e w' => ∃ b c, e = .returned (.slice b (lu j) c) ∧ Hid (∀ Y, Below w'.heap.size w' Y → Calls Try.prog 23 #[.slice b (lu j) c] Y fun e w' => e = .returned (.agg (bcells (ld j)).toArray) ∧ Below Y.heap.size Y w') ∧ Below X.heap.size X w')) :
    Calls Try.prog 10 #[.agg #[.slice a N cap, .slice o m co], .slice lp n lc] w fun en w' => en = .returned (.bool (mOnce ord n && (List.range N).all (fun j => decide ((ns.getD j nd0).1 = ld j)))) ∧ Below w.heap.size w w' := by
  subst hmn
  obtain ⟨res, hres⟩ : ∃ res, res = (mOnce ord m && (List.range N).all (fun j => decide ((ns.getD j nd0).1 = ld j))) := ⟨_, rfl⟩
  rw [← hres]
  have HRES := Lib.hid hres
  clear hres
  have HNL := Lib.hid hNl
  have HN := Lib.hid hN
  have HML := Lib.hid hml
  have HO := Lib.hid ho
  have HGO := Lib.hid hgo
  clear hNl hN hml ho hgo
  go_enter Try.func10, Try.ntmps10
  go_upto_region 1 with (fail)
  obtain ⟨W1, hW1⟩ : ∃ W, W = w.alloc (.cells #[.slice a N cap, .slice o m co] 25) := ⟨_, rfl⟩
  obtain ⟨k_t, B1⟩ := st1 hW1
  rw [← hW1]
  clear hW1
  obtain ⟨c_t_0, c_t_1⟩ := bwc2 (k_t)
  obtain ⟨p1, hp1⟩ : ∃ p : BW W1, p.w = W1 := ⟨BW.start W1, rfl⟩
  rw [← hp1]
  clear hp1
  go_wp2_with (first
    | (go_at_call 8; (with_reducible refine (KO.out _ (bw_below B1 _)).mono ?_); rintro e w2 ⟨rfl, hb2⟩; obtain ⟨q, rfl⟩ := bw_take hb2)
    | (go_at_call 15; (with_reducible refine (KR.out _ (bw_below B1 _)).mono ?_); rintro e w2 ⟨rfl, hb2⟩; obtain ⟨q, rfl⟩ := bw_take hb2))
  go_loopw [5] (fun iv wr => ∃ (k : Nat) (q : BW W1), k ≤ m ∧ iv = .int .i64 k ∧ wr = q.w ∧ Hid (∀ i : Nat, i < k → ord.count (i : Int) = 1)) (fun iv _ => m - (intOf iv).toNat)
  case atStart => exact ⟨0, q, by omega, rfl, rfl, Lib.hid (fun i hi => by omega)⟩
  case round =>
    obtain ⟨k, p3, hk, rfl, rfl, HC⟩ := hrel
    by_cases hlt : k < m
    · go_wp2
      go_loopw [6, 7] (fun cv jv wr => ∃ (j : Nat) (q : BW W1), j ≤ m ∧ jv = .int .i64 j ∧ cv = .int .i64 (((ord.take j).count (k : Int) : Nat) : Int) ∧ wr = q.w) (fun _ jv _ => m - (intOf jv).toNat)
      case atStart => exact ⟨0, p3, by omega, rfl, rfl, rfl⟩
      case round =>
        obtain ⟨j, p5, hj, rfl, rfl, rfl⟩ := hrel
        have hcl : (ord.take j).count (k : Int) ≤ j := Nat.le_trans List.count_le_length (by rw [List.length_take]; omega)
        by_cases hjm : j < m
        · obtain ⟨bb, ob, hoo, hcb, hbb⟩ := HO.out.resolve_left (by rw [← HML.out]; omega)
          subst hoo
          have hjl : j < ord.length := by rw [← HML.out]; exact hjm
          have y0 : w.cell? ⟨bb, ob + j, none⟩ = some (.int .i64 (ord.getD j 0)) := (hcb j hjl).1
          have HCN := Lib.hid (fun z => count_next hjl rfl z)
          clear hcb hjl
          generalize ord.getD j 0 = x at *
          have c_y : ∀ p : BW W1, p.w.cell? ⟨bb, ob + j, none⟩ = some (.int .i64 x) := bw_cell ((B1.cell (p := ⟨bb, ob + j, none⟩) hbb).trans y0)
          have hnx := HCN.out (k : Int)
          clear HCN
          obtain ⟨c0, hc0⟩ : ∃ c0, c0 = (ord.take j).count (k : Int) := ⟨_, rfl⟩
          rw [← hc0] at hnx hcl ⊢
          clear hc0
          by_cases hxk : x = (k : Int)
          · rw [if_pos hxk] at hnx
            subst hxk
            have HX := Lib.hid hnx
            clear hnx
            go_wp2
            go_roundw
            case rel => exact ⟨j + 1, p5, by omega, by go_num, by rw [HX.out]; simp, rfl⟩
            case measure => simp [intOf]; omega
          · rw [if_neg hxk] at hnx
            have t1 : (x == (k : Int)) = false := by rw [beq_eq_false_iff_ne]; exact hxk
            have HX := Lib.hid hnx
            clear hnx hxk
            go_wp2
            go_roundw
            case rel => exact ⟨j + 1, p5, by omega, by go_num, by rw [HX.out]; simp, rfl⟩
            case measure => simp [intOf]; omega
        · obtain rfl : j = m := by omega
          have htk : ord.take j = ord := by rw [HML.out]; exact List.take_length
          rw [htk] at hcl ⊢
          clear htk
          obtain ⟨c0, hc0⟩ : ∃ c0, c0 = ord.count (k : Int) := ⟨_, rfl⟩
          rw [← hc0] at hcl ⊢
          have HCC := Lib.hid hc0
          clear hc0
          by_cases h1 : c0 = 1
          · subst h1
            go_wp2
            go_roundw
            case rel => exact ⟨k + 1, p5, by omega, by go_num, rfl, Lib.hid (fun i hi => by
              by_cases e : i = k
              · subst e; exact HCC.out.symm
              · exact HC.out i (by omega))⟩
            case measure => simp [intOf]; omega
          · have t1 : ((c0 : Int) == 1) = false := by rw [beq_eq_false_iff_ne]; omega
            have hres : res = false := by
              rw [HRES.out]
              have e : mOnce ord j = false := by
                rw [Bool.eq_false_iff]
                intro e
                exact h1 (by rw [HCC.out]; exact (mOnce_iff.1 e).2 k hlt)
              rw [e, Bool.false_and]
            clear h1
            go_wp2
            go_ret
            exact ⟨by rw [hres]; rfl, bw_below B1 _⟩
    · obtain rfl : k = m := by omega
      have hon : mOnce ord k = true := mOnce_iff.2 ⟨HML.out.symm, HC.out⟩
      obtain ⟨hKU, hKB⟩ := HGO.out hon
      have KU := Lib.hid hKU
      have KB := Lib.hid hKB
      have HR2 : Hid (res = (List.range N).all (fun j => decide ((ns.getD j nd0).1 = ld j))) := Lib.hid (by rw [HRES.out, hon, Bool.true_and])
      clear hKU hKB hon HRES HGO
      go_wp2
      go_loopw [8] (fun iv wr => ∃ (i : Nat) (q : BW W1), i ≤ N ∧ iv = .int .i64 i ∧ wr = q.w ∧ Hid (∀ j, j < i → (ns.getD j nd0).1 = ld j)) (fun iv _ => N - (intOf iv).toNat)
      case atStart => exact ⟨0, p3, by omega, rfl, rfl, Lib.hid (fun j hj => by omega)⟩
      case round =>
        obtain ⟨i, p5, hi, rfl, rfl, HE⟩ := hrel
        by_cases hlt2 : i < N
        · have hil : i < ns.length := by rw [← HNL.out]; exact hlt2
          obtain ⟨bb, off, hav, hbb, x0, x1, x2, x3, x4, x5, _, _, _⟩ := nodes_at (a := a) (n := N) (cap := cap) (ns := ns) HN.out hil
          subst hav
          have HD := Lib.hid (show ns.getD i nd0 = ns[i] from getD_at hil)
          generalize ns[i] = nd at *
          clear hil
          obtain ⟨⟨⟨n1, n2, n3⟩, n4, n5, n6⟩, fi, cn, ri⟩ := nd
          dsimp only at x0 x1 x2 x3 x4 x5
          have KUi := Lib.hid (fun X hX => KU.out i X hX hlt2)
          have KBi := Lib.hid (fun X hX => KB.out i X hX hlt2)
          obtain ⟨lb, hlb⟩ : ∃ lb, lb = ld i := ⟨_, rfl⟩
          rw [← hlb] at KBi
          have HLB := Lib.hid hlb
          clear hlb KU KB
          obtain ⟨⟨b1, b2, b3⟩, b4, b5, b6⟩ := lb
          unfold bcells at KBi
          dsimp only at KBi
          generalize ou i = oi at *
          generalize lu i = li at *
          generalize cu i = ci at *
          have c_z0 : ∀ p : BW W1, p.w.cell? ⟨bb, off + i * 9, none⟩ = some (.int .i64 n1) := bw_cell ((B1.cell (p := ⟨bb, off + i * 9, none⟩) hbb).trans x0)
          have c_z1 : ∀ p : BW W1, p.w.cell? ⟨bb, off + i * 9 + 1, none⟩ = some (.int .i64 n2) := bw_cell ((B1.cell (p := ⟨bb, off + i * 9 + 1, none⟩) hbb).trans x1)
          have c_z2 : ∀ p : BW W1, p.w.cell? ⟨bb, off + i * 9 + 2, none⟩ = some (.int .i64 n3) := bw_cell ((B1.cell (p := ⟨bb, off + i * 9 + 2, none⟩) hbb).trans x2)
          have c_z3 : ∀ p : BW W1, p.w.cell? ⟨bb, off + i * 9 + 3, none⟩ = some (.int .i64 n4) := bw_cell ((B1.cell (p := ⟨bb, off + i * 9 + 3, none⟩) hbb).trans x3)
          have c_z4 : ∀ p : BW W1, p.w.cell? ⟨bb, off + i * 9 + 4, none⟩ = some (.int .i64 n5) := bw_cell ((B1.cell (p := ⟨bb, off + i * 9 + 4, none⟩) hbb).trans x4)
          have c_z5 : ∀ p : BW W1, p.w.cell? ⟨bb, off + i * 9 + 5, none⟩ = some (.int .i64 n6) := bw_cell ((B1.cell (p := ⟨bb, off + i * 9 + 5, none⟩) hbb).trans x5)
          by_cases h0 : n1 = b1
          rotate_left
          · have he : ¬ ((n1, n2, n3), n4, n5, n6) = ((b1, b2, b3), b4, b5, b6) := by
              intro e
              simp only [Prod.mk.injEq] at e
              omega
            have hres : res = false := by
              rw [HR2.out, List.all_eq_false]
              exact ⟨i, List.mem_range.2 hlt2, by rw [decide_eq_false (by rw [HD.out, ← HLB.out]; exact he)]; simp⟩
            clear he
            go_upto_region 17 with (fail)
            go_region_held3 (fun w' => w'.cell? ⟨w.heap.size, 0, none⟩ = some (.slice (some ⟨bb, off, none⟩) N cap) ∧ w'.cell? ⟨w.heap.size, 1, none⟩ = some (.slice o k co) ∧ w'.cell? ⟨bb, off + i * 9, none⟩ = some (.int .i64 n1) ∧ w'.cell? ⟨bb, off + i * 9 + 1, none⟩ = some (.int .i64 n2) ∧ w'.cell? ⟨bb, off + i * 9 + 2, none⟩ = some (.int .i64 n3) ∧ w'.cell? ⟨bb, off + i * 9 + 3, none⟩ = some (.int .i64 n4) ∧ w'.cell? ⟨bb, off + i * 9 + 4, none⟩ = some (.int .i64 n5) ∧ w'.cell? ⟨bb, off + i * 9 + 5, none⟩ = some (.int .i64 n6)) (first | with_reducible exact ⟨c_t_0 _, c_t_1 _, c_z0 _, c_z1 _, c_z2 _, c_z3 _, c_z4 _, c_z5 _⟩ | exact ⟨c_t_0 p5, c_t_1 p5, c_z0 p5, c_z1 p5, c_z2 p5, c_z3 p5, c_z4 p5, c_z5 p5⟩ | go_keep)
              (first
                | (go_at_call 25; (refine (KUi.out _ (by first | exact bw_below B1 _ | exact (bw_below B1 _).drew)).mono ?_); rintro e w1 ⟨rfl, hb⟩; (first | obtain ⟨q, rfl⟩ := bw_take_drew hb | obtain ⟨q, rfl⟩ := bw_take hb))
                | (go_at_call 24; (refine (KBi.out _ (by first | exact bw_below B1 _ | exact (bw_below B1 _).drew)).mono ?_); rintro e w1 ⟨b, c, rfl, KA, hb⟩; (first | obtain ⟨q, rfl⟩ := bw_take_drew hb | obtain ⟨q, rfl⟩ := bw_take hb))
                | (go_at_call 23; (refine (KA.out _ (Below.refl _ _)).mono ?_); rintro e w1 ⟨rfl, hb⟩; (first | obtain ⟨q, rfl⟩ := bw_take_drew hb | obtain ⟨q, rfl⟩ := bw_take hb)))
            all_goals (
              go_wp2
              go_ret
              exact ⟨by rw [hres]; rfl, bw_below B1 _⟩)
          subst h0
          by_cases h1 : n2 = b2
          rotate_left
          · have he : ¬ ((n1, n2, n3), n4, n5, n6) = ((n1, b2, b3), b4, b5, b6) := by
              intro e
              simp only [Prod.mk.injEq] at e
              omega
            have hres : res = false := by
              rw [HR2.out, List.all_eq_false]
              exact ⟨i, List.mem_range.2 hlt2, by rw [decide_eq_false (by rw [HD.out, ← HLB.out]; exact he)]; simp⟩
            clear he
            go_upto_region 17 with (fail)
            go_region_held3 (fun w' => w'.cell? ⟨w.heap.size, 0, none⟩ = some (.slice (some ⟨bb, off, none⟩) N cap) ∧ w'.cell? ⟨w.heap.size, 1, none⟩ = some (.slice o k co) ∧ w'.cell? ⟨bb, off + i * 9, none⟩ = some (.int .i64 n1) ∧ w'.cell? ⟨bb, off + i * 9 + 1, none⟩ = some (.int .i64 n2) ∧ w'.cell? ⟨bb, off + i * 9 + 2, none⟩ = some (.int .i64 n3) ∧ w'.cell? ⟨bb, off + i * 9 + 3, none⟩ = some (.int .i64 n4) ∧ w'.cell? ⟨bb, off + i * 9 + 4, none⟩ = some (.int .i64 n5) ∧ w'.cell? ⟨bb, off + i * 9 + 5, none⟩ = some (.int .i64 n6)) (first | with_reducible exact ⟨c_t_0 _, c_t_1 _, c_z0 _, c_z1 _, c_z2 _, c_z3 _, c_z4 _, c_z5 _⟩ | exact ⟨c_t_0 p5, c_t_1 p5, c_z0 p5, c_z1 p5, c_z2 p5, c_z3 p5, c_z4 p5, c_z5 p5⟩ | go_keep)
              (first
                | (go_at_call 25; (refine (KUi.out _ (by first | exact bw_below B1 _ | exact (bw_below B1 _).drew)).mono ?_); rintro e w1 ⟨rfl, hb⟩; (first | obtain ⟨q, rfl⟩ := bw_take_drew hb | obtain ⟨q, rfl⟩ := bw_take hb))
                | (go_at_call 24; (refine (KBi.out _ (by first | exact bw_below B1 _ | exact (bw_below B1 _).drew)).mono ?_); rintro e w1 ⟨b, c, rfl, KA, hb⟩; (first | obtain ⟨q, rfl⟩ := bw_take_drew hb | obtain ⟨q, rfl⟩ := bw_take hb))
                | (go_at_call 23; (refine (KA.out _ (Below.refl _ _)).mono ?_); rintro e w1 ⟨rfl, hb⟩; (first | obtain ⟨q, rfl⟩ := bw_take_drew hb | obtain ⟨q, rfl⟩ := bw_take hb)))
            all_goals (
              go_wp2
              go_ret
              exact ⟨by rw [hres]; rfl, bw_below B1 _⟩)
          subst h1
          by_cases h2 : n3 = b3
          rotate_left
          · have he : ¬ ((n1, n2, n3), n4, n5, n6) = ((n1, n2, b3), b4, b5, b6) := by
              intro e
              simp only [Prod.mk.injEq] at e
              omega
            have hres : res = false := by
              rw [HR2.out, List.all_eq_false]
              exact ⟨i, List.mem_range.2 hlt2, by rw [decide_eq_false (by rw [HD.out, ← HLB.out]; exact he)]; simp⟩
            clear he
            go_upto_region 17 with (fail)
            go_region_held3 (fun w' => w'.cell? ⟨w.heap.size, 0, none⟩ = some (.slice (some ⟨bb, off, none⟩) N cap) ∧ w'.cell? ⟨w.heap.size, 1, none⟩ = some (.slice o k co) ∧ w'.cell? ⟨bb, off + i * 9, none⟩ = some (.int .i64 n1) ∧ w'.cell? ⟨bb, off + i * 9 + 1, none⟩ = some (.int .i64 n2) ∧ w'.cell? ⟨bb, off + i * 9 + 2, none⟩ = some (.int .i64 n3) ∧ w'.cell? ⟨bb, off + i * 9 + 3, none⟩ = some (.int .i64 n4) ∧ w'.cell? ⟨bb, off + i * 9 + 4, none⟩ = some (.int .i64 n5) ∧ w'.cell? ⟨bb, off + i * 9 + 5, none⟩ = some (.int .i64 n6)) (first | with_reducible exact ⟨c_t_0 _, c_t_1 _, c_z0 _, c_z1 _, c_z2 _, c_z3 _, c_z4 _, c_z5 _⟩ | exact ⟨c_t_0 p5, c_t_1 p5, c_z0 p5, c_z1 p5, c_z2 p5, c_z3 p5, c_z4 p5, c_z5 p5⟩ | go_keep)
              (first
                | (go_at_call 25; (refine (KUi.out _ (by first | exact bw_below B1 _ | exact (bw_below B1 _).drew)).mono ?_); rintro e w1 ⟨rfl, hb⟩; (first | obtain ⟨q, rfl⟩ := bw_take_drew hb | obtain ⟨q, rfl⟩ := bw_take hb))
                | (go_at_call 24; (refine (KBi.out _ (by first | exact bw_below B1 _ | exact (bw_below B1 _).drew)).mono ?_); rintro e w1 ⟨b, c, rfl, KA, hb⟩; (first | obtain ⟨q, rfl⟩ := bw_take_drew hb | obtain ⟨q, rfl⟩ := bw_take hb))
                | (go_at_call 23; (refine (KA.out _ (Below.refl _ _)).mono ?_); rintro e w1 ⟨rfl, hb⟩; (first | obtain ⟨q, rfl⟩ := bw_take_drew hb | obtain ⟨q, rfl⟩ := bw_take hb)))
            all_goals (
              go_wp2
              go_ret
              exact ⟨by rw [hres]; rfl, bw_below B1 _⟩)
          subst h2
          by_cases h3 : n4 = b4
          rotate_left
          · have he : ¬ ((n1, n2, n3), n4, n5, n6) = ((n1, n2, n3), b4, b5, b6) := by
              intro e
              simp only [Prod.mk.injEq] at e
              omega
            have hres : res = false := by
              rw [HR2.out, List.all_eq_false]
              exact ⟨i, List.mem_range.2 hlt2, by rw [decide_eq_false (by rw [HD.out, ← HLB.out]; exact he)]; simp⟩
            clear he
            go_upto_region 17 with (fail)
            go_region_held3 (fun w' => w'.cell? ⟨w.heap.size, 0, none⟩ = some (.slice (some ⟨bb, off, none⟩) N cap) ∧ w'.cell? ⟨w.heap.size, 1, none⟩ = some (.slice o k co) ∧ w'.cell? ⟨bb, off + i * 9, none⟩ = some (.int .i64 n1) ∧ w'.cell? ⟨bb, off + i * 9 + 1, none⟩ = some (.int .i64 n2) ∧ w'.cell? ⟨bb, off + i * 9 + 2, none⟩ = some (.int .i64 n3) ∧ w'.cell? ⟨bb, off + i * 9 + 3, none⟩ = some (.int .i64 n4) ∧ w'.cell? ⟨bb, off + i * 9 + 4, none⟩ = some (.int .i64 n5) ∧ w'.cell? ⟨bb, off + i * 9 + 5, none⟩ = some (.int .i64 n6)) (first | with_reducible exact ⟨c_t_0 _, c_t_1 _, c_z0 _, c_z1 _, c_z2 _, c_z3 _, c_z4 _, c_z5 _⟩ | exact ⟨c_t_0 p5, c_t_1 p5, c_z0 p5, c_z1 p5, c_z2 p5, c_z3 p5, c_z4 p5, c_z5 p5⟩ | go_keep)
              (first
                | (go_at_call 25; (refine (KUi.out _ (by first | exact bw_below B1 _ | exact (bw_below B1 _).drew)).mono ?_); rintro e w1 ⟨rfl, hb⟩; (first | obtain ⟨q, rfl⟩ := bw_take_drew hb | obtain ⟨q, rfl⟩ := bw_take hb))
                | (go_at_call 24; (refine (KBi.out _ (by first | exact bw_below B1 _ | exact (bw_below B1 _).drew)).mono ?_); rintro e w1 ⟨b, c, rfl, KA, hb⟩; (first | obtain ⟨q, rfl⟩ := bw_take_drew hb | obtain ⟨q, rfl⟩ := bw_take hb))
                | (go_at_call 23; (refine (KA.out _ (Below.refl _ _)).mono ?_); rintro e w1 ⟨rfl, hb⟩; (first | obtain ⟨q, rfl⟩ := bw_take_drew hb | obtain ⟨q, rfl⟩ := bw_take hb)))
            all_goals (
              go_wp2
              go_ret
              exact ⟨by rw [hres]; rfl, bw_below B1 _⟩)
          subst h3
          by_cases h4 : n5 = b5
          rotate_left
          · have he : ¬ ((n1, n2, n3), n4, n5, n6) = ((n1, n2, n3), n4, b5, b6) := by
              intro e
              simp only [Prod.mk.injEq] at e
              omega
            have hres : res = false := by
              rw [HR2.out, List.all_eq_false]
              exact ⟨i, List.mem_range.2 hlt2, by rw [decide_eq_false (by rw [HD.out, ← HLB.out]; exact he)]; simp⟩
            clear he
            go_upto_region 17 with (fail)
            go_region_held3 (fun w' => w'.cell? ⟨w.heap.size, 0, none⟩ = some (.slice (some ⟨bb, off, none⟩) N cap) ∧ w'.cell? ⟨w.heap.size, 1, none⟩ = some (.slice o k co) ∧ w'.cell? ⟨bb, off + i * 9, none⟩ = some (.int .i64 n1) ∧ w'.cell? ⟨bb, off + i * 9 + 1, none⟩ = some (.int .i64 n2) ∧ w'.cell? ⟨bb, off + i * 9 + 2, none⟩ = some (.int .i64 n3) ∧ w'.cell? ⟨bb, off + i * 9 + 3, none⟩ = some (.int .i64 n4) ∧ w'.cell? ⟨bb, off + i * 9 + 4, none⟩ = some (.int .i64 n5) ∧ w'.cell? ⟨bb, off + i * 9 + 5, none⟩ = some (.int .i64 n6)) (first | with_reducible exact ⟨c_t_0 _, c_t_1 _, c_z0 _, c_z1 _, c_z2 _, c_z3 _, c_z4 _, c_z5 _⟩ | exact ⟨c_t_0 p5, c_t_1 p5, c_z0 p5, c_z1 p5, c_z2 p5, c_z3 p5, c_z4 p5, c_z5 p5⟩ | go_keep)
              (first
                | (go_at_call 25; (refine (KUi.out _ (by first | exact bw_below B1 _ | exact (bw_below B1 _).drew)).mono ?_); rintro e w1 ⟨rfl, hb⟩; (first | obtain ⟨q, rfl⟩ := bw_take_drew hb | obtain ⟨q, rfl⟩ := bw_take hb))
                | (go_at_call 24; (refine (KBi.out _ (by first | exact bw_below B1 _ | exact (bw_below B1 _).drew)).mono ?_); rintro e w1 ⟨b, c, rfl, KA, hb⟩; (first | obtain ⟨q, rfl⟩ := bw_take_drew hb | obtain ⟨q, rfl⟩ := bw_take hb))
                | (go_at_call 23; (refine (KA.out _ (Below.refl _ _)).mono ?_); rintro e w1 ⟨rfl, hb⟩; (first | obtain ⟨q, rfl⟩ := bw_take_drew hb | obtain ⟨q, rfl⟩ := bw_take hb)))
            all_goals (
              go_wp2
              go_ret
              exact ⟨by rw [hres]; rfl, bw_below B1 _⟩)
          subst h4
          by_cases h5 : n6 = b6
          rotate_left
          · have he : ¬ ((n1, n2, n3), n4, n5, n6) = ((n1, n2, n3), n4, n5, b6) := by
              intro e
              simp only [Prod.mk.injEq] at e
              omega
            have hres : res = false := by
              rw [HR2.out, List.all_eq_false]
              exact ⟨i, List.mem_range.2 hlt2, by rw [decide_eq_false (by rw [HD.out, ← HLB.out]; exact he)]; simp⟩
            clear he
            go_upto_region 17 with (fail)
            go_region_held3 (fun w' => w'.cell? ⟨w.heap.size, 0, none⟩ = some (.slice (some ⟨bb, off, none⟩) N cap) ∧ w'.cell? ⟨w.heap.size, 1, none⟩ = some (.slice o k co) ∧ w'.cell? ⟨bb, off + i * 9, none⟩ = some (.int .i64 n1) ∧ w'.cell? ⟨bb, off + i * 9 + 1, none⟩ = some (.int .i64 n2) ∧ w'.cell? ⟨bb, off + i * 9 + 2, none⟩ = some (.int .i64 n3) ∧ w'.cell? ⟨bb, off + i * 9 + 3, none⟩ = some (.int .i64 n4) ∧ w'.cell? ⟨bb, off + i * 9 + 4, none⟩ = some (.int .i64 n5) ∧ w'.cell? ⟨bb, off + i * 9 + 5, none⟩ = some (.int .i64 n6)) (first | with_reducible exact ⟨c_t_0 _, c_t_1 _, c_z0 _, c_z1 _, c_z2 _, c_z3 _, c_z4 _, c_z5 _⟩ | exact ⟨c_t_0 p5, c_t_1 p5, c_z0 p5, c_z1 p5, c_z2 p5, c_z3 p5, c_z4 p5, c_z5 p5⟩ | go_keep)
              (first
                | (go_at_call 25; (refine (KUi.out _ (by first | exact bw_below B1 _ | exact (bw_below B1 _).drew)).mono ?_); rintro e w1 ⟨rfl, hb⟩; (first | obtain ⟨q, rfl⟩ := bw_take_drew hb | obtain ⟨q, rfl⟩ := bw_take hb))
                | (go_at_call 24; (refine (KBi.out _ (by first | exact bw_below B1 _ | exact (bw_below B1 _).drew)).mono ?_); rintro e w1 ⟨b, c, rfl, KA, hb⟩; (first | obtain ⟨q, rfl⟩ := bw_take_drew hb | obtain ⟨q, rfl⟩ := bw_take hb))
                | (go_at_call 23; (refine (KA.out _ (Below.refl _ _)).mono ?_); rintro e w1 ⟨rfl, hb⟩; (first | obtain ⟨q, rfl⟩ := bw_take_drew hb | obtain ⟨q, rfl⟩ := bw_take hb)))
            all_goals (
              go_wp2
              go_ret
              exact ⟨by rw [hres]; rfl, bw_below B1 _⟩)
          subst h5
          go_upto_region 17 with (fail)
          go_region_held3 (fun w' => w'.cell? ⟨w.heap.size, 0, none⟩ = some (.slice (some ⟨bb, off, none⟩) N cap) ∧ w'.cell? ⟨w.heap.size, 1, none⟩ = some (.slice o k co) ∧ w'.cell? ⟨bb, off + i * 9, none⟩ = some (.int .i64 n1) ∧ w'.cell? ⟨bb, off + i * 9 + 1, none⟩ = some (.int .i64 n2) ∧ w'.cell? ⟨bb, off + i * 9 + 2, none⟩ = some (.int .i64 n3) ∧ w'.cell? ⟨bb, off + i * 9 + 3, none⟩ = some (.int .i64 n4) ∧ w'.cell? ⟨bb, off + i * 9 + 4, none⟩ = some (.int .i64 n5) ∧ w'.cell? ⟨bb, off + i * 9 + 5, none⟩ = some (.int .i64 n6)) (first | with_reducible exact ⟨c_t_0 _, c_t_1 _, c_z0 _, c_z1 _, c_z2 _, c_z3 _, c_z4 _, c_z5 _⟩ | exact ⟨c_t_0 p5, c_t_1 p5, c_z0 p5, c_z1 p5, c_z2 p5, c_z3 p5, c_z4 p5, c_z5 p5⟩ | go_keep)
            (first
              | (go_at_call 25; (refine (KUi.out _ (by first | exact bw_below B1 _ | exact (bw_below B1 _).drew)).mono ?_); rintro e w1 ⟨rfl, hb⟩; (first | obtain ⟨q, rfl⟩ := bw_take_drew hb | obtain ⟨q, rfl⟩ := bw_take hb))
              | (go_at_call 24; (refine (KBi.out _ (by first | exact bw_below B1 _ | exact (bw_below B1 _).drew)).mono ?_); rintro e w1 ⟨b, c, rfl, KA, hb⟩; (first | obtain ⟨q, rfl⟩ := bw_take_drew hb | obtain ⟨q, rfl⟩ := bw_take hb))
              | (go_at_call 23; (refine (KA.out _ (Below.refl _ _)).mono ?_); rintro e w1 ⟨rfl, hb⟩; (first | obtain ⟨q, rfl⟩ := bw_take_drew hb | obtain ⟨q, rfl⟩ := bw_take hb)))
          all_goals (
            go_wp2
            go_roundw
            case rel => exact ⟨i + 1, _, by omega, by go_num, rfl, Lib.hid (fun j hj => by
              by_cases e : j = i
              · subst e; rw [HD.out, ← HLB.out]
              · exact HE.out j (by omega))⟩
            case measure => simp [intOf]; omega)
        · obtain rfl : i = N := by omega
          have hres : res = true := by
            rw [HR2.out, List.all_eq_true]
            exact fun j hj => decide_eq_true (HE.out j (List.mem_range.1 hj))
          go_wp2
          go_ret
          exact ⟨by rw [hres]; rfl, bw_below B1 _⟩

theorem mBoxes_all (ns : List Nd) (P : Nat → Pr) (ord : List Int) (N : Nat) : mBoxes ns P ord N = (List.range N).all (fun j => decide ((ns.getD j nd0).1 = mAt P ord (mFrom ns j) (mThing ns ord.length j))) := by
  rw [Bool.eq_iff_iff, mBoxes_iff, List.all_eq_true]
  constructor
  · intro h j hj
    exact decide_eq_true (h j (List.mem_range.1 hj))
  · intro h j hj
    exact of_decide_eq_true (h j (List.mem_range.2 hj))

theorem ref16_Whole (tv : Value) (ns : List Nd) (o : Option Addr) (ord : List Int) (co : Nat) (lp : Option Addr) (n lc : Nat) (P : Nat → Pr) (w : World) (hN : Nodes w tv ns) (ho : IntSlice w o ord.length (fun i => ord.getD i 0)) (hs : Prims w (.slice lp n lc) n P) (hco : ord.length ≤ co) (hns : ns.length ≤ 1048576) (hm : ord.length ≤ 1024) (hn : n ≤ 1000000) :
    Calls Try.prog 10 #[.agg #[tv, .slice o ord.length co], .slice lp n lc] w fun en w' => en = .returned (.bool (mWh ns P ord n)) ∧ Below w.heap.size w w' := by
  have KO := fun X (hX : Below w.heap.size w X) => ref16_Ordered ns tv o ord.length co (by omega) hns X (hN.below hX (Nat.le_refl _))
  have KR := fun X (hX : Below w.heap.size w X) => ref14_Right (.slice lp n lc) n P X (hs.below hX (Nat.le_refl _)) hn
  have hN0 := hN
  obtain ⟨av, cv, rfl⟩ := nodes_val hN
  unfold mWh
  cases ho2 : (mWhole ns ord.length).2.2.2.2 with
  | false =>
    rw [Bool.false_and]
    exact rwhole_wild av o lp ns.length cv ord.length co n lc w (Lib.hid fun X hX => (KO X hX).mono fun e w' ⟨h1, h2⟩ => ⟨by rw [h1, ho2], h2⟩)
  | true =>
    have KO1 : Hid (∀ X, Below w.heap.size w X → Calls Try.prog 8 #[.agg #[.slice av ns.length cv, .slice o ord.length co]] X fun e w' => e = .returned (.bool true) ∧ Below X.heap.size X w') :=
      Lib.hid fun X hX => (KO X hX).mono fun e w' ⟨h1, h2⟩ => ⟨by rw [h1, ho2], h2⟩
    cases hp : pAll P n with
    | false =>
      rw [Bool.false_and, Bool.and_false]
      exact rwhole_bad av o lp ns.length cv ord.length co n lc w KO1 (Lib.hid fun X hX => (KR X hX).mono fun e w' ⟨h1, h2⟩ => ⟨by rw [h1, hp], h2⟩)
    | true =>
      have KR1 : Hid (∀ X, Below w.heap.size w X → Calls Try.prog 15 #[.slice lp n lc] X fun e w' => e = .returned (.bool true) ∧ Below X.heap.size X w') :=
        Lib.hid fun X hX => (KR X hX).mono fun e w' ⟨h1, h2⟩ => ⟨by rw [h1, hp], h2⟩
      rw [Bool.true_and, Bool.true_and]
      by_cases hl : ord.length = n
      · rw [mBoxes_all]
        refine rwhole_go av o lp ns.length cv ord.length co n lc ns ord (fun j => o.map (fun ad => ⟨ad.block, ad.off + (mFrom ns j).toNat, none⟩)) (fun j => (mThing ns ord.length j - mFrom ns j).toNat) (fun j => co - (mFrom ns j).toNat) (fun j => mAt P ord (mFrom ns j) (mThing ns ord.length j)) w rfl hN rfl ho hns hm hl KO1 KR1 (fun hon => ⟨fun j X hX hj => ?_, fun j X hX hj => ?_⟩)
        · have hin := mPart_in (whole_each ho2 hj)
          have h0 := mFrom_nonneg ho2 j (by omega)
          obtain ⟨bo, oo, rfl, _, _⟩ := ho.resolve_left (by omega)
          exact ref16_under (.slice av ns.length cv) ns bo oo ord.length co j X (hN0.below hX (Nat.le_refl _)) ho2 hj hns (by omega) hco
        · have hin := mPart_in (whole_each ho2 hj)
          have h0 := mFrom_nonneg ho2 j (by omega)
          have hth : mThing ns ord.length j = (mPart ns ord.length j (mFrom ns j)).2.1 := rfl
          obtain ⟨bo, oo, rfl, hoc, hob⟩ := ho.resolve_left (by omega)
          have hl0 : 0 < (mThing ns ord.length j - mFrom ns j).toNat := by omega
          have hl1 : (mFrom ns j).toNat + (mThing ns ord.length j - mFrom ns j).toNat ≤ ord.length := by omega
          refine (ref16_boxes lp (some ⟨bo, oo + (mFrom ns j).toNat, none⟩) n lc (mThing ns ord.length j - mFrom ns j).toNat (co - (mFrom ns j).toNat) P (fun k => ord.getD ((mFrom ns j).toNat + k) 0) X (hs.below hX (Nat.le_refl _)) (.inr ⟨bo, oo + (mFrom ns j).toNat, rfl, fun k hk => ?_, Nat.lt_of_lt_of_le hob hX.size⟩) (fun k hk => mOnce_in hon _ (by omega)) (by omega)).mono fun e w' h => ?_
          · have h := hoc ((mFrom ns j).toNat + k) (by omega)
            rw [Nat.add_assoc]
            exact ⟨(hX.cell (p := ⟨bo, oo + ((mFrom ns j).toNat + k), none⟩) hob).trans h.1, h.2⟩
          · obtain ⟨u, rfl, hu, hB⟩ := h
            obtain ⟨_, b, c, rfl⟩ := rboxrow_boxes hu (by omega)
            refine ⟨b, c, rfl, Lib.hid fun Y hY => ?_, hB⟩
            obtain ⟨hbx, _⟩ := rboxrow_boxes (hu.below hY) (by omega)
            exact ref16_all b _ c (fun k => pBox (P (ord.getD ((mFrom ns j).toNat + k) 0).toNat)) Y hbx hl0 (by omega)
      · have e : mOnce ord n = false := by unfold mOnce; rw [decide_eq_false hl, Bool.false_and]
        rw [e, Bool.false_and]
        exact rwhole_size av o lp ns.length cv ord.length co n lc w KO1 KR1 hl

end
end Go.Proofs.Ytomlcglnkdfemaa
