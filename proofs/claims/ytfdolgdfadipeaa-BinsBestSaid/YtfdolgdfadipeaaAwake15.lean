/- The statements' own of, same and ints; the chapter's example holds: awake, layer 15. -/
import Derived.Test.YtfdolgdfadipeaaBins15
import Derived.Test.YtfdolgdfadipeaaMem15
import Derived.Deep.DeepCutAuto
import Derived.Laws.AppendOwn
import Derived.Test.YtfdolgdfadipeaaRecs
namespace Go.Proofs.Ytfdolgdfadipeaa
open Go.RowKit Go.Proofs.Sky
set_option linter.unusedVariables false
set_option linter.unusedSimpArgs false

theorem box_info15 : (Try.prog.info? 31).map (fun i => (i.zero, i.size, i.bytes)) = some (some (.agg #[.int .i64 0, .int .i64 0, .int .i64 0, .int .i64 0, .int .i64 0, .int .i64 0]), 6, 48) := by kernel_rfl

theorem rbox_info15 : (Try.prog.info? 28).map (fun i => (i.zero, i.size, i.bytes)) = some (some (.agg #[.int .i64 0, .int .i64 0, .int .i64 0, .int .i64 0, .int .i64 0, .int .i64 0]), 6, 48) := by kernel_rfl

theorem cells_new15 (w : World) (cs : List Value) (t : TypeId) : ∀ j u, cs[j]? = some u → (w.alloc (.cells cs.toArray t)).cell? ((⟨w.heap.size, 0, none⟩ : Addr).add j) = some u := fun j u hj => by
  have hadd : (⟨w.heap.size, 0, none⟩ : Addr).add j = ⟨w.heap.size, j, none⟩ := by unfold Addr.add; split <;> simp_all
  rw [hadd]
  refine (Bk.new w cs.toArray t).cell ?_
  rw [List.getElem?_toArray]
  exact hj

theorem cells_at15 {w : World} {g : Nat} {t : TypeId} {cs : List Value} (h : Bk w g t cs.toArray) : ∀ j u, cs[j]? = some u → w.cell? ((⟨g, 0, none⟩ : Addr).add j) = some u := fun j u hj => by
  have hadd : (⟨g, 0, none⟩ : Addr).add j = ⟨g, j, none⟩ := by unfold Addr.add; split <;> simp_all
  rw [hadd]
  refine h.cell ?_
  rw [List.getElem?_toArray]
  exact hj

theorem bcells_len (b : Bx) : (bcells b).length = 6 := rfl

/-- A row of boxes that a call made, as a slice of boxes. -/
theorem owns_boxes {w : World} {B n : Nat} {e : TypeId} {v : Value} {V : Nat → Bx} (hm : n ≤ maxLen) (h : w.ownsRow B e 6 v n ((bls V n).flatMap bcells)) : ∃ (o : Option Addr) (cp : Nat), v = .slice o n cp ∧ Boxes w (.slice o n cp) n V := by
  obtain ⟨a, cap, e1, _, h2⟩ := owns_sll bcells_len (by decide) (by rw [bls_len]) hm h
  rw [bls_len] at e1
  refine ⟨a, cap, e1, a, cap, rfl, hm, ?_⟩
  rcases h2 with h2 | ⟨b, off, rfl, hb, hc⟩
  · rw [bls_len] at h2; exact .inl h2
  · refine .inr ⟨b, off, rfl, hb, fun i hi j hj => ?_⟩
    have := hc i (by rw [bls_len]; exact hi) j hj
    rw [this]
    unfold bls
    simp

set_option maxRecDepth 100000 in
set_option maxHeartbeats 4000000 in
theorem law15_of (a : Option Addr) (n cap : Nat) (V : Nat → Bx) (w : World) (hs : Boxes w (.slice a n cap) n V) (hn : n ≤ 1024) :
    Calls Try.prog 7 #[.slice a n cap] w fun e w' => ∃ u cp, e = .returned (.slice u n cp) ∧ Boxes w' (.slice u n cp) n V ∧ Below w.heap.size w w' := by
  have HS := Lib.hid hs
  obtain ⟨i0, hi0, hz0, hz1, hz2⟩ := info_parts box_info15
  clear hs
  go_enter Try.func7, Try.ntmps7
  go_wp2
  go_loopw [3, 4] (fun u i wr => ∃ k : Nat, k ≤ n ∧ i = .int .i64 k ∧ wr.ownsRow w.heap.size 31 6 u k ((bls V k).flatMap bcells) ∧ Below w.heap.size w wr) (fun _ i _ => n - (intOf i).toNat)
  case atStart => exact ⟨0, by omega, rfl, World.ownsRow_nil _ _ _ _, Below.refl _ _⟩
  case round =>
    obtain ⟨k, hk, rfl, hown, BO⟩ := hrel
    by_cases hlt : k < n
    · have eu : (bls V (k + 1)).flatMap bcells = (bls V k).flatMap bcells ++ bcells (V k) := by rw [bls_succ, List.flatMap_append]; simp
      obtain ⟨_, _, hsl, _, hS⟩ := HS.out
      cases hsl
      obtain ⟨bb, off, rfl, hbb, hcell⟩ := hS.resolve_left (by omega)
      have x0 : w.cell? ⟨bb, off + k * 6, none⟩ = some (.int .i64 (V k).1.1) := hcell k hlt 0 (by omega)
      have x1 : w.cell? ⟨bb, off + k * 6 + 1, none⟩ = some (.int .i64 (V k).1.2.1) := hcell k hlt 1 (by omega)
      have x2 : w.cell? ⟨bb, off + k * 6 + 2, none⟩ = some (.int .i64 (V k).1.2.2) := hcell k hlt 2 (by omega)
      have x3 : w.cell? ⟨bb, off + k * 6 + 3, none⟩ = some (.int .i64 (V k).2.1) := hcell k hlt 3 (by omega)
      have x4 : w.cell? ⟨bb, off + k * 6 + 4, none⟩ = some (.int .i64 (V k).2.2.1) := hcell k hlt 4 (by omega)
      have x5 : w.cell? ⟨bb, off + k * 6 + 5, none⟩ = some (.int .i64 (V k).2.2.2) := hcell k hlt 5 (by omega)
      clear hcell hS
      obtain ⟨vk, hvk⟩ : ∃ vk, vk = V k := ⟨_, rfl⟩
      rw [← hvk] at x0 x1 x2 x3 x4 x5 eu
      clear hvk
      obtain ⟨⟨v1, v2, v3⟩, v4, v5, v6⟩ := vk
      dsimp only at x0 x1 x2 x3 x4 x5
      have EU := Lib.hid eu
      clear eu
      have B1 := BO
      have c_e0 : ∀ p : BW wr, p.w.cell? ⟨bb, off + k * 6, none⟩ = some (.int .i64 v1) := bw_cell ((B1.cell (p := ⟨bb, off + k * 6, none⟩) hbb).trans x0)
      have c_e1 : ∀ p : BW wr, p.w.cell? ⟨bb, off + k * 6 + 1, none⟩ = some (.int .i64 v2) := bw_cell ((B1.cell (p := ⟨bb, off + k * 6 + 1, none⟩) hbb).trans x1)
      have c_e2 : ∀ p : BW wr, p.w.cell? ⟨bb, off + k * 6 + 2, none⟩ = some (.int .i64 v3) := bw_cell ((B1.cell (p := ⟨bb, off + k * 6 + 2, none⟩) hbb).trans x2)
      have c_e3 : ∀ p : BW wr, p.w.cell? ⟨bb, off + k * 6 + 3, none⟩ = some (.int .i64 v4) := bw_cell ((B1.cell (p := ⟨bb, off + k * 6 + 3, none⟩) hbb).trans x3)
      have c_e4 : ∀ p : BW wr, p.w.cell? ⟨bb, off + k * 6 + 4, none⟩ = some (.int .i64 v5) := bw_cell ((B1.cell (p := ⟨bb, off + k * 6 + 4, none⟩) hbb).trans x4)
      have c_e5 : ∀ p : BW wr, p.w.cell? ⟨bb, off + k * 6 + 5, none⟩ = some (.int .i64 v6) := bw_cell ((B1.cell (p := ⟨bb, off + k * 6 + 5, none⟩) hbb).trans x5)
      obtain ⟨p1, hp1⟩ : ∃ p : BW wr, p.w = wr := ⟨BW.start wr, rfl⟩
      rw [← hp1]
      clear hp1
      go_upto_region 5 with (fail)
      refine wp_region_floatV (t := 31) (zs := #[.int .i64 v1, .int .i64 v2, .int .i64 v3, .int .i64 v4, .int .i64 v5, .int .i64 v6]) 13 12 23 26 [22] (fun g => .slice (some ⟨g, 0, none⟩) 1 1) (by kernel_rfl) (by kernel_rfl) (by kernel_rfl) (by kernel_rfl) rfl rfl ?_
      apply Exists.intro
      refine ⟨?_, ?_, ?_⟩
      · intro wb' hwb'
        have d_e0 : ∀ q : BW wb', q.w.cell? ⟨bb, off + k * 6, none⟩ = some (.int .i64 v1) := bw_cell ((hwb'.cell (p := ⟨bb, off + k * 6, none⟩) (Nat.lt_of_lt_of_le hbb B1.size)).trans ((B1.cell (p := ⟨bb, off + k * 6, none⟩) hbb).trans x0))
        have d_e1 : ∀ q : BW wb', q.w.cell? ⟨bb, off + k * 6 + 1, none⟩ = some (.int .i64 v2) := bw_cell ((hwb'.cell (p := ⟨bb, off + k * 6 + 1, none⟩) (Nat.lt_of_lt_of_le hbb B1.size)).trans ((B1.cell (p := ⟨bb, off + k * 6 + 1, none⟩) hbb).trans x1))
        have d_e2 : ∀ q : BW wb', q.w.cell? ⟨bb, off + k * 6 + 2, none⟩ = some (.int .i64 v3) := bw_cell ((hwb'.cell (p := ⟨bb, off + k * 6 + 2, none⟩) (Nat.lt_of_lt_of_le hbb B1.size)).trans ((B1.cell (p := ⟨bb, off + k * 6 + 2, none⟩) hbb).trans x2))
        have d_e3 : ∀ q : BW wb', q.w.cell? ⟨bb, off + k * 6 + 3, none⟩ = some (.int .i64 v4) := bw_cell ((hwb'.cell (p := ⟨bb, off + k * 6 + 3, none⟩) (Nat.lt_of_lt_of_le hbb B1.size)).trans ((B1.cell (p := ⟨bb, off + k * 6 + 3, none⟩) hbb).trans x3))
        have d_e4 : ∀ q : BW wb', q.w.cell? ⟨bb, off + k * 6 + 4, none⟩ = some (.int .i64 v5) := bw_cell ((hwb'.cell (p := ⟨bb, off + k * 6 + 4, none⟩) (Nat.lt_of_lt_of_le hbb B1.size)).trans ((B1.cell (p := ⟨bb, off + k * 6 + 4, none⟩) hbb).trans x4))
        have d_e5 : ∀ q : BW wb', q.w.cell? ⟨bb, off + k * 6 + 5, none⟩ = some (.int .i64 v6) := bw_cell ((hwb'.cell (p := ⟨bb, off + k * 6 + 5, none⟩) (Nat.lt_of_lt_of_le hbb B1.size)).trans ((B1.cell (p := ⟨bb, off + k * 6 + 5, none⟩) hbb).trans x5))
        simp only [maskAt, List.take_succ_cons, List.take_zero]
        repeat (go_big_quiet_step (first
          | fail))
        refine wpQuiet_nil ?_
        exact rfl
      · intro ax wx hp
        have e22 := hp 22 (by decide)
        clear hp
        simp only [Act.put, List.setIfInBounds_toArray, List.set_cons_zero, List.set_cons_succ, List.getElem?_toArray, List.getElem?_cons_succ, List.getElem?_cons_zero] at e22
        exact ⟨by simp [Region.wanted, yielded, e22], by simp [execOp, go_sem, Act.eval, e22]⟩
      intro W2 g_n hW hg k_n
      have B2 : Below w.heap.size w W2 := B1.trans (hW.mono B1.size)
      have o_n : w.heap.size ≤ g_n := Nat.le_trans B1.size hg
      have hown := owns_below hown hW
      clear hW hg B1
      clear c_e0 c_e1 c_e2 c_e3 c_e4 c_e5
      simp only [List.drop_succ_cons, List.drop_zero, Act.put, List.setIfInBounds_toArray, List.set_cons_zero, List.set_cons_succ]
      have hsz := B2.size
      have hlt2 := k_n.lt
      go_wp2_with (at_builtin; refine wpList_append_own _ rfl _ _ 34 rfl w.heap.size 31 i0 (.agg #[.int .i64 0, .int .i64 0, .int .i64 0, .int .i64 0, .int .i64 0, .int .i64 0]) 6 48 Try.underlying34 hi0 hz0 hz1 hz2 rfl (by decide) _ _ _ rfl hown ⟨g_n, 0, none⟩ 1 1 (bcells ((v1, v2, v3), v4, v5, v6)) rfl rfl ?g1 ?g2 ?g3 ?g4 ?g5 ?_)
      case g1 => exact cells_at15 k_n
      case g2 => intro u hu; simp only [bcells, List.mem_cons, List.not_mem_nil, or_false] at hu; rcases hu with rfl | rfl | rfl | rfl | rfl | rfl <;> rfl
      case g3 => unfold maxLen; omega
      case g4 => omega
      case g5 => omega
      intro v' w1 hown' hgrow hne
      have hB1 : Below w.heap.size w w1 := B2.grown hgrow (by omega) (fun j ej => by have := (World.ownsRow.lt hown j ej).1; omega)
      have HO : Hid (w1.ownsRow w.heap.size 31 6 v' (k + 1) ((bls V (k + 1)).flatMap bcells)) := Lib.hid (by rw [EU.out]; exact hown')
      clear hown' hgrow hne
      go_wp2
      go_roundw
      case rel => exact ⟨k + 1, by omega, by go_num, HO.out, hB1⟩
      case measure => simp [intOf]; omega
    · obtain rfl : k = n := by omega
      obtain ⟨u, cp, rfl, hb⟩ := owns_boxes (by unfold maxLen; omega) hown
      go_wp2
      go_ret
      exact ⟨u, cp, rfl, hb, BO⟩

set_option maxRecDepth 100000 in
set_option maxHeartbeats 4000000 in
theorem law15_same (ax at_ lo hi : Int) (w : World) :
    Calls Try.prog 17 #[.agg #[.int .i64 ax, .int .i64 at_, .int .i64 lo, .int .i64 hi], .agg #[.int .i64 ax, .int .i64 at_, .int .i64 lo, .int .i64 hi]] w fun en w' => en = .returned (.bool true) ∧ Below w.heap.size w w' := by
  go_enter Try.func17, Try.ntmps17
  go_upto_region 1 with (fail)
  obtain ⟨W1, hW1⟩ : ∃ W, W = (w.alloc (.cells #[.int .i64 ax, .int .i64 at_, .int .i64 lo, .int .i64 hi] 30)).alloc (.cells #[.int .i64 ax, .int .i64 at_, .int .i64 lo, .int .i64 hi] 24) := ⟨_, rfl⟩
  obtain ⟨k_a, k_b, B1⟩ := st2 hW1
  rw [← hW1]
  clear hW1
  have l_b : w.heap.size < w.heap.size + 1 := by omega
  generalize w.heap.size + 1 = g_b at *
  obtain ⟨c_a_0, c_a_1, c_a_2, c_a_3⟩ := bwc4 (k_a)
  obtain ⟨c_b_0, c_b_1, c_b_2, c_b_3⟩ := bwc4 (k_b)
  obtain ⟨p1, hp1⟩ : ∃ p : BW W1, p.w = W1 := ⟨BW.start W1, rfl⟩
  rw [← hp1]
  clear hp1
  go_wp2
  go_ret
  exact ⟨by simp, bw_below B1 _⟩

set_option maxRecDepth 100000 in
set_option maxHeartbeats 4000000 in
theorem law15_ints (u v : Option Addr) (cu cv n : Nat) (Z : Nat → Int) (w : World) (hu : IntSlice w u n Z) (hv : IntSlice w v n Z) (hn : n ≤ 1024) :
    Calls Try.prog 18 #[.slice u n cu, .slice v n cv] w fun e w' => e = .returned (.bool true) ∧ Below w.heap.size w w' := by
  have HU := Lib.hid hu
  have HV := Lib.hid hv
  clear hu hv
  go_enter Try.func18, Try.ntmps18
  go_wp2
  go_loopw [5] (fun i wr => ∃ k : Nat, k ≤ n ∧ i = .int .i64 k ∧ Below w.heap.size w wr) (fun i _ => n - (intOf i).toNat)
  case atStart => exact ⟨0, by omega, rfl, Below.refl _ _⟩
  case round =>
    obtain ⟨k, hk, rfl, BO⟩ := hrel
    by_cases hlt : k < n
    · obtain ⟨b, off, rfl, hc, hlb⟩ := HU.out.resolve_left (by omega)
      obtain ⟨b2, off2, rfl, hc2, hlb2⟩ := HV.out.resolve_left (by omega)
      have x0 : wr.cell? ⟨b, off + k, none⟩ = some (.int .i64 (Z k)) := (BO.cell (p := ⟨b, off + k, none⟩) hlb).trans (hc k hlt).1
      have y0 : wr.cell? ⟨b2, off2 + k, none⟩ = some (.int .i64 (Z k)) := (BO.cell (p := ⟨b2, off2 + k, none⟩) hlb2).trans (hc2 k hlt).1
      clear hc hc2
      generalize Z k = z at *
      go_upto_region 6 with (fail)
      go_region
      go_wp2
      go_roundw
      case rel => exact ⟨k + 1, by omega, by go_num, BO.trans ⟨rfl, rfl, rfl, Nat.le_refl _, fun _ _ => rfl⟩⟩
      case measure => simp [intOf]; omega
    · obtain rfl : k = n := by omega
      go_wp2
      go_ret
      exact ⟨rfl, BO⟩

theorem bw_alloc2 {wb w1 w2 : World} {ob : Obj} (p : BW wb) (hb : Below (p.w.alloc ob).heap.size (p.w.alloc ob) w1) (hb2 : Below w1.heap.size w1 w2) : ∃ q : BW wb, w2 = q.w :=
  ⟨p.next w2 (((Below.refl _ _).alloc (Nat.le_refl _) ob).trans ((hb.trans (hb2.mono hb.size)).mono (by simp))), rfl⟩

def awB (i : Nat) : Bx := if i = 0 then ((0, 0, 0), (2, 0, 0)) else ((10, 0, 0), (12, 0, 0))

theorem aw_boxes1 {X : World} {g : Nat} (h : Bk X g 28 #[.int .i64 0, .int .i64 0, .int .i64 0, .int .i64 2, .int .i64 0, .int .i64 0]) : Boxes X (.slice (some ⟨g, 0, none⟩) 1 1) 1 awB := by
  refine ⟨_, 1, rfl, by unfold maxLen; omega, .inr ⟨g, 0, rfl, h.lt, fun i hi j hj => ?_⟩⟩
  rcases (by omega : i = 0) with rfl
  rcases (by omega : j = 0 ∨ j = 1 ∨ j = 2 ∨ j = 3 ∨ j = 4 ∨ j = 5) with rfl | rfl | rfl | rfl | rfl | rfl <;> exact h.cell rfl

theorem aw_boxes2 {X : World} {g : Nat} (h : Bk X g 28 #[.int .i64 0, .int .i64 0, .int .i64 0, .int .i64 2, .int .i64 0, .int .i64 0, .int .i64 10, .int .i64 0, .int .i64 0, .int .i64 12, .int .i64 0, .int .i64 0]) : Boxes X (.slice (some ⟨g, 0, none⟩) 2 2) 2 awB := by
  refine ⟨_, 2, rfl, by unfold maxLen; omega, .inr ⟨g, 0, rfl, h.lt, fun i hi j hj => ?_⟩⟩
  rcases (by omega : i = 0 ∨ i = 1) with rfl | rfl <;> (rcases (by omega : j = 0 ∨ j = 1 ∨ j = 2 ∨ j = 3 ∨ j = 4 ∨ j = 5) with rfl | rfl | rfl | rfl | rfl | rfl <;> exact h.cell rfl)

set_option maxRecDepth 100000 in
set_option maxHeartbeats 4000000 in
theorem awake15 (w : World) :
    Calls Try.prog 5 #[] w fun e w' => e = .returned (.bool true) ∧ Below w.heap.size w w' := by
  have KO1 := Lib.hid (fun g X (hX : Bk X g 28 #[.int .i64 0, .int .i64 0, .int .i64 0, .int .i64 2, .int .i64 0, .int .i64 0]) => law15_of (some ⟨g, 0, none⟩) 1 1 awB X (aw_boxes1 hX) (by omega))
  have KO2 := Lib.hid (fun g X (hX : Bk X g 28 #[.int .i64 0, .int .i64 0, .int .i64 0, .int .i64 2, .int .i64 0, .int .i64 0, .int .i64 10, .int .i64 0, .int .i64 0, .int .i64 12, .int .i64 0, .int .i64 0]) => law15_of (some ⟨g, 0, none⟩) 2 2 awB X (aw_boxes2 hX) (by omega))
  have KB1 : Hid (∀ o cp X, Boxes X (.slice o 1 cp) 1 awB → Calls Try.prog 9 #[.slice o 1 cp] X fun e w' => e = .returned (.tuple #[.agg #[.int .i64 0, .int .i64 0, .int .i64 0, .int .i64 0], .bool false]) ∧ Below X.heap.size X w') := Lib.hid (fun o cp X hX => by
    have h := bins_Best o 1 cp awB X hX
    rw [show bBest awB 1 = ((0, 0, 0, 0), false) by decide +kernel] at h
    exact h)
  have KB2 : Hid (∀ o cp X, Boxes X (.slice o 2 cp) 2 awB → Calls Try.prog 9 #[.slice o 2 cp] X fun e w' => e = .returned (.tuple #[.agg #[.int .i64 0, .int .i64 1, .int .i64 2, .int .i64 22], .bool true]) ∧ Below X.heap.size X w') := Lib.hid (fun o cp X hX => by
    have h := bins_Best o 2 cp awB X hX
    rw [show bBest awB 2 = ((0, 1, 2, 22), true) by decide +kernel] at h
    exact h)
  have KN : Hid (∀ w, Calls Try.prog 13 #[.agg #[.int .i64 0, .int .i64 0, .int .i64 0, .int .i64 0, .int .i64 0, .int .i64 0], .int .i64 3, .int .i64 0, .int .i64 1] w fun e w' => e = .returned (.int .i64 (-1)) ∧ Below w.heap.size w w') := Lib.hid (fun w => by
    have h := bins_Bin 0 0 0 0 0 0 3 0 1 w (by unfold I64; omega) (by unfold I64; omega) (by unfold I64; omega)
    rw [show bBin ((0, 0, 0), 0, 0, 0) 3 0 1 = -1 by decide +kernel] at h
    exact h)
  go_enter Try.func5, Try.ntmps5
  go_upto_region 5 with (fail)
  obtain ⟨W1, hW1⟩ : ∃ W, W = (w.alloc (.cells #[.int .i64 0, .int .i64 0, .int .i64 0, .int .i64 2, .int .i64 0, .int .i64 0] 28)).alloc (.cells #[.int .i64 10, .int .i64 0, .int .i64 0, .int .i64 12, .int .i64 0, .int .i64 0] 28) := ⟨_, rfl⟩
  obtain ⟨k_a, k_b, B1⟩ := st2 hW1
  rw [← hW1]
  clear hW1
  have l_b : w.heap.size < w.heap.size + 1 := by omega
  generalize w.heap.size + 1 = g_b at *
  obtain ⟨c_a_0, c_a_1, c_a_2, c_a_3, c_a_4, c_a_5⟩ := bwc6 (k_a)
  obtain ⟨c_b_0, c_b_1, c_b_2, c_b_3, c_b_4, c_b_5⟩ := bwc6 (k_b)
  obtain ⟨p1, hp1⟩ : ∃ p : BW W1, p.w = W1 := ⟨BW.start W1, rfl⟩
  rw [← hp1]
  clear hp1
  go_upto_region 6 with (first
    | (go_at_call 7; refine (KO1.out _ _ (Bk.new _ _ _)).mono ?_; rintro e w1 ⟨u, cp, rfl, hbx, hb⟩)
    | (go_at_call 9; refine (KB1.out _ _ _ hbx).mono ?_; rintro e w2 ⟨rfl, hb2⟩; obtain ⟨q, rfl⟩ := bw_alloc2 p1 hb hb2))
  obtain ⟨W2, hW2⟩ : ∃ W, W = q.w.alloc (.cells #[.int .i64 0, .int .i64 0, .int .i64 0, .int .i64 0] 30) := ⟨_, rfl⟩
  have B2 : Below w.heap.size w W2 := by rw [hW2]; exact (bw_below B1 q).alloc (bw_below B1 q).size _
  have l_s : g_b < q.w.heap.size := (k_b.below q.h).lt
  have o_s : w.heap.size ≤ q.w.heap.size := (bw_below B1 q).size
  have k_a := bka hW2 (k_a.below q.h)
  have k_b := bka hW2 (k_b.below q.h)
  have k_s := bkn hW2
  rw [← hW2]
  clear hW2
  clear B1
  clear c_a_0 c_a_1 c_a_2 c_a_3 c_a_4 c_a_5 c_b_0 c_b_1 c_b_2 c_b_3 c_b_4 c_b_5
  generalize q.w.heap.size = g_s at *
  obtain ⟨c_a_0, c_a_1, c_a_2, c_a_3, c_a_4, c_a_5⟩ := bwc6 (k_a)
  obtain ⟨c_b_0, c_b_1, c_b_2, c_b_3, c_b_4, c_b_5⟩ := bwc6 (k_b)
  obtain ⟨c_s_0, c_s_1, c_s_2, c_s_3⟩ := bwc4 (k_s)
  obtain ⟨p2, hp2⟩ : ∃ p : BW W2, p.w = W2 := ⟨BW.start W2, rfl⟩
  rw [← hp2]
  clear hp2
  go_upto_region 7 with (first
    | (go_at_call 7; refine (KO2.out _ _ (Bk.new _ _ _)).mono ?_; rintro e w1 ⟨u, cp, rfl, hbx, hb⟩)
    | (go_at_call 9; refine (KB2.out _ _ _ hbx).mono ?_; rintro e w2 ⟨rfl, hb2⟩; obtain ⟨q, rfl⟩ := bw_alloc2 p2 hb hb2))
  obtain ⟨W3, hW3⟩ : ∃ W, W = q.w.alloc (.cells #[.int .i64 0, .int .i64 1, .int .i64 2, .int .i64 22] 30) := ⟨_, rfl⟩
  have B3 : Below w.heap.size w W3 := by rw [hW3]; exact (bw_below B2 q).alloc (bw_below B2 q).size _
  have l_v : g_s < q.w.heap.size := (k_s.below q.h).lt
  have o_v : w.heap.size ≤ q.w.heap.size := (bw_below B2 q).size
  have k_a := bka hW3 (k_a.below q.h)
  have k_b := bka hW3 (k_b.below q.h)
  have k_s := bka hW3 (k_s.below q.h)
  have k_v := bkn hW3
  rw [← hW3]
  clear hW3
  clear B2
  clear c_a_0 c_a_1 c_a_2 c_a_3 c_a_4 c_a_5 c_b_0 c_b_1 c_b_2 c_b_3 c_b_4 c_b_5 c_s_0 c_s_1 c_s_2 c_s_3
  generalize q.w.heap.size = g_v at *
  obtain ⟨c_a_0, c_a_1, c_a_2, c_a_3, c_a_4, c_a_5⟩ := bwc6 (k_a)
  obtain ⟨c_b_0, c_b_1, c_b_2, c_b_3, c_b_4, c_b_5⟩ := bwc6 (k_b)
  obtain ⟨c_s_0, c_s_1, c_s_2, c_s_3⟩ := bwc4 (k_s)
  obtain ⟨c_v_0, c_v_1, c_v_2, c_v_3⟩ := bwc4 (k_v)
  obtain ⟨p3, hp3⟩ : ∃ p : BW W3, p.w = W3 := ⟨BW.start W3, rfl⟩
  rw [← hp3]
  clear hp3
  go_wp2_with (first
    | (go_at_call 13; (first | (with_reducible refine (bw_call KN.out _).mono ?_)); rintro e w' ⟨rfl, q, rfl⟩))
  go_ret
  exact ⟨rfl, bw_below B3 _⟩

def bxOf (V : List Value) : Bx := ((intOf (V.getD 0 (.bool false)), intOf (V.getD 1 (.bool false)), intOf (V.getD 2 (.bool false))), (intOf (V.getD 3 (.bool false)), intOf (V.getD 4 (.bool false)), intOf (V.getD 5 (.bool false))))

theorem bxOf_bcells (b : Bx) : bxOf (bcells b) = b := rfl

theorem box_row {V : List Value} (h : LeafAll [.int .i64, .int .i64, .int .i64, .int .i64, .int .i64, .int .i64] V) : ∃ b : Bx, V = bcells b := by
  obtain ⟨_, _, rfl, ⟨x0, rfl, _⟩, _, _, rfl, ⟨x1, rfl, _⟩, _, _, rfl, ⟨x2, rfl, _⟩, _, _, rfl, ⟨x3, rfl, _⟩, _, _, rfl, ⟨x4, rfl, _⟩, _, r, rfl, ⟨x5, rfl, _⟩, he⟩ := h
  have he' : r = [] := he
  subst he'
  exact ⟨((x0, x1, x2), (x3, x4, x5)), rfl⟩

set_option maxRecDepth 100000 in
theorem open_boxes {H : Type} {enc : TypeId × Value → H} {W : World} {r : Reach} {b0 : Nat} {v : Value} {d : DataW H} {p : List MemPlace} (hv : Value.okWide Try.prog W r b0 22 v)
    (h : DataW.Trod enc Try.prog W 0 (fun _ => true) true 22 v d p) : ∃ (a : Option Addr) (len cap : Nat) (V : Nat → Bx), v = .slice a len cap ∧ Boxes W (.slice a len cap) len V := by
  obtain ⟨a, len, cap, V, rfl, hm, hr⟩ := open_rows (n := 5) (ks := [.int .i64, .int .i64, .int .i64, .int .i64, .int .i64, .int .i64]) Try.underlying22 (by kernel_rfl) (by kernel_rfl) (by simp) hv h
  refine ⟨a, len, cap, fun i => bxOf (V i), rfl, ?_⟩
  rcases hr with rfl | ⟨b, off, rfl, hR, hb⟩
  · exact ⟨a, cap, rfl, hm, .inl rfl⟩
  · refine ⟨_, cap, rfl, hm, .inr ⟨b, off, rfl, hb, fun k hk j hj => ?_⟩⟩
    obtain ⟨p, e⟩ := box_row (hR k hk).1
    have c : W.cell? ⟨b, off + k * 6 + j, none⟩ = (V k)[j]? := (hR k hk).2 j hj
    dsimp only
    rw [c, e, bxOf_bcells]

end Go.Proofs.Ytfdolgdfadipeaa
