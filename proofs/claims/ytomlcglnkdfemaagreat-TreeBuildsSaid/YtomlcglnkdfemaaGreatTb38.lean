/- Contracts of the landed tree: toured, Ordered, Depth, Leaves. -/
import Derived.Test.YtomlcglnkdfemaaGreatTb36
import Derived.Test.YtomlcglnkdfemaaGreatTb13
import Derived.WalkMore


namespace Go.Proofs.YtomlcglnkdfemaaGreat
section

open Go.RowKit Go.Proofs.Sky

set_option linter.unusedVariables false

set_option linter.unusedSimpArgs false

/-- A stack of steps, the top first, that lies in a row whose last element is the top. -/
def StpRow (w : World) (B : Nat) (v : Value) (r : List (Int × Int)) : Prop := w.ownsRow B 89 2 v r.length (r.reverse.flatMap scells)

theorem step_info : (Tryz.prog.info? 89).map (fun i => (i.zero, i.size, i.bytes)) = some (some (.agg #[.int .i64 0, .int .i64 0]), 2, 16) := by kernel_rfl

theorem StpRow.below {w w' : World} {B : Nat} {v : Value} {r : List (Int × Int)} (h : StpRow w B v r) (hb : Below w.heap.size w w') : StpRow w' B v r := owns_below h hb

theorem stprow_alloc {w W : World} {B : Nat} {v : Value} {r : List (Int × Int)} {o : Obj} (hW : W = w.alloc o) (h : StpRow w B v r) : StpRow W B v r := by
  subst hW; exact World.ownsRow.alloc h o

/-- The top of it. -/
theorem stprow_top {w : World} {B : Nat} {v : Value} {p d : Int} {r : List (Int × Int)} (h : StpRow w B v ((p, d) :: r)) : ∃ g cap, v = .slice (some ⟨g, 0, none⟩) (r.length + 1) cap ∧ B ≤ g ∧ g < w.heap.size ∧ r.length + 1 ≤ cap ∧
    w.cell? ⟨g, r.length * 2, none⟩ = some (.int .i64 p) ∧ w.cell? ⟨g, r.length * 2 + 1, none⟩ = some (.int .i64 d) ∧ StpRow w B (.slice (some ⟨g, 0, none⟩) r.length cap) r := by
  obtain ⟨g, cap, rfl, hB, hg, hcap⟩ := owns_some h (by simp)
  refine ⟨g, cap, rfl, hB, hg, by simpa using hcap, ?_, ?_, ?_⟩
  · have e := owns_at (w := w) (f := scells) (l := ((p, d) :: r).reverse) (i := r.length) (j := 0) scells_len h (by simp) (by omega)
    rw [Nat.add_zero] at e
    rw [e]
    simp [scells]
  · have e := owns_at (w := w) (f := scells) (l := ((p, d) :: r).reverse) (i := r.length) (j := 1) scells_len h (by simp) (by omega)
    rw [e]
    simp [scells]
  · have e := owns_take h (m := r.length) (by simp)
    unfold StpRow
    rw [flat_take scells 2 scells_len] at e
    have e2 : ((p, d) :: r).reverse.take r.length = r.reverse := by
      rw [List.reverse_cons, List.take_append_of_le_length (by simp)]
      exact List.take_of_length_le (by simp)
    rw [e2] at e
    exact e

theorem stprow_one {w : World} {B g : Nat} {p d : Int} (h : Bk w g 89 #[.int .i64 p, .int .i64 d]) (hB : B ≤ g) : StpRow w B (.slice (some ⟨g, 0, none⟩) 1 1) [(p, d)] :=
  ⟨rfl, .inr ⟨g, 1, _, rfl, hB, h, Nat.le_refl _, by unfold maxLen; omega, rfl, rfl⟩⟩

theorem stprow_put {w : World} {B : Nat} {v : Value} {p d q e : Int} {r : List (Int × Int)} (h : w.ownsRow B 89 2 v (r.length + 2) (r.reverse.flatMap scells ++ [.int .i64 p, .int .i64 d, .int .i64 q, .int .i64 e])) : StpRow w B v ((q, e) :: (p, d) :: r) := by
  unfold StpRow
  rw [List.reverse_cons, List.reverse_cons, List.append_assoc, List.flatMap_append]
  exact h

/-- The number in a cell. -/
def cellI (W : World) (b i : Nat) : Nat := ((W.cell? ⟨b, i, none⟩).map (fun v => (intOf v).toNat)).getD 0

theorem cellI_of {W : World} {b i : Nat} {z : Int} (h : W.cell? ⟨b, i, none⟩ = some (.int .i64 z)) : cellI W b i = z.toNat := by
  unfold cellI; rw [h]; rfl

set_option maxRecDepth 100000 in
set_option maxHeartbeats 8000000 in
theorem toured_none (o p : Option Addr) (m co cv : Nat) (w : World) :
    Calls Tryz.prog 20 #[.agg #[.slice p 0 cv, .slice o m co]] w fun en w' => en = .returned (.tuple #[.agg #[.int .i64 0, .int .i64 0, .int .i64 0, .int .i64 0], .bool (decide (m = 0))]) ∧ Below w.heap.size w w' := by
  obtain ⟨z, hz⟩ : ∃ z, z = decide (m = 0) := ⟨_, rfl⟩
  rw [← hz]
  have hz2 : ((m : Int) == 0) = z := by rw [hz, Bool.eq_iff_iff, beq_iff_eq, decide_eq_true_eq]; omega
  clear hz
  go_enter Tryz.func20, Tryz.ntmps20
  go_upto_region 1 with (fail)
  obtain ⟨W1, hW1⟩ : ∃ W, W = (w.alloc (.cells #[.slice p 0 cv, .slice o m co] 28)).alloc (.cells #[.int .i64 0, .int .i64 0, .int .i64 0, .int .i64 0] 63) := ⟨_, rfl⟩
  obtain ⟨k_t, k_r, B1⟩ := st2 hW1
  rw [← hW1]
  clear hW1
  have l_r : w.heap.size < w.heap.size + 1 := by omega
  generalize w.heap.size + 1 = g_r at *
  obtain ⟨c_t_0, c_t_1⟩ := bwc2 (k_t)
  obtain ⟨c_r_0, c_r_1, c_r_2, c_r_3⟩ := bwc4 (k_r)
  obtain ⟨f_r_0, f_r_1, f_r_2, f_r_3⟩ := bwf4 (k_r)
  obtain ⟨p1, hp1⟩ : ∃ p : BW W1, p.w = W1 := ⟨BW.start W1, rfl⟩
  rw [← hp1]
  clear hp1
  go_step3
  go_upto_region 2 with (fail)
  have kr := (bkp4 (k_r.below p1.h) (.int .i64 0) (.int .i64 0) (.int .i64 0) (.int .i64 0)).drew
  obtain ⟨rc0, rc1, rc2, rc3⟩ := rwc4 kr
  have BB := (blp4 (v0 := .int .i64 0) (v1 := .int .i64 0) (v2 := .int .i64 0) (v3 := .int .i64 0) (g := g_r) (bw_below B1 p1) (by omega)).drew
  have HR := Lib.hid rc0
  clear kr
  go_region_with (fail)
  go_wp2
  all_goals
    rw [Exit.noGoto_ret]
    exact bodyPost_ret (v := .tuple #[.agg #[.int .i64 0, .int .i64 0, .int .i64 0, .int .i64 0], .bool z]) (by simp [results, Tryz.results20, go_sem, Act.put, rc0, rc1, rc2, rc3]) rfl ⟨rfl, BB⟩

set_option maxRecDepth 100000 in
set_option maxHeartbeats 8000000 in
theorem toured_some (o : Option Addr) (bb off n cv m co : Nat) (ns : List Nd) (w : World) (hn0 : 0 < n) (hnn : n = ns.length) (hbb : bb < w.heap.size) (hcell : ∀ k (h : k < ns.length), ∀ j, j < 9 → w.cell? ⟨bb, off + k * 9 + j, none⟩ = (ncells ns[k])[j]?) (hn : n ≤ 1048576) (hm : m ≤ 1048576) :
    Calls Tryz.prog 20 #[.agg #[.slice (some ⟨bb, off, none⟩) n cv, .slice o m co]] w fun en w' => en = .returned (.tuple #[.agg #[.int .i64 (mTour ns m).1.1, .int .i64 (mTour ns m).1.2.1, .int .i64 (mTour ns m).1.2.2.1, .int .i64 (mTour ns m).1.2.2.2], .bool (mTour ns m).2]) ∧ Below w.heap.size w w' := by
  have HC := Lib.hid hcell
  have HNN := Lib.hid hnn
  have HNO := Lib.hid (fun h => mTour_none (ns := ns) (m := (m : Int)) (by omega) h)
  have HSO := Lib.hid (fun s h => mTour_some (ns := ns) (m := (m : Int)) (by omega) (s := s) h)
  obtain ⟨T, hT⟩ : ∃ T, T = mTour ns m := ⟨_, rfl⟩
  rw [← hT] at HNO HSO ⊢
  clear hT hcell hnn
  obtain ⟨i0, hi0, hz0, hz1, hz2⟩ := info_parts step_info
  have t0 : ((n : Int) == 0) = false := by rw [beq_eq_false_iff_ne]; omega
  go_enter Tryz.func20, Tryz.ntmps20
  go_upto_region 1 with (fail)
  obtain ⟨W1, hW1⟩ : ∃ W, W = (w.alloc (.cells #[.slice (some ⟨bb, off, none⟩) n cv, .slice o m co] 28)).alloc (.cells #[.int .i64 0, .int .i64 0, .int .i64 0, .int .i64 0] 63) := ⟨_, rfl⟩
  obtain ⟨k_t, k_r, B1⟩ := st2 hW1
  rw [← hW1]
  clear hW1
  have l_r : w.heap.size < w.heap.size + 1 := by omega
  generalize w.heap.size + 1 = g_r at *
  obtain ⟨c_t_0, c_t_1⟩ := bwc2 (k_t)
  obtain ⟨c_r_0, c_r_1, c_r_2, c_r_3⟩ := bwc4 (k_r)
  obtain ⟨p1, hp1⟩ : ∃ p : BW W1, p.w = W1 := ⟨BW.start W1, rfl⟩
  rw [← hp1]
  clear hp1
  go_step3
  go_upto_region 4 with (fail)
  obtain ⟨W2, hW2⟩ : ∃ W, W = p1.w.alloc (.cells #[.int .i64 0, .int .i64 0, .int .i64 0, .int .i64 0] 63) := ⟨_, rfl⟩
  have B2 : Below w.heap.size w W2 := by rw [hW2]; exact (bw_below B1 p1).alloc (bw_below B1 p1).size _
  have l_s : g_r < p1.w.heap.size := (k_r.below p1.h).lt
  have o_s : w.heap.size ≤ p1.w.heap.size := (bw_below B1 p1).size
  have l_s_t : w.heap.size < p1.w.heap.size := (k_t.below p1.h).lt
  have k_t := bka hW2 (k_t.below p1.h)
  have k_r := bka hW2 (k_r.below p1.h)
  have k_s := bkn hW2
  rw [← hW2]
  clear hW2
  clear B1
  clear c_t_0 c_t_1 c_r_0 c_r_1 c_r_2 c_r_3
  generalize p1.w.heap.size = g_s at *
  obtain ⟨c_t_0, c_t_1⟩ := bwc2 (k_t)
  obtain ⟨c_r_0, c_r_1, c_r_2, c_r_3⟩ := bwc4 (k_r)
  obtain ⟨c_s_0, c_s_1, c_s_2, c_s_3⟩ := bwc4 (k_s)
  obtain ⟨p2, hp2⟩ : ∃ p : BW W2, p.w = W2 := ⟨BW.start W2, rfl⟩
  rw [← hp2]
  clear hp2
  go_wp2
  obtain ⟨W3, hW3⟩ : ∃ W, W = p2.w.alloc (.cells #[.int .i64 0, .int .i64 1] 89) := ⟨_, rfl⟩
  have B3 : Below w.heap.size w W3 := by rw [hW3]; exact (bw_below B2 p2).alloc (bw_below B2 p2).size _
  have l_k : g_s < p2.w.heap.size := (k_s.below p2.h).lt
  have o_k : w.heap.size ≤ p2.w.heap.size := (bw_below B2 p2).size
  have l_k_t : w.heap.size < p2.w.heap.size := (k_t.below p2.h).lt
  have l_k_r : g_r < p2.w.heap.size := (k_r.below p2.h).lt
  have k_t := bka hW3 (k_t.below p2.h)
  have k_r := bka hW3 (k_r.below p2.h)
  have k_s := bka hW3 (k_s.below p2.h)
  have k_k := bkn hW3
  rw [← hW3]
  clear hW3
  clear B2
  clear c_t_0 c_t_1 c_r_0 c_r_1 c_r_2 c_r_3 c_s_0 c_s_1 c_s_2 c_s_3
  generalize p2.w.heap.size = g_k at *
  have hu : StpRow W3 (g_s + 1) (.slice (some ⟨g_k, 0, none⟩) 1 1) [(0, 1)] := stprow_one k_k (by omega)
  go_step3
  go_wp2
  go_loopw [5, 6] (fun vo u wr => ∃ (r : List (Int × Int)) (k : Nat) (le th de : Int), vo = .bool true ∧ StpRow wr (g_s + 1) u r ∧ Bk wr w.heap.size 28 #[.slice (some ⟨bb, off, none⟩) n cv, .slice o m co] ∧ Bk wr g_r 63 #[.int .i64 0, .int .i64 0, .int .i64 0, .int .i64 0] ∧ Bk wr g_s 63 #[.int .i64 (k : Int), .int .i64 le, .int .i64 th, .int .i64 de] ∧ Below w.heap.size w wr ∧ Hid (mStack ns m r (k, le, th, de) = mStack ns m [(0, 1)] (0, 0, 0, 0)) ∧ (k ≤ n ∧ 0 ≤ le ∧ le ≤ k ∧ 0 ≤ th ∧ th ≤ m ∧ 0 ≤ de ∧ de ≤ k + 1 ∧ r.length ≤ k + 1) ∧ Hid (∀ x ∈ r, 0 ≤ x.2 ∧ x.2 ≤ k + 1)) (fun _ _ wr => n - cellI wr g_s 0)
  case atStart => exact ⟨[(0, 1)], 0, 0, 0, 0, rfl, hu, k_t, k_r, k_s, B3, Lib.hid rfl, by simp, Lib.hid (by intro x hx; rw [List.mem_singleton] at hx; subst hx; simp)⟩
  case round =>
    clear hu k_t k_r k_s k_k B3
    obtain ⟨r, k, le, th, de, rfl, hu, k_t, k_r, k_s, BO, HM, ⟨hkn, hle0, hle, hth0, hth, hde0, hde, hrl⟩, HR⟩ := hrel
    cases r with
    | nil =>
      obtain ⟨au, cu, hu0⟩ := owns_val hu
      simp only [List.length_nil] at hu0
      subst hu0
      have HE1 := Lib.hid (HSO.out _ (HM.out.symm.trans rfl))
      have B1 := BO
      by_cases hfin : k = n ∧ th = (m : Int)
      · obtain ⟨rfl, rfl⟩ := hfin
        have HE2 := HE1.out
        rw [if_pos ⟨by rw [← HNN.out], rfl⟩] at HE2
        have HE := Lib.hid HE2
        clear HE2 HE1
        obtain ⟨c_t_0, c_t_1⟩ := bwc2 (k_t)
        obtain ⟨c_r_0, c_r_1, c_r_2, c_r_3⟩ := bwc4 (k_r)
        obtain ⟨f_r_0, f_r_1, f_r_2, f_r_3⟩ := bwf4 (k_r)
        obtain ⟨c_s_0, c_s_1, c_s_2, c_s_3⟩ := bwc4 (k_s)
        obtain ⟨p1, hp1⟩ : ∃ p : BW wr, p.w = wr := ⟨BW.start wr, rfl⟩
        rw [← hp1]
        clear hp1
        go_wp2
        try rw [Exit.noGoto_ret]
        have kr := bkp4 (k_r.below p1.h) (.int .i64 (k : Int)) (.int .i64 le) (.int .i64 (m : Int)) (.int .i64 de)
        obtain ⟨rc0, rc1, rc2, rc3⟩ := rwc4 kr
        exact bodyPost_ret (v := .tuple #[.agg #[.int .i64 (k : Int), .int .i64 le, .int .i64 (m : Int), .int .i64 de], .bool true]) (by simp [results, Tryz.results20, go_sem, rc0, rc1, rc2, rc3]) rfl ⟨by rw [HE.out] <;> rfl, blp4 (bw_below B1 p1) (by omega)⟩
      · have HE2 := HE1.out
        rw [if_neg (fun e => hfin ⟨by have := e.1; rw [← HNN.out] at this; exact this, e.2⟩)] at HE2
        have HE := Lib.hid HE2
        clear HE2 HE1
        obtain ⟨c_t_0, c_t_1⟩ := bwc2 (k_t)
        obtain ⟨c_r_0, c_r_1, c_r_2, c_r_3⟩ := bwc4 (k_r)
        obtain ⟨f_r_0, f_r_1, f_r_2, f_r_3⟩ := bwf4 (k_r)
        obtain ⟨c_s_0, c_s_1, c_s_2, c_s_3⟩ := bwc4 (k_s)
        obtain ⟨p1, hp1⟩ : ∃ p : BW wr, p.w = wr := ⟨BW.start wr, rfl⟩
        rw [← hp1]
        clear hp1
        by_cases hk2 : k = n
        · subst hk2
          have t2 : (th == (m : Int)) = false := by rw [beq_eq_false_iff_ne]; exact fun e => hfin ⟨rfl, e⟩
          clear hfin
          go_wp2
          try rw [Exit.noGoto_ret]
          have kr := bkp4 (k_r.below p1.h) (.int .i64 0) (.int .i64 0) (.int .i64 0) (.int .i64 0)
          obtain ⟨rc0, rc1, rc2, rc3⟩ := rwc4 kr
          exact bodyPost_ret (v := .tuple #[.agg #[.int .i64 0, .int .i64 0, .int .i64 0, .int .i64 0], .bool false]) (by simp [results, Tryz.results20, go_sem, rc0, rc1, rc2, rc3]) rfl ⟨by rw [HE.out] <;> rfl, blp4 (bw_below B1 p1) (by omega)⟩
        · have t1 : ((k : Int) == (n : Int)) = false := by rw [beq_eq_false_iff_ne]; omega
          clear hfin hk2
          go_wp2
          try rw [Exit.noGoto_ret]
          have kr := bkp4 (k_r.below p1.h) (.int .i64 0) (.int .i64 0) (.int .i64 0) (.int .i64 0)
          obtain ⟨rc0, rc1, rc2, rc3⟩ := rwc4 kr
          exact bodyPost_ret (v := .tuple #[.agg #[.int .i64 0, .int .i64 0, .int .i64 0, .int .i64 0], .bool false]) (by simp [results, Tryz.results20, go_sem, rc0, rc1, rc2, rc3]) rfl ⟨by rw [HE.out] <;> rfl, blp4 (bw_below B1 p1) (by omega)⟩
    | cons x r =>
      obtain ⟨p, d⟩ := x
      obtain ⟨g, cap, rfl, hgB, hglt, hcap, hp, hd, htl⟩ := stprow_top hu
      have hdr := HR.out (p, d) List.mem_cons_self
      have HRT := Lib.hid (fun x hx => HR.out x (List.mem_cons_of_mem _ hx))
      have hrl2 : r.length ≤ k := by simpa using hrl
      dsimp only at hdr
      have hd0 := hdr.1
      have hd1 := hdr.2
      have HLE := Lib.hid (show r.length = r.length from rfl)
      have HL := Lib.hid (fun x : Nat => (rfl : r.length = r.length))
      clear hu hrl HR hdr HLE HL
      obtain ⟨L, hL⟩ : ∃ L, L = r.length := ⟨_, rfl⟩
      rw [← hL] at htl hp hd hcap hrl2 ⊢
      have HLL := Lib.hid hL
      clear hL
      have B1 := BO
      have c_sp : ∀ q : BW wr, q.w.cell? ⟨g, L * 2, none⟩ = some (.int .i64 p) := bw_cell hp
      have c_sd : ∀ q : BW wr, q.w.cell? ⟨g, L * 2 + 1, none⟩ = some (.int .i64 d) := bw_cell hd
      obtain ⟨c_t_0, c_t_1⟩ := bwc2 (k_t)
      obtain ⟨c_r_0, c_r_1, c_r_2, c_r_3⟩ := bwc4 (k_r)
      obtain ⟨c_s_0, c_s_1, c_s_2, c_s_3⟩ := bwc4 (k_s)
      obtain ⟨p1, hp1⟩ : ∃ p : BW wr, p.w = wr := ⟨BW.start wr, rfl⟩
      rw [← hp1]
      clear hp1
      have HK0 := Lib.hid (fun p : BW wr => cellI_of (c_s_0 p))
      go_upto_region 8 with (fail)
      obtain ⟨W2, hW2⟩ : ∃ W, W = p1.w.alloc (.cells #[.int .i64 p, .int .i64 d] 89) := ⟨_, rfl⟩
      have B2 : Below w.heap.size w W2 := by rw [hW2]; exact (bw_below B1 p1).alloc (bw_below B1 p1).size _
      have l_a : g_s < p1.w.heap.size := (k_s.below p1.h).lt
      have o_a : w.heap.size ≤ p1.w.heap.size := (bw_below B1 p1).size
      have l_a_t : w.heap.size < p1.w.heap.size := (k_t.below p1.h).lt
      have l_a_r : g_r < p1.w.heap.size := (k_r.below p1.h).lt
      have k_t := bka hW2 (k_t.below p1.h)
      have k_r := bka hW2 (k_r.below p1.h)
      have k_s := bka hW2 (k_s.below p1.h)
      have htl := stprow_alloc hW2 (htl.below p1.h)
      have k_a := bkn hW2
      rw [← hW2]
      clear hW2
      clear B1
      clear c_t_0 c_t_1 c_r_0 c_r_1 c_r_2 c_r_3 c_s_0 c_s_1 c_s_2 c_s_3
      generalize p1.w.heap.size = g_a at *
      clear c_sp c_sd hp hd
      obtain ⟨c_t_0, c_t_1⟩ := bwc2 (k_t)
      obtain ⟨c_r_0, c_r_1, c_r_2, c_r_3⟩ := bwc4 (k_r)
      obtain ⟨f_r_0, f_r_1, f_r_2, f_r_3⟩ := bwf4 (k_r)
      obtain ⟨c_s_0, c_s_1, c_s_2, c_s_3⟩ := bwc4 (k_s)
      obtain ⟨f_s_0, f_s_1, f_s_2, f_s_3⟩ := bwf4 (k_s)
      obtain ⟨c_a_0, c_a_1⟩ := bwc2 (k_a)
      obtain ⟨p2, hp2⟩ : ∃ p : BW W2, p.w = W2 := ⟨BW.start W2, rfl⟩
      rw [← hp2]
      clear hp2
      go_upto_region 9 with (fail)
      by_cases hpk : p = (k : Int)
      · subst hpk
        by_cases hk2 : k = n
        · have HE := Lib.hid (HNO.out (HM.out.symm.trans (mStack_out (by rw [← HNN.out]; show ¬ k < n; omega))))
          subst hk2
          go_wp2
          try rw [Exit.noGoto_ret]
          have kr := bkp4 (k_r.below p2.h) (.int .i64 0) (.int .i64 0) (.int .i64 0) (.int .i64 0)
          obtain ⟨rc0, rc1, rc2, rc3⟩ := rwc4 kr
          exact bodyPost_ret (v := .tuple #[.agg #[.int .i64 0, .int .i64 0, .int .i64 0, .int .i64 0], .bool false]) (by simp [results, Tryz.results20, go_sem, rc0, rc1, rc2, rc3]) rfl ⟨by rw [HE.out] <;> rfl, blp4 (bw_below B2 p2) (by omega)⟩
        have t2 : ((k : Int) == (n : Int)) = false := by rw [beq_eq_false_iff_ne]; omega
        have hlt : k < n := by omega
        clear hk2
        have hkl : k < ns.length := by rw [← HNN.out]; exact hlt
        have hx := HC.out k hkl
        have x0 : w.cell? ⟨bb, off + k * 9, none⟩ = some (.int .i64 ns[k].1.1.1) := hx 0 (by omega)
        have x1 : w.cell? ⟨bb, off + k * 9 + 1, none⟩ = some (.int .i64 ns[k].1.1.2.1) := hx 1 (by omega)
        have x2 : w.cell? ⟨bb, off + k * 9 + 2, none⟩ = some (.int .i64 ns[k].1.1.2.2) := hx 2 (by omega)
        have x3 : w.cell? ⟨bb, off + k * 9 + 3, none⟩ = some (.int .i64 ns[k].1.2.1) := hx 3 (by omega)
        have x4 : w.cell? ⟨bb, off + k * 9 + 4, none⟩ = some (.int .i64 ns[k].1.2.2.1) := hx 4 (by omega)
        have x5 : w.cell? ⟨bb, off + k * 9 + 5, none⟩ = some (.int .i64 ns[k].1.2.2.2) := hx 5 (by omega)
        have x6 : w.cell? ⟨bb, off + k * 9 + 6, none⟩ = some (.int .i64 ns[k].2.1) := hx 6 (by omega)
        have x7 : w.cell? ⟨bb, off + k * 9 + 7, none⟩ = some (.int .i64 ns[k].2.2.1) := hx 7 (by omega)
        have x8 : w.cell? ⟨bb, off + k * 9 + 8, none⟩ = some (.int .i64 ns[k].2.2.2) := hx 8 (by omega)
        have HND := Lib.hid (fun (d : Int) (le th de : Int) => mStack_node (ns := ns) (m := (m : Int)) (d := d) (r := r) (le := le) (th := th) (de := de) hkl)
        have HNL := Lib.hid (fun (d : Int) (le th de : Int) => mStack_leaf (ns := ns) (m := (m : Int)) (d := d) (r := r) (le := le) (th := th) (de := de) hkl)
        have HNB := Lib.hid (fun (p d : Int) (le th de : Int) => mStack_bad (ns := ns) (m := (m : Int)) (p := p) (d := d) (r := r) (le := le) (th := th) (de := de) hkl)
        clear hx
        obtain ⟨nd, hnd⟩ : ∃ nd, nd = ns[k] := ⟨_, rfl⟩
        rw [← hnd] at x0 x1 x2 x3 x4 x5 x6 x7 x8 HND HNL HNB
        clear hnd hkl
        obtain ⟨⟨⟨n1, n2, n3⟩, n4, n5, n6⟩, fi, cn, ri⟩ := nd
        dsimp only at x0 x1 x2 x3 x4 x5 x6 x7 x8 HND HNL HNB
        have c_x0 : ∀ p : BW W2, p.w.cell? ⟨bb, off + k * 9, none⟩ = some (.int .i64 n1) := bw_cell ((B2.cell (p := ⟨bb, off + k * 9, none⟩) hbb).trans x0)
        have c_x1 : ∀ p : BW W2, p.w.cell? ⟨bb, off + k * 9 + 1, none⟩ = some (.int .i64 n2) := bw_cell ((B2.cell (p := ⟨bb, off + k * 9 + 1, none⟩) hbb).trans x1)
        have c_x2 : ∀ p : BW W2, p.w.cell? ⟨bb, off + k * 9 + 2, none⟩ = some (.int .i64 n3) := bw_cell ((B2.cell (p := ⟨bb, off + k * 9 + 2, none⟩) hbb).trans x2)
        have c_x3 : ∀ p : BW W2, p.w.cell? ⟨bb, off + k * 9 + 3, none⟩ = some (.int .i64 n4) := bw_cell ((B2.cell (p := ⟨bb, off + k * 9 + 3, none⟩) hbb).trans x3)
        have c_x4 : ∀ p : BW W2, p.w.cell? ⟨bb, off + k * 9 + 4, none⟩ = some (.int .i64 n5) := bw_cell ((B2.cell (p := ⟨bb, off + k * 9 + 4, none⟩) hbb).trans x4)
        have c_x5 : ∀ p : BW W2, p.w.cell? ⟨bb, off + k * 9 + 5, none⟩ = some (.int .i64 n6) := bw_cell ((B2.cell (p := ⟨bb, off + k * 9 + 5, none⟩) hbb).trans x5)
        have c_x6 : ∀ p : BW W2, p.w.cell? ⟨bb, off + k * 9 + 6, none⟩ = some (.int .i64 fi) := bw_cell ((B2.cell (p := ⟨bb, off + k * 9 + 6, none⟩) hbb).trans x6)
        have c_x7 : ∀ p : BW W2, p.w.cell? ⟨bb, off + k * 9 + 7, none⟩ = some (.int .i64 cn) := bw_cell ((B2.cell (p := ⟨bb, off + k * 9 + 7, none⟩) hbb).trans x7)
        have c_x8 : ∀ p : BW W2, p.w.cell? ⟨bb, off + k * 9 + 8, none⟩ = some (.int .i64 ri) := bw_cell ((B2.cell (p := ⟨bb, off + k * 9 + 8, none⟩) hbb).trans x8)
        go_upto_region 12 with (fail)
        obtain ⟨W3, hW3⟩ : ∃ W, W = p2.w.alloc (.cells #[.int .i64 n1, .int .i64 n2, .int .i64 n3, .int .i64 n4, .int .i64 n5, .int .i64 n6, .int .i64 fi, .int .i64 cn, .int .i64 ri] 43) := ⟨_, rfl⟩
        have B3 : Below w.heap.size w W3 := by rw [hW3]; exact (bw_below B2 p2).alloc (bw_below B2 p2).size _
        have l_d : g_a < p2.w.heap.size := (k_a.below p2.h).lt
        have o_d : w.heap.size ≤ p2.w.heap.size := (bw_below B2 p2).size
        have l_d_t : w.heap.size < p2.w.heap.size := (k_t.below p2.h).lt
        have l_d_r : g_r < p2.w.heap.size := (k_r.below p2.h).lt
        have l_d_s : g_s < p2.w.heap.size := (k_s.below p2.h).lt
        have k_t := bka hW3 (k_t.below p2.h)
        have k_r := bka hW3 (k_r.below p2.h)
        have k_s := bka hW3 (k_s.below p2.h)
        have k_a := bka hW3 (k_a.below p2.h)
        have htl := stprow_alloc hW3 (htl.below p2.h)
        have k_d := bkn hW3
        rw [← hW3]
        clear hW3
        clear B2
        clear c_t_0 c_t_1 c_r_0 c_r_1 c_r_2 c_r_3 f_r_0 f_r_1 f_r_2 f_r_3 c_s_0 c_s_1 c_s_2 c_s_3 f_s_0 f_s_1 f_s_2 f_s_3 c_a_0 c_a_1 c_x0 c_x1 c_x2 c_x3 c_x4 c_x5 c_x6 c_x7 c_x8
        generalize p2.w.heap.size = g_d at *
        obtain ⟨c_t_0, c_t_1⟩ := bwc2 (k_t)
        obtain ⟨c_r_0, c_r_1, c_r_2, c_r_3⟩ := bwc4 (k_r)
        obtain ⟨f_r_0, f_r_1, f_r_2, f_r_3⟩ := bwf4 (k_r)
        obtain ⟨c_s_0, c_s_1, c_s_2, c_s_3⟩ := bwc4 (k_s)
        obtain ⟨f_s_0, f_s_1, f_s_2, f_s_3⟩ := bwf4 (k_s)
        obtain ⟨c_a_0, c_a_1⟩ := bwc2 (k_a)
        obtain ⟨c_d_0, c_d_1, c_d_2, c_d_3, c_d_4, c_d_5, c_d_6, c_d_7, c_d_8⟩ := bwc9 (k_d)
        obtain ⟨p3, hp3⟩ : ∃ p : BW W3, p.w = W3 := ⟨BW.start W3, rfl⟩
        rw [← hp3]
        clear hp3
        go_upto_region 13 with (fail)
        obtain ⟨W4, hW4⟩ : ∃ W, W = p3.w.setCell ⟨g_s, 0, none⟩ (.int .i64 ((k : Int) + 1)) := ⟨_, rfl⟩
        have B4 : Below w.heap.size w W4 := by rw [hW4]; exact ((bw_below B3 p3).setCell (p := ⟨g_s, 0, none⟩) (by show w.heap.size ≤ g_s; omega) _)
        have k_t : Bk W4 (w.heap.size) 28 #[.slice (some ⟨bb, off, none⟩) n cv, .slice o m co] := by rw [hW4]; exact ((k_t.below p3.h).other (a := ⟨g_s, 0, none⟩) (by show ¬ w.heap.size = g_s; omega) (.int .i64 ((k : Int) + 1)))
        have k_r : Bk W4 (g_r) 63 #[.int .i64 0, .int .i64 0, .int .i64 0, .int .i64 0] := by rw [hW4]; exact ((k_r.below p3.h).other (a := ⟨g_s, 0, none⟩) (by show ¬ g_r = g_s; omega) (.int .i64 ((k : Int) + 1)))
        have k_s : Bk W4 (g_s) 63 #[.int .i64 ((k : Int) + 1), .int .i64 le, .int .i64 th, .int .i64 de] := by rw [hW4]; exact ((k_s.below p3.h).set 0 (.int .i64 ((k : Int) + 1))).cast (by simp)
        have k_a : Bk W4 (g_a) 89 #[.int .i64 (k : Int), .int .i64 d] := by rw [hW4]; exact ((k_a.below p3.h).other (a := ⟨g_s, 0, none⟩) (by show ¬ g_a = g_s; omega) (.int .i64 ((k : Int) + 1)))
        have k_d : Bk W4 (g_d) 43 #[.int .i64 n1, .int .i64 n2, .int .i64 n3, .int .i64 n4, .int .i64 n5, .int .i64 n6, .int .i64 fi, .int .i64 cn, .int .i64 ri] := by rw [hW4]; exact ((k_d.below p3.h).other (a := ⟨g_s, 0, none⟩) (by show ¬ g_d = g_s; omega) (.int .i64 ((k : Int) + 1)))
        have htl : StpRow W4 (g_s + 1) (.slice (some ⟨g, 0, none⟩) L cap) r := by rw [hW4]; exact (owns_set (htl.below p3.h) (a := ⟨g_s, 0, none⟩) (by show g_s < _; omega) (.int .i64 ((k : Int) + 1)))
        rw [← hW4]
        clear hW4
        clear B3
        clear c_t_0 c_t_1 c_r_0 c_r_1 c_r_2 c_r_3 f_r_0 f_r_1 f_r_2 f_r_3 c_s_0 c_s_1 c_s_2 c_s_3 f_s_0 f_s_1 f_s_2 f_s_3 c_a_0 c_a_1 c_d_0 c_d_1 c_d_2 c_d_3 c_d_4 c_d_5 c_d_6 c_d_7 c_d_8
        obtain ⟨c_t_0, c_t_1⟩ := bwc2 (k_t)
        obtain ⟨c_r_0, c_r_1, c_r_2, c_r_3⟩ := bwc4 (k_r)
        obtain ⟨f_r_0, f_r_1, f_r_2, f_r_3⟩ := bwf4 (k_r)
        obtain ⟨c_s_0, c_s_1, c_s_2, c_s_3⟩ := bwc4 (k_s)
        obtain ⟨f_s_0, f_s_1, f_s_2, f_s_3⟩ := bwf4 (k_s)
        obtain ⟨c_a_0, c_a_1⟩ := bwc2 (k_a)
        obtain ⟨c_d_0, c_d_1, c_d_2, c_d_3, c_d_4, c_d_5, c_d_6, c_d_7, c_d_8⟩ := bwc9 (k_d)
        obtain ⟨p4, hp4⟩ : ∃ p : BW W4, p.w = W4 := ⟨BW.start W4, rfl⟩
        rw [← hp4]
        clear hp4
        have KO := Lib.hid (fun w => tree_isOther n1 n2 n3 n4 n5 n6 fi cn ri w)
        have KL := Lib.hid (fun w => tree_isLeaf n1 n2 n3 n4 n5 n6 fi cn ri th m w ⟨hth0, hth⟩ (by omega))
        by_cases ho : cn = 0 ∧ fi = 0
        · obtain ⟨rfl, rfl⟩ := ho
          rw [decide_eq_true ⟨rfl, rfl⟩] at KO
          have HM2 := Lib.hid ((HND.out d le th de rfl rfl).symm.trans HM.out)
          clear KL HND HNL HNB HM
          go_upto_region 14 with (first
            | (go_at_call 36; (first | (with_reducible refine (bw_call KO.out _).mono ?_)); rintro e w' ⟨rfl, q, rfl⟩))
          have hsz := (bw_below B4 q).size
          have hso : g_s + 1 ≤ q.w.heap.size := (k_s.below q.h).lt
          have hll : L ≤ 1048576 := by omega
          go_wp2_with (at_builtin; refine wpList_append_at rfl _ _ 90 rfl (g_s + 1) 89 i0 _ 2 16 Tryz.underlying90 hi0 hz0 hz1 hz2 rfl (by decide) _ L (r.reverse.flatMap scells) rfl (World.ownsRow.alloc (by rw [HLL.out]; rw [HLL.out] at htl; exact owns_below htl (BW.h _)) _) ⟨_, 0, none⟩ 2 2 [.int .i64 ri, .int .i64 (d + 1), .int .i64 ((k : Int) + 1), .int .i64 (d + 1)] rfl rfl ?g1 ?g2 ?g3 ?g4 ?g5 ?_)
          case g1 => exact cells_new _ #[.int .i64 ri, .int .i64 (d + 1), .int .i64 ((k : Int) + 1), .int .i64 (d + 1)] _
          case g2 => intro u hu; simp only [List.mem_cons, List.not_mem_nil, or_false] at hu; rcases hu with rfl | rfl | rfl | rfl <;> rfl
          case g3 => unfold maxLen; omega
          case g4 => omega
          case g5 => simp; omega
          intro v' w1 hown hgrow hat
          have hlt2 : ∀ j, (Value.slice (some ⟨g, 0, none⟩) L cap).ownBlock = some j → g_s + 1 ≤ j := fun j ej => by cases ej; exact hgB
          have hb1 : Below w.heap.size w w1 := ((bw_below B4 q).alloc hsz _).grown hgrow (by simp; omega) (fun j ej => by have := hlt2 j ej; omega)
          have kt1 := Bk.grown ((k_t.below q.h).alloc (.cells #[.int .i64 ri, .int .i64 (d + 1), .int .i64 ((k : Int) + 1), .int .i64 (d + 1)] 89)) hgrow (fun e => by have := hlt2 _ e.symm; omega)
          have kr1 := Bk.grown ((k_r.below q.h).alloc (.cells #[.int .i64 ri, .int .i64 (d + 1), .int .i64 ((k : Int) + 1), .int .i64 (d + 1)] 89)) hgrow (fun e => by have := hlt2 _ e.symm; omega)
          have ks1 := Bk.grown ((k_s.below q.h).alloc (.cells #[.int .i64 ri, .int .i64 (d + 1), .int .i64 ((k : Int) + 1), .int .i64 (d + 1)] 89)) hgrow (fun e => by have := hlt2 _ e.symm; omega)
          rw [show (k : Int) + 1 = ((k + 1 : Nat) : Int) by omega] at ks1 hown
          have hrow := stprow_put (by rw [← HLL.out]; exact hown)
          have hcell1 := cellI_of (ks1.cell (i := 0) rfl)
          go_wp2
          go_roundw
          case rel => exact ⟨((k + 1 : Nat), d + 1) :: (ri, d + 1) :: r, k + 1, le, th, de, rfl, hrow, kt1, kr1, ks1, hb1, Lib.hid (by rw [← HM2.out]; rfl), ⟨by omega, by omega, by omega, by omega, by omega, by omega, by omega, by simp; rw [← HLL.out]; omega⟩, Lib.hid (fun x hx => by rcases List.mem_cons.1 hx with rfl | hx; exact ⟨by dsimp only; omega, by dsimp only; omega⟩; rcases List.mem_cons.1 hx with rfl | hx; exact ⟨by dsimp only; omega, by dsimp only; omega⟩; have := HRT.out x hx; omega)⟩
          case measure => rw [hcell1, HK0.out p1]; omega
        rw [decide_eq_false ho] at KO
        by_cases hl : 0 < cn ∧ fi = th ∧ cn ≤ m - th ∧ ri = 0
        · rw [decide_eq_true hl] at KL
          have HM2 := Lib.hid ((HNL.out d le th de hl).symm.trans HM.out)
          have hcn := hl.1
          have hcm := hl.2.2.1
          clear HND HNL HNB HM hl ho
          obtain ⟨mx, hmx⟩ : ∃ mx, max de d = mx := ⟨_, rfl⟩
          rw [hmx] at HM2
          have hmx2 : mx = de ∨ mx = d := by omega
          go_upto_region 17 with (first
            | (go_at_call 36; (first | (with_reducible refine (bw_call KO.out _).mono ?_)); rintro e w' ⟨rfl, q, rfl⟩)
            | (go_at_call 37; (first | (with_reducible refine (bw_call KL.out _).mono ?_)); rintro e w' ⟨rfl, q, rfl⟩))
          have hsz := (bw_below B4 q).size
          go_wp2
          have htl1 : StpRow (((q.w.setCell ⟨g_s, 1, none⟩ (.int .i64 (le + 1))).setCell ⟨g_s, 2, none⟩ (.int .i64 (th + cn))).setCell ⟨g_s, 3, none⟩ (.int .i64 mx)) (g_s + 1) (.slice (some ⟨g, 0, none⟩) L cap) r := owns_set (owns_set (owns_set (htl.below q.h) (a := ⟨g_s, 1, none⟩) (by show g_s < _; omega) _) (a := ⟨g_s, 2, none⟩) (by show g_s < _; omega) _) (a := ⟨g_s, 3, none⟩) (by show g_s < _; omega) _
          have ks1 : Bk (((q.w.setCell ⟨g_s, 1, none⟩ (.int .i64 (le + 1))).setCell ⟨g_s, 2, none⟩ (.int .i64 (th + cn))).setCell ⟨g_s, 3, none⟩ (.int .i64 mx)) g_s 63 #[.int .i64 ((k + 1 : Nat) : Int), .int .i64 (le + 1), .int .i64 (th + cn), .int .i64 mx] := ((((k_s.below q.h).set 1 _).set 2 _).set 3 _).cast (by rw [show ((k + 1 : Nat) : Int) = (k : Int) + 1 by omega]; simp)
          have kt1 := (((k_t.below q.h).other (a := ⟨g_s, 1, none⟩) (by show ¬ _ = g_s; omega) (.int .i64 (le + 1))).other (a := ⟨g_s, 2, none⟩) (by show ¬ _ = g_s; omega) (.int .i64 (th + cn))).other (a := ⟨g_s, 3, none⟩) (by show ¬ _ = g_s; omega) (.int .i64 mx)
          have kr1 := (((k_r.below q.h).other (a := ⟨g_s, 1, none⟩) (by show ¬ _ = g_s; omega) (.int .i64 (le + 1))).other (a := ⟨g_s, 2, none⟩) (by show ¬ _ = g_s; omega) (.int .i64 (th + cn))).other (a := ⟨g_s, 3, none⟩) (by show ¬ _ = g_s; omega) (.int .i64 mx)
          have hb1 := (((bw_below B4 q).setCell (p := ⟨g_s, 1, none⟩) (by show w.heap.size ≤ g_s; omega) (.int .i64 (le + 1))).setCell (p := ⟨g_s, 2, none⟩) (by show w.heap.size ≤ g_s; omega) (.int .i64 (th + cn))).setCell (p := ⟨g_s, 3, none⟩) (by show w.heap.size ≤ g_s; omega) (.int .i64 mx)
          have hcell1 := cellI_of (ks1.cell (i := 0) rfl)
          go_roundw
          case rel => exact ⟨r, k + 1, le + 1, th + cn, mx, rfl, htl1, kt1, kr1, ks1, hb1, HM2, ⟨by omega, by omega, by omega, by omega, by omega, by omega, by omega, by rw [← HLL.out]; omega⟩, Lib.hid (fun x hx => by have := HRT.out x hx; omega)⟩
          case measure => rw [hcell1, HK0.out p1]; omega
        rw [decide_eq_false hl] at KL
        have HE := Lib.hid (HNO.out (HM.out.symm.trans (HNB.out _ d le th de ho hl)))
        clear HND HNL HNB HM ho hl
        go_upto_region 16 with (first
          | (go_at_call 36; (first | (with_reducible refine (bw_call KO.out _).mono ?_)); rintro e w' ⟨rfl, q, rfl⟩)
          | (go_at_call 37; (first | (with_reducible refine (bw_call KL.out _).mono ?_)); rintro e w' ⟨rfl, q, rfl⟩))
        go_wp2
        try rw [Exit.noGoto_ret]
        have kr := bkp4 (k_r.below q.h) (.int .i64 0) (.int .i64 0) (.int .i64 0) (.int .i64 0)
        obtain ⟨rc0, rc1, rc2, rc3⟩ := rwc4 kr
        exact bodyPost_ret (v := .tuple #[.agg #[.int .i64 0, .int .i64 0, .int .i64 0, .int .i64 0], .bool false]) (by simp [results, Tryz.results20, go_sem, rc0, rc1, rc2, rc3]) rfl ⟨by rw [HE.out] <;> rfl, blp4 (bw_below B4 q) (by omega)⟩
      · have HE := Lib.hid (HNO.out (HM.out.symm.trans (mStack_place hpk)))
        have t1 : (p == (k : Int)) = false := by rw [beq_eq_false_iff_ne]; exact hpk
        clear hpk
        go_wp2
        try rw [Exit.noGoto_ret]
        have kr := bkp4 (k_r.below p2.h) (.int .i64 0) (.int .i64 0) (.int .i64 0) (.int .i64 0)
        obtain ⟨rc0, rc1, rc2, rc3⟩ := rwc4 kr
        exact bodyPost_ret (v := .tuple #[.agg #[.int .i64 0, .int .i64 0, .int .i64 0, .int .i64 0], .bool false]) (by simp [results, Tryz.results20, go_sem, rc0, rc1, rc2, rc3]) rfl ⟨by rw [HE.out] <;> rfl, blp4 (bw_below B2 p2) (by omega)⟩

theorem tree_toured (tv : Value) (ns : List Nd) (o : Option Addr) (m co : Nat) (w : World) (hN : Nodes w tv ns) (hn : ns.length ≤ 1048576) (hm : m ≤ 1048576) :
    Calls Tryz.prog 20 #[.agg #[tv, .slice o m co]] w fun en w' => en = .returned (.tuple #[.agg #[.int .i64 (mTour ns m).1.1, .int .i64 (mTour ns m).1.2.1, .int .i64 (mTour ns m).1.2.2.1, .int .i64 (mTour ns m).1.2.2.2], .bool (mTour ns m).2]) ∧ Below w.heap.size w w' := by
  obtain ⟨a, cap, rfl, hmx, h⟩ := hN
  by_cases h0 : ns.length = 0
  · obtain rfl := List.length_eq_zero_iff.1 h0
    rw [mTour_nil]
    have e : decide ((m : Int) = 0) = decide (m = 0) := by rw [decide_eq_decide]; omega
    rw [e]
    exact toured_none o a m co cap w
  · obtain ⟨bb, off, rfl, hbb, hc⟩ := h.resolve_left h0
    exact toured_some o bb off ns.length cap m co ns w (by omega) rfl hbb hc hn hm

set_option maxRecDepth 100000 in
set_option maxHeartbeats 8000000 in
theorem tell_Ordered (tv : Value) (o : Option Addr) (m co : Nat) (k le th de : Int) (ok : Bool) (w : World) (KT : Hid (∀ X, Below w.heap.size w X → Calls Tryz.prog 20 #[.agg #[tv, .slice o m co]] X fun en w' => en = .returned (.tuple #[.agg #[.int .i64 k, .int .i64 le, .int .i64 th, .int .i64 de], .bool ok]) ∧ Below X.heap.size X w')) :
    Calls Tryz.prog 11 #[.agg #[tv, .slice o m co]] w fun en w' => en = .returned (.bool ok) ∧ Below w.heap.size w w' := by
  go_enter Tryz.func11, Tryz.ntmps11
  go_upto_region 1 with (fail)
  obtain ⟨W1, hW1⟩ : ∃ W, W = w.alloc (.cells #[tv, .slice o m co] 28) := ⟨_, rfl⟩
  obtain ⟨k_t, B1⟩ := st1 hW1
  rw [← hW1]
  clear hW1
  obtain ⟨c_t_0, c_t_1⟩ := bwc2 (k_t)
  obtain ⟨p1, hp1⟩ : ∃ p : BW W1, p.w = W1 := ⟨BW.start W1, rfl⟩
  rw [← hp1]
  clear hp1
  go_upto_region 2 with (go_at_call 20; (with_reducible refine (KT.out _ (bw_below B1 _)).mono ?_); rintro e w1 ⟨rfl, hb⟩; obtain ⟨q, rfl⟩ := bw_take hb)
  obtain ⟨W2, hW2⟩ : ∃ W, W = q.w.alloc (.cells #[.int .i64 k, .int .i64 le, .int .i64 th, .int .i64 de] 63) := ⟨_, rfl⟩
  have B2 : Below w.heap.size w W2 := by rw [hW2]; exact (bw_below B1 q).alloc (bw_below B1 q).size _
  have l_s : w.heap.size < q.w.heap.size := (k_t.below q.h).lt
  have o_s : w.heap.size ≤ q.w.heap.size := (bw_below B1 q).size
  have k_t := bka hW2 (k_t.below q.h)
  have k_s := bkn hW2
  rw [← hW2]
  clear hW2
  clear B1
  clear c_t_0 c_t_1
  generalize q.w.heap.size = g_s at *
  obtain ⟨c_t_0, c_t_1⟩ := bwc2 (k_t)
  obtain ⟨c_s_0, c_s_1, c_s_2, c_s_3⟩ := bwc4 (k_s)
  obtain ⟨p2, hp2⟩ : ∃ p : BW W2, p.w = W2 := ⟨BW.start W2, rfl⟩
  rw [← hp2]
  clear hp2
  go_wp2
  go_ret
  exact ⟨rfl, bw_below B2 _⟩

theorem tree_Ordered (tv : Value) (ns : List Nd) (o : Option Addr) (m co : Nat) (w : World) (hN : Nodes w tv ns) (hn : ns.length ≤ 1048576) (hm : m ≤ 1048576) :
    Calls Tryz.prog 11 #[.agg #[tv, .slice o m co]] w fun en w' => en = .returned (.bool (mWhole ns m).2.2.2.2) ∧ Below w.heap.size w w' := by
  rw [← mTour_snd]
  exact tell_Ordered tv o m co _ _ _ _ _ w (Lib.hid fun X hX => tree_toured tv ns o m co X (hN.below hX (Nat.le_refl _)) hn hm)

set_option maxRecDepth 100000 in
set_option maxHeartbeats 8000000 in
theorem tell_Depth (tv : Value) (o : Option Addr) (m co : Nat) (k le th de : Int) (ok : Bool) (w : World) (KT : Hid (∀ X, Below w.heap.size w X → Calls Tryz.prog 20 #[.agg #[tv, .slice o m co]] X fun en w' => en = .returned (.tuple #[.agg #[.int .i64 k, .int .i64 le, .int .i64 th, .int .i64 de], .bool ok]) ∧ Below X.heap.size X w')) :
    Calls Tryz.prog 9 #[.agg #[tv, .slice o m co]] w fun en w' => en = .returned (.int .i64 de) ∧ Below w.heap.size w w' := by
  go_enter Tryz.func9, Tryz.ntmps9
  go_upto_region 1 with (fail)
  obtain ⟨W1, hW1⟩ : ∃ W, W = w.alloc (.cells #[tv, .slice o m co] 28) := ⟨_, rfl⟩
  obtain ⟨k_t, B1⟩ := st1 hW1
  rw [← hW1]
  clear hW1
  obtain ⟨c_t_0, c_t_1⟩ := bwc2 (k_t)
  obtain ⟨p1, hp1⟩ : ∃ p : BW W1, p.w = W1 := ⟨BW.start W1, rfl⟩
  rw [← hp1]
  clear hp1
  go_upto_region 2 with (go_at_call 20; (with_reducible refine (KT.out _ (bw_below B1 _)).mono ?_); rintro e w1 ⟨rfl, hb⟩; obtain ⟨q, rfl⟩ := bw_take hb)
  obtain ⟨W2, hW2⟩ : ∃ W, W = q.w.alloc (.cells #[.int .i64 k, .int .i64 le, .int .i64 th, .int .i64 de] 63) := ⟨_, rfl⟩
  have B2 : Below w.heap.size w W2 := by rw [hW2]; exact (bw_below B1 q).alloc (bw_below B1 q).size _
  have l_s : w.heap.size < q.w.heap.size := (k_t.below q.h).lt
  have o_s : w.heap.size ≤ q.w.heap.size := (bw_below B1 q).size
  have k_t := bka hW2 (k_t.below q.h)
  have k_s := bkn hW2
  rw [← hW2]
  clear hW2
  clear B1
  clear c_t_0 c_t_1
  generalize q.w.heap.size = g_s at *
  obtain ⟨c_t_0, c_t_1⟩ := bwc2 (k_t)
  obtain ⟨c_s_0, c_s_1, c_s_2, c_s_3⟩ := bwc4 (k_s)
  obtain ⟨p2, hp2⟩ : ∃ p : BW W2, p.w = W2 := ⟨BW.start W2, rfl⟩
  rw [← hp2]
  clear hp2
  go_wp2
  go_ret
  exact ⟨rfl, bw_below B2 _⟩

theorem tree_Depth (tv : Value) (ns : List Nd) (o : Option Addr) (m co : Nat) (w : World) (hN : Nodes w tv ns) (hn : ns.length ≤ 1048576) (hm : m ≤ 1048576) :
    Calls Tryz.prog 9 #[.agg #[tv, .slice o m co]] w fun en w' => en = .returned (.int .i64 (mDeep ns m)) ∧ Below w.heap.size w w' := by
  rw [← mTour_deep]
  exact tell_Depth tv o m co _ _ _ _ _ w (Lib.hid fun X hX => tree_toured tv ns o m co X (hN.below hX (Nat.le_refl _)) hn hm)

set_option maxRecDepth 100000 in
set_option maxHeartbeats 8000000 in
theorem tell_Leaves (tv : Value) (o : Option Addr) (m co : Nat) (k le th de : Int) (ok : Bool) (w : World) (KT : Hid (∀ X, Below w.heap.size w X → Calls Tryz.prog 20 #[.agg #[tv, .slice o m co]] X fun en w' => en = .returned (.tuple #[.agg #[.int .i64 k, .int .i64 le, .int .i64 th, .int .i64 de], .bool ok]) ∧ Below X.heap.size X w')) :
    Calls Tryz.prog 10 #[.agg #[tv, .slice o m co]] w fun en w' => en = .returned (.int .i64 le) ∧ Below w.heap.size w w' := by
  go_enter Tryz.func10, Tryz.ntmps10
  go_upto_region 1 with (fail)
  obtain ⟨W1, hW1⟩ : ∃ W, W = w.alloc (.cells #[tv, .slice o m co] 28) := ⟨_, rfl⟩
  obtain ⟨k_t, B1⟩ := st1 hW1
  rw [← hW1]
  clear hW1
  obtain ⟨c_t_0, c_t_1⟩ := bwc2 (k_t)
  obtain ⟨p1, hp1⟩ : ∃ p : BW W1, p.w = W1 := ⟨BW.start W1, rfl⟩
  rw [← hp1]
  clear hp1
  go_upto_region 2 with (go_at_call 20; (with_reducible refine (KT.out _ (bw_below B1 _)).mono ?_); rintro e w1 ⟨rfl, hb⟩; obtain ⟨q, rfl⟩ := bw_take hb)
  obtain ⟨W2, hW2⟩ : ∃ W, W = q.w.alloc (.cells #[.int .i64 k, .int .i64 le, .int .i64 th, .int .i64 de] 63) := ⟨_, rfl⟩
  have B2 : Below w.heap.size w W2 := by rw [hW2]; exact (bw_below B1 q).alloc (bw_below B1 q).size _
  have l_s : w.heap.size < q.w.heap.size := (k_t.below q.h).lt
  have o_s : w.heap.size ≤ q.w.heap.size := (bw_below B1 q).size
  have k_t := bka hW2 (k_t.below q.h)
  have k_s := bkn hW2
  rw [← hW2]
  clear hW2
  clear B1
  clear c_t_0 c_t_1
  generalize q.w.heap.size = g_s at *
  obtain ⟨c_t_0, c_t_1⟩ := bwc2 (k_t)
  obtain ⟨c_s_0, c_s_1, c_s_2, c_s_3⟩ := bwc4 (k_s)
  obtain ⟨p2, hp2⟩ : ∃ p : BW W2, p.w = W2 := ⟨BW.start W2, rfl⟩
  rw [← hp2]
  clear hp2
  go_wp2
  go_ret
  exact ⟨rfl, bw_below B2 _⟩

theorem tree_Leaves (tv : Value) (ns : List Nd) (o : Option Addr) (m co : Nat) (w : World) (hN : Nodes w tv ns) (hn : ns.length ≤ 1048576) (hm : m ≤ 1048576) :
    Calls Tryz.prog 10 #[.agg #[tv, .slice o m co]] w fun en w' => en = .returned (.int .i64 (mLeaves ns m)) ∧ Below w.heap.size w w' := by
  rw [← mTour_leaves]
  exact tell_Leaves tv o m co _ _ _ _ _ w (Lib.hid fun X hX => tree_toured tv ns o m co X (hN.below hX (Nat.le_refl _)) hn hm)

end
end Go.Proofs.YtomlcglnkdfemaaGreat
