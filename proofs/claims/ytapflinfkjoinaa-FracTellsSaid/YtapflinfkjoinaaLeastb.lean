/- Contracts of slices.MinFunc over frac.Least's closure, and of frac.Least. -/
import Derived.Test.YtapflinfkjoinaaLeast
import Derived.Test.YtapflinfkjoinaaMathc03
import Derived.StillTailTactics
namespace Go.Proofs.Ytapflinfkjoinaa
open Go.RowKit Go.Shelf Go.Proofs.Sky
set_option linter.unusedVariables false

theorem least_cmp (x b off cap n i j : Nat) (N D : Nat → Int) (w : World) (hx : w.cell? ⟨x, 0, none⟩ = some (.slice (some ⟨b, off, none⟩) n cap)) (hrow : FrRow w b off n N D)
    (hN : ∀ k, k < n → I64 (N k) ∧ I64 (D k)) (hn : n ≤ 1048576) (hi : i < n) (hj : j < n) :
    Calls Try.prog 26 #[.int .i64 i, .int .i64 j, .pointer (some ⟨x, 0, none⟩)] w fun e w' => e = .returned (.int .i64 (cmpI (N i * D j) (N j * D i))) ∧ Below w.heap.size w w' := by
  obtain ⟨a0, a1⟩ := hrow i hi
  obtain ⟨b0, b1⟩ := hrow j hj
  have C := Lib.hid (fun w => frac_compare (N i) (D i) (N j) (D j) w (hN i hi).1 (hN i hi).2 (hN j hj).1 (hN j hj).2)
  clear hrow hN
  generalize cmpI (N i * D j) (N j * D i) = R at *
  generalize N i = ni at *
  generalize D i = di at *
  generalize N j = nj at *
  generalize D j = dj at *
  go_enter Try.func26, Try.ntmps26
  go_wp2
  go_still_tail 8, (by kernel_rfl)
  have hd : Below w.heap.size w w.drew := by go_grown
  clear a0 a1 b0 b1 hx
  change wpList _ _ _ _ _ w.drew
  generalize w.drew = w2 at *
  go_wp2_with (go_at_call 21; refine (C.out _).mono ?_; rintro e w1 ⟨rfl, hb⟩)
  go_ret
  exact ⟨rfl, hd.trans (hb.mono hd.size)⟩

set_option maxHeartbeats 1000000 in
theorem min_func (x b off cap n g gc m : Nat) (N D : Nat → Int) (f : Nat → Nat) (w : World) (hx : w.cell? ⟨x, 0, none⟩ = some (.slice (some ⟨b, off, none⟩) n cap)) (hrow : FrRow w b off n N D)
    (hN : ∀ k, k < n → I64 (N k) ∧ I64 (D k)) (hn : n ≤ 1048576) (hf : ∀ i, i < m → w.cell? ⟨g, i, none⟩ = some (.int .i64 (f i : Int))) (hfn : ∀ i, i < m → f i < n) (h0 : 0 < m) (hm : m ≤ 1048576)
    (bx : x < w.heap.size) (bb : b < w.heap.size) (bg : g < w.heap.size) :
    Calls Try.prog 25 #[.slice (some ⟨g, 0, none⟩) m gc, .func (.func 26) #[] #[.pointer (some ⟨x, 0, none⟩)]] w fun e w' => e = .returned (.int .i64 (mnf N D f (m - 1) : Nat)) ∧ Below w.heap.size w w' := by
  have HX := Lib.hid hx
  have HR := Lib.hid hrow
  have HN := Lib.hid hN
  have HF := Lib.hid hf
  have HFN := Lib.hid hfn
  have c0 := hf 0 h0
  clear hx hrow hN hf hfn
  go_enter Try.func25, Try.ntmps25
  go_wp2
  go_loopw [5, 6] (fun u i wr => ∃ k : Nat, k < m ∧ i = .int .i64 ((k : Int) + 1) ∧ u = .int .i64 (mnf N D f k : Nat) ∧ Below w.heap.size w wr) (fun _ i _ => m - (intOf i).toNat)
  case atStart => exact ⟨0, h0, rfl, rfl, by go_grown⟩
  case round =>
    clear c0
    obtain ⟨k, hk, rfl, rfl, hB⟩ := hrel
    by_cases hlt : k + 1 < m
    · have c1 := (hB.cell (p := ⟨g, k + 1, none⟩) bg).trans (HF.out (k + 1) hlt)
      have C := Lib.hid (fun w (h1 : w.cell? ⟨x, 0, none⟩ = some (.slice (some ⟨b, off, none⟩) n cap)) (h2 : FrRow w b off n N D) => least_cmp x b off cap n (f (k + 1)) (mnf N D f k) N D w h1 h2 HN.out hn (HFN.out _ hlt) (mnf_mem (P := fun i => i < n) k (fun i hi => HFN.out i (by omega))))
      have K := Lib.hid (C.out wr ((hB.cell (p := ⟨x, 0, none⟩) bx).trans HX.out) (HR.out.below hB bb))
      have E : mnf N D f (k + 1) = pk N D (mnf N D f k) (f (k + 1)) := rfl
      have T := cmpI_lt (N (f (k + 1)) * D (mnf N D f k)) (N (mnf N D f k) * D (f (k + 1)))
      have HE := Lib.hid E
      clear E C
      by_cases hp : N (f (k + 1)) * D (mnf N D f k) < N (mnf N D f k) * D (f (k + 1))
      · have HE2 : Hid (mnf N D f (k + 1) = f (k + 1)) := Lib.hid (by rw [HE.out]; unfold pk; rw [if_pos hp])
        rw [decide_eq_true hp] at T
        clear hp HE
        generalize cmpI (N (f (k + 1)) * D (mnf N D f k)) (N (mnf N D f k) * D (f (k + 1))) = R at *
        go_wp2_with (go_at_call 26; refine (K.out).mono ?_; rintro e w1 ⟨rfl, hb⟩; obtain ⟨hc, hf⟩ := bcell hb; have c2 : w1.cell? ⟨g, k + 1, none⟩ = some (.int .i64 (f (k + 1) : Int)) := (hc _ _ (Nat.lt_of_lt_of_le bg hB.size)).trans c1)
        go_roundw
        case rel => exact ⟨k + 1, hlt, by go_num, by rw [HE2.out], hB.trans (hb.mono hB.size)⟩
        case measure => simp [intOf]; omega
      · have HE2 : Hid (mnf N D f (k + 1) = mnf N D f k) := Lib.hid (by rw [HE.out]; unfold pk; rw [if_neg hp])
        rw [decide_eq_false hp] at T
        clear hp HE
        generalize cmpI (N (f (k + 1)) * D (mnf N D f k)) (N (mnf N D f k) * D (f (k + 1))) = R at *
        go_wp2_with (go_at_call 26; refine (K.out).mono ?_; rintro e w1 ⟨rfl, hb⟩)
        go_roundw
        case rel => exact ⟨k + 1, hlt, by go_num, by rw [HE2.out], hB.trans (hb.mono hB.size)⟩
        case measure => simp [intOf]; omega
    · obtain rfl : m = k + 1 := by omega
      go_wp2
      go_ret
      exact ⟨rfl, hB⟩

theorem valid_none (p : Option Addr) (cap B : Nat) (w : World) :
    GivesAll Try.prog 24 #[.slice p 0 cap] #[] (fun x : Int => #[Value.int .i64 x]) [] B w := fun l J W hW hJ hY h0 => by
  refine callsIn_of_wp Try.func24 rfl trivial ?_ rfl
  simp only [Try.ntmps24, List.size_toArray, List.length_cons, List.length_nil, Nat.reduceAdd, Nat.reduceSub, Array.replicate_succ, Array.replicate_zero, List.push_toArray, List.append_toArray, List.nil_append, List.cons_append]
  gi_wp2
  refine wpIn_loop_rounds 1 ?_
  rw [roundsIn_succ]
  gi_wp2
  go_end0
  exact ⟨⟨_, rfl⟩, h0⟩

theorem frac_Least_none (p : Option Addr) (cap : Nat) (w : World) :
    Calls Try.prog 15 #[.slice p 0 cap] w fun e w' => e = .returned (.int .i64 (-1)) ∧ Below w.heap.size w w' := by
  have b0 : Below w.heap.size w (w.alloc (.cells #[.slice p 0 cap] 24)) := (Below.refl _ w).alloc (Nat.le_refl _) _
  go_enter Try.func15, Try.ntmps15
  go_wp2_with (go_at_call 23; refine (collect_seq 24 _ [] _ (enters_of Try.func24 (by kernel_rfl) rfl) (valid_none _ _ _ _) (by simp)).mono ?_; rintro e w1 ⟨v, rfl, h1, h2, hb⟩; obtain rfl := h2.2 rfl)
  go_ret
  exact ⟨rfl, b0.trans (hb.mono b0.size)⟩

theorem row_cells {W : World} {g : Nat} {t : TypeId} {cur : Array Value} {ys : List Nat} {k : Nat} (h : W.heap[g]? = some (.cells cur t (0, 0))) (hk : k = ys.length) (h4 : cur.toList.take (k * 1) = (ys.map (fun i : Nat => (i : Int))).map (Value.int .i64)) (i : Nat) (hi : i < k) :
    W.cell? ⟨g, i, none⟩ = some (.int .i64 ((ys.getD i 0 : Nat) : Int)) := by
  have e : (cur.toList.take (k * 1))[i]? = some (.int .i64 ((ys.getD i 0 : Nat) : Int)) := by
    rw [h4, List.getElem?_map, List.getElem?_map, List.getD_eq_getElem?_getD, List.getElem?_eq_getElem (by omega)]
    rfl
  rw [List.getElem?_take, if_pos (by omega), Array.getElem?_toList] at e
  simp [World.cell?, h, e]

theorem frac_Least (b off cap n : Nat) (N D : Nat → Int) (w : World) (hrow : FrRow w b off n N D) (hN : ∀ k, k < n → I64 (N k) ∧ I64 (D k)) (hb : b < w.heap.size) (hn : n ≤ 1048576) :
    Calls Try.prog 15 #[.slice (some ⟨b, off, none⟩) n cap] w fun e w' => e = .returned (.int .i64 (lst N D n)) ∧ Below w.heap.size w w' := by
  obtain ⟨l0, l1⟩ := lst_spec N D n
  have hlen : (vpN D n).length ≤ n := by have := vp_len D n; rw [vp_eq] at this; simpa using this
  have G := fun w (hr : FrRow w b off n N D) (hb : b < w.heap.size) => collect_seq 24 #[.slice (some ⟨b, off, none⟩) n cap] (vp D n) w (enters_of Try.func24 (by kernel_rfl) rfl) (valid_gives b off cap n N D w hr hb hn) (Nat.le_trans (vp_len D n) hn)
  have b0 : Below w.heap.size w (w.alloc (.cells #[.slice (some ⟨b, off, none⟩) n cap] 24)) := (Below.refl _ w).alloc (Nat.le_refl _) _
  have x0 : (w.alloc (.cells #[.slice (some ⟨b, off, none⟩) n cap] 24)).cell? ⟨w.heap.size, 0, none⟩ = some (.slice (some ⟨b, off, none⟩) n cap) := by simp [go_sem]
  have x1 : w.heap.size < (w.alloc (.cells #[.slice (some ⟨b, off, none⟩) n cap] 24)).heap.size := by simp
  have G' := Lib.hid (G _ (hrow.below b0 hb) (Nat.lt_of_lt_of_le hb b0.size))
  have X0 := Lib.hid x0
  have H1 := Lib.hid hrow
  have H2 := Lib.hid hN
  have L1 := Lib.hid l1
  by_cases h0 : (vpN D n).length = 0
  · have e : vp D n = [] := by rw [vp_eq, List.eq_nil_of_length_eq_zero h0]; rfl
    rw [l0 h0]
    have E := Lib.hid e
    clear G hrow hN l0 l1 x0 h0 e L1
    go_enter Try.func15, Try.ntmps15
    go_wp2_with (go_at_call 23; refine (G'.out).mono ?_; rintro e w1 ⟨v, rfl, h1, h2, hb1⟩; obtain rfl := h2.2 E.out; clear h1 h2)
    go_ret
    exact ⟨rfl, b0.trans (hb1.mono b0.size)⟩
  · rw [l1 (by omega)]
    obtain ⟨k, hk⟩ : ∃ k, k = (vpN D n).length := ⟨_, rfl⟩
    have hk' : (vp D n).length = k := by rw [hk, vp_eq]; simp
    rw [← hk] at h0 hlen ⊢
    rw [hk'] at G'
    have HK := Lib.hid hk
    have h0' : 0 < k := by omega
    clear G hrow hN l0 l1 x0 h0 hk L1 hk'
    go_enter Try.func15, Try.ntmps15
    go_wp2_with (first
      | (go_at_call 23; refine (G'.out).mono ?_; rintro e w1 ⟨v, rfl, h1, h2, hb1⟩; clear h2; obtain ⟨gb, gcap, cur, rfl, hbase, hgb, r1, r2, r3, r4⟩ := h1.2.resolve_left (by rintro ⟨_, hz⟩; omega); clear h1; have HG := Lib.hid hgb; have H4 := Lib.hid r4; clear hgb r4 r2 r3)
      | (go_at_call 25; refine (min_func w.heap.size b off cap n gb gcap k N D (fun i => (vpN D n).getD i 0) _ ((hb1.cell (p := ⟨w.heap.size, 0, none⟩) x1).trans X0.out) ((H1.out.below b0 hb).below hb1 (Nat.lt_of_lt_of_le hb b0.size)) H2.out hn (row_cells HG.out HK.out H4.out) (fun i hi => (vpN_getD (by rw [← HK.out]; exact hi)).1) h0' (by omega) (Nat.lt_of_lt_of_le x1 hb1.size) (Nat.lt_of_lt_of_le hb (Nat.le_trans b0.size hb1.size)) (Array.getElem?_eq_some_iff.1 HG.out).1).mono ?_; rintro e w2 ⟨rfl, hb2⟩))
    go_ret
    exact ⟨rfl, (b0.trans (hb1.mono b0.size)).trans (hb2.mono (Nat.le_trans b0.size hb1.size))⟩

end Go.Proofs.Ytapflinfkjoinaa
