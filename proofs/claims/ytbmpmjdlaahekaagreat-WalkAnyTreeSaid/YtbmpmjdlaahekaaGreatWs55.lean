/- Contracts of the document's own answers, layer 16: boxes, under, Whole -/
import Derived.Test.YtbmpmjdlaahekaaGreatWs54
set_option maxRecDepth 100000
set_option maxHeartbeats 8000000
set_option linter.unusedVariables false
set_option linter.unusedSimpArgs false
open Go.Proofs.Tryz
namespace Go.Proofs.YtbmpmjdlaahekaaGreat
section
open Go.RowKit Go.Proofs.Sky
theorem ref16_under_w (bb off n cv bo oo m co i f t : Nat) (p0 p2 p4 : Int) (ok : Bool) (ns : List Nd) (w : World) (hnn : n = ns.length) (hbb : bb < w.heap.size) (hcell : ∀ k (h : k < ns.length), ∀ j, j < 9 → w.cell? ⟨bb, off + k * 9 + j, none⟩ = (ncells ns[k])[j]?) (hi : i < n) (hn : n ≤ 1048576) (hm : m ≤ 1048576) (hmc : m ≤ co) (hf : mFrom ns i = (f : Int)) (hft : f < t) (htm : t ≤ m) (hfs : ∀ k, k < n → 0 < (ns.getD k nd0).2.2.1 → 0 ≤ (ns.getD k nd0).2.1 ∧ (ns.getD k nd0).2.1 + (ns.getD k nd0).2.2.1 ≤ m)
  (KW : Hid (∀ X, Below w.heap.size w X → Rt prog 70 #[.agg #[.slice (some ⟨bb, off, none⟩) n cv, .slice (some ⟨bo, oo, none⟩) m co], .int .i64 (i : Int), .int .i64 (f : Int)] X (.agg #[p0, .int .i64 (t : Int), p2, p4, .bool ok]))) :
  Rt prog 41 #[.agg #[.slice (some ⟨bb, off, none⟩) n cv, .slice (some ⟨bo, oo, none⟩) m co], .int .i64 (i : Int)] w (.slice (some ⟨bo, oo + f, none⟩) (t - f) (co - f)) := by
 have HC := zh hcell
 have HNN := zh hnn
 have HFS := zh hfs
 have HF := zh hf
 have HMS := zh (fun k => z1j ns k)
 clear hcell hnn hfs hf
 go_enter func41, ntmps41
 go_upto_region 1 with (fail)
 refine wst1 fun W1 kt B1 => ?_
 have ct := bwc2 kt
 refine bws fun p1 => ?_
 go_wp2
 go_loopw [5, 6] (fun fv iv wr => ∃ (k : Nat) (q : BW W1), k ≤ i ∧ iv = .int .i64 k ∧ fv = .int .i64 (mFrom ns k) ∧ wr = q.w) (fun _ iv _ => i - (intOf iv).toNat)
 case atStart => exact ⟨0, p1, by omega, rfl, rfl, rfl⟩
 case round =>
  obtain ⟨k, p3, hk, rfl, rfl, rfl⟩ := hrel
  by_cases hlt : k < i
  · have hkl : k < ns.length := by rw [← HNN.out]; omega
    have hx := HC.out k hkl
    have x0 : w.cell? ⟨bb, off + k * 9, none⟩ = some (.int .i64 ns[k].1.1.1) := hx 0 (by omega)
    have x1 : w.cell? ⟨bb, off + k * 9 + 1, none⟩ = some (.int .i64 ns[k].1.1.2.1) := hx 1 (by omega)
    have x2 : w.cell? ⟨bb, off + k * 9 + 2, none⟩ = some (.int .i64 ns[k].1.1.2.2) := hx 2 (by omega)
    have x3 : w.cell? ⟨bb, off + k * 9 + 3, none⟩ = some (.int .i64 ns[k].1.2.1) := hx 3 (by omega)
    have x4 : w.cell? ⟨bb, off + k * 9 + 4, none⟩ = some (.int .i64 ns[k].1.2.2.1) := hx 4 (by omega)
    have x5 : w.cell? ⟨bb, off + k * 9 + 5, none⟩ = some (.int .i64 ns[k].1.2.2.2) := hx 5 (by omega)
    have x6 : w.cell? ⟨bb, off + k * 9 + 6, none⟩ = some (.int .i64 ns[k].2.1) := hx 6 (by omega)
    have x7 : w.cell? ⟨bb, off + k * 9 + 7, none⟩ = some (.int .i64 ns[k].2.2.1) := hx 7 (by omega)
    have x8 : w.cell? ⟨bb, off + k * 9 + 8, none⟩ = some (.int .i64 ns[k].2.2.2) := hx 8 (by omega)
    have hfs := HFS.out k (by omega)
    have hms := HMS.out k
    rw [z0g hkl] at hfs hms
    clear hx
    generalize ns[k] = nd at *
    obtain ⟨⟨⟨n1, n2, n3⟩, n4, n5, n6⟩, fi, cn, ri⟩ := nd
    dsimp only at x0 x1 x2 x3 x4 x5 x6 x7 x8 hfs hms
    have ce6 := bwB B1 x6 hbb
    have ce7 := bwB B1 x7 hbb
    have hkn : k < n := by omega
    by_cases hc : 0 < cn
    · have t1 : decide (0 < cn) = true := zt hc
      rw [if_pos hc] at hms
      obtain ⟨h1, h2⟩ := hfs hc
      have hsm : wrap64 (fi + cn) = fi + cn := IntWalk.wrap64_in _ (by omega)
      have hsm2 : IntKind.i64.wrap (fi + cn) = fi + cn := by rw [i64w]; omega
      have HM := zh hms
      clear hms hfs hc h1 h2
      go_upto_region 6 with (fail)
      refine z03 (by kernel_rfl) (by kernel_rfl) ?_
      repeat (go_big_quiet_step (fail))
      refine wpQuiet_nil ?_
      intro _ hw'
      obtain ⟨q, rfl⟩ := hw'
      go_wp2
      go_roundw
      case rel => exact ⟨k + 1, q, by omega, by go_num, by rw [HM.out] <;> rfl, rfl⟩
      case measure => simp [intOf]; omega
    · have t1 : decide (0 < cn) = false := zf hc
      rw [if_neg hc] at hms
      have HM := zh hms
      clear hms hfs hc
      go_wp2
      go_roundw
      case rel => exact ⟨k + 1, p3, by omega, by go_num, by rw [HM.out], rfl⟩
      case measure => simp [intOf]; omega
  · obtain rfl : k = i := by omega
    rw [HF.out]
    go_upto_region 8 with (go_at_call 70; (with_reducible refine (KW.out _ (z00 B1 _)).mono ?_); rintro e w2 ⟨rfl, hb2⟩; obtain ⟨q, rfl⟩ := z04 hb2)
    refine wnm fun W2 hW2 => ?_
    have B2 := bwA q hW2 B1
    have lp : w.heap.size < q.w.heap.size := (kt.below q.h).lt
    have op : w.heap.size ≤ q.w.heap.size := (z00 B1 q).size
    have kt := bka hW2 (kt.below q.h)
    have kp := bkn hW2
    clear hW2
    clear B1
    clear ct
    generalize q.w.heap.size = gp at *
    have ct := bwc2 kt
    have cp := bwc5 kp
    refine bws fun p2 => ?_
    go_wp2
    go_ret
    exact ⟨rfl, z00 B2 _⟩
theorem ref16_under (tv : Value) (ns : List Nd) (bo oo m co i : Nat) (w : World) (hN : Nodes w tv ns) (hw : (mWhole ns m).2.2.2.2 = true) (hi : i < ns.length) (hn : ns.length ≤ 1048576) (hm : m ≤ 1048576) (hmc : m ≤ co) :
  Rt prog 41 #[.agg #[tv, .slice (some ⟨bo, oo, none⟩) m co], .int .i64 (i : Int)] w (.slice (some ⟨bo, oo + (mFrom ns i).toNat, none⟩) (mThing ns m i - mFrom ns i).toNat (co - (mFrom ns i).toNat)) := by
 have hN0 := hN
 obtain ⟨a, cap, rfl, hmx, h⟩ := hN
 obtain ⟨bb, off, rfl, hbb, hc⟩ := h.resolve_left (by omega)
 have h0 := mFrom_nonneg hw i (by omega)
 have hk := whole_each hw hi
 have hin := mPart_in hk
 have hth : mThing ns m i = (mPart ns m i (mFrom ns i)).2.1 := rfl
 have e1 : (mThing ns m i - mFrom ns i).toNat = (mThing ns m i).toNat - (mFrom ns i).toNat := by omega
 rw [e1]
 have hfs : ∀ k, k < ns.length → 0 < (ns.getD k nd0).2.2.1 → 0 ≤ (ns.getD k nd0).2.1 ∧ (ns.getD k nd0).2.1 + (ns.getD k nd0).2.2.1 ≤ m := fun k hk hp => by
  rw [z0g hk] at hp ⊢
  obtain ⟨_, q2, q3, q4, q5⟩ := node_leaf hw hk (by omega)
  omega
 refine ref16_under_w bb off ns.length cap bo oo m co i (mFrom ns i).toNat (mThing ns m i).toNat (mPart ns m i (mFrom ns i)).1 (mPart ns m i (mFrom ns i)).2.2.1 (mPart ns m i (mFrom ns i)).2.2.2.1 (mPart ns m i (mFrom ns i)).2.2.2.2 ns w rfl hbb hc hi hn hm hmc (by omega) (by omega) (by omega) hfs (zh fun X hX => ?_)
 have h := ref16_walk ns (.slice (some ⟨bb, off, none⟩) ns.length cap) (some ⟨bo, oo, none⟩) m co hm hn (ns.length + 1 - i) i (mFrom ns i) X (by omega) (hN0.below hX (Nat.le_refl _)) h0 (by omega)
 rw [show (((mFrom ns i).toNat : Nat) : Int) = mFrom ns i by omega, show (((mThing ns m i).toNat : Nat) : Int) = mThing ns m i by omega]
 exact h
theorem rwhole_wild (a o lp : Option Addr) (N cap m co n lc : Nat) (w : World) (KO : Hid (∀ X, Below w.heap.size w X → Rt prog 38 #[.agg #[.slice a N cap, .slice o m co]] X (.bool false))) :
  Rt prog 18 #[.agg #[.slice a N cap, .slice o m co], .slice lp n lc] w (.bool false) := by
 go_enter func18, ntmps18
 go_upto_region 1 with (fail)
 refine wst1 fun W1 kt B1 => ?_
 have ct := bwc2 kt
 refine bws fun p1 => ?_
 go_wp2_with ((go_at_call 38; (with_reducible refine (KO.out _ (z00 B1 _)).mono ?_); rintro e w2 ⟨rfl, hb2⟩; obtain ⟨q, rfl⟩ := z04 hb2))
 go_ret
 exact ⟨rfl, z00 B1 _⟩
theorem rwhole_bad (a o lp : Option Addr) (N cap m co n lc : Nat) (w : World) (KO : Hid (∀ X, Below w.heap.size w X → Rt prog 38 #[.agg #[.slice a N cap, .slice o m co]] X (.bool true))) (KR : Hid (∀ X, Below w.heap.size w X → Rt prog 6 #[.slice lp n lc] X (.bool false))) :
  Rt prog 18 #[.agg #[.slice a N cap, .slice o m co], .slice lp n lc] w (.bool false) := by
 go_enter func18, ntmps18
 go_upto_region 1 with (fail)
 refine wst1 fun W1 kt B1 => ?_
 have ct := bwc2 kt
 refine bws fun p1 => ?_
 go_wp2_with (first
  | (go_at_call 38; (with_reducible refine (KO.out _ (z00 B1 _)).mono ?_); rintro e w2 ⟨rfl, hb2⟩; obtain ⟨q, rfl⟩ := z04 hb2)
  | (go_at_call 6; (with_reducible refine (KR.out _ (z00 B1 _)).mono ?_); rintro e w2 ⟨rfl, hb2⟩; obtain ⟨q, rfl⟩ := z04 hb2))
 go_ret
 exact ⟨rfl, z00 B1 _⟩
theorem rwhole_size (a o lp : Option Addr) (N cap m co n lc : Nat) (w : World) (KO : Hid (∀ X, Below w.heap.size w X → Rt prog 38 #[.agg #[.slice a N cap, .slice o m co]] X (.bool true))) (KR : Hid (∀ X, Below w.heap.size w X → Rt prog 6 #[.slice lp n lc] X (.bool true))) (hmn : ¬ m = n) :
  Rt prog 18 #[.agg #[.slice a N cap, .slice o m co], .slice lp n lc] w (.bool false) := by
 have t1 : ((m : Int) == (n : Int)) = false := by rw [beq_eq_false_iff_ne]; omega
 clear hmn
 go_enter func18, ntmps18
 go_upto_region 1 with (fail)
 refine wst1 fun W1 kt B1 => ?_
 have ct := bwc2 kt
 refine bws fun p1 => ?_
 go_wp2_with (first
  | (go_at_call 38; (with_reducible refine (KO.out _ (z00 B1 _)).mono ?_); rintro e w2 ⟨rfl, hb2⟩; obtain ⟨q, rfl⟩ := z04 hb2)
  | (go_at_call 6; (with_reducible refine (KR.out _ (z00 B1 _)).mono ?_); rintro e w2 ⟨rfl, hb2⟩; obtain ⟨q, rfl⟩ := z04 hb2))
 go_ret
 exact ⟨rfl, z00 B1 _⟩
theorem count_next {ord : List Int} {j : Nat} {x : Int} (h : j < ord.length) (hx : ord.getD j 0 = x) (z : Int) : (ord.take (j + 1)).count z = (ord.take j).count z + (if x = z then 1 else 0) := by
 rw [take_snoc h, hx, List.count_append, List.count_singleton]
 by_cases e : x = z
 · rw [if_pos e, if_pos (by rw [beq_iff_eq]; exact e)]
 · rw [if_neg e, if_neg (by rw [beq_iff_eq]; exact e)]
theorem rwhole_go (a o lp : Option Addr) (N cap m co n lc : Nat) (ns : List Nd) (ord : List Int) (ou : Nat → Option Addr) (lu cu : Nat → Nat) (ld : Nat → Bx) (w : World) (hNl : N = ns.length) (hN : Nodes w (.slice a N cap) ns) (hml : m = ord.length) (ho : IntSlice w o ord.length (fun i => ord.getD i 0)) (hn : N ≤ 1048576) (hm : m ≤ 1024) (hmn : m = n) (KO : Hid (∀ X, Below w.heap.size w X → Rt prog 38 #[.agg #[.slice a N cap, .slice o m co]] X (.bool true))) (KR : Hid (∀ X, Below w.heap.size w X → Rt prog 6 #[.slice lp n lc] X (.bool true))) (hgo : mOnce ord n = true → Hid (∀ (j : Nat) X, Below w.heap.size w X → j < N → Rt prog 41 #[.agg #[.slice a N cap, .slice o m co], .int .i64 (j : Int)] X (.slice (ou j) (lu j) (cu j))) ∧ Hid (∀ (j : Nat) X, Below w.heap.size w X → j < N → Calls prog 40 #[.slice lp n lc, .slice (ou j) (lu j) (cu j)] X fun e w' => ∃ b c, e = .returned (.slice b (lu j) c) ∧ Hid (∀ Y, Below w'.heap.size w' Y → Rt prog 39 #[.slice b (lu j) c] Y (.agg (bcells (ld j)).toArray)) ∧ Below X.heap.size X w')) :
  Rt prog 18 #[.agg #[.slice a N cap, .slice o m co], .slice lp n lc] w (.bool (mOnce ord n && (List.range N).all (fun j => decide ((ns.getD j nd0).1 = ld j)))) := by
 subst hmn
 obtain ⟨res, hres⟩ := nmd ((mOnce ord m && (List.range N).all (fun j => decide ((ns.getD j nd0).1 = ld j))))
 rw [← hres]
 have HRES := zh hres
 clear hres
 have HNL := zh hNl
 have HN := zh hN
 have HML := zh hml
 have HO := zh ho
 have HGO := zh hgo
 clear hNl hN hml ho hgo
 go_enter func18, ntmps18
 go_upto_region 1 with (fail)
 refine wst1 fun W1 kt B1 => ?_
 obtain ⟨ct0, ct1⟩ := bwc2 kt
 refine bws fun p1 => ?_
 go_wp2_with (first
  | (go_at_call 38; (with_reducible refine (KO.out _ (z00 B1 _)).mono ?_); rintro e w2 ⟨rfl, hb2⟩; obtain ⟨q, rfl⟩ := z04 hb2)
  | (go_at_call 6; (with_reducible refine (KR.out _ (z00 B1 _)).mono ?_); rintro e w2 ⟨rfl, hb2⟩; obtain ⟨q, rfl⟩ := z04 hb2))
 go_loopw [5] (fun iv wr => ∃ (k : Nat) (q : BW W1), k ≤ m ∧ iv = .int .i64 k ∧ wr = q.w ∧ Hid (∀ i : Nat, i < k → ord.count (i : Int) = 1)) (fun iv _ => m - (intOf iv).toNat)
 case atStart => exact ⟨0, q, by omega, rfl, rfl, zh (fun i hi => by omega)⟩
 case round =>
  obtain ⟨k, p3, hk, rfl, rfl, HC⟩ := hrel
  by_cases hlt : k < m
  · go_wp2
    go_loopw [6, 7] (fun cv jv wr => ∃ (j : Nat) (q : BW W1), j ≤ m ∧ jv = .int .i64 j ∧ cv = .int .i64 (((ord.take j).count (k : Int) : Nat) : Int) ∧ wr = q.w) (fun _ jv _ => m - (intOf jv).toNat)
    case atStart => exact ⟨0, p3, by omega, rfl, rfl, rfl⟩
    case round =>
     obtain ⟨j, p5, hj, rfl, rfl, rfl⟩ := hrel
     have hcl : (ord.take j).count (k : Int) ≤ j := Nat.le_trans List.count_le_length (by rw [List.length_take]; omega)
     by_cases hjm : j < m
     · obtain ⟨bb, ob, hoo, hcb, hbb⟩ := HO.out.resolve_left (by rw [← HML.out]; omega)
       subst hoo
       have hjl : j < ord.length := by rw [← HML.out]; exact hjm
       have y0 : w.cell? ⟨bb, ob + j, none⟩ = some (.int .i64 (ord.getD j 0)) := (hcb j hjl).1
       have HCN := zh (fun z => count_next hjl rfl z)
       clear hcb hjl
       generalize ord.getD j 0 = x at *
       have cy : ∀ p : BW W1, p.w.cell? ⟨bb, ob + j, none⟩ = some (.int .i64 x) := bwB B1 y0 hbb
       have hnx := HCN.out (k : Int)
       clear HCN
       obtain ⟨c0, hc0⟩ := nmd ((ord.take j).count (k : Int))
       rw [← hc0] at hnx hcl ⊢
       clear hc0
       by_cases hxk : x = (k : Int)
       · rw [if_pos hxk] at hnx
         subst hxk
         have HX := zh hnx
         clear hnx
         go_wp2
         go_roundw
         case rel => exact ⟨j + 1, p5, by omega, by go_num, by rw [HX.out]; simp, rfl⟩
         case measure => simp [intOf]; omega
       · rw [if_neg hxk] at hnx
         have t1 : (x == (k : Int)) = false := by rw [beq_eq_false_iff_ne]; exact hxk
         have HX := zh hnx
         clear hnx hxk
         go_wp2
         go_roundw
         case rel => exact ⟨j + 1, p5, by omega, by go_num, by rw [HX.out]; simp, rfl⟩
         case measure => simp [intOf]; omega
     · obtain rfl : j = m := by omega
       have htk : ord.take j = ord := by rw [HML.out]; exact List.take_length
       rw [htk] at hcl ⊢
       clear htk
       obtain ⟨c0, hc0⟩ := nmd (ord.count (k : Int))
       rw [← hc0] at hcl ⊢
       have HCC := zh hc0
       clear hc0
       by_cases h1 : c0 = 1
       · subst h1
         go_wp2
         go_roundw
         case rel => exact ⟨k + 1, p5, by omega, by go_num, rfl, zh (fun i hi => by
          by_cases e : i = k
          · subst e; exact HCC.out.symm
          · exact HC.out i (by omega))⟩
         case measure => simp [intOf]; omega
       · have t1 : ((c0 : Int) == 1) = false := by rw [beq_eq_false_iff_ne]; omega
         have hres : res = false := by
          rw [HRES.out]
          have e : mOnce ord j = false := by
           rw [Bool.eq_false_iff]
           intro e
           exact h1 (by rw [HCC.out]; exact (mOnce_iff.1 e).2 k hlt)
          rw [e, Bool.false_and]
         clear h1
         go_wp2
         go_ret
         exact ⟨by rw [hres]; rfl, z00 B1 _⟩
  · obtain rfl : k = m := by omega
    have hon : mOnce ord k = true := mOnce_iff.2 ⟨HML.out.symm, HC.out⟩
    obtain ⟨hKU, hKB⟩ := HGO.out hon
    have KU := zh hKU
    have KB := zh hKB
    have HR2 : Hid (res = (List.range N).all (fun j => decide ((ns.getD j nd0).1 = ld j))) := zh (by rw [HRES.out, hon, Bool.true_and])
    clear hKU hKB hon HRES HGO
    go_wp2
    go_loopw [8] (fun iv wr => ∃ (i : Nat) (q : BW W1), i ≤ N ∧ iv = .int .i64 i ∧ wr = q.w ∧ Hid (∀ j, j < i → (ns.getD j nd0).1 = ld j)) (fun iv _ => N - (intOf iv).toNat)
    case atStart => exact ⟨0, p3, by omega, rfl, rfl, zh (fun j hj => by omega)⟩
    case round =>
     obtain ⟨i, p5, hi, rfl, rfl, HE⟩ := hrel
     by_cases hlt2 : i < N
     · have hil : i < ns.length := by rw [← HNL.out]; exact hlt2
       obtain ⟨bb, off, hav, hbb, x0, x1, x2, x3, x4, x5, _, _, _⟩ := nodes_at (a := a) (n := N) (cap := cap) (ns := ns) HN.out hil
       subst hav
       have HD := zh (show ns.getD i nd0 = ns[i] from z0g hil)
       generalize ns[i] = nd at *
       clear hil
       obtain ⟨⟨⟨n1, n2, n3⟩, n4, n5, n6⟩, fi, cn, ri⟩ := nd
       dsimp only at x0 x1 x2 x3 x4 x5
       have KUi := zh (fun X hX => KU.out i X hX hlt2)
       have KBi := zh (fun X hX => KB.out i X hX hlt2)
       obtain ⟨lb, hlb⟩ := nmd (ld i)
       rw [← hlb] at KBi
       have HLB := zh hlb
       clear hlb KU KB
       obtain ⟨⟨b1, b2, b3⟩, b4, b5, b6⟩ := lb
       unfold bcells at KBi
       dsimp only at KBi
       generalize ou i = oi at *
       generalize lu i = li at *
       generalize cu i = ci at *
       have cz0 : ∀ p : BW W1, p.w.cell? ⟨bb, off + i * 9, none⟩ = some (.int .i64 n1) := bwB B1 x0 hbb
       have cz1 : ∀ p : BW W1, p.w.cell? ⟨bb, off + i * 9 + 1, none⟩ = some (.int .i64 n2) := bwB B1 x1 hbb
       have cz2 : ∀ p : BW W1, p.w.cell? ⟨bb, off + i * 9 + 2, none⟩ = some (.int .i64 n3) := bwB B1 x2 hbb
       have cz3 : ∀ p : BW W1, p.w.cell? ⟨bb, off + i * 9 + 3, none⟩ = some (.int .i64 n4) := bwB B1 x3 hbb
       have cz4 : ∀ p : BW W1, p.w.cell? ⟨bb, off + i * 9 + 4, none⟩ = some (.int .i64 n5) := bwB B1 x4 hbb
       have cz5 : ∀ p : BW W1, p.w.cell? ⟨bb, off + i * 9 + 5, none⟩ = some (.int .i64 n6) := bwB B1 x5 hbb
       by_cases h0 : n1 = b1
       rotate_left
       · have he : ¬ ((n1, n2, n3), n4, n5, n6) = ((b1, b2, b3), b4, b5, b6) := by
          intro e
          simp only [Prod.mk.injEq] at e
          omega
         have hres : res = false := by
          rw [HR2.out, List.all_eq_false]
          exact ⟨i, List.mem_range.2 hlt2, by rw [zf (by rw [HD.out, ← HLB.out]; exact he)]; simp⟩
         clear he
         go_upto_region 17 with (fail)
         go_region_held3 (fun w' => w'.cell? ⟨w.heap.size, 0, none⟩ = some (.slice (some ⟨bb, off, none⟩) N cap) ∧ w'.cell? ⟨w.heap.size, 1, none⟩ = some (.slice o k co) ∧ w'.cell? ⟨bb, off + i * 9, none⟩ = some (.int .i64 n1) ∧ w'.cell? ⟨bb, off + i * 9 + 1, none⟩ = some (.int .i64 n2) ∧ w'.cell? ⟨bb, off + i * 9 + 2, none⟩ = some (.int .i64 n3) ∧ w'.cell? ⟨bb, off + i * 9 + 3, none⟩ = some (.int .i64 n4) ∧ w'.cell? ⟨bb, off + i * 9 + 4, none⟩ = some (.int .i64 n5) ∧ w'.cell? ⟨bb, off + i * 9 + 5, none⟩ = some (.int .i64 n6)) (first | with_reducible exact ⟨ct0 _, ct1 _, cz0 _, cz1 _, cz2 _, cz3 _, cz4 _, cz5 _⟩ | exact ⟨ct0 p5, ct1 p5, cz0 p5, cz1 p5, cz2 p5, cz3 p5, cz4 p5, cz5 p5⟩ | go_keep)
          (first
           | (go_at_call 41; (refine (KUi.out _ (by first | exact z00 B1 _ | exact (z00 B1 _).drew)).mono ?_); rintro e w1 ⟨rfl, hb⟩; (first | obtain ⟨q, rfl⟩ := z08 hb | obtain ⟨q, rfl⟩ := z04 hb))
           | (go_at_call 40; (refine (KBi.out _ (by first | exact z00 B1 _ | exact (z00 B1 _).drew)).mono ?_); rintro e w1 ⟨b, c, rfl, KA, hb⟩; (first | obtain ⟨q, rfl⟩ := z08 hb | obtain ⟨q, rfl⟩ := z04 hb))
           | (go_at_call 39; (refine (KA.out _ (Below.refl _ _)).mono ?_); rintro e w1 ⟨rfl, hb⟩; (first | obtain ⟨q, rfl⟩ := z08 hb | obtain ⟨q, rfl⟩ := z04 hb)))
         all_goals (
          go_wp2
          go_ret
          exact ⟨by rw [hres]; rfl, z00 B1 _⟩)
       subst h0
       by_cases h1 : n2 = b2
       rotate_left
       · have he : ¬ ((n1, n2, n3), n4, n5, n6) = ((n1, b2, b3), b4, b5, b6) := by
          intro e
          simp only [Prod.mk.injEq] at e
          omega
         have hres : res = false := by
          rw [HR2.out, List.all_eq_false]
          exact ⟨i, List.mem_range.2 hlt2, by rw [zf (by rw [HD.out, ← HLB.out]; exact he)]; simp⟩
         clear he
         go_upto_region 17 with (fail)
         go_region_held3 (fun w' => w'.cell? ⟨w.heap.size, 0, none⟩ = some (.slice (some ⟨bb, off, none⟩) N cap) ∧ w'.cell? ⟨w.heap.size, 1, none⟩ = some (.slice o k co) ∧ w'.cell? ⟨bb, off + i * 9, none⟩ = some (.int .i64 n1) ∧ w'.cell? ⟨bb, off + i * 9 + 1, none⟩ = some (.int .i64 n2) ∧ w'.cell? ⟨bb, off + i * 9 + 2, none⟩ = some (.int .i64 n3) ∧ w'.cell? ⟨bb, off + i * 9 + 3, none⟩ = some (.int .i64 n4) ∧ w'.cell? ⟨bb, off + i * 9 + 4, none⟩ = some (.int .i64 n5) ∧ w'.cell? ⟨bb, off + i * 9 + 5, none⟩ = some (.int .i64 n6)) (first | with_reducible exact ⟨ct0 _, ct1 _, cz0 _, cz1 _, cz2 _, cz3 _, cz4 _, cz5 _⟩ | exact ⟨ct0 p5, ct1 p5, cz0 p5, cz1 p5, cz2 p5, cz3 p5, cz4 p5, cz5 p5⟩ | go_keep)
          (first
           | (go_at_call 41; (refine (KUi.out _ (by first | exact z00 B1 _ | exact (z00 B1 _).drew)).mono ?_); rintro e w1 ⟨rfl, hb⟩; (first | obtain ⟨q, rfl⟩ := z08 hb | obtain ⟨q, rfl⟩ := z04 hb))
           | (go_at_call 40; (refine (KBi.out _ (by first | exact z00 B1 _ | exact (z00 B1 _).drew)).mono ?_); rintro e w1 ⟨b, c, rfl, KA, hb⟩; (first | obtain ⟨q, rfl⟩ := z08 hb | obtain ⟨q, rfl⟩ := z04 hb))
           | (go_at_call 39; (refine (KA.out _ (Below.refl _ _)).mono ?_); rintro e w1 ⟨rfl, hb⟩; (first | obtain ⟨q, rfl⟩ := z08 hb | obtain ⟨q, rfl⟩ := z04 hb)))
         all_goals (
          go_wp2
          go_ret
          exact ⟨by rw [hres]; rfl, z00 B1 _⟩)
       subst h1
       by_cases h2 : n3 = b3
       rotate_left
       · have he : ¬ ((n1, n2, n3), n4, n5, n6) = ((n1, n2, b3), b4, b5, b6) := by
          intro e
          simp only [Prod.mk.injEq] at e
          omega
         have hres : res = false := by
          rw [HR2.out, List.all_eq_false]
          exact ⟨i, List.mem_range.2 hlt2, by rw [zf (by rw [HD.out, ← HLB.out]; exact he)]; simp⟩
         clear he
         go_upto_region 17 with (fail)
         go_region_held3 (fun w' => w'.cell? ⟨w.heap.size, 0, none⟩ = some (.slice (some ⟨bb, off, none⟩) N cap) ∧ w'.cell? ⟨w.heap.size, 1, none⟩ = some (.slice o k co) ∧ w'.cell? ⟨bb, off + i * 9, none⟩ = some (.int .i64 n1) ∧ w'.cell? ⟨bb, off + i * 9 + 1, none⟩ = some (.int .i64 n2) ∧ w'.cell? ⟨bb, off + i * 9 + 2, none⟩ = some (.int .i64 n3) ∧ w'.cell? ⟨bb, off + i * 9 + 3, none⟩ = some (.int .i64 n4) ∧ w'.cell? ⟨bb, off + i * 9 + 4, none⟩ = some (.int .i64 n5) ∧ w'.cell? ⟨bb, off + i * 9 + 5, none⟩ = some (.int .i64 n6)) (first | with_reducible exact ⟨ct0 _, ct1 _, cz0 _, cz1 _, cz2 _, cz3 _, cz4 _, cz5 _⟩ | exact ⟨ct0 p5, ct1 p5, cz0 p5, cz1 p5, cz2 p5, cz3 p5, cz4 p5, cz5 p5⟩ | go_keep)
          (first
           | (go_at_call 41; (refine (KUi.out _ (by first | exact z00 B1 _ | exact (z00 B1 _).drew)).mono ?_); rintro e w1 ⟨rfl, hb⟩; (first | obtain ⟨q, rfl⟩ := z08 hb | obtain ⟨q, rfl⟩ := z04 hb))
           | (go_at_call 40; (refine (KBi.out _ (by first | exact z00 B1 _ | exact (z00 B1 _).drew)).mono ?_); rintro e w1 ⟨b, c, rfl, KA, hb⟩; (first | obtain ⟨q, rfl⟩ := z08 hb | obtain ⟨q, rfl⟩ := z04 hb))
           | (go_at_call 39; (refine (KA.out _ (Below.refl _ _)).mono ?_); rintro e w1 ⟨rfl, hb⟩; (first | obtain ⟨q, rfl⟩ := z08 hb | obtain ⟨q, rfl⟩ := z04 hb)))
         all_goals (
          go_wp2
          go_ret
          exact ⟨by rw [hres]; rfl, z00 B1 _⟩)
       subst h2
       by_cases h3 : n4 = b4
       rotate_left
       · have he : ¬ ((n1, n2, n3), n4, n5, n6) = ((n1, n2, n3), b4, b5, b6) := by
          intro e
          simp only [Prod.mk.injEq] at e
          omega
         have hres : res = false := by
          rw [HR2.out, List.all_eq_false]
          exact ⟨i, List.mem_range.2 hlt2, by rw [zf (by rw [HD.out, ← HLB.out]; exact he)]; simp⟩
         clear he
         go_upto_region 17 with (fail)
         go_region_held3 (fun w' => w'.cell? ⟨w.heap.size, 0, none⟩ = some (.slice (some ⟨bb, off, none⟩) N cap) ∧ w'.cell? ⟨w.heap.size, 1, none⟩ = some (.slice o k co) ∧ w'.cell? ⟨bb, off + i * 9, none⟩ = some (.int .i64 n1) ∧ w'.cell? ⟨bb, off + i * 9 + 1, none⟩ = some (.int .i64 n2) ∧ w'.cell? ⟨bb, off + i * 9 + 2, none⟩ = some (.int .i64 n3) ∧ w'.cell? ⟨bb, off + i * 9 + 3, none⟩ = some (.int .i64 n4) ∧ w'.cell? ⟨bb, off + i * 9 + 4, none⟩ = some (.int .i64 n5) ∧ w'.cell? ⟨bb, off + i * 9 + 5, none⟩ = some (.int .i64 n6)) (first | with_reducible exact ⟨ct0 _, ct1 _, cz0 _, cz1 _, cz2 _, cz3 _, cz4 _, cz5 _⟩ | exact ⟨ct0 p5, ct1 p5, cz0 p5, cz1 p5, cz2 p5, cz3 p5, cz4 p5, cz5 p5⟩ | go_keep)
          (first
           | (go_at_call 41; (refine (KUi.out _ (by first | exact z00 B1 _ | exact (z00 B1 _).drew)).mono ?_); rintro e w1 ⟨rfl, hb⟩; (first | obtain ⟨q, rfl⟩ := z08 hb | obtain ⟨q, rfl⟩ := z04 hb))
           | (go_at_call 40; (refine (KBi.out _ (by first | exact z00 B1 _ | exact (z00 B1 _).drew)).mono ?_); rintro e w1 ⟨b, c, rfl, KA, hb⟩; (first | obtain ⟨q, rfl⟩ := z08 hb | obtain ⟨q, rfl⟩ := z04 hb))
           | (go_at_call 39; (refine (KA.out _ (Below.refl _ _)).mono ?_); rintro e w1 ⟨rfl, hb⟩; (first | obtain ⟨q, rfl⟩ := z08 hb | obtain ⟨q, rfl⟩ := z04 hb)))
         all_goals (
          go_wp2
          go_ret
          exact ⟨by rw [hres]; rfl, z00 B1 _⟩)
       subst h3
       by_cases h4 : n5 = b5
       rotate_left
       · have he : ¬ ((n1, n2, n3), n4, n5, n6) = ((n1, n2, n3), n4, b5, b6) := by
          intro e
          simp only [Prod.mk.injEq] at e
          omega
         have hres : res = false := by
          rw [HR2.out, List.all_eq_false]
          exact ⟨i, List.mem_range.2 hlt2, by rw [zf (by rw [HD.out, ← HLB.out]; exact he)]; simp⟩
         clear he
         go_upto_region 17 with (fail)
         go_region_held3 (fun w' => w'.cell? ⟨w.heap.size, 0, none⟩ = some (.slice (some ⟨bb, off, none⟩) N cap) ∧ w'.cell? ⟨w.heap.size, 1, none⟩ = some (.slice o k co) ∧ w'.cell? ⟨bb, off + i * 9, none⟩ = some (.int .i64 n1) ∧ w'.cell? ⟨bb, off + i * 9 + 1, none⟩ = some (.int .i64 n2) ∧ w'.cell? ⟨bb, off + i * 9 + 2, none⟩ = some (.int .i64 n3) ∧ w'.cell? ⟨bb, off + i * 9 + 3, none⟩ = some (.int .i64 n4) ∧ w'.cell? ⟨bb, off + i * 9 + 4, none⟩ = some (.int .i64 n5) ∧ w'.cell? ⟨bb, off + i * 9 + 5, none⟩ = some (.int .i64 n6)) (first | with_reducible exact ⟨ct0 _, ct1 _, cz0 _, cz1 _, cz2 _, cz3 _, cz4 _, cz5 _⟩ | exact ⟨ct0 p5, ct1 p5, cz0 p5, cz1 p5, cz2 p5, cz3 p5, cz4 p5, cz5 p5⟩ | go_keep)
          (first
           | (go_at_call 41; (refine (KUi.out _ (by first | exact z00 B1 _ | exact (z00 B1 _).drew)).mono ?_); rintro e w1 ⟨rfl, hb⟩; (first | obtain ⟨q, rfl⟩ := z08 hb | obtain ⟨q, rfl⟩ := z04 hb))
           | (go_at_call 40; (refine (KBi.out _ (by first | exact z00 B1 _ | exact (z00 B1 _).drew)).mono ?_); rintro e w1 ⟨b, c, rfl, KA, hb⟩; (first | obtain ⟨q, rfl⟩ := z08 hb | obtain ⟨q, rfl⟩ := z04 hb))
           | (go_at_call 39; (refine (KA.out _ (Below.refl _ _)).mono ?_); rintro e w1 ⟨rfl, hb⟩; (first | obtain ⟨q, rfl⟩ := z08 hb | obtain ⟨q, rfl⟩ := z04 hb)))
         all_goals (
          go_wp2
          go_ret
          exact ⟨by rw [hres]; rfl, z00 B1 _⟩)
       subst h4
       by_cases h5 : n6 = b6
       rotate_left
       · have he : ¬ ((n1, n2, n3), n4, n5, n6) = ((n1, n2, n3), n4, n5, b6) := by
          intro e
          simp only [Prod.mk.injEq] at e
          omega
         have hres : res = false := by
          rw [HR2.out, List.all_eq_false]
          exact ⟨i, List.mem_range.2 hlt2, by rw [zf (by rw [HD.out, ← HLB.out]; exact he)]; simp⟩
         clear he
         go_upto_region 17 with (fail)
         go_region_held3 (fun w' => w'.cell? ⟨w.heap.size, 0, none⟩ = some (.slice (some ⟨bb, off, none⟩) N cap) ∧ w'.cell? ⟨w.heap.size, 1, none⟩ = some (.slice o k co) ∧ w'.cell? ⟨bb, off + i * 9, none⟩ = some (.int .i64 n1) ∧ w'.cell? ⟨bb, off + i * 9 + 1, none⟩ = some (.int .i64 n2) ∧ w'.cell? ⟨bb, off + i * 9 + 2, none⟩ = some (.int .i64 n3) ∧ w'.cell? ⟨bb, off + i * 9 + 3, none⟩ = some (.int .i64 n4) ∧ w'.cell? ⟨bb, off + i * 9 + 4, none⟩ = some (.int .i64 n5) ∧ w'.cell? ⟨bb, off + i * 9 + 5, none⟩ = some (.int .i64 n6)) (first | with_reducible exact ⟨ct0 _, ct1 _, cz0 _, cz1 _, cz2 _, cz3 _, cz4 _, cz5 _⟩ | exact ⟨ct0 p5, ct1 p5, cz0 p5, cz1 p5, cz2 p5, cz3 p5, cz4 p5, cz5 p5⟩ | go_keep)
          (first
           | (go_at_call 41; (refine (KUi.out _ (by first | exact z00 B1 _ | exact (z00 B1 _).drew)).mono ?_); rintro e w1 ⟨rfl, hb⟩; (first | obtain ⟨q, rfl⟩ := z08 hb | obtain ⟨q, rfl⟩ := z04 hb))
           | (go_at_call 40; (refine (KBi.out _ (by first | exact z00 B1 _ | exact (z00 B1 _).drew)).mono ?_); rintro e w1 ⟨b, c, rfl, KA, hb⟩; (first | obtain ⟨q, rfl⟩ := z08 hb | obtain ⟨q, rfl⟩ := z04 hb))
           | (go_at_call 39; (refine (KA.out _ (Below.refl _ _)).mono ?_); rintro e w1 ⟨rfl, hb⟩; (first | obtain ⟨q, rfl⟩ := z08 hb | obtain ⟨q, rfl⟩ := z04 hb)))
         all_goals (
          go_wp2
          go_ret
          exact ⟨by rw [hres]; rfl, z00 B1 _⟩)
       subst h5
       go_upto_region 17 with (fail)
       go_region_held3 (fun w' => w'.cell? ⟨w.heap.size, 0, none⟩ = some (.slice (some ⟨bb, off, none⟩) N cap) ∧ w'.cell? ⟨w.heap.size, 1, none⟩ = some (.slice o k co) ∧ w'.cell? ⟨bb, off + i * 9, none⟩ = some (.int .i64 n1) ∧ w'.cell? ⟨bb, off + i * 9 + 1, none⟩ = some (.int .i64 n2) ∧ w'.cell? ⟨bb, off + i * 9 + 2, none⟩ = some (.int .i64 n3) ∧ w'.cell? ⟨bb, off + i * 9 + 3, none⟩ = some (.int .i64 n4) ∧ w'.cell? ⟨bb, off + i * 9 + 4, none⟩ = some (.int .i64 n5) ∧ w'.cell? ⟨bb, off + i * 9 + 5, none⟩ = some (.int .i64 n6)) (first | with_reducible exact ⟨ct0 _, ct1 _, cz0 _, cz1 _, cz2 _, cz3 _, cz4 _, cz5 _⟩ | exact ⟨ct0 p5, ct1 p5, cz0 p5, cz1 p5, cz2 p5, cz3 p5, cz4 p5, cz5 p5⟩ | go_keep)
        (first
         | (go_at_call 41; (refine (KUi.out _ (by first | exact z00 B1 _ | exact (z00 B1 _).drew)).mono ?_); rintro e w1 ⟨rfl, hb⟩; (first | obtain ⟨q, rfl⟩ := z08 hb | obtain ⟨q, rfl⟩ := z04 hb))
         | (go_at_call 40; (refine (KBi.out _ (by first | exact z00 B1 _ | exact (z00 B1 _).drew)).mono ?_); rintro e w1 ⟨b, c, rfl, KA, hb⟩; (first | obtain ⟨q, rfl⟩ := z08 hb | obtain ⟨q, rfl⟩ := z04 hb))
         | (go_at_call 39; (refine (KA.out _ (Below.refl _ _)).mono ?_); rintro e w1 ⟨rfl, hb⟩; (first | obtain ⟨q, rfl⟩ := z08 hb | obtain ⟨q, rfl⟩ := z04 hb)))
       all_goals (
        go_wp2
        go_roundw
        case rel => exact ⟨i + 1, _, by omega, by go_num, rfl, zh (fun j hj => by
         by_cases e : j = i
         · subst e; rw [HD.out, ← HLB.out]
         · exact HE.out j (by omega))⟩
        case measure => simp [intOf]; omega)
     · obtain rfl : i = N := by omega
       have hres : res = true := by
        rw [HR2.out, List.all_eq_true]
        exact fun j hj => zt (HE.out j (List.mem_range.1 hj))
       go_wp2
       go_ret
       exact ⟨by rw [hres]; rfl, z00 B1 _⟩
theorem mBoxes_all (ns : List Nd) (P : Nat → Pr) (ord : List Int) (N : Nat) : mBoxes ns P ord N = (List.range N).all (fun j => decide ((ns.getD j nd0).1 = mAt P ord (mFrom ns j) (mThing ns ord.length j))) := by
 rw [Bool.eq_iff_iff, mBoxes_iff, List.all_eq_true]
 constructor
 · intro h j hj
   exact zt (h j (List.mem_range.1 hj))
 · intro h j hj
   exact of_decide_eq_true (h j (List.mem_range.2 hj))
theorem ref16_Whole (tv : Value) (ns : List Nd) (o : Option Addr) (ord : List Int) (co : Nat) (lp : Option Addr) (n lc : Nat) (P : Nat → Pr) (w : World) (hN : Nodes w tv ns) (ho : IntSlice w o ord.length (fun i => ord.getD i 0)) (hs : Prims w (.slice lp n lc) n P) (hco : ord.length ≤ co) (hns : ns.length ≤ 1048576) (hm : ord.length ≤ 1024) (hn : n ≤ 1000000) :
  Rt prog 18 #[.agg #[tv, .slice o ord.length co], .slice lp n lc] w (.bool (mWh ns P ord n)) := by
 have KO := fun X (hX : Below w.heap.size w X) => ref16_Ordered ns tv o ord.length co (by omega) hns X (hN.below hX (Nat.le_refl _))
 have KR := fun X (hX : Below w.heap.size w X) => z17 (.slice lp n lc) n P X (hs.below hX (Nat.le_refl _)) hn
 have hN0 := hN
 obtain ⟨av, cv, rfl⟩ := nodes_val hN
 unfold mWh
 cases ho2 : (mWhole ns ord.length).2.2.2.2 with
 | false =>
  rw [Bool.false_and]
  exact rwhole_wild av o lp ns.length cv ord.length co n lc w (zh fun X hX => (KO X hX).mono fun e w' ⟨h1, h2⟩ => ⟨by rw [h1, ho2], h2⟩)
 | true =>
  have KO1 : Hid (∀ X, Below w.heap.size w X → Rt prog 38 #[.agg #[.slice av ns.length cv, .slice o ord.length co]] X (.bool true)) :=
   zh fun X hX => (KO X hX).mono fun e w' ⟨h1, h2⟩ => ⟨by rw [h1, ho2], h2⟩
  cases hp : pAll P n with
  | false =>
   rw [Bool.false_and, Bool.and_false]
   exact rwhole_bad av o lp ns.length cv ord.length co n lc w KO1 (zh fun X hX => (KR X hX).mono fun e w' ⟨h1, h2⟩ => ⟨by rw [h1, hp], h2⟩)
  | true =>
   have KR1 : Hid (∀ X, Below w.heap.size w X → Rt prog 6 #[.slice lp n lc] X (.bool true)) :=
    zh fun X hX => (KR X hX).mono fun e w' ⟨h1, h2⟩ => ⟨by rw [h1, hp], h2⟩
   rw [Bool.true_and, Bool.true_and]
   by_cases hl : ord.length = n
   · rw [mBoxes_all]
     refine rwhole_go av o lp ns.length cv ord.length co n lc ns ord (fun j => o.map (fun ad => ⟨ad.block, ad.off + (mFrom ns j).toNat, none⟩)) (fun j => (mThing ns ord.length j - mFrom ns j).toNat) (fun j => co - (mFrom ns j).toNat) (fun j => mAt P ord (mFrom ns j) (mThing ns ord.length j)) w rfl hN rfl ho hns hm hl KO1 KR1 (fun hon => ⟨fun j X hX hj => ?_, fun j X hX hj => ?_⟩)
     · have hin := mPart_in (whole_each ho2 hj)
       have h0 := mFrom_nonneg ho2 j (by omega)
       obtain ⟨bo, oo, rfl, _, _⟩ := ho.resolve_left (by omega)
       exact ref16_under (.slice av ns.length cv) ns bo oo ord.length co j X (hN0.below hX (Nat.le_refl _)) ho2 hj hns (by omega) hco
     · have hin := mPart_in (whole_each ho2 hj)
       have h0 := mFrom_nonneg ho2 j (by omega)
       have hth : mThing ns ord.length j = (mPart ns ord.length j (mFrom ns j)).2.1 := rfl
       obtain ⟨bo, oo, rfl, hoc, hob⟩ := ho.resolve_left (by omega)
       have hl0 : 0 < (mThing ns ord.length j - mFrom ns j).toNat := by omega
       have hl1 : (mFrom ns j).toNat + (mThing ns ord.length j - mFrom ns j).toNat ≤ ord.length := by omega
       refine (ref16_boxes lp (some ⟨bo, oo + (mFrom ns j).toNat, none⟩) n lc (mThing ns ord.length j - mFrom ns j).toNat (co - (mFrom ns j).toNat) P (fun k => ord.getD ((mFrom ns j).toNat + k) 0) X (hs.below hX (Nat.le_refl _)) (.inr ⟨bo, oo + (mFrom ns j).toNat, rfl, fun k hk => ?_, zl hob hX.size⟩) (fun k hk => mOnce_in hon _ (by omega)) (by omega)).mono fun e w' h => ?_
       · have h := hoc ((mFrom ns j).toNat + k) (by omega)
         rw [Nat.add_assoc]
         exact ⟨(hX.cell (p := ⟨bo, oo + ((mFrom ns j).toNat + k), none⟩) hob).trans h.1, h.2⟩
       · obtain ⟨u, rfl, hu, hB⟩ := h
         obtain ⟨_, b, c, rfl⟩ := rboxrow_boxes hu (by omega)
         refine ⟨b, c, rfl, zh fun Y hY => ?_, hB⟩
         obtain ⟨hbx, _⟩ := rboxrow_boxes (hu.below hY) (by omega)
         exact ref16_all b _ c (fun k => pBox (P (ord.getD ((mFrom ns j).toNat + k) 0).toNat)) Y hbx hl0 (by omega)
   · have e : mOnce ord n = false := by unfold mOnce; rw [zf hl, Bool.false_and]
     rw [e, Bool.false_and]
     exact rwhole_size av o lp ns.length cv ord.length co n lc w KO1 KR1 hl
end
end Go.Proofs.YtbmpmjdlaahekaaGreat
