/- Contracts of package walk: the iterator over what is examined. -/
import Derived.Test.YtbmpmjdlaahekaaGreatWs29
import Derived.Test.YtbmpmjdlaahekaaGreatWs35
set_option maxRecDepth 100000
set_option maxHeartbeats 8000000
set_option linter.unusedVariables false
set_option linter.unusedSimpArgs false
open Go.Proofs.Tryz
namespace Go.Proofs.YtbmpmjdlaahekaaGreat
section
open Go.RowKit Go.Shelf Go.Proofs.Sky
theorem ints_keeps {X Y : World} {B : Nat} {v : Value} {l : List Nat} (h : Ints X B v l) (hk : KeepsBut B none X Y) : Ints Y B v l := by
 obtain ⟨hl, h⟩ := h
 refine ⟨hl, ?_⟩
 rcases h with h | ⟨g, cap, cur, e1, hB, hg, rest⟩
 · exact .inl h
 · exact .inr ⟨g, cap, cur, e1, hB, hk.2 g _ hB (fun e => by cases e) hg, rest⟩
theorem stack_top {w : World} {B : Nat} {u : Value} {a : Nat} {st : List Nat} (h : Ints w B u (a :: st).reverse) : ∃ g cap, u = .slice (some ⟨g, 0, none⟩) (st.length + 1) cap ∧ B ≤ g ∧ g < w.heap.size ∧ st.length + 1 ≤ cap ∧ w.cell? ⟨g, st.length, none⟩ = some (.int .i64 (a : Int)) ∧ Ints w B (.slice (some ⟨g, 0, none⟩) st.length cap) st.reverse := by
 unfold Ints at h
 rw [List.length_reverse, List.length_cons] at h
 obtain ⟨g, cap, rfl, hB, hg, hc⟩ := z1a h (by omega)
 have e : ((a :: st).reverse.map (fun k : Nat => Value.int .i64 (k : Int))) = (a :: st).reverse.flatMap (fun k : Nat => [Value.int .i64 (k : Int)]) := by
  rw [List.flatMap_def]; induction (a :: st).reverse with
  | nil => rfl
  | cons x l ih => simp only [List.map_cons, List.flatten_cons, ih]; rfl
 refine ⟨g, cap, rfl, hB, hg, hc, ?_, ?_⟩
 · have h2 := h
   rw [e] at h2
   have := owns_at (f := fun k : Nat => [Value.int .i64 (k : Int)]) (l := (a :: st).reverse) (i := st.length) (j := 0) (fun _ => rfl) h2 (by simp) (by decide)
   simpa using this
 · have := owns_take h (m := st.length) (by omega)
   unfold Ints
   rw [List.length_reverse]
   have e2 : ((a :: st).reverse.map (fun k : Nat => Value.int .i64 (k : Int))).take (st.length * 1) = st.reverse.map (fun k : Nat => Value.int .i64 (k : Int)) := by
    rw [List.reverse_cons, List.map_append, List.take_append_of_le_length (by simp), List.take_of_length_le (by simp)]
   rw [e2] at this
   exact this
theorem walk_things (bo oo m co f c : Nat) (b1 b2 b3 b4 b5 b6 r : Int) (w : World) (h : f + c ≤ m) (h0 : 0 < c) (hm : m ≤ 1048576) (hc : m ≤ co) :
  Rt prog 84 #[.slice (some ⟨bo, oo, none⟩) m co, .agg #[b1, b2, b3, b4, b5, b6, .int .i64 (f : Int), .int .i64 (c : Int), r]] w (.slice (some ⟨bo, oo + f, none⟩) c (co - f)) := by
 have h1 : f < co := by omega
 have t1 : decide ((f : Int) < 0) = false := zf (by omega)
 have t2 : decide ((c : Int) < 0) = false := zf (by omega)
 have t3 : decide ((m : Int) - (f : Int) < (c : Int)) = false := zf (by omega)
 go_enter func84, ntmps84
 go_upto_region 1 with (fail)
 refine wst1 fun W1 kn B1 => ?_
 have cn := bwc9 kn
 refine bws fun p1 => ?_
 have e : f + c - f = c := by omega
 go_wp2
 go_ret
 exact ⟨by show Ending.returned (Value.slice (some ⟨bo, oo + f, none⟩) (f + c - f) (co - f)) = _; rw [e], z00 B1 _⟩
theorem walk_examined (a o : Option Addr) (N cap m co : Nat) (o1 o2 o3 d1 d2 d3 fr : Int) (lf : FuncId) (lb : Array Value) (w : World) :
  Calls prog 53 #[.agg #[.slice a N cap, .slice o m co], .agg #[o1, o2, o3, d1, d2, d3, fr], .func (.func lf) #[] lb] w fun e w' => ∃ gr gt gl, e = .returned (.func (.func 83) #[] #[.pointer (some ⟨gr, 0, none⟩), .pointer (some ⟨gt, 0, none⟩), .pointer (some ⟨gl, 0, none⟩)]) ∧
   Bk w' gr 26 #[o1, o2, o3, d1, d2, d3, fr] ∧ Bk w' gt 35 #[.slice a N cap, .slice o m co] ∧ Bk w' gl 68 #[.func (.func lf) #[] lb] ∧ (w.heap.size ≤ gr ∧ w.heap.size ≤ gt ∧ w.heap.size ≤ gl) ∧ Below w.heap.size w w' := by
 have hmf : ∀ (fn : Fn) (first cap : Array Value) (w : World), (Instr.makeFunc fn first cap).run prog w = .ok (.func fn first cap) w := fun _ _ _ _ => rfl
 go_enter func53, ntmps53
 go_wp2
 go_ret
 refine ⟨_, _, _, rfl, ?_, ((Bk.new _ _ _).alloc _).alloc _, ?_, by simp; omega, (((Below.refl _ _).alloc (Nat.le_refl _) _).alloc (by simp) _).alloc (by simp; omega) _⟩
 · exact Bk.alloc (by have := Bk.new (w.alloc (.cells #[.slice a N cap, .slice o m co] 35)) #[o1, o2, o3, d1, d2, d3, fr] 26; simpa using this) _
 · have := Bk.new ((w.alloc (.cells #[.slice a N cap, .slice o m co] 35)).alloc (.cells #[o1, o2, o3, d1, d2, d3, fr] 26)) #[.func (.func lf) #[] lb] 68; simpa using this
abbrev Wh := Option Addr × Nat × Nat × (Nat → Int)
section
attribute [local go_sem] Oper.semAt_some
theorem examined_gives (gr gt gl : Nat) (a o : Option Addr) (N cap m co : Nat) (ns : List Nd) (ord : List Int) (P : Nat → Pr) (n : Nat) (o1 o2 o3 d1 d2 d3 fr : Int) (lf : FuncId) (lb : Array Value) (lim : List H3 → Int × Int) (w : World)
  (hw : mWh ns P ord n = true) (hNl : N = ns.length) (hN : Nodes w (.slice a N cap) ns) (hm : m = ord.length) (ho : IntSlice w o m (fun i => ord.getD i 0)) (hmc : m ≤ co) (hns : N ≤ 1048576) (hmm : m ≤ 1000) (hf : I64 fr)
  (eg : ∀ args w, (callFunc lf args).run prog w = .ok (.enter lf args) w) :
  GivesBy prog 83 #[.pointer (some ⟨gr, 0, none⟩), .pointer (some ⟨gt, 0, none⟩), .pointer (some ⟨gl, 0, none⟩)] (fun x : Wh => #[.slice x.1 x.2.1 x.2.2.1])
   (fun s X => Below w.heap.size w X ∧ (Bk X gr 26 #[o1, o2, o3, d1, d2, d3, fr] ∧ Bk X gt 35 #[.slice a N cap, .slice o m co] ∧ Bk X gl 68 #[.func (.func lf) #[] lb]) ∧ (I64 (lim s).1 ∧ I64 (lim s).2) ∧ ∀ Y, Below X.heap.size X Y → Calls prog lf lb Y fun e w' => e = .returned (.agg #[(lim s).1, (lim s).2]) ∧ Below Y.heap.size Y w')
   (fun s x W1 => IntSlice W1 x.1 x.2.1 x.2.2.2 ∧ x.2.1 ≤ 1000) (fun s x => s ++ amL P n x.2.2.2 x.2.1 (o1, o2, o3) (d1, d2, d3) fr) (AllCov P n (o1, o2, o3) (d1, d2, d3) fr lim) [] := fun l J Jx W hJ hJx hB hY h0 => by
 have cr6 : W.cell? ⟨gr, 6, none⟩ = some (.int .i64 fr) := (hB _ _ h0).2.1.1.cell rfl
 refine callsIn_of_wp func83 rfl trivial ?_ rfl
 simp only [ntmps83, List.size_toArray, List.length_cons, List.length_nil, Nat.reduceAdd, Nat.reduceSub, Array.replicate_succ, Array.replicate_zero, List.push_toArray, List.append_toArray, List.nil_append, List.cons_append]
 have HY := zh hY
 have HB := zh hB
 have HJ := zh hJ
 have HJx := zh hJx
 have HNL := zh hNl
 have HML := zh hm
 clear hY hB hJ hJx hNl hm
 refine wpIn_wide.2 ?_
 go_step3
 refine (wpIn_wide (n := 0)).1 ?_
 obtain ⟨W1, hW1⟩ : ∃ W1, W1 = W.alloc (.cells #[fr] 3) := ⟨_, rfl⟩
 have kf : Bk W1 W.heap.size 3 #[fr] := by rw [hW1]; exact Bk.new _ _ _
 have hb1 : Below W.heap.size W W1 := by rw [hW1]; exact (Below.refl _ _).alloc (Nat.le_refl _) _
 have h1 := HJ.out _ _ _ h0 hb1
 have hs1 : IntSlice W1 (some ⟨W.heap.size, 0, none⟩) 1 (fun _ => fr) := .inr ⟨W.heap.size, 0, rfl, fun k hk => by
  obtain rfl : k = 0 := by omega
  exact ⟨kf.cell rfl, hf⟩, kf.lt⟩
 obtain ⟨fn, tmps, assign, body, hy, hR⟩ := HY.out [] (some ⟨W.heap.size, 0, none⟩, 1, 1, fun _ => fr) W1 ⟨hs1, by show 1 ≤ 1000; omega⟩ h1
 rw [hW1] at hy hR
 have HB1 := zh hb1
 rw [hW1] at HB1
 clear hb1 kf h1 hW1 hs1
 gi_wp2
 refine ⟨rfl, hR.mono ?_⟩
 clear hy hR HB1
 rintro e W3 ⟨hk3, (⟨rfl, hj3⟩ | ⟨rfl, hj3⟩)⟩
 · have HW := zh (winv_start (s := amL P n (fun _ => fr) 1 (o1, o2, o3) (d1, d2, d3) fr) (lim := lim) hw (fun k e hk => by have := amL_cov (P := P) (Z := fun _ : Nat => fr) (m := 1) (o := (o1, o2, o3)) (d := (d1, d2, d3)) (fr := fr) (lim := lim) (s := []) hk ⟨0, by omega, e.symm⟩; exact this))
   have hsz3 : W.heap.size ≤ W3.heap.size := by have := hk3.1; simp at this; omega
   have HN0 := zh hN
   have HO0 := zh ho
   clear hN ho hf cr6 hk3 h0
   gi_wp2
   obtain ⟨W4, hW4⟩ : ∃ W4, W4 = W3.alloc (.cells #[.int .i64 0] 3) := ⟨_, rfl⟩
   have ks : Bk W4 W3.heap.size 3 #[.int .i64 0] := by rw [hW4]; exact Bk.new _ _ _
   have hj4 := HJ.out _ _ _ hj3 (z0s (W := W3) (.cells #[.int .i64 0] 3) hsz3)
   rw [← hW4] at hj4
   rw [← hW4]
   have hu : Ints W4 W.heap.size (.slice (some ⟨W3.heap.size, 0, none⟩) 1 1) [0] := ⟨rfl, .inr ⟨W3.heap.size, 1, #[.int .i64 0], rfl, hsz3, ks, Nat.le_refl _, by unfold maxLen; omega, rfl, rfl⟩⟩
   clear hW4 ks hj3
   refine wpIn_wide.2 ?_
   go_step3
   go_wp2
   refine wpIn_wide.2 ?_
   go_wp2
   go_loopw [5, 6] (fun v u wr => ∃ (st : List Nat) (vn : Nat) (s : List H3), v = .int .i64 (vn : Int) ∧ Ints wr W.heap.size u st.reverse ∧ J s wr ∧ Hid (WInv ns ord P n (o1, o2, o3) (d1, d2, d3) fr lim st vn s) ∧ vn ≤ N ∧ Hid (st.length ≤ vn + 1 ∧ ∀ k ∈ st, k ≤ 1048576)) (fun v _ _ => N - (intOf v).toNat)
   case atStart => exact ⟨[0], 0, _, rfl, hu, hj4, HW, Nat.zero_le _, zh ⟨by simp, fun k hk => by simp at hk; omega⟩⟩
   case round =>
    clear hu hj4 HW hsz3
    obtain ⟨st, vn, s, rfl, hu, hj, HW, hvn, HS⟩ := hrel
    cases st with
    | nil =>
     obtain ⟨au, cu, hu0⟩ := z0d hu
     simp only [List.reverse_nil, List.length_nil] at hu0
     subst hu0
     have HE := winv_end hw HW.out
     clear hu
     go_wp2
     rw [Exit.noGoto_normal]
     go_end0
     exact ⟨⟨_, rfl⟩, .inl ⟨s, HE, hj⟩⟩
    | cons pl st =>
     obtain ⟨g, cap2, rfl, hgB, hgl, hcap, hp, htl⟩ := stack_top hu
     have hsl := HS.out.1
     rw [List.length_cons] at hsl
     have HSK := zh HS.out.2
     have hpl : pl ≤ 1048576 := HSK.out pl List.mem_cons_self
     clear hu
     obtain ⟨L, hL⟩ := nmd (st.length)
     rw [← hL] at hp hcap htl hsl ⊢
     have HLL := zh hL
     clear hL HS
     obtain ⟨hBw, ⟨kr0, kt0, kl0⟩, ⟨hl1, hl2⟩, hlc⟩ := HB.out s wr hj
     have HLC := zh hlc
     clear hlc kr0 kl0
     have ct0 : wr.cell? ⟨gt, 0, none⟩ = some (.slice a N cap) := kt0.cell rfl
     clear kt0
     by_cases hlt : pl < vn
     · have t1 : decide ((pl : Int) < (vn : Int)) = true := zt (by omega)
       have HE := winv_break HW.out (.inl hlt)
       go_wp2
       rw [Exit.noGoto_normal]
       go_end0
       exact ⟨⟨_, rfl⟩, .inl ⟨s, HE, hj⟩⟩
     have t1 : decide ((pl : Int) < (vn : Int)) = false := zf (by omega)
     by_cases hge : N ≤ pl
     · have t2 : decide ((N : Int) ≤ (pl : Int)) = true := zt (by omega)
       have HE := winv_break HW.out (.inr (by rw [← HNL.out]; exact hge))
       go_wp2
       rw [Exit.noGoto_normal]
       go_end0
       exact ⟨⟨_, rfl⟩, .inl ⟨s, HE, hj⟩⟩
     have t2 : decide ((N : Int) ≤ (pl : Int)) = false := zf (by omega)
     have hpn : pl < ns.length := by rw [← HNL.out]; omega
     obtain ⟨an, capn, ean, hmx, hcell⟩ := HN0.out
     rw [← HNL.out] at ean
     cases ean
     obtain ⟨bb, off, rfl, hbb, hc⟩ := hcell.resolve_left (by rw [← HNL.out]; omega)
     have hx := hc pl hpn
     have x0 : wr.cell? ⟨bb, off + pl * 9, none⟩ = some (.int .i64 ns[pl].1.1.1) := (hBw.cell (p := ⟨bb, off + pl * 9, none⟩) hbb).trans (hx 0 (by omega))
     have x1 : wr.cell? ⟨bb, off + pl * 9 + 1, none⟩ = some (.int .i64 ns[pl].1.1.2.1) := (hBw.cell (p := ⟨bb, off + pl * 9 + 1, none⟩) hbb).trans (hx 1 (by omega))
     have x2 : wr.cell? ⟨bb, off + pl * 9 + 2, none⟩ = some (.int .i64 ns[pl].1.1.2.2) := (hBw.cell (p := ⟨bb, off + pl * 9 + 2, none⟩) hbb).trans (hx 2 (by omega))
     have x3 : wr.cell? ⟨bb, off + pl * 9 + 3, none⟩ = some (.int .i64 ns[pl].1.2.1) := (hBw.cell (p := ⟨bb, off + pl * 9 + 3, none⟩) hbb).trans (hx 3 (by omega))
     have x4 : wr.cell? ⟨bb, off + pl * 9 + 4, none⟩ = some (.int .i64 ns[pl].1.2.2.1) := (hBw.cell (p := ⟨bb, off + pl * 9 + 4, none⟩) hbb).trans (hx 4 (by omega))
     have x5 : wr.cell? ⟨bb, off + pl * 9 + 5, none⟩ = some (.int .i64 ns[pl].1.2.2.2) := (hBw.cell (p := ⟨bb, off + pl * 9 + 5, none⟩) hbb).trans (hx 5 (by omega))
     have x6 : wr.cell? ⟨bb, off + pl * 9 + 6, none⟩ = some (.int .i64 ns[pl].2.1) := (hBw.cell (p := ⟨bb, off + pl * 9 + 6, none⟩) hbb).trans (hx 6 (by omega))
     have x7 : wr.cell? ⟨bb, off + pl * 9 + 7, none⟩ = some (.int .i64 ns[pl].2.2.1) := (hBw.cell (p := ⟨bb, off + pl * 9 + 7, none⟩) hbb).trans (hx 7 (by omega))
     have x8 : wr.cell? ⟨bb, off + pl * 9 + 8, none⟩ = some (.int .i64 ns[pl].2.2.2) := (hBw.cell (p := ⟨bb, off + pl * 9 + 8, none⟩) hbb).trans (hx 8 (by omega))
     have HTP := winv_top HW.out hpn
     have HLF := zh (winv_leaf hw HW.out hpn)
     have HPR := zh (winv_prune hw HW.out hpn)
     have htp1 := HTP.1
     rw [← HML.out] at htp1
     have HTN := zh HTP.2
     clear hx hc HTP hcell
     obtain ⟨nd, hnd⟩ := nmd (ns[pl])
     rw [← hnd] at x0 x1 x2 x3 x4 x5 x6 x7 x8 htp1 HTN HLF HPR
     have HND := zh hnd
     clear hnd
     obtain ⟨⟨⟨n1, n2, n3⟩, n4, n5, n6⟩, fi, cn, ri⟩ := nd
     dsimp only at x0 x1 x2 x3 x4 x5 x6 x7 x8 htp1 HTN HLF HPR
     have KB := zh (fun w => box_Hit n1 n2 n3 n4 n5 n6 o1 o2 o3 d1 d2 d3 fr (lim s).1 (lim s).2 w hl1 hl2)
     obtain ⟨⟨x, y⟩, hxy⟩ : ∃ z, z = lim s := ⟨_, rfl⟩
     rw [← hxy] at KB HLC HPR
     have HXY := zh hxy
     dsimp only at KB HLC HPR
     clear hl1 hl2 hxy
     obtain ⟨bt, hbt⟩ := nmd (bHit ((n1, n2, n3), n4, n5, n6) (o1, o2, o3) (d1, d2, d3) x y)
     rw [← hbt] at KB HPR
     clear hbt
     go_upto_region 9 with (fail)
     have hszr : W.heap.size ≤ wr.heap.size := by omega
     obtain ⟨W5, hW5⟩ : ∃ W5, W5 = wr.alloc (.cells #[n1, n2, n3, n4, n5, n6, fi, cn, ri] 66) := ⟨_, rfl⟩
     have kn : Bk W5 wr.heap.size 66 #[n1, n2, n3, n4, n5, n6, fi, cn, ri] := bkn hW5
     have hj5 : J s W5 := by rw [hW5]; exact HJ.out _ _ _ hj (z0s _ hszr)
     have ht5 : Ints W5 W.heap.size (.slice (some ⟨g, 0, none⟩) L cap2) st.reverse := ints_alloc hW5 htl
     have hsz5 : wr.heap.size < W5.heap.size := by rw [hW5]; simp
     rw [← hW5]
     clear hW5 hj htl x0 x1 x2 x3 x4 x5 x6 x7 x8 hp ct0 HLC hBw hgl
     generalize wr.heap.size = gn at *
     obtain ⟨hB5, ⟨kr, kt, kl⟩, _, hlc⟩ := HB.out s W5 hj5
     rw [← HXY.out] at hlc
     dsimp only at hlc
     have KL := zh hlc
     clear hlc
     have c_n := bwc9 kn
     have cr := bwc7 kr
     have ct := bwc2 kt
     have cl0 := bwc1 kl
     obtain ⟨p1, hp1⟩ := bwx W5
     rw [← hp1]
     clear hp1
     refine z03 (by kernel_rfl) (by kernel_rfl) ?_
     repeat (go_big_quiet_step (first
      | (go_at_call 36; (with_reducible exact z02 KB.out _))
      | (with_reducible exact (z0c KL.out (Below.refl _ _) _))))
     refine wpQuiet_nil ?_
     intro _ hw'
     obtain ⟨q, rfl⟩ := hw'
     have hj6 : J s q.w := HJ.out _ _ _ hj5 (q.h.mono (by omega))
     have ht6 := ht5.below q.h
     have hsz6 : W.heap.size ≤ q.w.heap.size := by have := q.h.size; omega
     cases bt with
     | false =>
      have HW2 := zh (HPR.out rfl)
      go_wp2
      go_roundw
      case rel => exact ⟨st, pl + 1, s, by simp, ht6, hj6, HW2, by omega, zh ⟨by rw [← HLL.out]; omega, fun k hk => HSK.out k (List.mem_cons_of_mem _ hk)⟩⟩
      case measure => simp [intOf]; omega
     | true =>
      by_cases hcn : cn = 0
      · subst hcn
        obtain ⟨hr1, hr2, hw3⟩ := HTN.out rfl
        rw [← HNL.out] at hr2
        have HW2 := zh hw3
        obtain ⟨rn, rfl⟩ : ∃ rn : Nat, ri = rn := ⟨ri.toNat, by omega⟩
        obtain ⟨i1, hi1, hy0, hy1, hy2⟩ := info_parts z1i
        clear hw3 htp1
        go_upto_region 11 with (fail)
        have hLn : L ≤ 1048576 := by omega
        go_wp2_with (at_builtin; refine z06 rfl _ _ 33 rfl W.heap.size 3 i1 (.int .i64 0) 1 8 Tryz.underlying33 hi1 hy0 hy1 hy2 rfl (by decide) _ L (st.reverse.map (fun k : Nat => Value.int .i64 (k : Int))) rfl (World.ownsRow.alloc (by have h := ht6; unfold Ints at h; rw [List.length_reverse, ← HLL.out] at h; exact h) _) ⟨_, 0, none⟩ 2 2 [.int .i64 (rn : Int), .int .i64 ((pl : Int) + 1)] rfl rfl ?g1 ?g2 ?g3 ?g4 ?g5 ?_)
        case g2 => exact ⟨rfl, rfl⟩
        case g3 => unfold maxLen; omega
        case g4 => omega
        case g5 => omega
        intro v' w1 hown hgrow hat
        have hb7 : Below W.heap.size q.w w1 := ((Below.refl _ _).alloc hsz6 _).grown hgrow (by simp; omega) (fun j ej => by cases ej; exact hgB)
        have hj7 := HJ.out _ _ _ hj6 hb7
        have hrow : Ints w1 W.heap.size v' ((pl + 1) :: rn :: st).reverse := by
         unfold Ints
         rw [List.length_reverse, List.length_cons, List.length_cons, ← HLL.out, List.reverse_cons, List.reverse_cons, List.append_assoc, List.map_append]
         rw [show (pl : Int) + 1 = ((pl + 1 : Nat) : Int) by omega, ← List.map_reverse] at hown
         exact hown
        go_wp2
        go_roundw
        case rel => exact ⟨(pl + 1) :: rn :: st, pl + 1, s, by simp, hrow, hj7, HW2, by omega, zh ⟨by simp; rw [← HLL.out]; omega, fun k hk => by rcases List.mem_cons.1 hk with rfl | hk; omega; rcases List.mem_cons.1 hk with rfl | hk; omega; exact HSK.out k (List.mem_cons_of_mem _ hk)⟩⟩
        case measure => simp [intOf]; omega
      · have t3 : (cn == 0) = false := by rw [beq_eq_false_iff_ne]; exact hcn
        obtain ⟨hf0, hc0, hfc⟩ := htp1 hcn
        have HW2 := zh (HLF.out hcn)
        clear htp1
        obtain ⟨f, rfl⟩ : ∃ f : Nat, fi = f := ⟨fi.toNat, by omega⟩
        obtain ⟨c, rfl⟩ : ∃ c : Nat, cn = c := ⟨cn.toNat, by omega⟩
        obtain ⟨bo, oo, rfl, hoc, hbo⟩ := HO0.out.resolve_left (by omega)
        have hfm : f + c ≤ m := by omega
        have hc00 : 0 < c := by omega
        have KT := zh (fun w => walk_things bo oo m co f c n1 n2 n3 n4 n5 n6 ri w hfm hc00 (by omega) hmc)
        have HBX := zh (fun X (hX : J s X) => (HB.out s X hX).1)
        have HSL : Hid (∀ X, J s X → IntSlice X (some ⟨bo, oo + f, none⟩) c (fun i => ord.getD (f + i) 0)) := zh (fun X hX => by
         have hb := HBX.out X hX
         refine .inr ⟨bo, oo + f, rfl, fun k hk => ?_, ?_⟩
         · obtain ⟨e1, e2⟩ := hoc (f + k) (by omega)
           refine ⟨?_, e2⟩
           rw [Nat.add_assoc]
           exact (hb.cell (p := ⟨bo, oo + (f + k), none⟩) hbo).trans e1
         · have := hb.size; omega)
        clear hoc
        go_upto_region 12 with (fail)
        refine (wpIn_wide (n := 0)).1 ?_
        gi_wp2_with (refine ⟨trivial, rfl, ?_⟩; gi_at_call 84; (with_reducible refine (callsIn_wide.2 (z02 KT.out _)).mono ?_); rintro e w' ⟨rfl, q2, rfl⟩)
        have hj8 : J s q2.w := HJ.out _ _ _ hj5 (q2.h.mono (by omega))
        have ht8 := ht5.below q2.h
        obtain ⟨fn, tmps, assign, body, hy, hR⟩ := HY.out s (some ⟨bo, oo + f, none⟩, c, co - f, fun i => ord.getD (f + i) 0) q2.w ⟨HSL.out _ hj8, by show c ≤ 1000; omega⟩ hj8
        gi_wp2
        refine ⟨rfl, hR.mono ?_⟩
        clear hy hR
        rintro e W9 ⟨hk9, (⟨rfl, hj9⟩ | ⟨rfl, hj9⟩)⟩
        · have ht9 := ints_keeps ht8 hk9
          gi_wp2
          go_wp2
          go_roundw
          case rel => exact ⟨st, pl + 1, _, by simp, ht9, hj9, HW2, by omega, zh ⟨by rw [← HLL.out]; omega, fun k hk => HSK.out k (List.mem_cons_of_mem _ hk)⟩⟩
          case measure => simp [intOf]; omega
        · gi_wp2
          go_wp2
          rw [Exit.noGoto_normal]
          go_end0
          exact ⟨⟨_, rfl⟩, .inr hj9⟩
 · gi_wp2
   rw [Exit.noGoto_ret]
   exact bodyPost_ret (results_none rfl _ _ _) rfl ⟨⟨_, rfl⟩, .inr hj3⟩
end
end
end Go.Proofs.YtbmpmjdlaahekaaGreat
