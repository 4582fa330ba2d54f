/- The reference's Build, layer 16. The reference's grow: its memory: two -/
import Derived.Test.YtbmpmjdlaahekaaGreatWs44
set_option maxRecDepth 100000
set_option maxHeartbeats 8000000
set_option linter.unusedVariables false
set_option linter.unusedSimpArgs false
open Go.Proofs.Tryz
namespace Go.Proofs.YtbmpmjdlaahekaaGreat
section
open Go.RowKit Go.Proofs.Sky
theorem rbuild_a (lp : Option Addr) (n lc : Nat) (w : World) (h1 : n = 0) :
  Rt prog 10 #[.slice lp n lc] w (.agg #[.slice none 0 0, .slice none 0 0]) := by
 subst h1
 go_enter func10, ntmps10
 go_upto_region 1 with (fail)
 refine wst1 fun W1 k_r B1 => ?_
 have cr := bwc2 k_r
 have fr := bwf2 k_r
 refine bws fun p1 => ?_
 go_wp2
 have kr := bkp2 (k_r.below p1.h) (.slice none 0 0) (.slice none 0 0)
 have rc := rwc2 kr
 exact bodyPost_ret (v := .agg #[.slice none 0 0, .slice none 0 0]) (by simp [results, results10, go_sem, rc]) rfl ⟨rfl, blp2 (z00 B1 p1) (by omega)⟩
theorem rbuild_b (lp : Option Addr) (n lc : Nat) (w : World) (h1 : ¬ n = 0) (h2 : 1024 < n) :
  Rt prog 10 #[.slice lp n lc] w (.agg #[.slice none 0 0, .slice none 0 0]) := by
 have t1 : ((n : Int) == 0) = false := by rw [beq_eq_false_iff_ne]; omega
 have t2 : decide (1024 < (n : Int)) = true := zt (by omega)
 clear h1 h2
 go_enter func10, ntmps10
 go_upto_region 1 with (fail)
 refine wst1 fun W1 k_r B1 => ?_
 have cr := bwc2 k_r
 have fr := bwf2 k_r
 refine bws fun p1 => ?_
 go_wp2
 have kr := bkp2 (k_r.below p1.h) (.slice none 0 0) (.slice none 0 0)
 have rc := rwc2 kr
 exact bodyPost_ret (v := .agg #[.slice none 0 0, .slice none 0 0]) (by simp [results, results10, go_sem, rc]) rfl ⟨rfl, blp2 (z00 B1 p1) (by omega)⟩
theorem rbuild_c (lp : Option Addr) (n lc : Nat) (w : World) (h1 : ¬ n = 0) (h2 : ¬ 1024 < n) (KR : Hid (∀ X, Below w.heap.size w X → Rt prog 6 #[.slice lp n lc] X (.bool false))) :
  Rt prog 10 #[.slice lp n lc] w (.agg #[.slice none 0 0, .slice none 0 0]) := by
 have t1 : ((n : Int) == 0) = false := by rw [beq_eq_false_iff_ne]; omega
 have t2 : decide (1024 < (n : Int)) = false := zf (by omega)
 clear h1 h2
 go_enter func10, ntmps10
 go_upto_region 1 with (fail)
 refine wst1 fun W1 k_r B1 => ?_
 have cr := bwc2 k_r
 have fr := bwf2 k_r
 refine bws fun p1 => ?_
 go_wp2_with ((go_at_call 6; (with_reducible refine (KR.out _ (z00 B1 _)).mono ?_); rintro e w' ⟨rfl, hb2⟩; obtain ⟨q, rfl⟩ := z04 hb2))
 have kr := bkp2 (k_r.below q.h) (.slice none 0 0) (.slice none 0 0)
 have rc := rwc2 kr
 exact bodyPost_ret (v := .agg #[.slice none 0 0, .slice none 0 0]) (by simp [results, results10, go_sem, rc]) rfl ⟨rfl, blp2 (z00 B1 q) (by omega)⟩
def RNodRow (w : World) (B : Nat) (v : Value) (ns : List Nd) : Prop := w.ownsRow B 63 9 v ns.length (ns.flatMap ncells)
theorem rbuild_d (lp : Option Addr) (n lc : Nat) (ns : List Nd) (od : List Nat) (w : World) (h1 : ¬ n = 0) (h2 : ¬ 1024 < n) (KR : Hid (∀ X, Below w.heap.size w X → Rt prog 6 #[.slice lp n lc] X (.bool true))) (KG : Hid (∀ (X : World) (uw : Value), Below w.heap.size w X → Ints X w.heap.size uw (List.range n) → Calls prog 25 #[.agg #[.slice none 0 0, .slice none 0 0], .slice lp n lc, uw] X fun e w' => ∃ u v, e = .returned (.agg #[u, v]) ∧ RNodRow w' X.heap.size u ns ∧ Ints w' X.heap.size v od ∧ Below X.heap.size X w')) :
  Calls prog 10 #[.slice lp n lc] w fun e w' => ∃ u v, e = .returned (.agg #[u, v]) ∧ RNodRow w' w.heap.size u ns ∧ Ints w' w.heap.size v od ∧ Below w.heap.size w w' := by
 have t1 : ((n : Int) == 0) = false := by rw [beq_eq_false_iff_ne]; omega
 have t2 : decide (1024 < (n : Int)) = false := zf (by omega)
 obtain ⟨i0, hi0, hz0, hz1, hz2⟩ := info_parts z1i
 go_enter func10, ntmps10
 go_upto_region 1 with (fail)
 refine wst1 fun W1 kr B1 => ?_
 have cr := bwc2 kr
 have fr := bwf2 kr
 refine bws fun p1 => ?_
 go_wp2_with ((go_at_call 6; (with_reducible refine (KR.out _ (z00 B1 _)).mono ?_); rintro e w' ⟨rfl, hb2⟩; obtain ⟨q, rfl⟩ := z04 hb2))
 go_wp2
 go_loopw [3, 4] (fun u i wr => ∃ k : Nat, k ≤ n ∧ i = .int .i64 k ∧ Ints wr w.heap.size u (List.range k) ∧ Bk wr w.heap.size 39 #[.slice none 0 0, .slice none 0 0] ∧ Below w.heap.size w wr) (fun _ i _ => n - (intOf i).toNat)
 case atStart => exact ⟨0, by omega, rfl, World.ownsRow_nil _ _ _ _, kr.below q.h, z00 B1 q⟩
 case round =>
  clear kr
  obtain ⟨k, hk, rfl, hu, kr, BO⟩ := hrel
  have B1 := BO
  by_cases hlt : k < n
  · have hlu : (List.range k).length = k := List.length_range
    have HT := zh (List.range_succ (n := k))
    generalize List.range k = L at *
    refine bws fun p1 => ?_
    go_wp2_with (at_builtin; refine z06 rfl _ _ 33 rfl w.heap.size 3 i0 (.int .i64 0) 1 8 Tryz.underlying33 hi0 hz0 hz1 hz2 rfl (by decide) _ _ _ rfl (World.ownsRow.alloc (hu.below (BW.h _)) _) ⟨_, 0, none⟩ 1 1 [.int .i64 (k : Int)] rfl rfl ?g1 ?g2 ?g3 ?g4 ?g5 ?_)
    case g1 => exact cell_one_new _ _ _
    case g2 => first | (intro u hu; simp only [List.mem_cons, List.not_mem_nil, or_false] at hu; rw [hu]; rfl) | rfl | (simp [Value.oneCell'])
    case g3 => unfold maxLen; omega
    case g4 => omega
    case g5 => have := (z00 B1 p1).size; simp; omega
    intro v' w1 hown hgrow hat
    have hb1 : Below w.heap.size w w1 := ((z00 B1 p1).alloc (z00 B1 p1).size _).grown hgrow (by have := (z00 B1 p1).size; simp; omega) (fun j ej => by have := (World.ownsRow.lt hu _ ej).1; omega)
    have r1 : Ints w1 w.heap.size v' (L ++ [k]) := by unfold Ints; rw [List.length_append, hlu, List.map_append]; exact hown
    have kr1 := z0q (World.ownsRow.alloc (hu.below (BW.h p1)) _) ((kr.below (BW.h p1)).alloc _) (by decide) hgrow
    go_wp2
    go_roundw
    case rel => exact ⟨k + 1, by omega, by go_num, (by rw [HT.out]; exact r1), kr1, hb1⟩
    case measure => simp [intOf]; omega
  · obtain rfl : k = n := by omega
    have cr := bwc2 kr
    have fr := bwf2 kr
    refine bws fun p1 => ?_
    go_wp2_with (go_at_call 25; (with_reducible refine (KG.out _ _ (z00 B1 _) (hu.below (BW.h _))).mono ?_); rintro e w' ⟨u2, v2, rfl, hu2, hv2, hb2⟩; obtain ⟨ax, cx, rfl⟩ := z0d hu2; obtain ⟨ox, dx, rfl⟩ := z0d hv2; obtain ⟨q, rfl⟩ := z04 hb2)
    have hsz := (z00 B1 p1).size
    have kr2 := bkp2 (kr.below q.h) (.slice ax ns.length cx) (.slice ox od.length dx)
    have rc := rwc2 kr2
    have hu3 := z0f (z0f (z1f hu2 hsz) (a := ⟨w.heap.size, 0, none⟩) (z0e hu2 (kr.below q.h) (by decide)) (.slice ax ns.length cx)) (a := ⟨w.heap.size, 1, none⟩) (z0e hu2 (kr.below q.h) (by decide)) (.slice ox od.length dx)
    have hv3 := z0f (z0f (z1f hv2 hsz) (a := ⟨w.heap.size, 0, none⟩) (z0e hv2 (kr.below q.h) (by decide)) (.slice ax ns.length cx)) (a := ⟨w.heap.size, 1, none⟩) (z0e hv2 (kr.below q.h) (by decide)) (.slice ox od.length dx)
    exact bodyPost_ret (v := .agg #[.slice ax ns.length cx, .slice ox od.length dx]) (by simp [results, results10, go_sem, rc]) rfl ⟨_, _, rfl, hu3, hv3, blp2 (z00 B1 q) (by omega)⟩
end
section
open Go.RowKit Go.Proofs.Sky
structure Two16 (N : Nat) (a b : Option Nat) (X W : World) : Prop where
 os : W.os = X.os
 tape : W.tape = X.tape
 output : W.output = X.output
 size : X.heap.size ≤ W.heap.size
 block : ∀ k, k < N → a ≠ some k → b ≠ some k → W.heap[k]? = X.heap[k]?
theorem Two16.refl (N : Nat) (a b : Option Nat) (X : World) : Two16 N a b X X := ⟨rfl, rfl, rfl, Nat.le_refl _, fun _ _ _ _ => rfl⟩
theorem Two16.below {N B : Nat} {a b : Option Nat} {X W V : World} (h : Two16 N a b X W) (hb : Below B W V) (hN : N ≤ B) : Two16 N a b X V :=
 ⟨hb.os.trans h.os, hb.tape.trans h.tape, hb.output.trans h.output, Nat.le_trans h.size hb.size, fun k hk h1 h2 => (hb.block k (by omega)).trans (h.block k hk h1 h2)⟩
theorem Two16.grown {N : Nat} {a b r : Option Nat} {X W V : World} (h : Two16 N a b X W) (hg : W.grownBy V r) (hN : N ≤ W.heap.size) (hr : ∀ k, r = some k → k < N → a = some k ∨ b = some k) : Two16 N a b X V :=
 ⟨hg.os.trans h.os, hg.tape.trans h.tape, hg.output.trans h.output, Nat.le_trans h.size hg.size, fun k hk h1 h2 => (hg.block k (by omega) (fun e => by
  rcases hr k e.symm hk with q | q
  · exact h1 q
  · exact h2 q)).trans (h.block k hk h1 h2)⟩
theorem Two16.trans {N M : Nat} {a b c d : Option Nat} {X W V : World} (h : Two16 N a b X W) (g : Two16 M c d W V) (hN : N ≤ M) (hc : ∀ k, c = some k → k < N → a = some k) (hd : ∀ k, d = some k → k < N → b = some k) : Two16 N a b X V :=
 ⟨g.os.trans h.os, g.tape.trans h.tape, g.output.trans h.output, Nat.le_trans h.size g.size, fun k hk h1 h2 => (g.block k (by omega) (fun e => h1 (hc k e hk)) (fun e => h2 (hd k e hk))).trans (h.block k hk h1 h2)⟩
theorem Two16.low {N B : Nat} {a b : Option Nat} {Z X W : World} (h : Two16 N a b X W) (hb : Below B Z X) (hN : B ≤ N) (ha : ∀ k, a = some k → B ≤ k) (hc : ∀ k, b = some k → B ≤ k) : Below B Z W :=
 hb.trans ⟨h.os, h.tape, h.output, h.size, fun k hk => h.block k (by omega) (fun e => by have := ha k e; omega) (fun e => by have := hc k e; omega)⟩
theorem owns_two {N : Nat} {a b : Option Nat} {w w' : World} {B : Nat} {e : TypeId} {size n : Nat} {v : Value} {xs : List Value} (h : w.ownsRow B e size v n xs) (ht : Two16 N a b w w') (hN : w.heap.size ≤ N) (h1 : ∀ j, v.ownBlock = some j → a ≠ some j) (h2 : ∀ j, v.ownBlock = some j → b ≠ some j) : w'.ownsRow B e size v n xs := by
 obtain ⟨hl, h⟩ := h
 refine ⟨hl, ?_⟩
 rcases h with h | ⟨g, cap, cur, e1, hB, hg, rest⟩
 · exact .inl h
 · have hlt := (Array.getElem?_eq_some_iff.1 hg).1
   subst e1
   exact .inr ⟨g, cap, cur, rfl, hB, (ht.block g (by omega) (h1 g rfl) (h2 g rfl)).trans hg, rest⟩
theorem bk_two {N b : Nat} {c d : Option Nat} {w w' : World} {t : TypeId} {cs : Array Value} (h : Bk w b t cs) (ht : Two16 N c d w w') (hN : w.heap.size ≤ N) (h1 : c ≠ some b) (h2 : d ≠ some b) : Bk w' b t cs :=
 (ht.block b (by have := h.lt; omega) h1 h2).trans h
structure RSt (X : World) (a b : Option Nat) (w : World) (B : Nat) (un uo : Value) (ns : List Nd) (od : List Nat) (I : List (Value × List Nat)) (Y : List (Value × List Bx)) : Prop where
 nod : RNodRow w B un ns
 ord : Ints w B uo od
 int : ∀ x ∈ I, Ints w B x.1 x.2 ∧ Apart2 x.1 uo
 box : ∀ y ∈ Y, RboxRow w B y.1 y.2
 two : Two16 X.heap.size a b X w
 fn : ∀ k, un.ownBlock = some k → k < X.heap.size → a = some k
 fo : ∀ k, uo.ownBlock = some k → k < X.heap.size → b = some k
section
variable {X w w' W : World} {a b : Option Nat} {B g : Nat} {un uo : Value} {ns : List Nd} {od : List Nat} {I : List (Value × List Nat)} {Y : List (Value × List Bx)}
theorem RSt.start (hn : RNodRow X B un ns) (ho : Ints X B uo od) (hi : ∀ x ∈ I, Ints X B x.1 x.2 ∧ Apart2 x.1 uo) : RSt X un.ownBlock uo.ownBlock X B un uo ns od I [] :=
 ⟨hn, ho, hi, fun y hy => by simp at hy, Two16.refl _ _ _ _, fun k h _ => h, fun k h _ => h⟩
theorem RSt.below (h : RSt X a b w B un uo ns od I Y) (hb : Below w.heap.size w w') : RSt X a b w' B un uo ns od I Y :=
 ⟨z07 h.nod hb, h.ord.below hb, fun x hx => ⟨(h.int x hx).1.below hb, (h.int x hx).2⟩, fun y hy => (h.box y hy).below hb, h.two.below hb h.two.size, h.fn, h.fo⟩
theorem rst_alloc {o : Obj} (hW : W = w.alloc o) (h : RSt X a b w B un uo ns od I Y) : RSt X a b W B un uo ns od I Y := by
 subst hW
 exact ⟨World.ownsRow.alloc h.nod o, World.ownsRow.alloc h.ord o, fun x hx => ⟨World.ownsRow.alloc (h.int x hx).1 o, (h.int x hx).2⟩, fun y hy => World.ownsRow.alloc (h.box y hy) o, h.two.below ((Below.refl w.heap.size w).alloc (Nat.le_refl _) o) h.two.size, h.fn, h.fo⟩
theorem RSt.setT {t : TypeId} {cs : Array Value} {i : Nat} {x : Value} (h : RSt X a b w B un uo ns od I Y) (hb : Bk w g t cs) (hX : X.heap.size ≤ g) (h1 : 63 ≠ t) (h2 : 3 ≠ t) (h3 : 61 ≠ t) : RSt X a b (w.setCell ⟨g, i, none⟩ x) B un uo ns od I Y :=
 ⟨z0f h.nod (a := ⟨g, i, none⟩) (z0e h.nod hb h1) x, z0f h.ord (a := ⟨g, i, none⟩) (z0e h.ord hb h2) x,
  fun y hy => ⟨z0f (h.int y hy).1 (a := ⟨g, i, none⟩) (z0e (h.int y hy).1 hb h2) x, (h.int y hy).2⟩,
  fun y hy => z0f (h.box y hy) (a := ⟨g, i, none⟩) (z0e (h.box y hy) hb h3) x,
  h.two.below ((Below.refl X.heap.size w).setCell (p := ⟨g, i, none⟩) hX x) (Nat.le_refl _), h.fn, h.fo⟩
theorem RSt.putNode {un' : Value} {ns' : List Nd} (h : RSt X a b w B un uo ns od I Y) (hn : RNodRow w' B un' ns') (hg : w.grownBy w' un.ownBlock) (hat : un'.ownBlock = un.ownBlock ∨ un'.ownBlock = some w.heap.size) : RSt X a b w' B un' uo ns' od I Y :=
 ⟨hn, z14 h.ord hg (z1b (z1e h.nod h.ord (by decide))),
  fun x hx => ⟨z14 (h.int x hx).1 hg (z1b (z1e h.nod (h.int x hx).1 (by decide))), (h.int x hx).2⟩,
  fun y hy => z14 (h.box y hy) hg (z1b (z1e h.nod (h.box y hy) (by decide))),
  h.two.grown hg h.two.size (fun k e hk => .inl (h.fn k e hk)),
  fun k e hk => by
   rcases hat with q | q
   · exact h.fn k (q ▸ e) hk
   · rw [q] at e
     cases e
     exact absurd hk (by have := h.two.size; omega),
  h.fo⟩
theorem RSt.putOrd {uo' : Value} {od' : List Nat} (h : RSt X a b w B un uo ns od I Y) (ho : Ints w' B uo' od') (hg : w.grownBy w' uo.ownBlock) (hat : uo'.ownBlock = uo.ownBlock ∨ uo'.ownBlock = some w.heap.size) : RSt X a b w' B un uo' ns od' I Y :=
 ⟨z14 h.nod hg (z1b (z1e h.ord h.nod (by decide))), ho,
  fun x hx => ⟨z14 (h.int x hx).1 hg (z1b (h.int x hx).2.symm), fun j hj e => by
   rcases hat with q | q
   · exact (h.int x hx).2 j hj (by rw [← q]; exact e)
   · rw [q] at e
     cases e
     have := (World.ownsRow.lt (h.int x hx).1 _ hj).2
     omega⟩,
  fun y hy => z14 (h.box y hy) hg (z1b (z1e h.ord (h.box y hy) (by decide))),
  h.two.grown hg h.two.size (fun k e hk => .inr (h.fo k e hk)), h.fn,
  fun k e hk => by
   rcases hat with q | q
   · exact h.fo k (q ▸ e) hk
   · rw [q] at e
     cases e
     exact absurd hk (by have := h.two.size; omega)⟩
theorem RSt.call {un' uo' : Value} {ns' : List Nd} {od' : List Nat} (h : RSt X a b w B un uo ns od I Y) (hc : RSt w un.ownBlock uo.ownBlock w' B un' uo' ns' od' [] []) : RSt X a b w' B un' uo' ns' od' I Y :=
 ⟨hc.nod, hc.ord,
  fun x hx => ⟨owns_two (h.int x hx).1 hc.two (Nat.le_refl _) (z1b (z1e h.nod (h.int x hx).1 (by decide))) (z1b (h.int x hx).2.symm), fun j hj e =>
   (h.int x hx).2 j hj (hc.fo j e (World.ownsRow.lt (h.int x hx).1 _ hj).2)⟩,
  fun y hy => owns_two (h.box y hy) hc.two (Nat.le_refl _) (z1b (z1e h.nod (h.box y hy) (by decide))) (z1b (z1e h.ord (h.box y hy) (by decide))),
  h.two.trans hc.two h.two.size h.fn h.fo,
  fun k e hk => h.fn k (hc.fn k e (by have := h.two.size; omega)) hk,
  fun k e hk => h.fo k (hc.fo k e (by have := h.two.size; omega)) hk⟩
theorem RSt.callBk {un' uo' : Value} {ns' : List Nd} {od' : List Nat} {t : TypeId} {cs : Array Value} (h : RSt X a b w B un uo ns od I Y) (hc : RSt w un.ownBlock uo.ownBlock w' B un' uo' ns' od' [] []) (hb : Bk w g t cs) (h1 : 63 ≠ t) (h2 : 3 ≠ t) : Bk w' g t cs :=
 bk_two hb hc.two (Nat.le_refl _) (z0e h.nod hb h1) (z0e h.ord hb h2)
theorem RSt.addInt {u : Value} {l : List Nat} (h : RSt X a b w B un uo ns od I Y) (hu : Ints w B u l) (hap : Apart2 u uo) : RSt X a b w B un uo ns od ((u, l) :: I) Y :=
 ⟨h.nod, h.ord, fun x hx => by
  rcases List.mem_cons.1 hx with rfl | hx
  · exact ⟨hu, hap⟩
  · exact h.int x hx, h.box, h.two, h.fn, h.fo⟩
theorem RSt.addBox {u : Value} {l : List Bx} (h : RSt X a b w B un uo ns od I Y) (hu : RboxRow w B u l) : RSt X a b w B un uo ns od I ((u, l) :: Y) :=
 ⟨h.nod, h.ord, h.int, fun y hy => by
  rcases List.mem_cons.1 hy with rfl | hy
  · exact hu
  · exact h.box y hy, h.two, h.fn, h.fo⟩
theorem RSt.bare (h : RSt X a b w B un uo ns od I Y) : RSt X a b w B un uo ns od [] [] :=
 ⟨h.nod, h.ord, fun x hx => by simp at hx, fun y hy => by simp at hy, h.two, h.fn, h.fo⟩
theorem RSt.low {Z : World} {a b : Value} {na nb : Nat} {xa xb : List Value} {e1 e2 : TypeId} {s1 s2 : Nat} (h : RSt X a.ownBlock b.ownBlock w B un uo ns od I Y) (hb : Below B Z X) (hB : B ≤ X.heap.size) (ha : X.ownsRow B e1 s1 a na xa) (hc : X.ownsRow B e2 s2 b nb xb) : Below B Z w :=
 h.two.low hb hB (fun k e => (World.ownsRow.lt ha k e).1) (fun k e => (World.ownsRow.lt hc k e).1)
theorem rnodrow_set {cap k : Nat} (d : Nd) (h : RNodRow w B (.slice (some ⟨g, 0, none⟩) ns.length cap) ns) (hk : k < ns.length) :
  RNodRow (w.setCells g (k * 9) (ncells d)) B (.slice (some ⟨g, 0, none⟩) ns.length cap) (ns.set k d) ∧ w.grownBy (w.setCells g (k * 9) (ncells d)) (some g) := by
 have hl := flat_len ncells 9 ncells_len ns
 have h2 := owns_store (ncells d) (k * 9) w _ h (by rw [hl, ncells_len]; omega)
 rw [ncells_len, flat_store ncells 9 ncells_len ns k d hk] at h2
 refine ⟨?_, h2.2⟩
 unfold RNodRow
 rw [List.length_set]
 exact h2.1
theorem RSt.setNode {cap k : Nat} (d : Nd) (h : RSt X a b w B (.slice (some ⟨g, 0, none⟩) ns.length cap) uo ns od I Y) (hk : k < ns.length) :
  RSt X a b (w.setCells g (k * 9) (ncells d)) B (.slice (some ⟨g, 0, none⟩) ns.length cap) uo (ns.set k d) od I Y ∧ w.grownBy (w.setCells g (k * 9) (ncells d)) (some g) :=
 ⟨RSt.putNode h (rnodrow_set d h.nod hk).1 (rnodrow_set d h.nod hk).2 (.inl rfl), (rnodrow_set d h.nod hk).2⟩
theorem rn_at {cap N k q : Nat} {d : Nd} (h : RNodRow w B (.slice (some ⟨g, 0, none⟩) N cap) ns) (hN : N = ns.length) (hk : k < ns.length) (hd : ns.getD k nd0 = d) (hq : q < 9) : w.cell? ⟨g, k * 9 + q, none⟩ = (ncells d)[q]? := by
 subst hd hN
 rw [z0g hk]
 have e := owns_at ncells_len h hk hq
 rw [e]
end
end
end Go.Proofs.YtbmpmjdlaahekaaGreat
