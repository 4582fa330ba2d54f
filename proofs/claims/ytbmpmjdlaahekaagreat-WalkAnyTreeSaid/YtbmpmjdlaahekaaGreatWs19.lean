/- Contracts of package vec, below: coordinates, within, each, pair, the  -/
import Derived.LoopN
import Derived.Shelf.Abstract
import Derived.Test.YtbmpmjdlaahekaaGreatWs18
set_option maxRecDepth 100000
set_option maxHeartbeats 8000000
set_option linter.unusedVariables false
set_option linter.unusedSimpArgs false
open Go.Proofs.Tryz
namespace Go.Proofs.YtbmpmjdlaahekaaGreat
section
section
open Go.RowKit Go.Shelf Go.Proofs.Sky
theorem z0c {P : Program} {f : FuncId} {args : Array Value} {v : Value} {w wb : World} (h : ∀ w', Below w.heap.size w w' → Calls P f args w' fun e w'' => e = .returned v ∧ Below w'.heap.size w' w'') (hB : Below w.heap.size w wb) :
  ∀ p : BW wb, Calls P f args p.w fun e w' => e = .returned v ∧ ∃ q : BW wb, w' = q.w :=
 fun p => (h p.w (z00 hB p)).mono fun e w' ⟨he, hb⟩ => ⟨he, p.next w' hb, rfl⟩
theorem vec_coordinates (x y z : Int) (w : World) :
  Rt prog 105 #[.agg #[x, y, z]] w (.agg #[x, y, z]) := by
 go_enter func105, ntmps105
 go_wp2
 go_returns
 exact ⟨rfl, by go_grown⟩
theorem vec_within (n x y z : Int) (w : World) (hn : 0 ≤ n ∧ n ≤ 4611686018427387904) :
  Rt prog 97 #[.agg #[x, y, z], n] w (.bool (wi n x y z)) := by
 have K := zh (fun w => vec_coordinates x y z w)
 have hb0 : Below w.heap.size w (w.alloc (.cells #[x, y, z] 24)) := by go_grown
 have i0 : ∀ w, (Instr.index 152 (.agg #[x, y, z]) (.int .i64 0)).run prog w = .ok (.int .i64 x) w := fun _ => by kernel_rfl
 have i1 : ∀ w, (Instr.index 152 (.agg #[x, y, z]) (.int .i64 1)).run prog w = .ok (.int .i64 y) w := fun _ => by kernel_rfl
 have i2 : ∀ w, (Instr.index 152 (.agg #[x, y, z]) (.int .i64 2)).run prog w = .ok (.int .i64 z) w := fun _ => by kernel_rfl
 have e1 : IntKind.i64.wrap (-n) = -n := by rw [i64w]; omega
 have e3 : wrap64 (-n) = -n := by unfold wrap64; omega
 obtain ⟨m, hm⟩ := nmd (-n)
 have e2 : wi n x y z = decide (m ≤ x ∧ x ≤ n ∧ m ≤ y ∧ y ≤ n ∧ m ≤ z ∧ z ≤ n) := by unfold wi; rw [hm]
 rw [e2]
 rw [← hm] at e1 e3
 have e4 : -n = m := hm.symm
 clear e2 hn
 by_cases h0 : x < m
 · have t : decide (m ≤ x ∧ x ≤ n ∧ m ≤ y ∧ y ≤ n ∧ m ≤ z ∧ z ≤ n) = false := zf (by omega)
   rw [t]
   have t0 : decide (x < m) = true := zt h0
   clear t hm h0
   go_enter func97, ntmps97
   go_upto_region 2 with (go_at_call 105; (with_reducible refine (K.out _).mono ?_); rintro e w1 ⟨rfl, hb⟩)
   refine wp_loop_rounds 4 ?_
   rw [rounds_succ]
   go_wp2
   go_ret
   exact ⟨rfl, hb0.trans (hb.mono hb0.size)⟩
 by_cases h1 : n < x
 · have t : decide (m ≤ x ∧ x ≤ n ∧ m ≤ y ∧ y ≤ n ∧ m ≤ z ∧ z ≤ n) = false := zf (by omega)
   rw [t]
   have t0 : decide (x < m) = false := zf h0
   have t1 : decide (n < x) = true := zt h1
   clear t hm h0 h1
   go_enter func97, ntmps97
   go_upto_region 2 with (go_at_call 105; (with_reducible refine (K.out _).mono ?_); rintro e w1 ⟨rfl, hb⟩)
   refine wp_loop_rounds 4 ?_
   rw [rounds_succ]
   go_wp2
   go_ret
   exact ⟨rfl, hb0.trans (hb.mono hb0.size)⟩
 by_cases h2 : y < m
 · have t : decide (m ≤ x ∧ x ≤ n ∧ m ≤ y ∧ y ≤ n ∧ m ≤ z ∧ z ≤ n) = false := zf (by omega)
   rw [t]
   have t0 : decide (x < m) = false := zf h0
   have t1 : decide (n < x) = false := zf h1
   have t2 : decide (y < m) = true := zt h2
   clear t hm h0 h1 h2
   go_enter func97, ntmps97
   go_upto_region 2 with (go_at_call 105; (with_reducible refine (K.out _).mono ?_); rintro e w1 ⟨rfl, hb⟩)
   refine wp_loop_rounds 4 ?_
   rw [rounds_succ]
   go_wp2
   rw [rounds_succ]
   go_wp2
   go_ret
   exact ⟨rfl, hb0.trans (hb.mono hb0.size)⟩
 by_cases h3 : n < y
 · have t : decide (m ≤ x ∧ x ≤ n ∧ m ≤ y ∧ y ≤ n ∧ m ≤ z ∧ z ≤ n) = false := zf (by omega)
   rw [t]
   have t0 : decide (x < m) = false := zf h0
   have t1 : decide (n < x) = false := zf h1
   have t2 : decide (y < m) = false := zf h2
   have t3 : decide (n < y) = true := zt h3
   clear t hm h0 h1 h2 h3
   go_enter func97, ntmps97
   go_upto_region 2 with (go_at_call 105; (with_reducible refine (K.out _).mono ?_); rintro e w1 ⟨rfl, hb⟩)
   refine wp_loop_rounds 4 ?_
   rw [rounds_succ]
   go_wp2
   rw [rounds_succ]
   go_wp2
   go_ret
   exact ⟨rfl, hb0.trans (hb.mono hb0.size)⟩
 by_cases h4 : z < m
 · have t : decide (m ≤ x ∧ x ≤ n ∧ m ≤ y ∧ y ≤ n ∧ m ≤ z ∧ z ≤ n) = false := zf (by omega)
   rw [t]
   have t0 : decide (x < m) = false := zf h0
   have t1 : decide (n < x) = false := zf h1
   have t2 : decide (y < m) = false := zf h2
   have t3 : decide (n < y) = false := zf h3
   have t4 : decide (z < m) = true := zt h4
   clear t hm h0 h1 h2 h3 h4
   go_enter func97, ntmps97
   go_upto_region 2 with (go_at_call 105; (with_reducible refine (K.out _).mono ?_); rintro e w1 ⟨rfl, hb⟩)
   refine wp_loop_rounds 4 ?_
   rw [rounds_succ]
   go_wp2
   rw [rounds_succ]
   go_wp2
   rw [rounds_succ]
   go_wp2
   go_ret
   exact ⟨rfl, hb0.trans (hb.mono hb0.size)⟩
 by_cases h5 : n < z
 · have t : decide (m ≤ x ∧ x ≤ n ∧ m ≤ y ∧ y ≤ n ∧ m ≤ z ∧ z ≤ n) = false := zf (by omega)
   rw [t]
   have t0 : decide (x < m) = false := zf h0
   have t1 : decide (n < x) = false := zf h1
   have t2 : decide (y < m) = false := zf h2
   have t3 : decide (n < y) = false := zf h3
   have t4 : decide (z < m) = false := zf h4
   have t5 : decide (n < z) = true := zt h5
   clear t hm h0 h1 h2 h3 h4 h5
   go_enter func97, ntmps97
   go_upto_region 2 with (go_at_call 105; (with_reducible refine (K.out _).mono ?_); rintro e w1 ⟨rfl, hb⟩)
   refine wp_loop_rounds 4 ?_
   rw [rounds_succ]
   go_wp2
   rw [rounds_succ]
   go_wp2
   rw [rounds_succ]
   go_wp2
   go_ret
   exact ⟨rfl, hb0.trans (hb.mono hb0.size)⟩
 have t : decide (m ≤ x ∧ x ≤ n ∧ m ≤ y ∧ y ≤ n ∧ m ≤ z ∧ z ≤ n) = true := zt (by omega)
 rw [t]
 have t0 : decide (x < m) = false := zf h0
 have t1 : decide (n < x) = false := zf h1
 have t2 : decide (y < m) = false := zf h2
 have t3 : decide (n < y) = false := zf h3
 have t4 : decide (z < m) = false := zf h4
 have t5 : decide (n < z) = false := zf h5
 clear t hm h0 h1 h2 h3 h4 h5
 go_enter func97, ntmps97
 go_upto_region 2 with (go_at_call 105; (with_reducible refine (K.out _).mono ?_); rintro e w1 ⟨rfl, hb⟩)
 refine wp_loop_rounds 4 ?_
 rw [rounds_succ]
 go_wp2
 rw [rounds_succ]
 go_wp2
 rw [rounds_succ]
 go_wp2
 rw [rounds_succ]
 go_wp2
 go_ret
 exact ⟨rfl, hb0.trans (hb.mono hb0.size)⟩
theorem vec_each (g : FuncId) (bd : Array Value) (x y z a b c : Int) (w : World) (hg : Enters prog g)
  (hx : ∀ w', Below w.heap.size w w' → Calls prog g (#[.int .i64 x] ++ bd) w' fun e w'' => e = .returned (.int .i64 a) ∧ Below w'.heap.size w' w'')
  (hy : ∀ w', Below w.heap.size w w' → Calls prog g (#[.int .i64 y] ++ bd) w' fun e w'' => e = .returned (.int .i64 b) ∧ Below w'.heap.size w' w'')
  (hz : ∀ w', Below w.heap.size w w' → Calls prog g (#[.int .i64 z] ++ bd) w' fun e w'' => e = .returned (.int .i64 c) ∧ Below w'.heap.size w' w'') :
  Rt prog 75 #[.agg #[x, y, z], .func (.func g) #[] bd] w (.agg #[a, b, c]) := by
 have K := zh (fun w => vec_coordinates x y z w)
 have eg : ∀ args w, (callFunc g args).run prog w = .ok (.enter g args) w := hg
 go_enter func75, ntmps75
 go_upto_region 1 with (fail)
 refine wst2 fun W1 kv k_r B1 => ?_
 have lr : w.heap.size < w.heap.size + 1 := by omega
 generalize w.heap.size + 1 = gr at *
 have cv := bwc3 kv
 have cr := bwc3 k_r
 refine bws fun p1 => ?_
 go_upto_region 2 with ((go_at_call 105; (with_reducible refine (z02 K.out _).mono ?_); rintro e w' ⟨rfl, q, rfl⟩))
 refine wnm fun W2 hW2 => ?_
 have B2 := bwA q hW2 B1
 have ll : gr < q.w.heap.size := (k_r.below q.h).lt
 have ol : w.heap.size ≤ q.w.heap.size := (z00 B1 q).size
 have kv := bka hW2 (kv.below q.h)
 have k_r := bka hW2 (k_r.below q.h)
 have kl := bkn hW2
 clear hW2
 clear B1
 clear cv cr
 generalize q.w.heap.size = gl at *
 have cv := bwc3 kv
 have cr := bwc3 k_r
 have cl := bwc3 kl
 have fl := bwf3 kl
 refine bws fun p2 => ?_
 have i0 : ∀ w, (Instr.index 152 (.agg #[x, y, z]) (.int .i64 0)).run prog w = .ok (.int .i64 x) w := fun _ => by kernel_rfl
 have i1 : ∀ w, (Instr.index 152 (.agg #[x, y, z]) (.int .i64 1)).run prog w = .ok (.int .i64 y) w := fun _ => by kernel_rfl
 have i2 : ∀ w, (Instr.index 152 (.agg #[x, y, z]) (.int .i64 2)).run prog w = .ok (.int .i64 z) w := fun _ => by kernel_rfl
 go_wp2
 refine wp_loop_rounds 4 ?_
 have KX := z0c hx B2
 rw [rounds_succ]
 go_upto_region 6 with (with_reducible refine (KX _).mono ?_; rintro e w' ⟨rfl, q, rfl⟩)
 clear KX
 refine wnm fun W3 hW3 => ?_
 have B3 : Below w.heap.size w W3 := by rw [hW3]; exact ((z00 B2 q).setCell (p := ⟨gl, 0, none⟩) (by show w.heap.size ≤ gl; omega) _)
 have kv : Bk W3 (w.heap.size) 24 #[x, y, z] := by rw [hW3]; exact ((kv.below q.h).other (a := ⟨gl, 0, none⟩) (by show ¬ w.heap.size = gl; omega) (.int .i64 a))
 have k_r : Bk W3 (gr) 24 #[.int .i64 0, .int .i64 0, .int .i64 0] := by rw [hW3]; exact ((k_r.below q.h).other (a := ⟨gl, 0, none⟩) (by show ¬ gr = gl; omega) (.int .i64 a))
 have kl : Bk W3 (gl) 152 #[a, y, z] := by rw [hW3]; exact ((kl.below q.h).set 0 (.int .i64 a)).cast (by simp)
 clear hW3
 clear B2
 clear cv cr cl fl
 have cv := bwc3 kv
 have cr := bwc3 k_r
 have cl := bwc3 kl
 have fl := bwf3 kl
 refine bws fun p3 => ?_
 go_wp2
 have KX := z0c hy B3
 rw [rounds_succ]
 go_upto_region 6 with (with_reducible refine (KX _).mono ?_; rintro e w' ⟨rfl, q, rfl⟩)
 clear KX
 refine wnm fun W4 hW4 => ?_
 have B4 : Below w.heap.size w W4 := by rw [hW4]; exact ((z00 B3 q).setCell (p := ⟨gl, 1, none⟩) (by show w.heap.size ≤ gl; omega) _)
 have kv : Bk W4 (w.heap.size) 24 #[x, y, z] := by rw [hW4]; exact ((kv.below q.h).other (a := ⟨gl, 1, none⟩) (by show ¬ w.heap.size = gl; omega) (.int .i64 b))
 have k_r : Bk W4 (gr) 24 #[.int .i64 0, .int .i64 0, .int .i64 0] := by rw [hW4]; exact ((k_r.below q.h).other (a := ⟨gl, 1, none⟩) (by show ¬ gr = gl; omega) (.int .i64 b))
 have kl : Bk W4 (gl) 152 #[a, b, z] := by rw [hW4]; exact ((kl.below q.h).set 1 (.int .i64 b)).cast (by simp)
 clear hW4
 clear B3
 clear cv cr cl fl
 have cv := bwc3 kv
 have cr := bwc3 k_r
 have cl := bwc3 kl
 have fl := bwf3 kl
 refine bws fun p4 => ?_
 go_wp2
 have KX := z0c hz B4
 rw [rounds_succ]
 go_upto_region 6 with (with_reducible refine (KX _).mono ?_; rintro e w' ⟨rfl, q, rfl⟩)
 clear KX
 refine wnm fun W5 hW5 => ?_
 have B5 : Below w.heap.size w W5 := by rw [hW5]; exact ((z00 B4 q).setCell (p := ⟨gl, 2, none⟩) (by show w.heap.size ≤ gl; omega) _)
 have kv : Bk W5 (w.heap.size) 24 #[x, y, z] := by rw [hW5]; exact ((kv.below q.h).other (a := ⟨gl, 2, none⟩) (by show ¬ w.heap.size = gl; omega) (.int .i64 c))
 have k_r : Bk W5 (gr) 24 #[.int .i64 0, .int .i64 0, .int .i64 0] := by rw [hW5]; exact ((k_r.below q.h).other (a := ⟨gl, 2, none⟩) (by show ¬ gr = gl; omega) (.int .i64 c))
 have kl : Bk W5 (gl) 152 #[a, b, c] := by rw [hW5]; exact ((kl.below q.h).set 2 (.int .i64 c)).cast (by simp)
 clear hW5
 clear B4
 clear cv cr cl fl
 have cv := bwc3 kv
 have cr := bwc3 k_r
 have fr := bwf3 k_r
 have cl := bwc3 kl
 refine bws fun p5 => ?_
 go_wp2
 rw [rounds_succ]
 go_wp2
 have kr := bkp3 (k_r.below p5.h) (.int .i64 a) (.int .i64 b) (.int .i64 c)
 have rc := rwc3 kr
 exact bodyPost_ret (v := .agg #[a, b, c]) (by simp [results, results75, go_sem, rc]) rfl ⟨rfl, blp3 (z00 B5 p5) (by omega)⟩
theorem vec_pair (g : FuncId) (bd : Array Value) (x y z a b c r1 r2 r3 : Int) (w : World) (hg : Enters prog g)
  (hx : ∀ w', Below w.heap.size w w' → Calls prog g (#[.int .i64 x, .int .i64 a] ++ bd) w' fun e w'' => e = .returned (.int .i64 r1) ∧ Below w'.heap.size w' w'')
  (hy : ∀ w', Below w.heap.size w w' → Calls prog g (#[.int .i64 y, .int .i64 b] ++ bd) w' fun e w'' => e = .returned (.int .i64 r2) ∧ Below w'.heap.size w' w'')
  (hz : ∀ w', Below w.heap.size w w' → Calls prog g (#[.int .i64 z, .int .i64 c] ++ bd) w' fun e w'' => e = .returned (.int .i64 r3) ∧ Below w'.heap.size w' w'') :
  Rt prog 103 #[.agg #[x, y, z], .agg #[a, b, c], .func (.func g) #[] bd] w (.agg #[r1, r2, r3]) := by
 have K1 := zh (fun w => vec_coordinates x y z w)
 have K2 := zh (fun w => vec_coordinates a b c w)
 have eg : ∀ args w, (callFunc g args).run prog w = .ok (.enter g args) w := hg
 go_enter func103, ntmps103
 go_upto_region 1 with (fail)
 obtain ⟨W1, hW1⟩ : ∃ W, W = ((w.alloc (.cells #[x, y, z] 24)).alloc (.cells #[a, b, c] 24)).alloc (.cells #[.int .i64 0, .int .i64 0, .int .i64 0] 24) := ⟨_, rfl⟩
 obtain ⟨kv, ku, k_r, B1⟩ := st3 hW1
 rw [← hW1]
 clear hW1
 have lu : w.heap.size < w.heap.size + 1 := by omega
 have lr : w.heap.size + 1 < w.heap.size + 1 + 1 := by omega
 generalize w.heap.size + 1 + 1 = gr at *
 generalize w.heap.size + 1 = gu at *
 have cv := bwc3 kv
 have cu := bwc3 ku
 have cr := bwc3 k_r
 obtain ⟨p1, hp1⟩ := bwx W1
 rw [← hp1]
 clear hp1
 refine wp_region_float2 (t1 := 152) (z1 := #[.int .i64 0, .int .i64 0, .int .i64 0]) (t2 := 152) (z2 := #[.int .i64 0, .int .i64 0, .int .i64 0]) 6 4 5 7 8 36 (by kernel_rfl) (by kernel_rfl) (by kernel_rfl) (by kernel_rfl) (by kernel_rfl) (by decide) (by kernel_rfl) rfl rfl ?_ ?_ ?_
 · intro ev wx
   simp [execOp, go_sem]
 · intro ev wx
   simp [execOp, go_sem]
 apply Exists.intro
 refine ⟨?_, ?_⟩
 · intro wb' hwb'
   obtain ⟨dv0, dv1, dv2⟩ := bwc3 (kv.below hwb')
   obtain ⟨du0, du1, du2⟩ := bwc3 (ku.below hwb')
   obtain ⟨dr0, dr1, dr2⟩ := bwc3 (k_r.below hwb')
   simp only [mask2, maskAt, List.take_succ_cons, List.take_zero]
   repeat (go_big_quiet_step ((go_at_call 105; (first | (with_reducible exact z02 K1.out _) | (with_reducible exact z02 K2.out _)))))
   refine wpQuiet_nil ?_
   exact rfl
 intro W2 gl gm hW hga hgb n_m kl km
 have B2 : Below w.heap.size w W2 := B1.trans (hW.mono B1.size)
 have ll : gr < gl := zl k_r.lt hga
 have lm : gr < gm := zl k_r.lt hgb
 have kv := kv.below hW
 have ku := ku.below hW
 have k_r := k_r.below hW
 clear hW hga hgb B1
 clear cv cu cr
 simp only [List.drop_succ_cons, List.drop_zero, Act.put, List.setIfInBounds_toArray, List.set_cons_zero, List.set_cons_succ]
 have cv := bwc3 kv
 have cu := bwc3 ku
 have cr := bwc3 k_r
 have cl := bwc3 kl
 have fl := bwf3 kl
 have cm := bwc3 km
 have fm := bwf3 km
 obtain ⟨p2, hp2⟩ := bwx W2
 rw [← hp2]
 clear hp2
 go_upto_region 2 with (fail)
 obtain ⟨W3, hW3⟩ : ∃ W, W = ((p2.w.setCell ⟨gl, 0, none⟩ (.int .i64 x)).setCell ⟨gl, 1, none⟩ (.int .i64 y)).setCell ⟨gl, 2, none⟩ (.int .i64 z) := ⟨_, rfl⟩
 have B3 : Below w.heap.size w W3 := by rw [hW3]; exact blp3 (z00 B2 p2) (by omega)
 have kv := bkoe3 hW3 (kv.below p2.h) (by omega)
 have ku := bkoe3 hW3 (ku.below p2.h) (by omega)
 have k_r := bkoe3 hW3 (k_r.below p2.h) (by omega)
 have kl := bkpe3 hW3 (kl.below p2.h)
 have km := bkoe3 hW3 (km.below p2.h) (by omega)
 rw [← hW3]
 clear hW3
 clear B2
 clear cv cu cr cl fl cm fm
 have cv := bwc3 kv
 have cu := bwc3 ku
 have cr := bwc3 k_r
 have cl := bwc3 kl
 have cm := bwc3 km
 have fm := bwf3 km
 obtain ⟨p3, hp3⟩ := bwx W3
 rw [← hp3]
 clear hp3
 obtain ⟨W4, hW4⟩ : ∃ W, W = ((p3.w.setCell ⟨gm, 0, none⟩ (.int .i64 a)).setCell ⟨gm, 1, none⟩ (.int .i64 b)).setCell ⟨gm, 2, none⟩ (.int .i64 c) := ⟨_, rfl⟩
 have B4 : Below w.heap.size w W4 := by rw [hW4]; exact blp3 (z00 B3 p3) (by omega)
 have kv := bkoe3 hW4 (kv.below p3.h) (by omega)
 have ku := bkoe3 hW4 (ku.below p3.h) (by omega)
 have k_r := bkoe3 hW4 (k_r.below p3.h) (by omega)
 have kl := bkoe3 hW4 (kl.below p3.h) (by omega)
 have km := bkpe3 hW4 (km.below p3.h)
 rw [← hW4]
 clear hW4
 clear B3
 clear cv cu cr cl cm fm
 have cv := bwc3 kv
 have cu := bwc3 ku
 have cr := bwc3 k_r
 have cl := bwc3 kl
 have fl := bwf3 kl
 have cm := bwc3 km
 obtain ⟨p4, hp4⟩ := bwx W4
 rw [← hp4]
 clear hp4
 have i0 : ∀ w, (Instr.index 152 (.agg #[x, y, z]) (.int .i64 0)).run prog w = .ok (.int .i64 x) w := fun _ => by kernel_rfl
 have i1 : ∀ w, (Instr.index 152 (.agg #[x, y, z]) (.int .i64 1)).run prog w = .ok (.int .i64 y) w := fun _ => by kernel_rfl
 have i2 : ∀ w, (Instr.index 152 (.agg #[x, y, z]) (.int .i64 2)).run prog w = .ok (.int .i64 z) w := fun _ => by kernel_rfl
 go_wp2
 refine wp_loop_rounds 4 ?_
 have KX := z0c hx B4
 rw [rounds_succ]
 go_upto_region 6 with (with_reducible refine (KX _).mono ?_; rintro e w' ⟨rfl, q, rfl⟩)
 clear KX
 obtain ⟨W5, hW5⟩ : ∃ W, W = q.w.setCell ⟨gl, 0, none⟩ (.int .i64 r1) := ⟨_, rfl⟩
 have B5 : Below w.heap.size w W5 := by rw [hW5]; exact ((z00 B4 q).setCell (p := ⟨gl, 0, none⟩) (by show w.heap.size ≤ gl; omega) _)
 have kv : Bk W5 (w.heap.size) 24 #[x, y, z] := by rw [hW5]; exact ((kv.below q.h).other (a := ⟨gl, 0, none⟩) (by show ¬ w.heap.size = gl; omega) (.int .i64 r1))
 have ku : Bk W5 (gu) 24 #[a, b, c] := by rw [hW5]; exact ((ku.below q.h).other (a := ⟨gl, 0, none⟩) (by show ¬ gu = gl; omega) (.int .i64 r1))
 have k_r : Bk W5 (gr) 24 #[.int .i64 0, .int .i64 0, .int .i64 0] := by rw [hW5]; exact ((k_r.below q.h).other (a := ⟨gl, 0, none⟩) (by show ¬ gr = gl; omega) (.int .i64 r1))
 have kl : Bk W5 (gl) 152 #[r1, y, z] := by rw [hW5]; exact ((kl.below q.h).set 0 (.int .i64 r1)).cast (by simp)
 have km : Bk W5 (gm) 152 #[a, b, c] := by rw [hW5]; exact ((km.below q.h).other (a := ⟨gl, 0, none⟩) (by show ¬ gm = gl; omega) (.int .i64 r1))
 rw [← hW5]
 clear hW5
 clear B4
 clear cv cu cr cl fl cm
 have cv := bwc3 kv
 have cu := bwc3 ku
 have cr := bwc3 k_r
 have cl := bwc3 kl
 have fl := bwf3 kl
 have cm := bwc3 km
 obtain ⟨p5, hp5⟩ := bwx W5
 rw [← hp5]
 clear hp5
 go_wp2
 have KX := z0c hy B5
 rw [rounds_succ]
 go_upto_region 6 with (with_reducible refine (KX _).mono ?_; rintro e w' ⟨rfl, q, rfl⟩)
 clear KX
 obtain ⟨W6, hW6⟩ : ∃ W, W = q.w.setCell ⟨gl, 1, none⟩ (.int .i64 r2) := ⟨_, rfl⟩
 have B6 : Below w.heap.size w W6 := by rw [hW6]; exact ((z00 B5 q).setCell (p := ⟨gl, 1, none⟩) (by show w.heap.size ≤ gl; omega) _)
 have kv : Bk W6 (w.heap.size) 24 #[x, y, z] := by rw [hW6]; exact ((kv.below q.h).other (a := ⟨gl, 1, none⟩) (by show ¬ w.heap.size = gl; omega) (.int .i64 r2))
 have ku : Bk W6 (gu) 24 #[a, b, c] := by rw [hW6]; exact ((ku.below q.h).other (a := ⟨gl, 1, none⟩) (by show ¬ gu = gl; omega) (.int .i64 r2))
 have k_r : Bk W6 (gr) 24 #[.int .i64 0, .int .i64 0, .int .i64 0] := by rw [hW6]; exact ((k_r.below q.h).other (a := ⟨gl, 1, none⟩) (by show ¬ gr = gl; omega) (.int .i64 r2))
 have kl : Bk W6 (gl) 152 #[r1, r2, z] := by rw [hW6]; exact ((kl.below q.h).set 1 (.int .i64 r2)).cast (by simp)
 have km : Bk W6 (gm) 152 #[a, b, c] := by rw [hW6]; exact ((km.below q.h).other (a := ⟨gl, 1, none⟩) (by show ¬ gm = gl; omega) (.int .i64 r2))
 rw [← hW6]
 clear hW6
 clear B5
 clear cv cu cr cl fl cm
 have cv := bwc3 kv
 have cu := bwc3 ku
 have cr := bwc3 k_r
 have cl := bwc3 kl
 have fl := bwf3 kl
 have cm := bwc3 km
 obtain ⟨p6, hp6⟩ := bwx W6
 rw [← hp6]
 clear hp6
 go_wp2
 have KX := z0c hz B6
 rw [rounds_succ]
 go_upto_region 6 with (with_reducible refine (KX _).mono ?_; rintro e w' ⟨rfl, q, rfl⟩)
 clear KX
 obtain ⟨W7, hW7⟩ : ∃ W, W = q.w.setCell ⟨gl, 2, none⟩ (.int .i64 r3) := ⟨_, rfl⟩
 have B7 : Below w.heap.size w W7 := by rw [hW7]; exact ((z00 B6 q).setCell (p := ⟨gl, 2, none⟩) (by show w.heap.size ≤ gl; omega) _)
 have kv : Bk W7 (w.heap.size) 24 #[x, y, z] := by rw [hW7]; exact ((kv.below q.h).other (a := ⟨gl, 2, none⟩) (by show ¬ w.heap.size = gl; omega) (.int .i64 r3))
 have ku : Bk W7 (gu) 24 #[a, b, c] := by rw [hW7]; exact ((ku.below q.h).other (a := ⟨gl, 2, none⟩) (by show ¬ gu = gl; omega) (.int .i64 r3))
 have k_r : Bk W7 (gr) 24 #[.int .i64 0, .int .i64 0, .int .i64 0] := by rw [hW7]; exact ((k_r.below q.h).other (a := ⟨gl, 2, none⟩) (by show ¬ gr = gl; omega) (.int .i64 r3))
 have kl : Bk W7 (gl) 152 #[r1, r2, r3] := by rw [hW7]; exact ((kl.below q.h).set 2 (.int .i64 r3)).cast (by simp)
 have km : Bk W7 (gm) 152 #[a, b, c] := by rw [hW7]; exact ((km.below q.h).other (a := ⟨gl, 2, none⟩) (by show ¬ gm = gl; omega) (.int .i64 r3))
 rw [← hW7]
 clear hW7
 clear B6
 clear cv cu cr cl fl cm
 have cv := bwc3 kv
 have cu := bwc3 ku
 have cr := bwc3 k_r
 have fr := bwf3 k_r
 have cl := bwc3 kl
 have cm := bwc3 km
 obtain ⟨p7, hp7⟩ := bwx W7
 rw [← hp7]
 clear hp7
 go_wp2
 rw [rounds_succ]
 go_wp2
 have kr := bkp3 (k_r.below p7.h) (.int .i64 r1) (.int .i64 r2) (.int .i64 r3)
 have rc := rwc3 kr
 exact bodyPost_ret (v := .agg #[r1, r2, r3]) (by simp [results, results103, go_sem, rc]) rfl ⟨rfl, blp3 (z00 B7 p7) (by omega)⟩
end
end
section
section
open Go.RowKit Go.Shelf Go.Shelf Go.Proofs.Sky
theorem vec_turned (n : Int) (w : World) (hn : I64 n) :
  Rt prog 76 #[n] w (.int .i64 (sat (n * -1))) := by
 have K := zh (fun w => num_Times n (-1) w hn (by unfold I64; omega))
 generalize sat (n * -1) = r at *
 clear hn
 go_enter func76, ntmps76
 go_wp2_with (go_at_call 77; (with_reducible refine (K.out _).mono ?_); rintro e w' ⟨rfl, rfl⟩)
 go_ret
 exact ⟨rfl, Below.refl _ _⟩
theorem vec_times (m n p : Int) (w : World) (h : wrap64 (m * n) = p) :
  Rt prog 154 #[m, n] w (.int .i64 p) := by
 go_enter func154, ntmps154
 go_wp2
 go_ret
 exact ⟨z0m (by first | rfl | simp only [h]), Below.refl _ _⟩
theorem vec_product (x y z a b c d1 d2 d3 : Int) (w : World) (h1 : d1 = x * a) (h2 : d2 = y * b) (h3 : d3 = z * c)
  (b1 : -2305843009213693952 ≤ d1 ∧ d1 ≤ 2305843009213693952) (b2 : -2305843009213693952 ≤ d2 ∧ d2 ≤ 2305843009213693952) (b3 : -2305843009213693952 ≤ d3 ∧ d3 ≤ 2305843009213693952) :
  Rt prog 149 #[.agg #[x, y, z], .agg #[a, b, c]] w (.int .i64 (d1 + d2 + d3)) := by
 have K := zh (fun w => vec_pair 154 #[] x y z a b c d1 d2 d3 w (enters_of func154 (by kernel_rfl) rfl)
  (fun w' _ => by simpa using vec_times x a d1 w' (by rw [← h1]; exact IntWalk.wrap64_in _ (by omega)))
  (fun w' _ => by simpa using vec_times y b d2 w' (by rw [← h2]; exact IntWalk.wrap64_in _ (by omega)))
  (fun w' _ => by simpa using vec_times z c d3 w' (by rw [← h3]; exact IntWalk.wrap64_in _ (by omega))))
 obtain ⟨s, hs⟩ := nmd (d1 + d2)
 obtain ⟨t, ht⟩ := nmd (s + d3)
 have w4 : wrap64 s = s := IntWalk.wrap64_in _ (by omega)
 have w5 : wrap64 t = t := IntWalk.wrap64_in _ (by omega)
 have e4 : d1 + d2 = s := hs.symm
 have e5 : s + d3 = t := ht.symm
 rw [e4, e5]
 clear hs ht h1 h2 h3 b1 b2 b3
 go_enter func149, ntmps149
 go_upto_region 1 with (fail)
 refine wst2 fun W1 kv ku B1 => ?_
 have lu : w.heap.size < w.heap.size + 1 := by omega
 generalize w.heap.size + 1 = gu at *
 have cv := bwc3 kv
 have cu := bwc3 ku
 refine bws fun p1 => ?_
 go_upto_region 2 with ((go_at_call 103; (with_reducible refine (z02 K.out _).mono ?_); rintro e w' ⟨rfl, q, rfl⟩))
 refine wnm fun W2 hW2 => ?_
 have B2 := bwA q hW2 B1
 have ll : gu < q.w.heap.size := (ku.below q.h).lt
 have ol : w.heap.size ≤ q.w.heap.size := (z00 B1 q).size
 have kv := bka hW2 (kv.below q.h)
 have ku := bka hW2 (ku.below q.h)
 have kl := bkn hW2
 clear hW2
 clear B1
 clear cv cu
 generalize q.w.heap.size = gl at *
 have cv := bwc3 kv
 have cu := bwc3 ku
 have cl := bwc3 kl
 refine bws fun p2 => ?_
 go_wp2
 go_ret
 exact ⟨z0m (by first | rfl | simp only [w5]), z00 B2 p2⟩
theorem z0o (x y z : Int) (w : World) :
  Rt prog 61 #[.agg #[x, y, z]] w (.bool (vnear x y z)) := by
 have K := zh (fun w => vec_within 1048576 x y z w (by omega))
 unfold vnear
 generalize wi 1048576 x y z = r at *
 have hb0 : Below w.heap.size w (w.alloc (.cells #[x, y, z] 24)) := by go_grown
 go_enter func61, ntmps61
 go_wp2_with (go_at_call 97; (with_reducible refine (K.out _).mono ?_); rintro e w1 ⟨rfl, hb⟩)
 go_ret
 exact ⟨rfl, hb0.trans (hb.mono hb0.size)⟩
end
end
section
section
open Go.RowKit Go.Shelf Go.Shelf Go.Proofs.Sky
theorem vcr_small (x y z a b c : Int) : (-2199023255552 ≤ (vcr x y z a b c).1 ∧ (vcr x y z a b c).1 ≤ 2199023255552) ∧ (-2199023255552 ≤ (vcr x y z a b c).2.1 ∧ (vcr x y z a b c).2.1 ≤ 2199023255552) ∧ (-2199023255552 ≤ (vcr x y z a b c).2.2 ∧ (vcr x y z a b c).2.2 ≤ 2199023255552) := by
 unfold vcr
 split
 · rename_i h
   obtain ⟨h1, h2⟩ := h
   rw [z0t] at h1 h2
   have p1 := z0n (x := y) (a := c) (by omega) (by omega)
   have p2 := z0n (x := z) (a := b) (by omega) (by omega)
   have p3 := z0n (x := z) (a := a) (by omega) (by omega)
   have p4 := z0n (x := x) (a := c) (by omega) (by omega)
   have p5 := z0n (x := x) (a := b) (by omega) (by omega)
   have p6 := z0n (x := y) (a := a) (by omega) (by omega)
   dsimp only
   omega
 · dsimp only; omega
theorem vvol_of (x y z a b c d e f : Int) : vvol x y z a b c d e f = if vnear x y z = true then x * (vcr a b c d e f).1 + y * (vcr a b c d e f).2.1 + z * (vcr a b c d e f).2.2 else 0 := by
 unfold vvol vcr
 by_cases h : vnear x y z = true
 · by_cases h2 : vnear a b c = true ∧ vnear d e f = true
   · rw [if_pos ⟨h, h2.1, h2.2⟩, if_pos h, if_pos h2]
   · rw [if_neg (fun g => h2 ⟨g.2.1, g.2.2⟩), if_pos h, if_neg h2]
     simp
 · rw [if_neg (fun g => h g.1), if_neg h]
theorem vec_Add (x y z a b c : Int) (w : World) (hx : I64 x) (hy : I64 y) (hz : I64 z) (ha : I64 a) (hb : I64 b) (hc : I64 c) :
  Rt prog 74 #[.agg #[x, y, z], .agg #[a, b, c]] w (.agg #[.int .i64 (sat (x + a)), .int .i64 (sat (y + b)), .int .i64 (sat (z + c))]) := by
 have K := zh (fun w => vec_pair 104 #[] x y z a b c (sat (x + a)) (sat (y + b)) (sat (z + c)) w (enters_of func104 (by kernel_rfl) rfl)
  (fun w' _ => by simpa using z19 (fun w => num_Plus x a w hx ha) w')
  (fun w' _ => by simpa using z19 (fun w => num_Plus y b w hy hb) w')
  (fun w' _ => by simpa using z19 (fun w => num_Plus z c w hz hc) w'))
 clear hx hy hz ha hb hc
 generalize sat (x + a) = r1 at *
 generalize sat (y + b) = r2 at *
 generalize sat (z + c) = r3 at *
 go_enter func74, ntmps74
 go_upto_region 1 with (fail)
 refine wst3 fun W1 kv ku k_r B1 => ?_
 have lu : w.heap.size < w.heap.size + 1 := by omega
 have lr : w.heap.size + 1 < w.heap.size + 1 + 1 := by omega
 generalize w.heap.size + 1 + 1 = gr at *
 generalize w.heap.size + 1 = gu at *
 have cv := bwc3 kv
 have cu := bwc3 ku
 have cr := bwc3 k_r
 have fr := bwf3 k_r
 refine bws fun p1 => ?_
 go_wp2_with ((go_at_call 103; (with_reducible refine (z02 K.out _).mono ?_); rintro e w' ⟨rfl, q, rfl⟩))
 have kr := bkp3 (k_r.below q.h) (.int .i64 r1) (.int .i64 r2) (.int .i64 r3)
 have rc := rwc3 kr
 exact bodyPost_ret (v := .agg #[r1, r2, r3]) (by simp [results, results74, go_sem, rc]) rfl ⟨rfl, blp3 (z00 B1 q) (by omega)⟩
theorem z0u (x y z a b c : Int) (w : World) (hx : I64 x) (hy : I64 y) (hz : I64 z) (ha : I64 a) (hb : I64 b) (hc : I64 c) :
  Rt prog 46 #[.agg #[x, y, z], .agg #[a, b, c]] w (.agg #[.int .i64 (vsub x a), .int .i64 (vsub y b), .int .i64 (vsub z c)]) := by
 have K := zh (fun w => vec_each 76 #[] a b c (sat (a * -1)) (sat (b * -1)) (sat (c * -1)) w (enters_of func76 (by kernel_rfl) rfl)
  (fun w' _ => by simpa using vec_turned a w' ha)
  (fun w' _ => by simpa using vec_turned b w' hb)
  (fun w' _ => by simpa using vec_turned c w' hc))
 have A := zh (fun w => vec_Add x y z (sat (a * -1)) (sat (b * -1)) (sat (c * -1)) w hx hy hz (sat_I64 _) (sat_I64 _) (sat_I64 _))
 unfold vsub
 clear hx hy hz ha hb hc
 generalize sat (a * -1) = a' at *
 generalize sat (b * -1) = b' at *
 generalize sat (c * -1) = c' at *
 generalize sat (x + a') = r1 at *
 generalize sat (y + b') = r2 at *
 generalize sat (z + c') = r3 at *
 go_enter func46, ntmps46
 go_upto_region 1 with (fail)
 refine wst3 fun W1 kv ku k_r B1 => ?_
 have lu : w.heap.size < w.heap.size + 1 := by omega
 have lr : w.heap.size + 1 < w.heap.size + 1 + 1 := by omega
 generalize w.heap.size + 1 + 1 = gr at *
 generalize w.heap.size + 1 = gu at *
 have cv := bwc3 kv
 have cu := bwc3 ku
 have cr := bwc3 k_r
 have fr := bwf3 k_r
 refine bws fun p1 => ?_
 refine z0h 4 (by kernel_rfl) (by kernel_rfl) (by kernel_rfl) ?_
 simp only [List.take_succ_cons, List.take_zero, List.drop_succ_cons, List.drop_zero]
 repeat (go_big_quiet_step (first
  | (go_at_call 75; (with_reducible exact z02 K.out _))
  | (go_at_call 74; (with_reducible exact z02 A.out _))))
 refine wpQuiet_nil ?_
 intro _ hw'
 obtain ⟨q, rfl⟩ := hw'
 go_wp2
 have kr := bkp3 (k_r.below q.h) (.int .i64 r1) (.int .i64 r2) (.int .i64 r3)
 have rc := rwc3 kr
 exact bodyPost_ret (v := .agg #[r1, r2, r3]) (by simp [results, results46, go_sem, rc]) rfl ⟨rfl, blp3 (z00 B1 q) (by omega)⟩
theorem vec_Dot_no (x y z a b c : Int) (w : World) (h : ¬ (vnear x y z = true ∧ vnear a b c = true)) :
  Rt prog 151 #[.agg #[x, y, z], .agg #[a, b, c]] w (.int .i64 0) := by
 have K1 := zh (fun w => z0o x y z w)
 have K2 := zh (fun w => z0o a b c w)
 generalize vnear x y z = n1 at *
 generalize vnear a b c = n2 at *
 cases n1 <;> cases n2
 case true.true => exact absurd ⟨rfl, rfl⟩ h
 all_goals
  clear h
  go_enter func151, ntmps151
  go_upto_region 1 with (fail)
  refine wst2 fun W1 kv ku B1 => ?_
  have lu : w.heap.size < w.heap.size + 1 := by omega
  generalize w.heap.size + 1 = gu at *
  have cv := bwc3 kv
  have cu := bwc3 ku
  refine bws fun p1 => ?_
  go_wp2_with ((go_at_call 61; (first | (with_reducible refine (z02 K1.out _).mono ?_) | (with_reducible refine (z02 K2.out _).mono ?_)); rintro e w' ⟨rfl, q, rfl⟩))
  go_ret
  exact ⟨rfl, z00 B1 q⟩
theorem vec_Dot (x y z a b c : Int) (w : World) :
  Rt prog 151 #[.agg #[x, y, z], .agg #[a, b, c]] w (.int .i64 (vdot x y z a b c)) := by
 by_cases h : vnear x y z = true ∧ vnear a b c = true
 · have K1 := zh (fun w => z0o x y z w)
   have K2 := zh (fun w => z0o a b c w)
   unfold vdot
   rw [if_pos h]
   rw [h.1] at K1
   rw [h.2] at K2
   obtain ⟨h1, h2⟩ := h
   rw [z0t] at h1 h2
   have p1 := z0n (x := x) (a := a) (by omega) (by omega)
   have p2 := z0n (x := y) (a := b) (by omega) (by omega)
   have p3 := z0n (x := z) (a := c) (by omega) (by omega)
   have K := zh (fun w => vec_product x y z a b c _ _ _ w rfl rfl rfl (by omega) (by omega) (by omega))
   generalize x * a + y * b + z * c = r at *
   clear h1 h2 p1 p2 p3
   go_enter func151, ntmps151
   go_upto_region 1 with (fail)
   refine wst2 fun W1 kv ku B1 => ?_
   have lu : w.heap.size < w.heap.size + 1 := by omega
   generalize w.heap.size + 1 = gu at *
   have cv := bwc3 kv
   have cu := bwc3 ku
   refine bws fun p1 => ?_
   go_wp2_with (first
    | (go_at_call 61; (first | (with_reducible refine (z02 K1.out _).mono ?_) | (with_reducible refine (z02 K2.out _).mono ?_)); rintro e w' ⟨rfl, q, rfl⟩)
    | (go_at_call 149; (with_reducible refine (z02 K.out _).mono ?_); rintro e w' ⟨rfl, q, rfl⟩))
   go_ret
   exact ⟨rfl, z00 B1 q⟩
 · have e : vdot x y z a b c = 0 := by unfold vdot; rw [if_neg h]
   rw [e]
   exact vec_Dot_no x y z a b c w h
theorem vec_Cross_no (x y z a b c : Int) (w : World) (h : ¬ (vnear x y z = true ∧ vnear a b c = true)) :
  Rt prog 150 #[.agg #[x, y, z], .agg #[a, b, c]] w (.agg #[.int .i64 0, .int .i64 0, .int .i64 0]) := by
 have K1 := zh (fun w => z0o x y z w)
 have K2 := zh (fun w => z0o a b c w)
 generalize vnear x y z = n1 at *
 generalize vnear a b c = n2 at *
 cases n1 <;> cases n2
 case true.true => exact absurd ⟨rfl, rfl⟩ h
 all_goals
  clear h
  go_enter func150, ntmps150
  go_upto_region 1 with (fail)
  refine wst3 fun W1 kv ku k_r B1 => ?_
  have lu : w.heap.size < w.heap.size + 1 := by omega
  have lr : w.heap.size + 1 < w.heap.size + 1 + 1 := by omega
  generalize w.heap.size + 1 + 1 = gr at *
  generalize w.heap.size + 1 = gu at *
  have cv := bwc3 kv
  have cu := bwc3 ku
  have cr := bwc3 k_r
  have fr := bwf3 k_r
  refine bws fun p1 => ?_
  go_wp2_with ((go_at_call 61; (first | (with_reducible refine (z02 K1.out _).mono ?_) | (with_reducible refine (z02 K2.out _).mono ?_)); rintro e w' ⟨rfl, q, rfl⟩))
  have kr := bkp3 (k_r.below q.h) (.int .i64 0) (.int .i64 0) (.int .i64 0)
  have rc := rwc3 kr
  exact bodyPost_ret (v := .agg #[.int .i64 0, .int .i64 0, .int .i64 0]) (by simp [results, results150, go_sem, rc]) rfl ⟨rfl, blp3 (z00 B1 q) (by omega)⟩
theorem vec_Cross (x y z a b c : Int) (w : World) :
  Rt prog 150 #[.agg #[x, y, z], .agg #[a, b, c]] w (.agg #[(vcr x y z a b c).1, (vcr x y z a b c).2.1, (vcr x y z a b c).2.2]) := by
 by_cases h : vnear x y z = true ∧ vnear a b c = true
 · have K1 := zh (fun w => z0o x y z w)
   have K2 := zh (fun w => z0o a b c w)
   unfold vcr
   rw [if_pos h]
   dsimp only
   rw [h.1] at K1
   rw [h.2] at K2
   obtain ⟨h1, h2⟩ := h
   rw [z0t] at h1 h2
   obtain ⟨p1, q1, r1, hr1, _, _, ⟨e11, e12, e13, w11, w12, w13, v11, v12, v13⟩⟩ := DifIn.make (x := y) (a := c) (y := z) (b := b) (by omega) (by omega) (by omega) (by omega)
   obtain ⟨p2, q2, r2, hr2, _, _, ⟨e21, e22, e23, w21, w22, w23, v21, v22, v23⟩⟩ := DifIn.make (x := z) (a := a) (y := x) (b := c) (by omega) (by omega) (by omega) (by omega)
   obtain ⟨p3, q3, r3, hr3, _, _, ⟨e31, e32, e33, w31, w32, w33, v31, v32, v33⟩⟩ := DifIn.make (x := x) (a := b) (y := y) (b := a) (by omega) (by omega) (by omega) (by omega)
   rw [← hr1, ← hr2, ← hr3]
   clear hr1 hr2 hr3 h1 h2
   go_enter func150, ntmps150
   go_upto_region 1 with (fail)
   refine wst3 fun W1 kv ku k_r B1 => ?_
   have lu : w.heap.size < w.heap.size + 1 := by omega
   have lr : w.heap.size + 1 < w.heap.size + 1 + 1 := by omega
   generalize w.heap.size + 1 + 1 = gr at *
   generalize w.heap.size + 1 = gu at *
   have cv := bwc3 kv
   have cu := bwc3 ku
   have cr := bwc3 k_r
   have fr := bwf3 k_r
   refine bws fun p1 => ?_
   go_wp2_with ((go_at_call 61; (first | (with_reducible refine (z02 K1.out _).mono ?_) | (with_reducible refine (z02 K2.out _).mono ?_)); rintro e w' ⟨rfl, q, rfl⟩))
   have kr := bkp3 (k_r.below q.h) (.int .i64 r1) (.int .i64 r2) (.int .i64 r3)
   have rc := rwc3 kr
   exact bodyPost_ret (v := .agg #[r1, r2, r3]) (by simp [results, results150, go_sem, rc]) rfl ⟨rfl, blp3 (z00 B1 q) (by omega)⟩
 · have e : vcr x y z a b c = (0, 0, 0) := by unfold vcr; rw [if_neg h]
   rw [e]
   exact vec_Cross_no x y z a b c w h
theorem z18 (x y z a b c d e f : Int) (w : World) :
  Rt prog 142 #[.agg #[x, y, z], .agg #[a, b, c], .agg #[d, e, f]] w (.int .i64 (vvol x y z a b c d e f)) := by
 by_cases h : vnear x y z = true
 · have K1 := zh (fun w => z0o x y z w)
   rw [h] at K1
   rw [vvol_of, if_pos h]
   have C := zh (fun w => vec_Cross a b c d e f w)
   have s := vcr_small a b c d e f
   generalize vcr a b c d e f = u at *
   obtain ⟨u1, u2, u3⟩ := u
   dsimp only at *
   rw [z0t] at h
   have p1 := z0y (x := x) (a := u1) (by omega) (by omega)
   have p2 := z0y (x := y) (a := u2) (by omega) (by omega)
   have p3 := z0y (x := z) (a := u3) (by omega) (by omega)
   have K := zh (fun w => vec_product x y z u1 u2 u3 _ _ _ w rfl rfl rfl (by omega) (by omega) (by omega))
   generalize x * u1 + y * u2 + z * u3 = r at *
   clear h s p1 p2 p3
   go_enter func142, ntmps142
   go_upto_region 1 with (fail)
   refine wst3 fun W1 kv ku kt B1 => ?_
   have lu : w.heap.size < w.heap.size + 1 := by omega
   have lt : w.heap.size + 1 < w.heap.size + 1 + 1 := by omega
   generalize w.heap.size + 1 + 1 = gt at *
   generalize w.heap.size + 1 = gu at *
   have cv := bwc3 kv
   have cu := bwc3 ku
   have ct := bwc3 kt
   refine bws fun p1 => ?_
   go_upto_region 3 with ((go_at_call 61; (with_reducible refine (z02 K1.out _).mono ?_); rintro e w' ⟨rfl, q, rfl⟩))
   refine z03 (by kernel_rfl) (by kernel_rfl) ?_
   repeat (go_big_quiet_step (first
    | (go_at_call 150; (with_reducible exact z02 C.out _))
    | (go_at_call 149; (with_reducible exact z02 K.out _))))
   refine wpQuiet_nil ?_
   intro _ hw'
   obtain ⟨q, rfl⟩ := hw'
   go_wp2
   go_ret
   exact ⟨rfl, z00 B1 q⟩
 · have K1 := zh (fun w => z0o x y z w)
   rw [vvol_of, if_neg h]
   rw [Bool.not_eq_true] at h
   rw [h] at K1
   clear h
   go_enter func142, ntmps142
   go_upto_region 1 with (fail)
   refine wst3 fun W1 kv ku kt B1 => ?_
   have lu : w.heap.size < w.heap.size + 1 := by omega
   have lt : w.heap.size + 1 < w.heap.size + 1 + 1 := by omega
   generalize w.heap.size + 1 + 1 = gt at *
   generalize w.heap.size + 1 = gu at *
   have cv := bwc3 kv
   have cu := bwc3 ku
   have ct := bwc3 kt
   refine bws fun p1 => ?_
   go_wp2_with ((go_at_call 61; (with_reducible refine (z02 K1.out _).mono ?_); rintro e w' ⟨rfl, q, rfl⟩))
   go_ret
   exact ⟨rfl, z00 B1 q⟩
end
end
end Go.Proofs.YtbmpmjdlaahekaaGreat
